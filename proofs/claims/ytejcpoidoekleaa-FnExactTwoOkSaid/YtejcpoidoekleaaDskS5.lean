/-
  The model of chapter 3: what a sector has of a row that was torn.
-/
import Derived.Test.YtejcpoidoekleaaDskM
import Derived.Test.YtejcpoidoekleaaCopyS
namespace Go.Proofs.Ytejcpoidoekleaa
set_option maxRecDepth 100000
open Go.RowKit

theorem IRow.take_ {w : World} {B : Nat} {A : Option Addr} {n m : Nat} {xs : List Int} (h : IRow w B A n xs) (hm : m ≤ n) : IRow w B A m (xs.take m) := by
  refine ⟨by rw [List.length_take, h.1]; omega, fun h0 => ?_⟩
  obtain ⟨b, off, rfl, hb, hc⟩ := h.2 (by omega)
  refine ⟨b, off, rfl, hb, fun j hj => ?_⟩
  rw [hc j (by omega)]
  simp [List.getD, hj]
theorem IRow.drop_ {w : World} {B b off n m : Nat} {xs : List Int} (h : IRow w B (some ⟨b, off, none⟩) n xs) (hm : m < n) : IRow w B (some ⟨b, off + m, none⟩) (n - m) (xs.drop m) := by
  refine ⟨by rw [List.length_drop, h.1], fun _ => ?_⟩
  obtain ⟨b', off', e, hb, hc⟩ := h.2 (by omega)
  injection e with e
  injection e with e1 e2
  subst e1 e2
  refine ⟨b, off + m, rfl, hb, fun j hj => ?_⟩
  have := hc (m + j) (by omega)
  rw [Nat.add_assoc, this]
  simp [List.getD, List.getElem?_drop]

set_option maxHeartbeats 1600000 in
theorem sTorn_any (A : Option Addr) (n c : Nat) (xs : List Int) (E : Option Addr) (o co : Nat) (os : List Int) (w : World) (h : IRow w w.heap.size A n xs) (hn : n ≤ 1048577) (hc : n ≤ c) (hcm : c ≤ maxLen) (k : IRow w w.heap.size E o os) (ho : o ≤ 1048577) (hco : o ≤ co) (hcom : co ≤ maxLen) :
    Calls Try.prog 121 #[.slice A n c, .slice E o co] w (MadeRow w (torn xs os)) := by
  unfold maxLen at hcm hcom
  have hl := Lib.hid h.1
  have hlo := Lib.hid k.1
  obtain ⟨half, hhalf⟩ : ∃ half, half = n / 2 := ⟨_, rfl⟩
  have hh : half ≤ n := by omega
  have hq : ((n : Int)).tdiv 2 = (half : Int) := by rw [Int.tdiv_eq_ediv_of_nonneg (by omega)]; omega
  have HT := Lib.hid (show torn xs os = xs.take half ++ os.drop half by unfold torn; rw [hl.out, hhalf])
  have i0 : (0 : Int) ≤ (half : Int) := by omega
  have i1 : (half : Int) ≤ (c : Int) := by omega
  have hmod : n / 2 = half := hhalf.symm
  clear hhalf
  by_cases hlt : half < o
  · obtain ⟨b, off, rfl, hb, _⟩ := k.2 (by omega)
    have j1 : (half : Int) < (o : Int) := by omega
    have j2 : (half : Int) ≤ (co : Int) := by omega
    have j3 : ¬ ((co : Int) ≤ (half : Int)) := by omega
    go_enter Try.func121, Try.ntmps121
    go_wp2_with fail
    refine (sCopy_any A half c (xs.take half) w (h.take_ hh) (by omega)).mono ?_
    rintro e w1 ⟨Q, qn, qc, rfl, o1, b1⟩
    have hqn : qn = half := by rw [← o1.len, List.length_take, hl.out]; omega
    subst hqn
    have kr := (k.drop_ hlt).below b1
    have HB := Lib.hid b1
    have z1 := b1.size
    clear h k b1
    go_wp2_with (first
      | (at_builtin
         refine wpList_append_ints rfl (.tmp 18) (.tmp 21) rfl rfl o1 rfl kr (by omega) (by omega) ?_
         intro Q2 c2 w2 o2 g2 e2))
    go_ret
    refine ⟨Q2, _, c2, rfl, ?_, HB.out.grown g2 HB.out.size (fun p hp => (o1.ge p hp).1)⟩
    rw [HT.out]
    exact o2
  · have HE := Lib.hid (show torn xs os = xs.take half by rw [HT.out, List.drop_eq_nil_of_le (by have := hlo.out; omega), List.append_nil])
    have j1 : ¬ ((half : Int) < (o : Int)) := by omega
    go_enter Try.func121, Try.ntmps121
    go_wp2_with fail
    refine (sCopy_any A half c (xs.take half) w (h.take_ hh) (by omega)).mono ?_
    rintro e w1 ⟨Q, qn, qc, rfl, o1, b1⟩
    have O1 := Lib.hid o1
    have HB := Lib.hid b1
    clear h k o1 b1
    go_wp2
    go_ret
    refine ⟨Q, qn, qc, rfl, ?_, HB.out⟩
    rw [HE.out]
    exact O1.out

end Go.Proofs.Ytejcpoidoekleaa
