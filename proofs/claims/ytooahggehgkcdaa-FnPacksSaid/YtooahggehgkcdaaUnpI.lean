/-
  Unpacked, of the program: a cursor behind a pointer takes each row's length and numbers in their turn.
-/
import Derived.Test.YtooahggehgkcdaaUnpS
import Derived.Test.YtooahggehgkcdaaPackI
import Derived.Deep.RegionWith
namespace Go.Proofs.Ytooahggehgkcdaa
open Go.RowKit

/-- Block p is a cursor over the slice '.slice A n c', which has come to place i. -/
def TakeCur (w : World) (p : Nat) (A : Option Addr) (n c i : Nat) : Prop :=
  w.heap[p]? = some (.cells #[.slice A n c, .int .i64 (i : Int)] 58 (0, 0))

theorem below_grownBy {w w' : World} (h : Below w.heap.size w w') (row : Option Nat) : w.grownBy w' row := ⟨h.os, h.tape, h.output, h.size, fun k hk _ => h.block k hk⟩

theorem TakeCur.kept {w w' : World} {p : Nat} {A : Option Addr} {n c i : Nat} {row : Option Nat} (h : TakeCur w p A n c i) (g : w.grownBy w' row) (hr : ∀ k, row = some k → p < k) : TakeCur w' p A n c i := by
  unfold TakeCur at *
  rw [g.block p (blk_lt h) (fun e => by have := hr p e.symm; omega)]
  exact h

theorem TakeCur.set {w : World} {p : Nat} {A : Option Addr} {n c i : Nat} (h : TakeCur w p A n c i) (j : Nat) : TakeCur (w.setCell ⟨p, 1, none⟩ (.int .i64 (j : Int))) p A n c j := set_blk h 1 _

theorem left_any (w : World) (p : Nat) (A : Option Addr) (n c i : Nat) (h : TakeCur w p A n c i) (hn : n ≤ 1048577) (hi : i ≤ n) :
    Calls Try.prog 55 #[.pointer (some ⟨p, 0, none⟩)] w fun e w' => e = .returned (.int .i64 ((n : Int) - (i : Int))) ∧ Drew w w' := by
  have c0 : w.cell? ⟨p, 0, none⟩ = some (.slice A n c) := cell_of_blk h 0
  have c1 : w.cell? ⟨p, 1, none⟩ = some (.int .i64 (i : Int)) := cell_of_blk h 1
  clear h
  go_enter Try.func55, Try.ntmps55
  go_wp2
  go_quiet (fail)
  go_wp2
  go_ret
  refine ⟨?_, (Drew.refl w).more _⟩
  first | exact rfl | exact ret_i64 (IntWalk.i64_in _ (by omega))

set_option maxHeartbeats 800000 in
theorem takeLength_end (w : World) (p : Nat) (A : Option Addr) (n c : Nat) (h : TakeCur w p A n c n) (hn : n ≤ 1048577) :
    Calls Try.prog 53 #[.pointer (some ⟨p, 0, none⟩)] w fun e w' => e = .returned (.tuple #[.int .i64 0, .bool false]) ∧ Drew w w' := by
  go_enter Try.func53, Try.ntmps53
  go_wp2_with fail
  refine (left_any _ p A n c n h hn (Nat.le_refl _)).mono ?_
  rintro e w1 ⟨rfl, d1⟩
  rw [Int.sub_self]
  go_wp2
  go_ret2
  exact ⟨rfl, d1⟩

set_option maxHeartbeats 800000 in
theorem takeLength_yes (w : World) (p B : Nat) (A : Option Addr) (n c i : Nat) (xs : List Int) (h : TakeCur w p A n c i) (hr : IRow w B A n xs) (hn : n ≤ 1048577) (hi : i < n) :
    Calls Try.prog 53 #[.pointer (some ⟨p, 0, none⟩)] w fun e w' => e = .returned (.tuple #[.int .i64 (xs.getD i 0), .bool true]) ∧ TakeCur w' p A n c (i + 1) ∧ w.grownBy w' (some p) := by
  obtain ⟨b, off, rfl, hb, hc⟩ := hr.2 (by omega)
  have hx := hc i hi
  generalize xs.getD i 0 = x at hx
  clear hc hr
  go_enter Try.func53, Try.ntmps53
  go_wp2_with fail
  refine (left_any _ p _ n c i h hn (by omega)).mono ?_
  rintro e w1 ⟨rfl, d1⟩
  obtain ⟨q, rfl⟩ := d1
  have h1 : TakeCur (w.drewN q) p (some ⟨b, off, none⟩) n c i := h
  have c0 : w.cell? ⟨p, 0, none⟩ = some (.slice (some ⟨b, off, none⟩) n c) := cell_of_blk h 0
  have c1 : w.cell? ⟨p, 1, none⟩ = some (.int .i64 (i : Int)) := cell_of_blk h 1
  have f1 : w.frozen? ⟨p, 1, none⟩ = false := free_of_blk h 1
  have hne : (((n : Int) - (i : Int)) == 0) = false := by simp; omega
  have i0 : (0 : Int) ≤ (i : Int) := by omega
  have i1 : (i : Int) < (n : Int) := by omega
  have H := Lib.hid h
  clear h h1
  go_wp2
  go_quiet (fail)
  go_wp2
  go_ret2
  refine ⟨rfl, ?_, ?_⟩
  · exact (show TakeCur (w.drewN _) p _ n c i from H.out).set (i + 1)
  · exact (grown_drewN (World.grownBy.refl w _) _).trans (grown_setCell _ _ _ _)

set_option maxHeartbeats 800000 in
theorem take_no (w : World) (p : Nat) (A : Option Addr) (n c i : Nat) (m : Int) (h : TakeCur w p A n c i) (hn : n ≤ 1048577) (hi : i ≤ n) (hm : (n : Int) - (i : Int) < m) :
    Calls Try.prog 62 #[.pointer (some ⟨p, 0, none⟩), .int .i64 m] w fun e w' => e = .returned (.tuple #[.slice none 0 0, .bool false]) ∧ Drew w w' := by
  go_enter Try.func62, Try.ntmps62
  go_wp2_with fail
  refine (left_any _ p A n c i h hn hi).mono ?_
  rintro e w1 ⟨rfl, d1⟩
  clear h
  go_wp2
  go_ret2
  exact ⟨rfl, d1⟩

/-- The next row is handed back in new memory, and the cursor has gone on to place j. -/
def TookRow (w : World) (p : Nat) (A : Option Addr) (n c j : Nat) (r : List Int) (e : Ending) (w' : World) : Prop :=
  ∃ A' q c', e = .returned (.tuple #[.slice A' q c', .bool true]) ∧ Own w' w.heap.size A' q c' r ∧ TakeCur w' p A n c j ∧ w.grownBy w' (some p)

set_option maxHeartbeats 1600000 in
theorem take_yes (w : World) (p b off n c i m : Nat) (xs : List Int) (h : TakeCur w p (some ⟨b, off, none⟩) n c i) (hr : IRow w w.heap.size (some ⟨b, off, none⟩) n xs) (hn : n ≤ 1048577) (hcap : n ≤ c) (hm : i + m ≤ n) :
    Calls Try.prog 62 #[.pointer (some ⟨p, 0, none⟩), .int .i64 (m : Int)] w (TookRow w p (some ⟨b, off, none⟩) n c (i + m) ((xs.drop i).take m)) := by
  have hlt := blk_lt h
  have hq : ¬ ((n : Int) - (i : Int) < (m : Int)) := by omega
  obtain ⟨r, hre⟩ : ∃ r, r = (xs.drop i).take m := ⟨_, rfl⟩
  have hcut := hr.cut (i := i) (m := m) hm
  rw [← hre] at hcut ⊢
  have HRE := Lib.hid hre
  have HC := Lib.hid hcut
  clear hcut hr hre
  go_enter Try.func62, Try.ntmps62
  go_wp2_with fail
  refine (left_any _ p _ n c i h hn (by omega)).mono ?_
  rintro e w1 ⟨rfl, q, rfl⟩
  have c0 : w.cell? ⟨p, 0, none⟩ = some (.slice (some ⟨b, off, none⟩) n c) := cell_of_blk h 0
  have c1 : w.cell? ⟨p, 1, none⟩ = some (.int .i64 (i : Int)) := cell_of_blk h 1
  have H := Lib.hid h
  have i0 : (0 : Int) ≤ (i : Int) := by omega
  have i1 : (i : Int) ≤ (c : Int) := by omega
  have i2 : (i : Int) + (m : Int) ≤ (c : Int) := by omega
  have i3 : (i : Int) ≤ (i : Int) + (m : Int) := by omega
  have i4 : (0 : Int) ≤ (i : Int) + (m : Int) := by omega
  clear h
  by_cases hci : c = i
  · have hc1 : c ≤ i := by omega
    obtain rfl : m = 0 := by omega
    have hr0 : r = [] := by rw [HRE.out]; simp
    have HR0 := Lib.hid hr0
    clear hci hr0
    go_wp2_with fail
    go_region_with (first
      | (go_at_call 46
         refine (iCopy_any _ 0 _ r _ (by rw [HR0.out]; exact IRow.none') (by omega)).mono ?_
         rintro e w2 ⟨A2, q2, c2, rfl, o2, b2⟩
         have t2 : TakeCur w2 p (some ⟨b, off, none⟩) n c i := (b2.block p hlt).trans H.out
         have d1 : w2.cell? ⟨p, 1, none⟩ = some (.int .i64 (i : Int)) := cell_of_blk t2 1
         have f1 : w2.frozen? ⟨p, 1, none⟩ = false := free_of_blk t2 1
         have T2 := Lib.hid t2
         have O2 := Lib.hid (show Own w2 w.heap.size A2 q2 c2 r from o2)
         have B2 := Lib.hid (show w.grownBy w2 (some p) from ⟨b2.os, b2.tape, b2.output, b2.size, fun k hk _ => b2.block k hk⟩)
         clear t2 o2 b2))
    all_goals
      go_wp2
      go_ret2
      exact ⟨A2, q2, c2, rfl, O2.out.kept (grown_setCell _ _ _ _) (fun k hk => by injection hk with hk; subst hk; exact hlt), T2.out.set (i + 0), B2.out.trans (grown_setCell _ _ _ _)⟩
  · go_wp2_with fail
    go_region_with (first
      | (go_at_call 46
         rw [show ((i : Int) + (m : Int)).toNat - i = m from by omega]
         refine (iCopy_any _ m _ r _ ?_ (by omega)).mono ?_
         exact HC.out.drewN _
         rintro e w2 ⟨A2, q2, c2, rfl, o2, b2⟩
         have t2 : TakeCur w2 p (some ⟨b, off, none⟩) n c i := (b2.block p hlt).trans H.out
         have d1 : w2.cell? ⟨p, 1, none⟩ = some (.int .i64 (i : Int)) := cell_of_blk t2 1
         have f1 : w2.frozen? ⟨p, 1, none⟩ = false := free_of_blk t2 1
         have T2 := Lib.hid t2
         have O2 := Lib.hid (show Own w2 w.heap.size A2 q2 c2 r from o2)
         have B2 := Lib.hid (show w.grownBy w2 (some p) from ⟨b2.os, b2.tape, b2.output, b2.size, fun k hk _ => b2.block k hk⟩)
         clear t2 o2 b2))
    all_goals
      go_wp2
      go_ret2
      exact ⟨A2, q2, c2, rfl, O2.out.kept (grown_setCell _ _ _ _) (fun k hk => by injection hk with hk; subst hk; exact hlt), T2.out.set (i + m), B2.out.trans (grown_setCell _ _ _ _)⟩

set_option maxHeartbeats 800000 in
theorem takeRow_no (w : World) (p : Nat) (A : Option Addr) (n c i : Nat) (xs : List Int) (h : TakeCur w p A n c i) (hr : IRow w w.heap.size A n xs) (hn : n ≤ 1048577) (hi : i ≤ n)
    (hnum : xs.getD i 0 = (numAt xs i : Int)) (hbad : n < i + 1 + numAt xs i) :
    Calls Try.prog 54 #[.pointer (some ⟨p, 0, none⟩)] w fun e w' => e = .returned (.tuple #[.slice none 0 0, .bool false]) ∧ w.grownBy w' (some p) := by
  by_cases hin : i = n
  · subst hin
    go_enter Try.func54, Try.ntmps54
    go_wp2_with fail
    refine (takeLength_end _ p A i c h hn).mono ?_
    rintro e w1 ⟨rfl, q, rfl⟩
    clear h
    go_wp2
    go_ret2
    exact ⟨rfl, grown_drewN (World.grownBy.refl _ _) _⟩
  · have HB := Lib.hid hbad
    go_enter Try.func54, Try.ntmps54
    go_wp2_with fail
    refine (takeLength_yes _ p _ A n c i xs h hr hn (by omega)).mono ?_
    rintro e w1 ⟨rfl, t1, g1⟩
    rw [hnum]
    generalize numAt xs i = X at HB
    clear h hr hnum hbad
    go_wp2_with fail
    refine (take_no _ p A n c (i + 1) _ t1 hn (by omega) (by have := HB.out; omega)).mono ?_
    rintro e w2 ⟨rfl, q, rfl⟩
    go_wp2
    go_ret2
    exact ⟨rfl, grown_drewN g1 _⟩

set_option maxHeartbeats 800000 in
theorem takeRow_yes (w : World) (p B b off n c i : Nat) (xs : List Int) (h : TakeCur w p (some ⟨b, off, none⟩) n c i) (hr : IRow w B (some ⟨b, off, none⟩) n xs) (hB : B ≤ p) (hn : n ≤ 1048577) (hcap : n ≤ c)
    (hnum : xs.getD i 0 = (numAt xs i : Int)) (hfit : i + 1 + numAt xs i ≤ n) :
    Calls Try.prog 54 #[.pointer (some ⟨p, 0, none⟩)] w (TookRow w p (some ⟨b, off, none⟩) n c (i + 1 + numAt xs i) ((xs.drop (i + 1)).take (numAt xs i))) := by
  have hlt := blk_lt h
  go_enter Try.func54, Try.ntmps54
  go_wp2_with fail
  refine (takeLength_yes _ p _ _ n c i xs h hr hn (by omega)).mono ?_
  rintro e w1 ⟨rfl, t1, g1⟩
  have r1 := hr.below (grown_below g1 (by omega) (fun k hk => by injection hk with hk; omega))
  rw [hnum]
  have z1 := g1.size
  clear h hr hnum
  go_wp2_with fail
  refine (take_yes _ p b off n c (i + 1) (numAt xs i) xs t1 (r1.up (by omega)) hn hcap (by omega)).mono ?_
  rintro e w2 ⟨A2, q2, c2, rfl, o2, t2, g2⟩
  have R := Lib.hid (show TookRow w p (some ⟨b, off, none⟩) n c (i + 1 + numAt xs i) ((xs.drop (i + 1)).take (numAt xs i)) (.returned (.tuple #[.slice A2 q2 c2, .bool true])) w2 from
    ⟨A2, q2, c2, rfl, o2.up z1, t2, g1.trans g2⟩)
  clear t1 r1 o2 t2 g1 g2
  go_wp2
  go_ret2
  exact R.out

end Go.Proofs.Ytooahggehgkcdaa
