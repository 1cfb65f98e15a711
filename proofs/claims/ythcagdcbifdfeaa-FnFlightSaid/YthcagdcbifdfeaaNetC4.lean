/-
  Chapter 5: where a link lies among the cuts, in the program (by program, wip/gen/gennetd.py).
-/
import Derived.Test.YthcagdcbifdfeaaNetM
import Derived.RegionTactic
import Derived.BigQuiet
namespace Go.Proofs.Ythcagdcbifdfeaa
set_option maxRecDepth 100000
open Go.RowKit

theorem ret_pair {a b : Nat} {c d : Bool} (h : a = b) (h' : c = d) : Ending.returned (.tuple #[.int .i64 (a : Int), .bool c]) = .returned (.tuple #[.int .i64 (b : Int), .bool d]) := by rw [h, h']
theorem lowN_is {c : List LinkM} {l : LinkM} {j : Nat} (hj : j ≤ c.length) (h1 : ∀ i (hi : i < c.length), i < j → linkLess c[i] l = true) (h2 : ∀ hj : j < c.length, linkLess c[j] l = false) : lowN c l = j :=
  firstNot_eq _ c j hj h1 h2

set_option maxHeartbeats 6400000 in
theorem iPlace_any (A : Option Addr) (n c : Nat) (t : List LinkM) (la lb : Int) (B : Nat) (w : World) (h : Rd w B [linkD t] [.slice A n c]) (hB : B ≤ w.heap.size) (hs : linkSz t ≤ 1048577) :
    Calls Try.prog 64 #[.slice A n c, .agg #[.int .i64 la, .int .i64 lb]] w fun e w' => e = .returned (.tuple #[.int .i64 (lowN t ⟨la, lb⟩ : Int), .bool (isAt t ⟨la, lb⟩)]) ∧ Below w.heap.size w w' := by
  obtain ⟨_, _, _, e, hl, _, _, hel⟩ := h.links
  injection e with e1 e2 e3
  subst e1 e2 e3
  have hn : n ≤ 1048577 := by unfold linkSz at hs; omega
  have HL := Lib.hid hl
  clear h hl hs
  have S0 := Lib.hid ((Sep.nil w w.heap.size).boxAt (Nat.le_refl _) w.heap.size rfl #[.int .i64 la, .int .i64 lb] 76)
  have B0 := Lib.hid ((Below.refl w.heap.size w).alloc (Nat.le_refl _) (.cells #[.int .i64 la, .int .i64 lb] 76))
  go_enter Try.func64, Try.ntmps64
  go_wp2
  go_loopw [10] (fun i wr => ∃ j : Nat, j ≤ n ∧ i = .int .i64 (j : Int) ∧ (∀ q (hq : q < t.length), q < j → linkLess t[q] ⟨la, lb⟩ = true) ∧ Sep wr w.heap.size [.blk w.heap.size #[.int .i64 la, .int .i64 lb] 76] ∧ Below w.heap.size w wr) (fun i _ => n - (intOf i).toNat)
  case atStart => exact ⟨0, Nat.zero_le _, rfl, fun q _ hq => absurd hq (by omega), S0.out, B0.out⟩
  case round =>
    obtain ⟨j, hj, rfl, hall2, S, c⟩ := hrel
    clear S0 B0
    by_cases hlt : j < n
    · obtain ⟨b, off, rfl, hb, hc⟩ := hel (by omega)
      have hjl : j < t.length := by have := HL.out; omega
      obtain ⟨hc0, hc1⟩ := hc j hjl
      have cs0 := (c.cell (p := ⟨b, off + j * 2, none⟩) (show b < _ by omega)).trans hc0
      have cs1 := (c.cell (p := ⟨b, off + j * 2 + 1, none⟩) (show b < _ by omega)).trans hc1
      obtain ⟨x0, hx0⟩ : ∃ q, q = t[j].a := ⟨_, rfl⟩
      obtain ⟨x1, hx1⟩ : ∃ q, q = t[j].b := ⟨_, rfl⟩
      rw [← hx0] at cs0
      rw [← hx1] at cs1
      have hmk : t[j] = ⟨x0, x1⟩ := by rw [hx0, hx1]
      have c2 := c.alloc c.size (.cells #[.int .i64 x0, .int .i64 x1] 76)
      have S2 := S.box c.size #[.int .i64 x0, .int .i64 x1] 76
      have C2 := Lib.hid c2
      have SH := Lib.hid S2
      have zb := c.size
      have hbw : b < wr.heap.size := by omega
      have bb : Below wr.heap.size wr (wr.alloc (.cells #[.int .i64 x0, .int .i64 x1] 76)) := (Below.refl _ _).alloc (Nat.le_refl _) _
      have HA := Lib.hid hall2
      have HM := Lib.hid hmk
      have l0 : (wr.alloc (.cells #[.int .i64 x0, .int .i64 x1] 76)).cell? ⟨w.heap.size, 0, none⟩ = some (.int .i64 la) := (S2.at_ 1 rfl).cell 0
      have l1 : (wr.alloc (.cells #[.int .i64 x0, .int .i64 x1] 76)).cell? ⟨w.heap.size, 1, none⟩ = some (.int .i64 lb) := (S2.at_ 1 rfl).cell 1
      have r0 : wr.cell? ⟨w.heap.size, 0, none⟩ = some (.int .i64 la) := (S.at_ 0 rfl).cell 0
      have r1 : wr.cell? ⟨w.heap.size, 1, none⟩ = some (.int .i64 lb) := (S.at_ 0 rfl).cell 1
      clear hx0 hx1 hmk hc hc0 hc1 hel hall2 c S c2 S2 bb
      go_wp2_with fail
      refine (iLess_any x0 x1 la lb _).mono ?_
      rintro e w1 ⟨rfl, b1⟩
      have CC := Lib.hid (C2.out.trans (b1.mono C2.out.size))
      have SS := Lib.hid (SH.out.keep b1)
      have d0 : w1.cell? ⟨wr.heap.size, 0, none⟩ = some (.int .i64 x0) := (SS.out.at_ 0 rfl).cell 0
      have d1 : w1.cell? ⟨wr.heap.size, 1, none⟩ = some (.int .i64 x1) := (SS.out.at_ 0 rfl).cell 1
      have e0 : w1.cell? ⟨w.heap.size, 0, none⟩ = some (.int .i64 la) := (SS.out.at_ 1 rfl).cell 0
      have e1 : w1.cell? ⟨w.heap.size, 1, none⟩ = some (.int .i64 lb) := (SS.out.at_ 1 rfl).cell 1
      clear b1 l0 l1 r0 r1 cs0 cs1
      cases hok : linkLess ⟨x0, x1⟩ ⟨la, lb⟩
      case true =>
        have HN := Lib.hid (show ∀ q (hq : q < t.length), q < j + 1 → linkLess t[q] ⟨la, lb⟩ = true from fun q hq hlt2 => by
          by_cases e : q = j
          · subst e
            rw [HM.out]
            exact hok
          · exact HA.out q hq (by omega))
        clear hok
        go_wp2
        go_roundw
        case rel => exact ⟨j + 1, by omega, by go_num, HN.out, SS.out.tail, CC.out⟩
        case measure => simp [intOf]; omega
      case false =>
        have hlow : lowN t ⟨la, lb⟩ = j := lowN_is (Nat.le_of_lt hjl) HA.out (fun _ => by rw [HM.out]; exact hok)
        have HLW := Lib.hid hlow
        have HIS := Lib.hid (show isAt t ⟨la, lb⟩ = linkEq ⟨x0, x1⟩ ⟨la, lb⟩ by
          unfold isAt
          rw [hlow, decide_eq_true hjl, Bool.true_and, getD_at hjl, HM.out])
        clear hok hlow
        by_cases h0 : x0 = la
        · by_cases h1 : x1 = lb
          · subst h0 h1
            have HE := Lib.hid (linkEq_refl ⟨x0, x1⟩)
            go_wp2
            go_quiet (fail)
            go_wp2
            exact bodyPost_ret (v := .tuple #[.int .i64 (j : Int), .bool true]) (by simp [results, Try.results64, go_sem]) rfl ⟨ret_pair HLW.out.symm (HIS.out.trans HE.out).symm, below_drewN CC.out _⟩
          · have HE := Lib.hid (show linkEq ⟨x0, x1⟩ ⟨la, lb⟩ = false by simp [linkEq, h1])
            go_wp2
            go_quiet (fail)
            go_wp2
            exact bodyPost_ret (v := .tuple #[.int .i64 (j : Int), .bool false]) (by simp [results, Try.results64, go_sem]) rfl ⟨ret_pair HLW.out.symm (HIS.out.trans HE.out).symm, below_drewN CC.out _⟩
        · have HE := Lib.hid (show linkEq ⟨x0, x1⟩ ⟨la, lb⟩ = false by simp [linkEq, h0])
          go_wp2
          go_quiet (fail)
          go_wp2
          exact bodyPost_ret (v := .tuple #[.int .i64 (j : Int), .bool false]) (by simp [results, Try.results64, go_sem]) rfl ⟨ret_pair HLW.out.symm (HIS.out.trans HE.out).symm, below_drewN CC.out _⟩
    · have hlow : lowN t ⟨la, lb⟩ = n := lowN_is (by have := HL.out; omega) (fun q hq _ => hall2 q hq (by have := HL.out; omega)) (fun h => absurd h (by have := HL.out; omega))
      have HLW := Lib.hid hlow
      have HIS := Lib.hid (show isAt t ⟨la, lb⟩ = false by
        unfold isAt
        rw [hlow, decide_eq_false (by have := HL.out; omega), Bool.false_and])
      have C := Lib.hid c
      clear hlow hel hall2 c S
      go_wp2
      exact bodyPost_ret (v := .tuple #[.int .i64 (n : Int), .bool false]) (by simp [results, Try.results64, go_sem]) rfl ⟨ret_pair HLW.out.symm HIS.out.symm, C.out⟩

end Go.Proofs.Ythcagdcbifdfeaa
