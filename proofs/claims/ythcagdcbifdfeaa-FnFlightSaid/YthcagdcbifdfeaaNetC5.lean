/-
  Chapter 5: PassesIn, of the model and of the program (by program, wip/gen/gennete.py).
-/
import Derived.Test.YthcagdcbifdfeaaNetC1
import Derived.Test.YthcagdcbifdfeaaNetC2
import Derived.Test.YthcagdcbifdfeaaNetC3
import Derived.Test.YthcagdcbifdfeaaNetC4
import Derived.Test.YthcagdcbifdfeaaCls
import Derived.RegionTactic
import Derived.BigQuiet
namespace Go.Proofs.Ythcagdcbifdfeaa
set_option maxRecDepth 100000
open Go.RowKit

def passesIn (t : NetM) (x y : Int) : Bool := netOk t && (twoB x y && !isCut t.cuts (linkOf x y))
theorem specAt_neg (c : List LinkM) (l : LinkM) : decide (specAt c l < 0) = !isCut c l := by
  unfold specAt isCut
  by_cases h : eqIx c l < c.length
  · rw [if_pos h, decide_eq_true h, decide_eq_false (by omega)]
    rfl
  · rw [if_neg h, decide_eq_false h]
    rfl

set_option maxHeartbeats 3200000 in
theorem iPasses_any (v0 v1 : Value) (t : NetM) (x y : Int) (B : Nat) (w : World) (h : Rd w B t.cells [v0, v1]) (hB : B ≤ w.heap.size) (hs : t.sz ≤ 1048577) :
    Calls Try.prog 67 #[.agg #[v0, v1], .int .i64 x, .int .i64 y] w fun e w' => e = .returned (.bool (passesIn t x y)) ∧ Below w.heap.size w w' := by
  obtain ⟨A0, n0, c0, A1, n1, c1, rfl, rfl, hr0, hr1⟩ := h.netT
  have hz0 : msgSz t.flight ≤ 1048577 := by unfold NetM.sz at hs; omega
  have hz1 : linkSz t.cuts ≤ 1048577 := by unfold NetM.sz at hs; omega
  have S := Sep.nil w w.heap.size
  have c := Below.refl w.heap.size w
  replace S := S.boxAt c.size (w.heap.size) rfl #[.slice A0 n0 c0, .slice A1 n1 c1] 30
  replace c := c.alloc c.size (.cells #[.slice A0 n0 c0, .slice A1 n1 c1] 30)
  go_enter Try.func67, Try.ntmps67
  go_wp2_with fail
  generalize w.alloc (.cells #[.slice A0 n0 c0, .slice A1 n1 c1] 30) = w1 at *
  refine (iNetOk_any _ _ t B _ (h.keep (c.mono hB)) (Nat.le_trans hB c.size) hs).mono ?_
  rintro e w2 ⟨rfl, b⟩
  replace c := c.trans (b.mono c.size)
  replace S := S.keep b
  clear b
  cases hok : netOk t
  case false =>
    have HD := Lib.hid (show passesIn t x y = false by unfold passesIn; rw [hok, Bool.false_and])
    clear hok
    have C := Lib.hid c
    clear S c h hr0 hr1
    go_wp2
    go_ret
    exact ⟨ret_bool HD.out.symm, C.out⟩
  case true =>
    cases htw : twoB x y
    case false =>
      have HD := Lib.hid (show passesIn t x y = false by unfold passesIn; rw [hok, htw, Bool.false_and]; rfl)
      clear hok
      have C := Lib.hid c
      clear S c h hr0 hr1
      go_wp2_with (go_at_call 65; refine (iTwo_any _ _ _).mono ?_; rintro e w' ⟨rfl, rfl⟩; rw [htw])
      go_ret
      exact ⟨ret_bool HD.out.symm, C.out⟩
    case true =>
      have HD := Lib.hid (show passesIn t x y = !isAt t.cuts (linkOf x y) by unfold passesIn; rw [hok, htw, isAt_eq (netOk_spec hok).2.2.2]; rfl)
      clear hok
      go_wp2_with (go_at_call 65; refine (iTwo_any _ _ _).mono ?_; rintro e w' ⟨rfl, rfl⟩; rw [htw])
      have f0 : w2.cell? ⟨w.heap.size, 0, none⟩ = some (.slice A0 n0 c0) := (S.at_ 0 rfl).cell 0
      have f1 : w2.cell? ⟨w.heap.size, 1, none⟩ = some (.slice A1 n1 c1) := (S.at_ 0 rfl).cell 1
      have hr2 := hr1.keep (c.mono hB)
      have hB2 := Nat.le_trans hB c.size
      refine wp_region_cls (fun v => v.cell? ⟨w.heap.size, 1, none⟩ = some (.slice A1 n1 c1) ∧ Rd v B [linkD t.cuts] [.slice A1 n1 c1] ∧ B ≤ v.heap.size) (by kernel_rfl) (by kernel_rfl) (fun v hv => ⟨(hv.cell (p := ⟨w.heap.size, 1, none⟩) (lt_of_cell f1)).trans f1, hr2.keep (hv.mono hB2), Nat.le_trans hB2 hv.size⟩) ?_
      intro C HF HC
      repeat
        (refine wpQuiet_step (fun K hK => ?_)
         go_simp
         first
           | (refine hK _ ?_; clear hK K)
           | (apply Exists.intro
              refine ⟨fun v hv => ?_, hK _ ?_⟩
              · obtain ⟨a0, a1, a2⟩ := HF v hv
                first
                  | (go_at_call 63; exact Calls.cls HC hv (iLink_any x y v) rfl)
                  | (go_at_call 64; exact Calls.cls HC hv (iPlace_any A1 n1 c1 t.cuts (linkOf x y).a (linkOf x y).b B v a1 a2 hz1) rfl)
                  | exact rfl
                  | (go_simp; exact rfl)
                  | (go_simp; exact ⟨rfl, hv⟩)
              clear hK K))
      refine wpQuiet_nil ?_
      intro w9 b9
      have C := Lib.hid (c.trans (b9.mono c.size))
      clear S c h hr0 hr1 hr2 b9 f0 f1
      go_wp2
      go_ret
      exact ⟨ret_bool HD.out.symm, C.out⟩

theorem iPasses_at (A0 : Option Addr) (n0 c0 : Nat) (A1 : Option Addr) (n1 c1 : Nat) (t : NetM) (x y : Int) (w : World) (h : Rd w w.heap.size t.cells [.slice A0 n0 c0, .slice A1 n1 c1]) (hs : t.sz ≤ 1048576) :
    Calls Try.prog 67 #[.agg #[.slice A0 n0 c0, .slice A1 n1 c1], .int .i64 x, .int .i64 y] w fun e w' => e = .returned (.bool (passesIn t x y)) ∧ Below w.heap.size w w' :=
  iPasses_any _ _ t x y _ w h (Nat.le_refl _) (by omega)

end Go.Proofs.Ythcagdcbifdfeaa
