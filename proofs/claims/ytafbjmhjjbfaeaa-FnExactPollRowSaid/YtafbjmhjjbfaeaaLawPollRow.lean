/-
  Exact laws, over open contracts: whatever program function meets the model's contract, the law answers true and writes nothing that was there. Made by program (wip/lawgen.py).
-/
import Derived.Test.YtafbjmhjjbfaeaaKA
import Derived.Deep.RegionHeld3
namespace Go.Proofs.Ytafbjmhjjbfaeaa
set_option maxRecDepth 100000
open Go.RowKit

set_option maxHeartbeats 12800000 in
theorem lawPollRow (f : Int → (List Int))
    (hf0 : ∀ (x0 : Int), ((f x0)).length ≤ 1048577)
    (hs : ∀ (x0 : Int) (w : World), Calls Try.prog 9 #[.int .i64 x0] w (fun e w' => ∃ (Ar0_0 : Option Addr) (nr0_0 cr0_0 : Nat), e = .returned (.slice Ar0_0 nr0_0 cr0_0) ∧ Has w' w.heap.size (rowCells ((f x0))) [.slice Ar0_0 nr0_0 cr0_0] ∧ Below w.heap.size w w'))
    (hi : ∀ (x0 : Int) (w : World), Calls Try.prog 10 #[.int .i64 x0] w (fun e w' => ∃ (Ar0_0 : Option Addr) (nr0_0 cr0_0 : Nat), e = .returned (.slice Ar0_0 nr0_0 cr0_0) ∧ Has w' w.heap.size (rowCells ((f x0))) [.slice Ar0_0 nr0_0 cr0_0] ∧ Below w.heap.size w w'))
    (x0 : Int) (w : World) :
    Calls Try.prog 3 #[.int .i64 x0] w fun e w' => e = .returned (.bool true) ∧ Below w.heap.size w w' := by
  have SP := Lib.hid hs
  have IM := Lib.hid hi
  clear hs hi
  have S := Sep.nil w w.heap.size
  have c := Below.refl w.heap.size w
  go_enter Try.func3, Try.ntmps3
  obtain ⟨fx0, hfx0⟩ : ∃ q, q = (f x0) := ⟨_, rfl⟩
  have hfz0 := hf0 x0
  rw [← hfx0] at hfz0
  have HFX0 := Lib.hid hfx0
  clear hfx0
  go_wp2_with fail
  refine (SP.out _ _ ).mono ?_
  rintro e w1 ⟨Aw0_0, nw0_0, cw0_0, rfl, o, b⟩
  obtain ⟨fp_w0, S'⟩ := S.has b o c.size
  replace c := c.trans (b.mono c.size)
  clear S; have S := S'; clear S' o b
  rw [← HFX0.out] at S
  go_wp2_with fail
  refine (IM.out _ _ ).mono ?_
  rintro e w2 ⟨Ag0_0, ng0_0, cg0_0, rfl, o, b⟩
  obtain ⟨fp_g0, S'⟩ := S.has b o c.size
  replace c := c.trans (b.mono c.size)
  clear S; have S := S'; clear S' o b
  rw [← HFX0.out] at S
  go_wp2_with fail
  refine (eqI_yes _ _ _ _ _ _ _ _ fx0 _ ((S.own_ 0 rfl).rd) ((S.own_ 1 rfl).rd) hfz0).mono ?_
  rintro e w3 ⟨rfl, b⟩
  replace c := c.trans (b.mono c.size)
  replace S := S.keep b
  clear b
  have nr0 : fx0.length ≤ 2097154 := by
    first | omega | exact i_n_le _ (by omega)
  go_wp2_with fail
  refine (markI_any _ _ _ fx0 _ _ (S.own_ 0 rfl) (S.nodup_own 0 rfl) hfz0 (1) (by omega) (by omega)).mono ?_
  rintro e w4 ⟨e0, rfl, o, t, mk_g0, en_g0, es_g0⟩
  have b := S.below 0 rfl t c.size
  have S' := S.mark 0 rfl t o
  replace c := c.trans b
  clear S; have S := S'; clear S' o t b
  go_wp2_with fail
  refine (heldI_any _ _ _ e0 _ _ ((S.own_ 0 rfl).rd) (by omega) (1) (by omega) (by omega) mk_g0).mono ?_
  rintro e w5 ⟨rfl, b⟩
  rw [en_g0]
  have q5 : ¬ (1 + (fx0.length : Int) < 0) := by omega
  replace c := c.trans (b.mono c.size)
  replace S := S.keep b
  clear b
  go_wp2_with fail
  refine (IM.out _ _ ).mono ?_
  rintro e w6 ⟨Ah0_0, nh0_0, ch0_0, rfl, o, b⟩
  obtain ⟨fp_h0, S'⟩ := S.has b o c.size
  replace c := c.trans (b.mono c.size)
  clear S; have S := S'; clear S' o b
  rw [← HFX0.out] at S
  go_wp2_with fail
  refine (eqI_yes _ _ _ _ _ _ _ _ fx0 _ ((S.own_ 0 rfl).rd) ((S.own_ 2 rfl).rd) hfz0).mono ?_
  rintro e w7 ⟨rfl, b⟩
  replace c := c.trans (b.mono c.size)
  replace S := S.keep b
  clear b
  go_wp2_with fail
  refine (heldI_any _ _ _ e0 _ _ ((S.own_ 1 rfl).rd) (by omega) (1) (by omega) (by omega) mk_g0).mono ?_
  rintro e w8 ⟨rfl, b⟩
  rw [en_g0]
  have q8 : ¬ (1 + (fx0.length : Int) < 0) := by omega
  replace c := c.trans (b.mono c.size)
  replace S := S.keep b
  clear b
  go_wp2
  go_ret
  exact ⟨rfl, c⟩

end Go.Proofs.Ytafbjmhjjbfaeaa
