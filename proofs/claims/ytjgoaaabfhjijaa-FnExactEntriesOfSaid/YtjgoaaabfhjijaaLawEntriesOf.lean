/-
  Exact laws, over open contracts: whatever program function meets the model's contract, the law answers true and writes nothing that was there. Made by program (wip/lawgen.py).
-/
import Derived.Test.YtjgoaaabfhjijaaEnt
import Derived.Test.YtjgoaaabfhjijaaKA
import Derived.Deep.RegionHeld3
namespace Go.Proofs.Ytjgoaaabfhjijaa
set_option maxRecDepth 100000
open Go.RowKit

set_option maxHeartbeats 12800000 in
theorem lawEntriesOf (f : List EntM → Int → (List EntM))
    (hf0 : ∀ (d0 : List EntM) (x1 : Int), (entSz d0) ≤ 1048576 → (entSz ((f d0 x1))) ≤ 1048577)
    (hs : ∀ (Aa0_0 : Option Addr) (na0_0 ca0_0 : Nat) (d0 : List EntM) (x1 : Int) (w : World), Rd w w.heap.size ([entD d0]) [.slice Aa0_0 na0_0 ca0_0] → (entSz d0) ≤ 1048576 → Calls Try.prog 42 #[.slice Aa0_0 na0_0 ca0_0, .int .i64 x1] w (fun e w' => ∃ (Ar0_0 : Option Addr) (nr0_0 cr0_0 : Nat), e = .returned (.slice Ar0_0 nr0_0 cr0_0) ∧ Has w' w.heap.size ([entD ((f d0 x1))]) [.slice Ar0_0 nr0_0 cr0_0] ∧ Below w.heap.size w w'))
    (hi : ∀ (Aa0_0 : Option Addr) (na0_0 ca0_0 : Nat) (d0 : List EntM) (x1 : Int) (w : World), Rd w w.heap.size ([entD d0]) [.slice Aa0_0 na0_0 ca0_0] → (entSz d0) ≤ 1048576 → Calls Try.prog 43 #[.slice Aa0_0 na0_0 ca0_0, .int .i64 x1] w (fun e w' => ∃ (Ar0_0 : Option Addr) (nr0_0 cr0_0 : Nat), e = .returned (.slice Ar0_0 nr0_0 cr0_0) ∧ Has w' w.heap.size ([entD ((f d0 x1))]) [.slice Ar0_0 nr0_0 cr0_0] ∧ Below w.heap.size w w'))
    (Aa0_0 : Option Addr) (na0_0 ca0_0 : Nat) (d0 : List EntM) (x1 : Int) (w : World) (h0 : Rd w w.heap.size ([entD d0]) [.slice Aa0_0 na0_0 ca0_0]) :
    Calls Try.prog 12 #[.slice Aa0_0 na0_0 ca0_0, .int .i64 x1] w fun e w' => e = .returned (.bool true) ∧ Below w.heap.size w w' := by
  have SP := Lib.hid hs
  have IM := Lib.hid hi
  clear hs hi
  have S := Sep.nil w w.heap.size
  have c := Below.refl w.heap.size w
  go_enter Try.func12, Try.ntmps12
  go_wp2_with fail
  refine (szEntryS_any _ _ _ d0 _ _ _ (h0.keep c) c.size (by omega) (by omega)).mono ?_
  rintro e w1 ⟨rfl, b⟩
  replace c := c.trans (b.mono c.size)
  replace S := S.keep b
  clear b
  by_cases hzi0 : (((entSz d0) : Nat) : Int) ≤ 1048576
  case neg =>
    rw [left, if_neg hzi0]
    go_wp2
    go_ret
    exact ⟨rfl, c⟩
  rw [left, if_pos hzi0]
  have hz0 : (entSz d0) ≤ 1048576 := by omega
  have qz0 : ¬ ((1048576 : Int) - ((entSz d0) : Int) < 0) := by omega
  obtain ⟨fx0, hfx0⟩ : ∃ q, q = (f d0 x1) := ⟨_, rfl⟩
  have hfz0 := hf0 d0 x1 hz0
  rw [← hfx0] at hfz0
  have HFX0 := Lib.hid hfx0
  clear hfx0
  go_wp2_with fail
  refine (toEntryS_made _ _ _ d0 _ ((h0.keep c).up c.size) hz0).mono ?_
  rintro e w2 ⟨As0_0, ns0_0, cs0_0, rfl, o, b⟩
  obtain ⟨fp_s0, S'⟩ := S.has b o c.size
  replace c := c.trans (b.mono c.size)
  clear S; have S := S'; clear S' o b
  go_wp2_with fail
  refine (SP.out _ _ _ d0 _ _ ((S.own_ 0 rfl).rd) hz0).mono ?_
  rintro e w3 ⟨Aw0_0, nw0_0, cw0_0, rfl, o, b⟩
  obtain ⟨fp_w0, S'⟩ := S.has b o c.size
  replace c := c.trans (b.mono c.size)
  clear S; have S := S'; clear S' o b
  rw [← HFX0.out] at S
  go_wp2_with fail
  refine (toEntryS_made _ _ _ d0 _ ((h0.keep c).up c.size) hz0).mono ?_
  rintro e w4 ⟨Ax0_0, nx0_0, cx0_0, rfl, o, b⟩
  obtain ⟨fp_x0, S'⟩ := S.has b o c.size
  replace c := c.trans (b.mono c.size)
  clear S; have S := S'; clear S' o b
  go_wp2_with fail
  refine (IM.out _ _ _ d0 _ _ ((S.own_ 0 rfl).rd) hz0).mono ?_
  rintro e w5 ⟨Ag0_0, ng0_0, cg0_0, rfl, o, b⟩
  obtain ⟨fp_g0, S'⟩ := S.has b o c.size
  replace c := c.trans (b.mono c.size)
  clear S; have S := S'; clear S' o b
  rw [← HFX0.out] at S
  go_wp2_with fail
  refine (eqEntryS_yes _ _ _ _ _ _ _ _ fx0 _ ((S.own_ 0 rfl).rd) ((S.own_ 2 rfl).rd) (Nat.le_refl _) (Nat.le_refl _) hfz0).mono ?_
  rintro e w6 ⟨rfl, b⟩
  replace c := c.trans (b.mono c.size)
  replace S := S.keep b
  clear b
  go_wp2_with fail
  refine (toEntryS_made _ _ _ d0 _ ((h0.keep c).up c.size) hz0).mono ?_
  rintro e w7 ⟨Az0_0, nz0_0, cz0_0, rfl, o, b⟩
  obtain ⟨fp_z0, S'⟩ := S.has b o c.size
  replace c := c.trans (b.mono c.size)
  clear S; have S := S'; clear S' o b
  go_wp2_with fail
  refine (eqEntryS_yes _ _ _ _ _ _ _ _ d0 _ ((S.own_ 2 rfl).rd) ((S.own_ 0 rfl).rd) (Nat.le_refl _) (Nat.le_refl _) (by omega)).mono ?_
  rintro e w8 ⟨rfl, b⟩
  replace c := c.trans (b.mono c.size)
  replace S := S.keep b
  clear b
  go_wp2_with fail
  refine (markEntryS_any _ _ _ d0 _ _ (S.own_ 2 rfl) (S.nodup_own 2 rfl) (by omega) (1) (by omega) (by omega)).mono ?_
  rintro e w9 ⟨m0, rfl, o, t, mk_x0, en_x0, es_x0⟩
  have b := S.below 2 rfl t c.size
  have S' := S.mark 2 rfl t o
  replace c := c.trans b
  clear S; have S := S'; clear S' o t b
  have nb0 : (entN d0) ≤ 9437193 := by
    first | omega | exact entN_b _ (by omega)
  have qk : ¬ (1 + ((entN d0) : Int) < 0) := by omega
  go_wp2_with fail
  refine (eqEntryS_yes _ _ _ _ _ _ _ _ fx0 _ ((S.own_ 1 rfl).rd) ((S.own_ 3 rfl).rd) (Nat.le_refl _) (Nat.le_refl _) hfz0).mono ?_
  rintro e w10 ⟨rfl, b⟩
  replace c := c.trans (b.mono c.size)
  replace S := S.keep b
  clear b
  have nr0 : (entN fx0) ≤ 9437193 := by
    first | omega | exact entN_b _ (by omega)
  go_wp2_with fail
  refine (markEntryS_any _ _ _ fx0 _ _ (S.own_ 1 rfl) (S.nodup_own 1 rfl) hfz0 (1) (by omega) (by omega)).mono ?_
  rintro e w11 ⟨e0, rfl, o, t, mk_g0, en_g0, es_g0⟩
  have b := S.below 1 rfl t c.size
  have S' := S.mark 1 rfl t o
  replace c := c.trans b
  clear S; have S := S'; clear S' o t b
  go_wp2_with fail
  refine (heldEntryS_any _ _ _ e0 _ _ ((S.own_ 1 rfl).rd) (Nat.le_refl _) (by omega) (1) (by omega) (by omega) mk_g0).mono ?_
  rintro e w12 ⟨rfl, b⟩
  rw [en_g0]
  have q12 : ¬ (1 + ((entN fx0) : Int) < 0) := by omega
  replace c := c.trans (b.mono c.size)
  replace S := S.keep b
  clear b
  go_wp2_with fail
  refine (toEntryS_made _ _ _ d0 _ ((h0.keep c).up c.size) hz0).mono ?_
  rintro e w13 ⟨At0_0, nt0_0, ct0_0, rfl, o, b⟩
  obtain ⟨fp_t0, S'⟩ := S.has b o c.size
  replace c := c.trans (b.mono c.size)
  clear S; have S := S'; clear S' o b
  go_wp2_with fail
  refine (IM.out _ _ _ d0 _ _ ((S.own_ 0 rfl).rd) hz0).mono ?_
  rintro e w14 ⟨Ah0_0, nh0_0, ch0_0, rfl, o, b⟩
  obtain ⟨fp_h0, S'⟩ := S.has b o c.size
  replace c := c.trans (b.mono c.size)
  clear S; have S := S'; clear S' o b
  rw [← HFX0.out] at S
  go_wp2_with fail
  refine (eqEntryS_yes _ _ _ _ _ _ _ _ fx0 _ ((S.own_ 0 rfl).rd) ((S.own_ 5 rfl).rd) (Nat.le_refl _) (Nat.le_refl _) hfz0).mono ?_
  rintro e w15 ⟨rfl, b⟩
  replace c := c.trans (b.mono c.size)
  replace S := S.keep b
  clear b
  go_wp2_with fail
  refine (heldEntryS_any _ _ _ e0 _ _ ((S.own_ 3 rfl).rd) (Nat.le_refl _) (by omega) (1) (by omega) (by omega) mk_g0).mono ?_
  rintro e w16 ⟨rfl, b⟩
  rw [en_g0]
  have q16 : ¬ (1 + ((entN fx0) : Int) < 0) := by omega
  replace c := c.trans (b.mono c.size)
  replace S := S.keep b
  clear b
  go_wp2
  go_ret
  exact ⟨rfl, c⟩

end Go.Proofs.Ytjgoaaabfhjijaa
