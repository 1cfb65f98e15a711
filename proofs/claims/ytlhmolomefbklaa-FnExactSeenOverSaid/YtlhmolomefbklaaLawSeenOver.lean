/-
  Exact laws, over open contracts: whatever program function meets the model's contract, the law answers true and writes nothing that was there. Made by program (wip/lawgen.py).
-/
import Derived.Test.YtlhmolomefbklaaMark
import Derived.Test.YtlhmolomefbklaaEnt
import Derived.Test.YtlhmolomefbklaaKA
import Derived.Deep.RegionHeld3
namespace Go.Proofs.Ytlhmolomefbklaa
set_option maxRecDepth 100000
open Go.RowKit

set_option maxHeartbeats 12800000 in
theorem lawSeenOver (f : List MarkM → List EntM → (List MarkM) × Bool)
    (hf0 : ∀ (d0 : List MarkM) (d1 : List EntM), (mrkSz d0) ≤ 1048576 → (entSz d1) ≤ 1048576 → (mrkSz ((f d0 d1).1)) ≤ 1048577)
    (hs : ∀ (Aa0_0 : Option Addr) (na0_0 ca0_0 : Nat) (d0 : List MarkM) (Aa1_0 : Option Addr) (na1_0 ca1_0 : Nat) (d1 : List EntM) (w : World), Rd w w.heap.size ([mrkD d0]) [.slice Aa0_0 na0_0 ca0_0] → (mrkSz d0) ≤ 1048576 → Rd w w.heap.size ([entD d1]) [.slice Aa1_0 na1_0 ca1_0] → (entSz d1) ≤ 1048576 → Calls Try.prog 26 #[.slice Aa0_0 na0_0 ca0_0, .slice Aa1_0 na1_0 ca1_0] w (fun e w' => ∃ (Ar0_0 : Option Addr) (nr0_0 cr0_0 : Nat), e = .returned (.tuple #[.slice Ar0_0 nr0_0 cr0_0, .bool (f d0 d1).2]) ∧ Has w' w.heap.size ([mrkD ((f d0 d1).1)]) [.slice Ar0_0 nr0_0 cr0_0] ∧ Below w.heap.size w w'))
    (hi : ∀ (Aa0_0 : Option Addr) (na0_0 ca0_0 : Nat) (d0 : List MarkM) (Aa1_0 : Option Addr) (na1_0 ca1_0 : Nat) (d1 : List EntM) (w : World), Rd w w.heap.size ([mrkD d0]) [.slice Aa0_0 na0_0 ca0_0] → (mrkSz d0) ≤ 1048576 → Rd w w.heap.size ([entD d1]) [.slice Aa1_0 na1_0 ca1_0] → (entSz d1) ≤ 1048576 → Calls Try.prog 28 #[.slice Aa0_0 na0_0 ca0_0, .slice Aa1_0 na1_0 ca1_0] w (fun e w' => ∃ (Ar0_0 : Option Addr) (nr0_0 cr0_0 : Nat), e = .returned (.tuple #[.slice Ar0_0 nr0_0 cr0_0, .bool (f d0 d1).2]) ∧ Has w' w.heap.size ([mrkD ((f d0 d1).1)]) [.slice Ar0_0 nr0_0 cr0_0] ∧ Below w.heap.size w w'))
    (Aa0_0 : Option Addr) (na0_0 ca0_0 : Nat) (d0 : List MarkM) (Aa1_0 : Option Addr) (na1_0 ca1_0 : Nat) (d1 : List EntM) (w : World) (h0 : Rd w w.heap.size ([mrkD d0]) [.slice Aa0_0 na0_0 ca0_0]) (h1 : Rd w w.heap.size ([entD d1]) [.slice Aa1_0 na1_0 ca1_0]) :
    Calls Try.prog 7 #[.slice Aa0_0 na0_0 ca0_0, .slice Aa1_0 na1_0 ca1_0] w fun e w' => e = .returned (.bool true) ∧ Below w.heap.size w w' := by
  have SP := Lib.hid hs
  have IM := Lib.hid hi
  clear hs hi
  have S := Sep.nil w w.heap.size
  have c := Below.refl w.heap.size w
  go_enter Try.func7, Try.ntmps7
  go_wp2_with fail
  refine (szMarkS_any _ _ _ d0 _ _ _ (h0.keep c) c.size (by omega) (by omega)).mono ?_
  rintro e w1 ⟨rfl, b⟩
  replace c := c.trans (b.mono c.size)
  replace S := S.keep b
  clear b
  by_cases hzi0 : (((mrkSz d0) : Nat) : Int) ≤ 1048576
  case neg =>
    rw [left, if_neg hzi0]
    go_wp2
    go_ret
    exact ⟨rfl, c⟩
  rw [left, if_pos hzi0]
  have hz0 : (mrkSz d0) ≤ 1048576 := by omega
  have qz0 : ¬ ((1048576 : Int) - ((mrkSz d0) : Int) < 0) := by omega
  go_wp2_with fail
  refine (szEntryS_any _ _ _ d1 _ _ _ (h1.keep c) c.size (by omega) (by omega)).mono ?_
  rintro e w2 ⟨rfl, b⟩
  replace c := c.trans (b.mono c.size)
  replace S := S.keep b
  clear b
  by_cases hzi1 : (((entSz d1) : Nat) : Int) ≤ 1048576 - ((mrkSz d0) : Int)
  case neg =>
    rw [left, if_neg hzi1]
    go_wp2
    go_ret
    exact ⟨rfl, c⟩
  rw [left, if_pos hzi1]
  have hz1 : (entSz d1) ≤ 1048576 := by omega
  have qz1 : ¬ ((1048576 - ((mrkSz d0) : Int) : Int) - ((entSz d1) : Int) < 0) := by omega
  obtain ⟨fx0, hfx0⟩ : ∃ q, q = (f d0 d1).1 := ⟨_, rfl⟩
  have hfz0 := hf0 d0 d1 hz0 hz1
  rw [← hfx0] at hfz0
  have HFX0 := Lib.hid hfx0
  clear hfx0
  obtain ⟨fx1, hfx1⟩ : ∃ q, q = (f d0 d1).2 := ⟨_, rfl⟩
  have HFX1 := Lib.hid hfx1
  clear hfx1
  go_wp2_with fail
  refine (toMarkS_made _ _ _ d0 _ ((h0.keep c).up c.size) hz0).mono ?_
  rintro e w3 ⟨As0_0, ns0_0, cs0_0, rfl, o, b⟩
  obtain ⟨fp_s0, S'⟩ := S.has b o c.size
  replace c := c.trans (b.mono c.size)
  clear S; have S := S'; clear S' o b
  go_wp2_with fail
  refine (toEntryS_made _ _ _ d1 _ ((h1.keep c).up c.size) hz1).mono ?_
  rintro e w4 ⟨As1_0, ns1_0, cs1_0, rfl, o, b⟩
  obtain ⟨fp_s1, S'⟩ := S.has b o c.size
  replace c := c.trans (b.mono c.size)
  clear S; have S := S'; clear S' o b
  go_wp2_with fail
  refine (SP.out _ _ _ d0 _ _ _ d1 _ ((S.own_ 1 rfl).rd) hz0 ((S.own_ 0 rfl).rd) hz1).mono ?_
  rintro e w5 ⟨Aw0_0, nw0_0, cw0_0, rfl, o, b⟩
  obtain ⟨fp_w0, S'⟩ := S.has b o c.size
  replace c := c.trans (b.mono c.size)
  clear S; have S := S'; clear S' o b
  rw [← HFX0.out] at S
  rw [← HFX1.out]
  go_wp2_with fail
  refine (toMarkS_made _ _ _ d0 _ ((h0.keep c).up c.size) hz0).mono ?_
  rintro e w6 ⟨Ax0_0, nx0_0, cx0_0, rfl, o, b⟩
  obtain ⟨fp_x0, S'⟩ := S.has b o c.size
  replace c := c.trans (b.mono c.size)
  clear S; have S := S'; clear S' o b
  go_wp2_with fail
  refine (toEntryS_made _ _ _ d1 _ ((h1.keep c).up c.size) hz1).mono ?_
  rintro e w7 ⟨Ax1_0, nx1_0, cx1_0, rfl, o, b⟩
  obtain ⟨fp_x1, S'⟩ := S.has b o c.size
  replace c := c.trans (b.mono c.size)
  clear S; have S := S'; clear S' o b
  go_wp2_with fail
  refine (IM.out _ _ _ d0 _ _ _ d1 _ ((S.own_ 1 rfl).rd) hz0 ((S.own_ 0 rfl).rd) hz1).mono ?_
  rintro e w8 ⟨Ag0_0, ng0_0, cg0_0, rfl, o, b⟩
  obtain ⟨fp_g0, S'⟩ := S.has b o c.size
  replace c := c.trans (b.mono c.size)
  clear S; have S := S'; clear S' o b
  rw [← HFX0.out] at S
  rw [← HFX1.out]
  go_wp2_with fail
  refine (eqMarkS_yes _ _ _ _ _ _ _ _ fx0 _ ((S.own_ 0 rfl).rd) ((S.own_ 3 rfl).rd) (Nat.le_refl _) (Nat.le_refl _) hfz0).mono ?_
  rintro e w9 ⟨rfl, b⟩
  replace c := c.trans (b.mono c.size)
  replace S := S.keep b
  clear b
  go_wp2_with fail
  refine (toMarkS_made _ _ _ d0 _ ((h0.keep c).up c.size) hz0).mono ?_
  rintro e w10 ⟨Az0_0, nz0_0, cz0_0, rfl, o, b⟩
  obtain ⟨fp_z0, S'⟩ := S.has b o c.size
  replace c := c.trans (b.mono c.size)
  clear S; have S := S'; clear S' o b
  go_wp2_with fail
  refine (eqMarkS_yes _ _ _ _ _ _ _ _ d0 _ ((S.own_ 3 rfl).rd) ((S.own_ 0 rfl).rd) (Nat.le_refl _) (Nat.le_refl _) (by omega)).mono ?_
  rintro e w11 ⟨rfl, b⟩
  replace c := c.trans (b.mono c.size)
  replace S := S.keep b
  clear b
  go_wp2_with fail
  refine (toEntryS_made _ _ _ d1 _ ((h1.keep c).up c.size) hz1).mono ?_
  rintro e w12 ⟨Az1_0, nz1_0, cz1_0, rfl, o, b⟩
  obtain ⟨fp_z1, S'⟩ := S.has b o c.size
  replace c := c.trans (b.mono c.size)
  clear S; have S := S'; clear S' o b
  go_wp2_with fail
  refine (eqEntryS_yes _ _ _ _ _ _ _ _ d1 _ ((S.own_ 3 rfl).rd) ((S.own_ 0 rfl).rd) (Nat.le_refl _) (Nat.le_refl _) (by omega)).mono ?_
  rintro e w13 ⟨rfl, b⟩
  replace c := c.trans (b.mono c.size)
  replace S := S.keep b
  clear b
  go_wp2_with fail
  refine (markMarkS_any _ _ _ d0 _ _ (S.own_ 4 rfl) (S.nodup_own 4 rfl) (by omega) (1) (by omega) (by omega)).mono ?_
  rintro e w14 ⟨m0, rfl, o, t, mk_x0, en_x0, es_x0⟩
  have b := S.below 4 rfl t c.size
  have S' := S.mark 4 rfl t o
  replace c := c.trans b
  clear S; have S := S'; clear S' o t b
  have nb0 : (mrkN d0) ≤ 9437193 := by
    first | omega | exact mrkN_b _ (by omega)
  go_wp2_with fail
  refine (markEntryS_any _ _ _ d1 _ _ (S.own_ 3 rfl) (S.nodup_own 3 rfl) (by omega) (1 + ((mrkN d0) : Int)) (by omega) (by omega)).mono ?_
  rintro e w15 ⟨m1, rfl, o, t, mk_x1, en_x1, es_x1⟩
  have b := S.below 3 rfl t c.size
  have S' := S.mark 3 rfl t o
  replace c := c.trans b
  clear S; have S := S'; clear S' o t b
  have nb1 : (entN d1) ≤ 9437193 := by
    first | omega | exact entN_b _ (by omega)
  have qk : ¬ (1 + ((mrkN d0) : Int) + ((entN d1) : Int) < 0) := by omega
  go_wp2_with fail
  refine (eqMarkS_yes _ _ _ _ _ _ _ _ fx0 _ ((S.own_ 2 rfl).rd) ((S.own_ 5 rfl).rd) (Nat.le_refl _) (Nat.le_refl _) hfz0).mono ?_
  rintro e w16 ⟨rfl, b⟩
  replace c := c.trans (b.mono c.size)
  replace S := S.keep b
  clear b
  have nr0 : (mrkN fx0) ≤ 9437193 := by
    first | omega | exact mrkN_b _ (by omega)
  go_wp2_with fail
  refine (markMarkS_any _ _ _ fx0 _ _ (S.own_ 2 rfl) (S.nodup_own 2 rfl) hfz0 (1) (by omega) (by omega)).mono ?_
  rintro e w17 ⟨e0, rfl, o, t, mk_g0, en_g0, es_g0⟩
  have b := S.below 2 rfl t c.size
  have S' := S.mark 2 rfl t o
  replace c := c.trans b
  clear S; have S := S'; clear S' o t b
  go_wp2_with fail
  refine (heldMarkS_any _ _ _ e0 _ _ ((S.own_ 2 rfl).rd) (Nat.le_refl _) (by omega) (1) (by omega) (by omega) mk_g0).mono ?_
  rintro e w18 ⟨rfl, b⟩
  rw [en_g0]
  have q18 : ¬ (1 + ((mrkN fx0) : Int) < 0) := by omega
  replace c := c.trans (b.mono c.size)
  replace S := S.keep b
  clear b
  go_wp2_with fail
  refine (toMarkS_made _ _ _ d0 _ ((h0.keep c).up c.size) hz0).mono ?_
  rintro e w19 ⟨At0_0, nt0_0, ct0_0, rfl, o, b⟩
  obtain ⟨fp_t0, S'⟩ := S.has b o c.size
  replace c := c.trans (b.mono c.size)
  clear S; have S := S'; clear S' o b
  go_wp2_with fail
  refine (toEntryS_made _ _ _ d1 _ ((h1.keep c).up c.size) hz1).mono ?_
  rintro e w20 ⟨At1_0, nt1_0, ct1_0, rfl, o, b⟩
  obtain ⟨fp_t1, S'⟩ := S.has b o c.size
  replace c := c.trans (b.mono c.size)
  clear S; have S := S'; clear S' o b
  go_wp2_with fail
  refine (IM.out _ _ _ d0 _ _ _ d1 _ ((S.own_ 1 rfl).rd) hz0 ((S.own_ 0 rfl).rd) hz1).mono ?_
  rintro e w21 ⟨Ah0_0, nh0_0, ch0_0, rfl, o, b⟩
  obtain ⟨fp_h0, S'⟩ := S.has b o c.size
  replace c := c.trans (b.mono c.size)
  clear S; have S := S'; clear S' o b
  rw [← HFX0.out] at S
  rw [← HFX1.out]
  go_wp2_with fail
  refine (eqMarkS_yes _ _ _ _ _ _ _ _ fx0 _ ((S.own_ 0 rfl).rd) ((S.own_ 8 rfl).rd) (Nat.le_refl _) (Nat.le_refl _) hfz0).mono ?_
  rintro e w22 ⟨rfl, b⟩
  replace c := c.trans (b.mono c.size)
  replace S := S.keep b
  clear b
  go_wp2_with fail
  refine (heldMarkS_any _ _ _ e0 _ _ ((S.own_ 5 rfl).rd) (Nat.le_refl _) (by omega) (1) (by omega) (by omega) mk_g0).mono ?_
  rintro e w23 ⟨rfl, b⟩
  rw [en_g0]
  have q23 : ¬ (1 + ((mrkN fx0) : Int) < 0) := by omega
  replace c := c.trans (b.mono c.size)
  replace S := S.keep b
  clear b
  go_wp2
  go_ret
  exact ⟨rfl, c⟩

end Go.Proofs.Ytlhmolomefbklaa
