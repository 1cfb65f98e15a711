/-
  Exact laws, over open contracts: whatever program function meets the model's contract, the law answers true and writes nothing that was there. Made by program (wip/lawgen.py).
-/
import Derived.Test.YtejcpoidoekleaaKT
import Derived.Test.YtejcpoidoekleaaKA
import Derived.Test.YtejcpoidoekleaaKD
import Derived.Deep.RegionHeld3
namespace Go.Proofs.Ytejcpoidoekleaa
set_option maxRecDepth 100000
open Go.RowKit

set_option maxHeartbeats 12800000 in
theorem lawNewTwo (f : Int → (TwoM))
    (hf0 : ∀ (x0 : Int), ((f x0)).sz ≤ 1048577)
    (hs : ∀ (x0 : Int) (w : World), Calls Try.prog 33 #[.int .i64 x0] w (fun e w' => ∃ (Ar0_0 : Option Addr) (nr0_0 cr0_0 : Nat) (Ar0_1 : Option Addr) (nr0_1 cr0_1 : Nat) (Ar0_2 : Option Addr) (nr0_2 cr0_2 : Nat) (Ar0_3 : Option Addr) (nr0_3 cr0_3 : Nat), e = .returned (.agg #[.slice Ar0_0 nr0_0 cr0_0, .slice Ar0_1 nr0_1 cr0_1, .slice Ar0_2 nr0_2 cr0_2, .slice Ar0_3 nr0_3 cr0_3]) ∧ Has w' w.heap.size (((f x0)).cells) [.slice Ar0_0 nr0_0 cr0_0, .slice Ar0_1 nr0_1 cr0_1, .slice Ar0_2 nr0_2 cr0_2, .slice Ar0_3 nr0_3 cr0_3] ∧ Below w.heap.size w w'))
    (hi : ∀ (x0 : Int) (w : World), Calls Try.prog 15 #[.int .i64 x0] w (fun e w' => ∃ (Ar0_0 : Option Addr) (nr0_0 cr0_0 : Nat) (Ar0_1 : Option Addr) (nr0_1 cr0_1 : Nat) (Ar0_2 : Option Addr) (nr0_2 cr0_2 : Nat) (Ar0_3 : Option Addr) (nr0_3 cr0_3 : Nat), e = .returned (.agg #[.slice Ar0_0 nr0_0 cr0_0, .slice Ar0_1 nr0_1 cr0_1, .slice Ar0_2 nr0_2 cr0_2, .slice Ar0_3 nr0_3 cr0_3]) ∧ Has w' w.heap.size (((f x0)).cells) [.slice Ar0_0 nr0_0 cr0_0, .slice Ar0_1 nr0_1 cr0_1, .slice Ar0_2 nr0_2 cr0_2, .slice Ar0_3 nr0_3 cr0_3] ∧ Below w.heap.size w w'))
    (x0 : Int) (w : World) :
    Calls Try.prog 6 #[.int .i64 x0] w fun e w' => e = .returned (.bool true) ∧ Below w.heap.size w w' := by
  have SP := Lib.hid hs
  have IM := Lib.hid hi
  clear hs hi
  have S := Sep.nil w w.heap.size
  have c := Below.refl w.heap.size w
  go_enter Try.func6, Try.ntmps6
  obtain ⟨fx0, hfx0⟩ : ∃ q, q = (f x0) := ⟨_, rfl⟩
  have hfz0 := hf0 x0
  rw [← hfx0] at hfz0
  have HFX0 := Lib.hid hfx0
  clear hfx0
  go_wp2_with fail
  refine (SP.out _ _ ).mono ?_
  rintro e w1 ⟨Aw0_0, nw0_0, cw0_0, Aw0_1, nw0_1, cw0_1, Aw0_2, nw0_2, cw0_2, Aw0_3, nw0_3, cw0_3, rfl, o, b⟩
  obtain ⟨fp_w0, S'⟩ := S.has b o c.size
  replace c := c.trans (b.mono c.size)
  clear S; have S := S'; clear S' o b
  rw [← HFX0.out] at S
  replace S := S.box c.size #[.slice Aw0_0 nw0_0 cw0_0, .slice Aw0_1 nw0_1 cw0_1, .slice Aw0_2 nw0_2 cw0_2, .slice Aw0_3 nw0_3 cw0_3] 32
  replace c := c.alloc c.size (.cells #[.slice Aw0_0 nw0_0 cw0_0, .slice Aw0_1 nw0_1 cw0_1, .slice Aw0_2 nw0_2 cw0_2, .slice Aw0_3 nw0_3 cw0_3] 32)
  go_wp2_with fail
  generalize w1.alloc (.cells #[.slice Aw0_0 nw0_0 cw0_0, .slice Aw0_1 nw0_1 cw0_1, .slice Aw0_2 nw0_2 cw0_2, .slice Aw0_3 nw0_3 cw0_3] 32) = w2 at *
  refine (IM.out _ _ ).mono ?_
  rintro e w3 ⟨Ag0_0, ng0_0, cg0_0, Ag0_1, ng0_1, cg0_1, Ag0_2, ng0_2, cg0_2, Ag0_3, ng0_3, cg0_3, rfl, o, b⟩
  obtain ⟨fp_g0, S'⟩ := S.has b o c.size
  replace c := c.trans (b.mono c.size)
  clear S; have S := S'; clear S' o b
  rw [← HFX0.out] at S
  replace S := S.box c.size #[.slice Ag0_0 ng0_0 cg0_0, .slice Ag0_1 ng0_1 cg0_1, .slice Ag0_2 ng0_2 cg0_2, .slice Ag0_3 ng0_3 cg0_3] 32
  replace c := c.alloc c.size (.cells #[.slice Ag0_0 ng0_0 cg0_0, .slice Ag0_1 ng0_1 cg0_1, .slice Ag0_2 ng0_2 cg0_2, .slice Ag0_3 ng0_3 cg0_3] 32)
  have f0 : (w3.alloc (.cells #[.slice Ag0_0 ng0_0 cg0_0, .slice Ag0_1 ng0_1 cg0_1, .slice Ag0_2 ng0_2 cg0_2, .slice Ag0_3 ng0_3 cg0_3] 32)).cell? ⟨w3.heap.size, 0, none⟩ = some (.slice Ag0_0 ng0_0 cg0_0) := (S.at_ 0 rfl).cell 0
  have f1 : (w3.alloc (.cells #[.slice Ag0_0 ng0_0 cg0_0, .slice Ag0_1 ng0_1 cg0_1, .slice Ag0_2 ng0_2 cg0_2, .slice Ag0_3 ng0_3 cg0_3] 32)).cell? ⟨w3.heap.size, 1, none⟩ = some (.slice Ag0_1 ng0_1 cg0_1) := (S.at_ 0 rfl).cell 1
  have f2 : (w3.alloc (.cells #[.slice Ag0_0 ng0_0 cg0_0, .slice Ag0_1 ng0_1 cg0_1, .slice Ag0_2 ng0_2 cg0_2, .slice Ag0_3 ng0_3 cg0_3] 32)).cell? ⟨w3.heap.size, 2, none⟩ = some (.slice Ag0_2 ng0_2 cg0_2) := (S.at_ 0 rfl).cell 2
  have f3 : (w3.alloc (.cells #[.slice Ag0_0 ng0_0 cg0_0, .slice Ag0_1 ng0_1 cg0_1, .slice Ag0_2 ng0_2 cg0_2, .slice Ag0_3 ng0_3 cg0_3] 32)).cell? ⟨w3.heap.size, 3, none⟩ = some (.slice Ag0_3 ng0_3 cg0_3) := (S.at_ 0 rfl).cell 3
  have f4 : (w3.alloc (.cells #[.slice Ag0_0 ng0_0 cg0_0, .slice Ag0_1 ng0_1 cg0_1, .slice Ag0_2 ng0_2 cg0_2, .slice Ag0_3 ng0_3 cg0_3] 32)).cell? ⟨w1.heap.size, 0, none⟩ = some (.slice Aw0_0 nw0_0 cw0_0) := (S.at_ 2 rfl).cell 0
  have f5 : (w3.alloc (.cells #[.slice Ag0_0 ng0_0 cg0_0, .slice Ag0_1 ng0_1 cg0_1, .slice Ag0_2 ng0_2 cg0_2, .slice Ag0_3 ng0_3 cg0_3] 32)).cell? ⟨w1.heap.size, 1, none⟩ = some (.slice Aw0_1 nw0_1 cw0_1) := (S.at_ 2 rfl).cell 1
  have f6 : (w3.alloc (.cells #[.slice Ag0_0 ng0_0 cg0_0, .slice Ag0_1 ng0_1 cg0_1, .slice Ag0_2 ng0_2 cg0_2, .slice Ag0_3 ng0_3 cg0_3] 32)).cell? ⟨w1.heap.size, 2, none⟩ = some (.slice Aw0_2 nw0_2 cw0_2) := (S.at_ 2 rfl).cell 2
  have f7 : (w3.alloc (.cells #[.slice Ag0_0 ng0_0 cg0_0, .slice Ag0_1 ng0_1 cg0_1, .slice Ag0_2 ng0_2 cg0_2, .slice Ag0_3 ng0_3 cg0_3] 32)).cell? ⟨w1.heap.size, 3, none⟩ = some (.slice Aw0_3 nw0_3 cw0_3) := (S.at_ 2 rfl).cell 3
  go_wp2_with fail
  generalize w3.alloc (.cells #[.slice Ag0_0 ng0_0 cg0_0, .slice Ag0_1 ng0_1 cg0_1, .slice Ag0_2 ng0_2 cg0_2, .slice Ag0_3 ng0_3 cg0_3] 32) = w4 at *
  refine (eqTwo_yes _ _ _ _ _ _ _ _ _ _ fx0 _ ((S.own_ 1 rfl).rd) ((S.own_ 3 rfl).rd) (Nat.le_refl _) (Nat.le_refl _) hfz0).mono ?_
  rintro e w5 ⟨rfl, b⟩
  replace c := c.trans (b.mono c.size)
  replace S := S.keep b
  clear b f0 f1 f2 f3 f4 f5 f6 f7
  have nr0 : fx0.n ≤ 2097154 := by
    first | omega | exact two_n_le _ (by omega)
  have f0 : (w5).cell? ⟨w3.heap.size, 0, none⟩ = some (.slice Ag0_0 ng0_0 cg0_0) := (S.at_ 0 rfl).cell 0
  have f1 : (w5).cell? ⟨w3.heap.size, 1, none⟩ = some (.slice Ag0_1 ng0_1 cg0_1) := (S.at_ 0 rfl).cell 1
  have f2 : (w5).cell? ⟨w3.heap.size, 2, none⟩ = some (.slice Ag0_2 ng0_2 cg0_2) := (S.at_ 0 rfl).cell 2
  have f3 : (w5).cell? ⟨w3.heap.size, 3, none⟩ = some (.slice Ag0_3 ng0_3 cg0_3) := (S.at_ 0 rfl).cell 3
  go_wp2_with fail
  refine (markTwo_any _ _ _ _ fx0 _ _ (S.own_ 1 rfl) (S.nodup_own 1 rfl) hfz0 (1) (by omega) (by omega)).mono ?_
  rintro e w6 ⟨e0, rfl, o, t, mk_g0, en_g0, es_g0⟩
  have b := S.below 1 rfl t c.size
  have S' := S.mark 1 rfl t o
  replace c := c.trans b
  clear S; have S := S'; clear S' o t b f0 f1 f2 f3
  have f0 : (w6).cell? ⟨w3.heap.size, 0, none⟩ = some (.slice Ag0_0 ng0_0 cg0_0) := (S.at_ 0 rfl).cell 0
  have f1 : (w6).cell? ⟨w3.heap.size, 1, none⟩ = some (.slice Ag0_1 ng0_1 cg0_1) := (S.at_ 0 rfl).cell 1
  have f2 : (w6).cell? ⟨w3.heap.size, 2, none⟩ = some (.slice Ag0_2 ng0_2 cg0_2) := (S.at_ 0 rfl).cell 2
  have f3 : (w6).cell? ⟨w3.heap.size, 3, none⟩ = some (.slice Ag0_3 ng0_3 cg0_3) := (S.at_ 0 rfl).cell 3
  go_wp2_with fail
  refine (heldTwo_any _ _ _ _ e0 _ _ ((S.own_ 1 rfl).rd) (Nat.le_refl _) (by omega) (1) (by omega) (by omega) mk_g0).mono ?_
  rintro e w7 ⟨rfl, b⟩
  rw [en_g0]
  have q7 : ¬ (1 + (fx0.n : Int) < 0) := by omega
  replace c := c.trans (b.mono c.size)
  replace S := S.keep b
  clear b f0 f1 f2 f3
  go_wp2_with fail
  refine (IM.out _ _ ).mono ?_
  rintro e w8 ⟨Ah0_0, nh0_0, ch0_0, Ah0_1, nh0_1, ch0_1, Ah0_2, nh0_2, ch0_2, Ah0_3, nh0_3, ch0_3, rfl, o, b⟩
  obtain ⟨fp_h0, S'⟩ := S.has b o c.size
  replace c := c.trans (b.mono c.size)
  clear S; have S := S'; clear S' o b
  rw [← HFX0.out] at S
  replace S := S.box c.size #[.slice Ah0_0 nh0_0 ch0_0, .slice Ah0_1 nh0_1 ch0_1, .slice Ah0_2 nh0_2 ch0_2, .slice Ah0_3 nh0_3 ch0_3] 32
  replace c := c.alloc c.size (.cells #[.slice Ah0_0 nh0_0 ch0_0, .slice Ah0_1 nh0_1 ch0_1, .slice Ah0_2 nh0_2 ch0_2, .slice Ah0_3 nh0_3 ch0_3] 32)
  have f0 : (w8.alloc (.cells #[.slice Ah0_0 nh0_0 ch0_0, .slice Ah0_1 nh0_1 ch0_1, .slice Ah0_2 nh0_2 ch0_2, .slice Ah0_3 nh0_3 ch0_3] 32)).cell? ⟨w8.heap.size, 0, none⟩ = some (.slice Ah0_0 nh0_0 ch0_0) := (S.at_ 0 rfl).cell 0
  have f1 : (w8.alloc (.cells #[.slice Ah0_0 nh0_0 ch0_0, .slice Ah0_1 nh0_1 ch0_1, .slice Ah0_2 nh0_2 ch0_2, .slice Ah0_3 nh0_3 ch0_3] 32)).cell? ⟨w8.heap.size, 1, none⟩ = some (.slice Ah0_1 nh0_1 ch0_1) := (S.at_ 0 rfl).cell 1
  have f2 : (w8.alloc (.cells #[.slice Ah0_0 nh0_0 ch0_0, .slice Ah0_1 nh0_1 ch0_1, .slice Ah0_2 nh0_2 ch0_2, .slice Ah0_3 nh0_3 ch0_3] 32)).cell? ⟨w8.heap.size, 2, none⟩ = some (.slice Ah0_2 nh0_2 ch0_2) := (S.at_ 0 rfl).cell 2
  have f3 : (w8.alloc (.cells #[.slice Ah0_0 nh0_0 ch0_0, .slice Ah0_1 nh0_1 ch0_1, .slice Ah0_2 nh0_2 ch0_2, .slice Ah0_3 nh0_3 ch0_3] 32)).cell? ⟨w8.heap.size, 3, none⟩ = some (.slice Ah0_3 nh0_3 ch0_3) := (S.at_ 0 rfl).cell 3
  have f4 : (w8.alloc (.cells #[.slice Ah0_0 nh0_0 ch0_0, .slice Ah0_1 nh0_1 ch0_1, .slice Ah0_2 nh0_2 ch0_2, .slice Ah0_3 nh0_3 ch0_3] 32)).cell? ⟨w1.heap.size, 0, none⟩ = some (.slice Aw0_0 nw0_0 cw0_0) := (S.at_ 4 rfl).cell 0
  have f5 : (w8.alloc (.cells #[.slice Ah0_0 nh0_0 ch0_0, .slice Ah0_1 nh0_1 ch0_1, .slice Ah0_2 nh0_2 ch0_2, .slice Ah0_3 nh0_3 ch0_3] 32)).cell? ⟨w1.heap.size, 1, none⟩ = some (.slice Aw0_1 nw0_1 cw0_1) := (S.at_ 4 rfl).cell 1
  have f6 : (w8.alloc (.cells #[.slice Ah0_0 nh0_0 ch0_0, .slice Ah0_1 nh0_1 ch0_1, .slice Ah0_2 nh0_2 ch0_2, .slice Ah0_3 nh0_3 ch0_3] 32)).cell? ⟨w1.heap.size, 2, none⟩ = some (.slice Aw0_2 nw0_2 cw0_2) := (S.at_ 4 rfl).cell 2
  have f7 : (w8.alloc (.cells #[.slice Ah0_0 nh0_0 ch0_0, .slice Ah0_1 nh0_1 ch0_1, .slice Ah0_2 nh0_2 ch0_2, .slice Ah0_3 nh0_3 ch0_3] 32)).cell? ⟨w1.heap.size, 3, none⟩ = some (.slice Aw0_3 nw0_3 cw0_3) := (S.at_ 4 rfl).cell 3
  go_wp2_with fail
  generalize w8.alloc (.cells #[.slice Ah0_0 nh0_0 ch0_0, .slice Ah0_1 nh0_1 ch0_1, .slice Ah0_2 nh0_2 ch0_2, .slice Ah0_3 nh0_3 ch0_3] 32) = w9 at *
  refine (eqTwo_yes _ _ _ _ _ _ _ _ _ _ fx0 _ ((S.own_ 1 rfl).rd) ((S.own_ 5 rfl).rd) (Nat.le_refl _) (Nat.le_refl _) hfz0).mono ?_
  rintro e w10 ⟨rfl, b⟩
  replace c := c.trans (b.mono c.size)
  replace S := S.keep b
  clear b f0 f1 f2 f3 f4 f5 f6 f7
  have f0 : (w10).cell? ⟨w3.heap.size, 0, none⟩ = some (.slice Ag0_0 ng0_0 cg0_0) := (S.at_ 2 rfl).cell 0
  have f1 : (w10).cell? ⟨w3.heap.size, 1, none⟩ = some (.slice Ag0_1 ng0_1 cg0_1) := (S.at_ 2 rfl).cell 1
  have f2 : (w10).cell? ⟨w3.heap.size, 2, none⟩ = some (.slice Ag0_2 ng0_2 cg0_2) := (S.at_ 2 rfl).cell 2
  have f3 : (w10).cell? ⟨w3.heap.size, 3, none⟩ = some (.slice Ag0_3 ng0_3 cg0_3) := (S.at_ 2 rfl).cell 3
  go_wp2_with fail
  refine (heldTwo_any _ _ _ _ e0 _ _ ((S.own_ 3 rfl).rd) (Nat.le_refl _) (by omega) (1) (by omega) (by omega) mk_g0).mono ?_
  rintro e w11 ⟨rfl, b⟩
  rw [en_g0]
  have q11 : ¬ (1 + (fx0.n : Int) < 0) := by omega
  replace c := c.trans (b.mono c.size)
  replace S := S.keep b
  clear b f0 f1 f2 f3
  go_wp2
  go_ret
  exact ⟨rfl, c⟩

end Go.Proofs.Ytejcpoidoekleaa
