/- Parts of my texts: LawKeptHead. -/
import Derived.Test.YtecihkkagpbkdaaK4
import Derived.Test.YtecihkkagpbkdaaK6
import Derived.Deep.DeepCutAuto
namespace Go.Proofs.Ytecihkkagpbkdaa
set_option maxRecDepth 100000
set_option linter.unusedVariables false
open Go.RowKit
set_option maxHeartbeats 12800000 in
theorem lawKeptHead (f : TwoM → HeadM → (TwoM) × Bool)
    (hf0 : ∀ (d0 : TwoM) (d1 : HeadM), d0.sz ≤ 1048576 → d1.sz ≤ 1048576 → ((f d0 d1).1).sz ≤ 1048577)
    (hs : ∀ (Aa0_0 : Option Addr) (na0_0 ca0_0 : Nat) (Aa0_1 : Option Addr) (na0_1 ca0_1 : Nat) (Aa0_2 : Option Addr) (na0_2 ca0_2 : Nat) (Aa0_3 : Option Addr) (na0_3 ca0_3 : Nat) (d0 : TwoM) (xa1_0 : Int) (xa1_1 : Int) (xa1_2 : Int) (Aa1_3 : Option Addr) (na1_3 ca1_3 : Nat) (d1 : HeadM) (w : World), Rd w w.heap.size (d0.cells) [.slice Aa0_0 na0_0 ca0_0, .slice Aa0_1 na0_1 ca0_1, .slice Aa0_2 na0_2 ca0_2, .slice Aa0_3 na0_3 ca0_3] → d0.sz ≤ 1048576 → Rd w w.heap.size (d1.cells) [.int .i64 xa1_0, .int .i64 xa1_1, .int .i64 xa1_2, .slice Aa1_3 na1_3 ca1_3] → d1.sz ≤ 1048576 → Calls Try.prog 21 #[.agg #[.slice Aa0_0 na0_0 ca0_0, .slice Aa0_1 na0_1 ca0_1, .slice Aa0_2 na0_2 ca0_2, .slice Aa0_3 na0_3 ca0_3], .agg #[.int .i64 xa1_0, .int .i64 xa1_1, .int .i64 xa1_2, .slice Aa1_3 na1_3 ca1_3]] w (fun e w' => ∃ (Ar0_0 : Option Addr) (nr0_0 cr0_0 : Nat) (Ar0_1 : Option Addr) (nr0_1 cr0_1 : Nat) (Ar0_2 : Option Addr) (nr0_2 cr0_2 : Nat) (Ar0_3 : Option Addr) (nr0_3 cr0_3 : Nat), e = .returned (.tuple #[.agg #[.slice Ar0_0 nr0_0 cr0_0, .slice Ar0_1 nr0_1 cr0_1, .slice Ar0_2 nr0_2 cr0_2, .slice Ar0_3 nr0_3 cr0_3], .bool (f d0 d1).2]) ∧ Has w' w.heap.size (((f d0 d1).1).cells) [.slice Ar0_0 nr0_0 cr0_0, .slice Ar0_1 nr0_1 cr0_1, .slice Ar0_2 nr0_2 cr0_2, .slice Ar0_3 nr0_3 cr0_3] ∧ Below w.heap.size w w'))
    (hi : ∀ (Aa0_0 : Option Addr) (na0_0 ca0_0 : Nat) (Aa0_1 : Option Addr) (na0_1 ca0_1 : Nat) (Aa0_2 : Option Addr) (na0_2 ca0_2 : Nat) (Aa0_3 : Option Addr) (na0_3 ca0_3 : Nat) (d0 : TwoM) (xa1_0 : Int) (xa1_1 : Int) (xa1_2 : Int) (Aa1_3 : Option Addr) (na1_3 ca1_3 : Nat) (d1 : HeadM) (w : World), Rd w w.heap.size (d0.cells) [.slice Aa0_0 na0_0 ca0_0, .slice Aa0_1 na0_1 ca0_1, .slice Aa0_2 na0_2 ca0_2, .slice Aa0_3 na0_3 ca0_3] → d0.sz ≤ 1048576 → Rd w w.heap.size (d1.cells) [.int .i64 xa1_0, .int .i64 xa1_1, .int .i64 xa1_2, .slice Aa1_3 na1_3 ca1_3] → d1.sz ≤ 1048576 → Calls Try.prog 23 #[.agg #[.slice Aa0_0 na0_0 ca0_0, .slice Aa0_1 na0_1 ca0_1, .slice Aa0_2 na0_2 ca0_2, .slice Aa0_3 na0_3 ca0_3], .agg #[.int .i64 xa1_0, .int .i64 xa1_1, .int .i64 xa1_2, .slice Aa1_3 na1_3 ca1_3]] w (fun e w' => ∃ (Ar0_0 : Option Addr) (nr0_0 cr0_0 : Nat) (Ar0_1 : Option Addr) (nr0_1 cr0_1 : Nat) (Ar0_2 : Option Addr) (nr0_2 cr0_2 : Nat) (Ar0_3 : Option Addr) (nr0_3 cr0_3 : Nat), e = .returned (.tuple #[.agg #[.slice Ar0_0 nr0_0 cr0_0, .slice Ar0_1 nr0_1 cr0_1, .slice Ar0_2 nr0_2 cr0_2, .slice Ar0_3 nr0_3 cr0_3], .bool (f d0 d1).2]) ∧ Has w' w.heap.size (((f d0 d1).1).cells) [.slice Ar0_0 nr0_0 cr0_0, .slice Ar0_1 nr0_1 cr0_1, .slice Ar0_2 nr0_2 cr0_2, .slice Ar0_3 nr0_3 cr0_3] ∧ Below w.heap.size w w'))
    (Aa0_0 : Option Addr) (na0_0 ca0_0 : Nat) (Aa0_1 : Option Addr) (na0_1 ca0_1 : Nat) (Aa0_2 : Option Addr) (na0_2 ca0_2 : Nat) (Aa0_3 : Option Addr) (na0_3 ca0_3 : Nat) (d0 : TwoM) (xa1_0 : Int) (xa1_1 : Int) (xa1_2 : Int) (Aa1_3 : Option Addr) (na1_3 ca1_3 : Nat) (d1 : HeadM) (w : World) (h0 : Rd w w.heap.size (d0.cells) [.slice Aa0_0 na0_0 ca0_0, .slice Aa0_1 na0_1 ca0_1, .slice Aa0_2 na0_2 ca0_2, .slice Aa0_3 na0_3 ca0_3]) (h1 : Rd w w.heap.size (d1.cells) [.int .i64 xa1_0, .int .i64 xa1_1, .int .i64 xa1_2, .slice Aa1_3 na1_3 ca1_3]) :
    Calls Try.prog 6 #[.agg #[.slice Aa0_0 na0_0 ca0_0, .slice Aa0_1 na0_1 ca0_1, .slice Aa0_2 na0_2 ca0_2, .slice Aa0_3 na0_3 ca0_3], .agg #[.int .i64 xa1_0, .int .i64 xa1_1, .int .i64 xa1_2, .slice Aa1_3 na1_3 ca1_3]] w fun e w' => e = .returned (.bool true) ∧ Below w.heap.size w w' := by
 have SP := jd hs
 have IM := jd hi
 clear hs hi
 have S := Sep.nil w w.heap.size
 have c := Below.refl w.heap.size w
 replace S := S.box c.size #[.slice Aa0_0 na0_0 ca0_0, .slice Aa0_1 na0_1 ca0_1, .slice Aa0_2 na0_2 ca0_2, .slice Aa0_3 na0_3 ca0_3] 27
 replace c := al c S
 replace S := S.boxAt c.size (w.heap.size + 1) (by simp) #[.int .i64 xa1_0, .int .i64 xa1_1, .int .i64 xa1_2, .slice Aa1_3 na1_3 ca1_3] 54
 replace c := al c S
 go_enter Try.func6, Try.ntmps6
 go_wp2_with fail
 generalize (w.alloc (.cells #[.slice Aa0_0 na0_0 ca0_0, .slice Aa0_1 na0_1 ca0_1, .slice Aa0_2 na0_2 ca0_2, .slice Aa0_3 na0_3 ca0_3] 27)).alloc (.cells #[.int .i64 xa1_0, .int .i64 xa1_1, .int .i64 xa1_2, .slice Aa1_3 na1_3 ca1_3] 54) = w1 at *
 refine (szTwo_any _ _ _ _ d0 _ _ _ (h0.keep c) c.size (by omega) (by omega)).mono ?_
 rintro e w2 ⟨rfl, b⟩
 replace c := c.trans (b.mono c.size)
 replace S := S.keep b
 clear b
 by_cases hzi0 : ((d0.sz : Nat) : Int) ≤ 1048576
 case neg =>
  rw [left, if_neg hzi0]
  go_wp2
  go_ret
  exact ⟨rfl, c⟩
 rw [left, if_pos hzi0]
 have hz0 : d0.sz ≤ 1048576 := by omega
 have qz0 : ¬ ((1048576 : Int) - (d0.sz : Int) < 0) := by omega
 have f0 := lk S 0 0 rfl rfl
 have f1 := lk S 0 1 rfl rfl
 have f2 := lk S 0 2 rfl rfl
 have f3 := lk S 0 3 rfl rfl
 go_wp2_with fail
 refine (szHead_any _ _ _ _ d1 _ _ _ (h1.keep c) c.size (by omega) (by omega)).mono ?_
 rintro e w3 ⟨rfl, b⟩
 replace c := c.trans (b.mono c.size)
 replace S := S.keep b
 clear b f0 f1 f2 f3
 by_cases hzi1 : ((d1.sz : Nat) : Int) ≤ 1048576 - (d0.sz : Int)
 case neg =>
  rw [left, if_neg hzi1]
  go_wp2
  go_ret
  exact ⟨rfl, c⟩
 rw [left, if_pos hzi1]
 have hz1 : d1.sz ≤ 1048576 := by omega
 have qz1 : ¬ ((1048576 - (d0.sz : Int) : Int) - (d1.sz : Int) < 0) := by omega
 obtain ⟨fx0, hfx0⟩ : ∃ q, q = (f d0 d1).1 := ⟨_, rfl⟩
 have hfz0 := hf0 d0 d1 hz0 hz1
 rw [← hfx0] at hfz0
 have HFX0 := jd hfx0
 clear hfx0
 obtain ⟨fx1, hfx1⟩ : ∃ q, q = (f d0 d1).2 := ⟨_, rfl⟩
 have HFX1 := jd hfx1
 clear hfx1
 have f0 := lk S 1 0 rfl rfl
 have f1 := lk S 1 1 rfl rfl
 have f2 := lk S 1 2 rfl rfl
 have f3 := lk S 1 3 rfl rfl
 have f4 := lk S 0 0 rfl rfl
 have f5 := lk S 0 1 rfl rfl
 have f6 := lk S 0 2 rfl rfl
 have f7 := lk S 0 3 rfl rfl
 have SH := jd S
 have CH := jd c
 clear S c
 go_wp2_with fail
 go_cut [6, 7] (fun s0 s1 wx => ∃ (pw0 : Nat) (Aw0_0 : Option Addr) (nw0_0 cw0_0 : Nat) (Aw0_1 : Option Addr) (nw0_1 cw0_1 : Nat) (Aw0_2 : Option Addr) (nw0_2 cw0_2 : Nat) (Aw0_3 : Option Addr) (nw0_3 cw0_3 : Nat) (fp_w0 : List Nat), s0 = .pointer (some ⟨pw0, 0, none⟩) ∧ s1 = .bool ((f d0 d1).2) ∧ Sep wx w.heap.size [.blk pw0 #[.slice Aw0_0 nw0_0 cw0_0, .slice Aw0_1 nw0_1 cw0_1, .slice Aw0_2 nw0_2 cw0_2, .slice Aw0_3 nw0_3 cw0_3] 34, .own (((f d0 d1).1).cells) [.slice Aw0_0 nw0_0 cw0_0, .slice Aw0_1 nw0_1 cw0_1, .slice Aw0_2 nw0_2 cw0_2, .slice Aw0_3 nw0_3 cw0_3] fp_w0, .blk (w.heap.size + 1) #[.int .i64 xa1_0, .int .i64 xa1_1, .int .i64 xa1_2, .slice Aa1_3 na1_3 ca1_3] 54, .blk (w.heap.size) #[.slice Aa0_0 na0_0 ca0_0, .slice Aa0_1 na0_1 ca0_1, .slice Aa0_2 na0_2 ca0_2, .slice Aa0_3 na0_3 ca0_3] 27] ∧ Below w.heap.size w wx)
 case first =>
  have S := SH.out
  have c := CH.out
  refine wp_region_L (fun v => v.cell? ⟨w.heap.size, 0, none⟩ = some (.slice Aa0_0 na0_0 ca0_0) ∧ v.cell? ⟨w.heap.size, 1, none⟩ = some (.slice Aa0_1 na0_1 ca0_1) ∧ v.cell? ⟨w.heap.size, 2, none⟩ = some (.slice Aa0_2 na0_2 ca0_2) ∧ v.cell? ⟨w.heap.size, 3, none⟩ = some (.slice Aa0_3 na0_3 ca0_3) ∧ v.cell? ⟨w.heap.size + 1, 0, none⟩ = some (.int .i64 xa1_0) ∧ v.cell? ⟨w.heap.size + 1, 1, none⟩ = some (.int .i64 xa1_1) ∧ v.cell? ⟨w.heap.size + 1, 2, none⟩ = some (.int .i64 xa1_2) ∧ v.cell? ⟨w.heap.size + 1, 3, none⟩ = some (.slice Aa1_3 na1_3 ca1_3)) 10 (by kernel_rfl) ?_
  clear f0 f1 f2 f3 f4 f5 f6 f7 SH CH
  replace S := S.keep ((Below.refl _ _).drew)
  replace c := c.drew
  generalize w3.drew = w54 at *
  have HF : w54.cell? ⟨w.heap.size, 0, none⟩ = some (.slice Aa0_0 na0_0 ca0_0) ∧ w54.cell? ⟨w.heap.size, 1, none⟩ = some (.slice Aa0_1 na0_1 ca0_1) ∧ w54.cell? ⟨w.heap.size, 2, none⟩ = some (.slice Aa0_2 na0_2 ca0_2) ∧ w54.cell? ⟨w.heap.size, 3, none⟩ = some (.slice Aa0_3 na0_3 ca0_3) ∧ w54.cell? ⟨w.heap.size + 1, 0, none⟩ = some (.int .i64 xa1_0) ∧ w54.cell? ⟨w.heap.size + 1, 1, none⟩ = some (.int .i64 xa1_1) ∧ w54.cell? ⟨w.heap.size + 1, 2, none⟩ = some (.int .i64 xa1_2) ∧ w54.cell? ⟨w.heap.size + 1, 3, none⟩ = some (.slice Aa1_3 na1_3 ca1_3) := ⟨(S.at_ 1 rfl).cell 0, (S.at_ 1 rfl).cell 1, (S.at_ 1 rfl).cell 2, (S.at_ 1 rfl).cell 3, (S.at_ 0 rfl).cell 0, (S.at_ 0 rfl).cell 1, (S.at_ 0 rfl).cell 2, (S.at_ 0 rfl).cell 3⟩
  refine tk 0 (v := ?_) rfl rfl HF (.inl ⟨by rfl, ?_⟩) ?_
  rotate_left 1
  · (rintro v ⟨a0, a1, a2, a3, a4, a5, a6, a7⟩; go_simp; try with_reducible rfl)
  try simp only [Act.put]
  refine tk 2 (v := ?_) rfl rfl HF (.inl ⟨by rfl, ?_⟩) ?_
  rotate_left 1
  · (rintro v ⟨a0, a1, a2, a3, a4, a5, a6, a7⟩; go_simp; try with_reducible rfl)
  try simp only [Act.put]
  refine wpAnyL_two (i := 1) (k := 8) (by kernel_rfl) rfl rfl rfl rfl ?_ ?_
  · intro K hK
    go_simp
    refine (toTwo_made _ _ _ _ d0 _ ((h0.keep c).up c.size) hz0).mono ?_
    rintro e w55 ⟨As0_0, ns0_0, cs0_0, As0_1, ns0_1, cs0_1, As0_2, ns0_2, cs0_2, As0_3, ns0_3, cs0_3, rfl, o, b⟩
    obtain ⟨fp_Os0, S'⟩ := S.has b o c.size
    replace c := c.trans (b.mono c.size)
    clear S; have S := S'; clear S' o b
    clear HF
    have HF : w55.cell? ⟨w.heap.size, 0, none⟩ = some (.slice Aa0_0 na0_0 ca0_0) ∧ w55.cell? ⟨w.heap.size, 1, none⟩ = some (.slice Aa0_1 na0_1 ca0_1) ∧ w55.cell? ⟨w.heap.size, 2, none⟩ = some (.slice Aa0_2 na0_2 ca0_2) ∧ w55.cell? ⟨w.heap.size, 3, none⟩ = some (.slice Aa0_3 na0_3 ca0_3) ∧ w55.cell? ⟨w.heap.size + 1, 0, none⟩ = some (.int .i64 xa1_0) ∧ w55.cell? ⟨w.heap.size + 1, 1, none⟩ = some (.int .i64 xa1_1) ∧ w55.cell? ⟨w.heap.size + 1, 2, none⟩ = some (.int .i64 xa1_2) ∧ w55.cell? ⟨w.heap.size + 1, 3, none⟩ = some (.slice Aa1_3 na1_3 ca1_3) := ⟨(S.at_ 2 rfl).cell 0, (S.at_ 2 rfl).cell 1, (S.at_ 2 rfl).cell 2, (S.at_ 2 rfl).cell 3, (S.at_ 1 rfl).cell 0, (S.at_ 1 rfl).cell 1, (S.at_ 1 rfl).cell 2, (S.at_ 1 rfl).cell 3⟩
    refine hK _ _ (fun _ => HF) ?_
    clear hK K
    try simp only [Act.put]
    refine wpAnyL_two (i := 3) (k := 8) (by kernel_rfl) rfl rfl rfl rfl ?_ ?_
    · intro K hK
      go_simp
      refine (toHead_made _ _ _ _ d1 _ ((h1.keep c).up c.size) hz1).mono ?_
      rintro e w56 ⟨xs1_0, xs1_1, xs1_2, As1_3, ns1_3, cs1_3, rfl, o, b⟩
      obtain ⟨fp_Os1, S'⟩ := S.has b o c.size
      replace c := c.trans (b.mono c.size)
      clear S; have S := S'; clear S' o b
      clear HF
      have HF : w56.cell? ⟨w.heap.size, 0, none⟩ = some (.slice Aa0_0 na0_0 ca0_0) ∧ w56.cell? ⟨w.heap.size, 1, none⟩ = some (.slice Aa0_1 na0_1 ca0_1) ∧ w56.cell? ⟨w.heap.size, 2, none⟩ = some (.slice Aa0_2 na0_2 ca0_2) ∧ w56.cell? ⟨w.heap.size, 3, none⟩ = some (.slice Aa0_3 na0_3 ca0_3) ∧ w56.cell? ⟨w.heap.size + 1, 0, none⟩ = some (.int .i64 xa1_0) ∧ w56.cell? ⟨w.heap.size + 1, 1, none⟩ = some (.int .i64 xa1_1) ∧ w56.cell? ⟨w.heap.size + 1, 2, none⟩ = some (.int .i64 xa1_2) ∧ w56.cell? ⟨w.heap.size + 1, 3, none⟩ = some (.slice Aa1_3 na1_3 ca1_3) := ⟨(S.at_ 3 rfl).cell 0, (S.at_ 3 rfl).cell 1, (S.at_ 3 rfl).cell 2, (S.at_ 3 rfl).cell 3, (S.at_ 2 rfl).cell 0, (S.at_ 2 rfl).cell 1, (S.at_ 2 rfl).cell 2, (S.at_ 2 rfl).cell 3⟩
      refine hK _ _ (fun _ => HF) ?_
      clear hK K
      try simp only [Act.put]
      refine wpAnyL_two (i := 4) (k := 8) (by kernel_rfl) rfl rfl rfl rfl ?_ ?_
      · intro K hK
        go_simp
        refine (SP.out _ _ _ _ _ _ _ _ _ _ _ _ d0 _ _ _ _ _ _ d1 _ ((S.own_ 1 rfl).rd) hz0 ((S.own_ 0 rfl).rd) hz1).mono ?_
        rintro e w57 ⟨Aw0_0, nw0_0, cw0_0, Aw0_1, nw0_1, cw0_1, Aw0_2, nw0_2, cw0_2, Aw0_3, nw0_3, cw0_3, rfl, o, b⟩
        obtain ⟨fp_Ow0, S'⟩ := S.has b o c.size
        replace c := c.trans (b.mono c.size)
        clear S; have S := S'; clear S' o b
        clear HF
        have HF : w57.cell? ⟨w.heap.size, 0, none⟩ = some (.slice Aa0_0 na0_0 ca0_0) ∧ w57.cell? ⟨w.heap.size, 1, none⟩ = some (.slice Aa0_1 na0_1 ca0_1) ∧ w57.cell? ⟨w.heap.size, 2, none⟩ = some (.slice Aa0_2 na0_2 ca0_2) ∧ w57.cell? ⟨w.heap.size, 3, none⟩ = some (.slice Aa0_3 na0_3 ca0_3) ∧ w57.cell? ⟨w.heap.size + 1, 0, none⟩ = some (.int .i64 xa1_0) ∧ w57.cell? ⟨w.heap.size + 1, 1, none⟩ = some (.int .i64 xa1_1) ∧ w57.cell? ⟨w.heap.size + 1, 2, none⟩ = some (.int .i64 xa1_2) ∧ w57.cell? ⟨w.heap.size + 1, 3, none⟩ = some (.slice Aa1_3 na1_3 ca1_3) := ⟨(S.at_ 4 rfl).cell 0, (S.at_ 4 rfl).cell 1, (S.at_ 4 rfl).cell 2, (S.at_ 4 rfl).cell 3, (S.at_ 3 rfl).cell 0, (S.at_ 3 rfl).cell 1, (S.at_ 3 rfl).cell 2, (S.at_ 3 rfl).cell 3⟩
        refine hK _ _ (fun _ => HF) ?_
        clear hK K
        try simp only [Act.put]
        refine wpAnyL_pure (i := 5) (v := ?_) rfl rfl (by kernel_rfl) (by kernel_rfl) (by kernel_rfl) (fun _ _ _ h => h) HF (Or.inl ⟨by rfl, ?_⟩) ?_
        rotate_left 1
        · (intro v _; go_simp; try with_reducible rfl)
        try simp only [Act.put]
        refine wpAnyL_pure (i := 6) (v := ?_) rfl rfl (by kernel_rfl) (by kernel_rfl) (by kernel_rfl) (fun _ _ _ h => h) HF (Or.inl ⟨by rfl, ?_⟩) ?_
        rotate_left 1
        · (intro v _; go_simp; try with_reducible rfl)
        try simp only [Act.put]
        refine wpAnyL_pure (i := 7) (v := ?_) rfl rfl (by kernel_rfl) (by kernel_rfl) (by kernel_rfl) (fun _ _ _ h => h) HF (Or.inl ⟨by rfl, ?_⟩) ?_
        rotate_left 1
        · (intro v _; go_simp; try with_reducible rfl)
        try simp only [Act.put]
        refine wpAnyL_step (i := 8) (by kernel_rfl) rfl rfl ?_
        intro K hK
        go_simp
        replace S := S.boxAt c.size (w57.heap.size) rfl #[.slice none 0 0, .slice none 0 0, .slice none 0 0, .slice none 0 0] 34
        replace c := al c S
        clear HF
        have HF : (w57.alloc (.cells #[.slice none 0 0, .slice none 0 0, .slice none 0 0, .slice none 0 0] 34)).cell? ⟨w.heap.size, 0, none⟩ = some (.slice Aa0_0 na0_0 ca0_0) ∧ (w57.alloc (.cells #[.slice none 0 0, .slice none 0 0, .slice none 0 0, .slice none 0 0] 34)).cell? ⟨w.heap.size, 1, none⟩ = some (.slice Aa0_1 na0_1 ca0_1) ∧ (w57.alloc (.cells #[.slice none 0 0, .slice none 0 0, .slice none 0 0, .slice none 0 0] 34)).cell? ⟨w.heap.size, 2, none⟩ = some (.slice Aa0_2 na0_2 ca0_2) ∧ (w57.alloc (.cells #[.slice none 0 0, .slice none 0 0, .slice none 0 0, .slice none 0 0] 34)).cell? ⟨w.heap.size, 3, none⟩ = some (.slice Aa0_3 na0_3 ca0_3) ∧ (w57.alloc (.cells #[.slice none 0 0, .slice none 0 0, .slice none 0 0, .slice none 0 0] 34)).cell? ⟨w.heap.size + 1, 0, none⟩ = some (.int .i64 xa1_0) ∧ (w57.alloc (.cells #[.slice none 0 0, .slice none 0 0, .slice none 0 0, .slice none 0 0] 34)).cell? ⟨w.heap.size + 1, 1, none⟩ = some (.int .i64 xa1_1) ∧ (w57.alloc (.cells #[.slice none 0 0, .slice none 0 0, .slice none 0 0, .slice none 0 0] 34)).cell? ⟨w.heap.size + 1, 2, none⟩ = some (.int .i64 xa1_2) ∧ (w57.alloc (.cells #[.slice none 0 0, .slice none 0 0, .slice none 0 0, .slice none 0 0] 34)).cell? ⟨w.heap.size + 1, 3, none⟩ = some (.slice Aa1_3 na1_3 ca1_3) := ⟨(S.at_ 5 rfl).cell 0, (S.at_ 5 rfl).cell 1, (S.at_ 5 rfl).cell 2, (S.at_ 5 rfl).cell 3, (S.at_ 4 rfl).cell 0, (S.at_ 4 rfl).cell 1, (S.at_ 4 rfl).cell 2, (S.at_ 4 rfl).cell 3⟩
        refine hK _ _ (fun _ => HF) ?_
        clear hK K
        try simp only [Act.put]
        generalize hw : w57.alloc (.cells #[.slice none 0 0, .slice none 0 0, .slice none 0 0, .slice none 0 0] 34) = w58 at *
        clear hw
        have f0 := lk S 0 0 rfl rfl
        have f1 := (S.at_ 0 rfl).free 0
        have f2 := lk S 0 1 rfl rfl
        have f3 := (S.at_ 0 rfl).free 1
        have f4 := lk S 0 2 rfl rfl
        have f5 := (S.at_ 0 rfl).free 2
        have f6 := lk S 0 3 rfl rfl
        have f7 := (S.at_ 0 rfl).free 3
        refine wpAnyL_step (i := 9) (by kernel_rfl) rfl rfl ?_
        intro K hK
        go_simp
        replace S := S.put 0 rfl 0 (.slice Aw0_0 nw0_0 cw0_0)
        replace c := st c S (S.base_le 0 rfl)
        replace S := S.put 0 rfl 1 (.slice Aw0_1 nw0_1 cw0_1)
        replace c := st c S (S.base_le 0 rfl)
        replace S := S.put 0 rfl 2 (.slice Aw0_2 nw0_2 cw0_2)
        replace c := st c S (S.base_le 0 rfl)
        replace S := S.put 0 rfl 3 (.slice Aw0_3 nw0_3 cw0_3)
        replace c := st c S (S.base_le 0 rfl)
        clear HF
        have HF : ((((w58.setCell ⟨w57.heap.size, 0, none⟩ (.slice Aw0_0 nw0_0 cw0_0)).setCell ⟨w57.heap.size, 1, none⟩ (.slice Aw0_1 nw0_1 cw0_1)).setCell ⟨w57.heap.size, 2, none⟩ (.slice Aw0_2 nw0_2 cw0_2)).setCell ⟨w57.heap.size, 3, none⟩ (.slice Aw0_3 nw0_3 cw0_3)).cell? ⟨w.heap.size, 0, none⟩ = some (.slice Aa0_0 na0_0 ca0_0) ∧ ((((w58.setCell ⟨w57.heap.size, 0, none⟩ (.slice Aw0_0 nw0_0 cw0_0)).setCell ⟨w57.heap.size, 1, none⟩ (.slice Aw0_1 nw0_1 cw0_1)).setCell ⟨w57.heap.size, 2, none⟩ (.slice Aw0_2 nw0_2 cw0_2)).setCell ⟨w57.heap.size, 3, none⟩ (.slice Aw0_3 nw0_3 cw0_3)).cell? ⟨w.heap.size, 1, none⟩ = some (.slice Aa0_1 na0_1 ca0_1) ∧ ((((w58.setCell ⟨w57.heap.size, 0, none⟩ (.slice Aw0_0 nw0_0 cw0_0)).setCell ⟨w57.heap.size, 1, none⟩ (.slice Aw0_1 nw0_1 cw0_1)).setCell ⟨w57.heap.size, 2, none⟩ (.slice Aw0_2 nw0_2 cw0_2)).setCell ⟨w57.heap.size, 3, none⟩ (.slice Aw0_3 nw0_3 cw0_3)).cell? ⟨w.heap.size, 2, none⟩ = some (.slice Aa0_2 na0_2 ca0_2) ∧ ((((w58.setCell ⟨w57.heap.size, 0, none⟩ (.slice Aw0_0 nw0_0 cw0_0)).setCell ⟨w57.heap.size, 1, none⟩ (.slice Aw0_1 nw0_1 cw0_1)).setCell ⟨w57.heap.size, 2, none⟩ (.slice Aw0_2 nw0_2 cw0_2)).setCell ⟨w57.heap.size, 3, none⟩ (.slice Aw0_3 nw0_3 cw0_3)).cell? ⟨w.heap.size, 3, none⟩ = some (.slice Aa0_3 na0_3 ca0_3) ∧ ((((w58.setCell ⟨w57.heap.size, 0, none⟩ (.slice Aw0_0 nw0_0 cw0_0)).setCell ⟨w57.heap.size, 1, none⟩ (.slice Aw0_1 nw0_1 cw0_1)).setCell ⟨w57.heap.size, 2, none⟩ (.slice Aw0_2 nw0_2 cw0_2)).setCell ⟨w57.heap.size, 3, none⟩ (.slice Aw0_3 nw0_3 cw0_3)).cell? ⟨w.heap.size + 1, 0, none⟩ = some (.int .i64 xa1_0) ∧ ((((w58.setCell ⟨w57.heap.size, 0, none⟩ (.slice Aw0_0 nw0_0 cw0_0)).setCell ⟨w57.heap.size, 1, none⟩ (.slice Aw0_1 nw0_1 cw0_1)).setCell ⟨w57.heap.size, 2, none⟩ (.slice Aw0_2 nw0_2 cw0_2)).setCell ⟨w57.heap.size, 3, none⟩ (.slice Aw0_3 nw0_3 cw0_3)).cell? ⟨w.heap.size + 1, 1, none⟩ = some (.int .i64 xa1_1) ∧ ((((w58.setCell ⟨w57.heap.size, 0, none⟩ (.slice Aw0_0 nw0_0 cw0_0)).setCell ⟨w57.heap.size, 1, none⟩ (.slice Aw0_1 nw0_1 cw0_1)).setCell ⟨w57.heap.size, 2, none⟩ (.slice Aw0_2 nw0_2 cw0_2)).setCell ⟨w57.heap.size, 3, none⟩ (.slice Aw0_3 nw0_3 cw0_3)).cell? ⟨w.heap.size + 1, 2, none⟩ = some (.int .i64 xa1_2) ∧ ((((w58.setCell ⟨w57.heap.size, 0, none⟩ (.slice Aw0_0 nw0_0 cw0_0)).setCell ⟨w57.heap.size, 1, none⟩ (.slice Aw0_1 nw0_1 cw0_1)).setCell ⟨w57.heap.size, 2, none⟩ (.slice Aw0_2 nw0_2 cw0_2)).setCell ⟨w57.heap.size, 3, none⟩ (.slice Aw0_3 nw0_3 cw0_3)).cell? ⟨w.heap.size + 1, 3, none⟩ = some (.slice Aa1_3 na1_3 ca1_3) := ⟨(S.at_ 5 rfl).cell 0, (S.at_ 5 rfl).cell 1, (S.at_ 5 rfl).cell 2, (S.at_ 5 rfl).cell 3, (S.at_ 4 rfl).cell 0, (S.at_ 4 rfl).cell 1, (S.at_ 4 rfl).cell 2, (S.at_ 4 rfl).cell 3⟩
        refine hK _ _ (fun _ => HF) ?_
        clear hK K
        try simp only [Act.put]
        generalize (((w58.setCell ⟨w57.heap.size, 0, none⟩ (.slice Aw0_0 nw0_0 cw0_0)).setCell ⟨w57.heap.size, 1, none⟩ (.slice Aw0_1 nw0_1 cw0_1)).setCell ⟨w57.heap.size, 2, none⟩ (.slice Aw0_2 nw0_2 cw0_2)).setCell ⟨w57.heap.size, 3, none⟩ (.slice Aw0_3 nw0_3 cw0_3) = w59 at *
        clear f0 f1 f2 f3 f4 f5 f6 f7
        refine wpAnyL_step (i := 10) (by kernel_rfl) rfl rfl ?_
        intro K hK
        go_simp
        refine hK _ _ (fun h => nomatch (show true = false from h)) ?_
        clear hK K
        try simp only [Act.put]
        refine wpAnyL_done (by kernel_rfl) ?_ _
        replace S := S.pick 1 rfl
        replace S := S.pick 1 rfl
        replace S := S.sub (.cons_cons _ (.cons_cons _ (.cons _ (.cons _ (.cons_cons _ (.cons_cons _ (List.nil_sublist _)))))))
        go_wp2_with fail
        go_meet
        exact ⟨_, _, _, _, _, _, _, _, _, _, _, _, _, _, rfl, rfl, S, c⟩
      · intro K hK
        go_simp
        replace S := S.boxAt c.size (w56.heap.size) rfl #[.slice none 0 0, .slice none 0 0, .slice none 0 0, .slice none 0 0] 34
        replace c := al c S
        clear HF
        have HF : (w56.alloc (.cells #[.slice none 0 0, .slice none 0 0, .slice none 0 0, .slice none 0 0] 34)).cell? ⟨w.heap.size, 0, none⟩ = some (.slice Aa0_0 na0_0 ca0_0) ∧ (w56.alloc (.cells #[.slice none 0 0, .slice none 0 0, .slice none 0 0, .slice none 0 0] 34)).cell? ⟨w.heap.size, 1, none⟩ = some (.slice Aa0_1 na0_1 ca0_1) ∧ (w56.alloc (.cells #[.slice none 0 0, .slice none 0 0, .slice none 0 0, .slice none 0 0] 34)).cell? ⟨w.heap.size, 2, none⟩ = some (.slice Aa0_2 na0_2 ca0_2) ∧ (w56.alloc (.cells #[.slice none 0 0, .slice none 0 0, .slice none 0 0, .slice none 0 0] 34)).cell? ⟨w.heap.size, 3, none⟩ = some (.slice Aa0_3 na0_3 ca0_3) ∧ (w56.alloc (.cells #[.slice none 0 0, .slice none 0 0, .slice none 0 0, .slice none 0 0] 34)).cell? ⟨w.heap.size + 1, 0, none⟩ = some (.int .i64 xa1_0) ∧ (w56.alloc (.cells #[.slice none 0 0, .slice none 0 0, .slice none 0 0, .slice none 0 0] 34)).cell? ⟨w.heap.size + 1, 1, none⟩ = some (.int .i64 xa1_1) ∧ (w56.alloc (.cells #[.slice none 0 0, .slice none 0 0, .slice none 0 0, .slice none 0 0] 34)).cell? ⟨w.heap.size + 1, 2, none⟩ = some (.int .i64 xa1_2) ∧ (w56.alloc (.cells #[.slice none 0 0, .slice none 0 0, .slice none 0 0, .slice none 0 0] 34)).cell? ⟨w.heap.size + 1, 3, none⟩ = some (.slice Aa1_3 na1_3 ca1_3) := ⟨(S.at_ 4 rfl).cell 0, (S.at_ 4 rfl).cell 1, (S.at_ 4 rfl).cell 2, (S.at_ 4 rfl).cell 3, (S.at_ 3 rfl).cell 0, (S.at_ 3 rfl).cell 1, (S.at_ 3 rfl).cell 2, (S.at_ 3 rfl).cell 3⟩
        refine hK _ _ (fun _ => HF) ?_
        clear hK K
        try simp only [Act.put]
        generalize hw : w56.alloc (.cells #[.slice none 0 0, .slice none 0 0, .slice none 0 0, .slice none 0 0] 34) = w57 at *
        clear hw
        refine wpAnyL_step (i := 4) (by kernel_rfl) rfl rfl ?_
        intro K hK
        go_simp
        refine (SP.out _ _ _ _ _ _ _ _ _ _ _ _ d0 _ _ _ _ _ _ d1 _ ((S.own_ 2 rfl).rd) hz0 ((S.own_ 1 rfl).rd) hz1).mono ?_
        rintro e w58 ⟨Aw0_0, nw0_0, cw0_0, Aw0_1, nw0_1, cw0_1, Aw0_2, nw0_2, cw0_2, Aw0_3, nw0_3, cw0_3, rfl, o, b⟩
        obtain ⟨fp_Ow0, S'⟩ := S.has b o c.size
        replace c := c.trans (b.mono c.size)
        clear S; have S := S'; clear S' o b
        clear HF
        have HF : w58.cell? ⟨w.heap.size, 0, none⟩ = some (.slice Aa0_0 na0_0 ca0_0) ∧ w58.cell? ⟨w.heap.size, 1, none⟩ = some (.slice Aa0_1 na0_1 ca0_1) ∧ w58.cell? ⟨w.heap.size, 2, none⟩ = some (.slice Aa0_2 na0_2 ca0_2) ∧ w58.cell? ⟨w.heap.size, 3, none⟩ = some (.slice Aa0_3 na0_3 ca0_3) ∧ w58.cell? ⟨w.heap.size + 1, 0, none⟩ = some (.int .i64 xa1_0) ∧ w58.cell? ⟨w.heap.size + 1, 1, none⟩ = some (.int .i64 xa1_1) ∧ w58.cell? ⟨w.heap.size + 1, 2, none⟩ = some (.int .i64 xa1_2) ∧ w58.cell? ⟨w.heap.size + 1, 3, none⟩ = some (.slice Aa1_3 na1_3 ca1_3) := ⟨(S.at_ 5 rfl).cell 0, (S.at_ 5 rfl).cell 1, (S.at_ 5 rfl).cell 2, (S.at_ 5 rfl).cell 3, (S.at_ 4 rfl).cell 0, (S.at_ 4 rfl).cell 1, (S.at_ 4 rfl).cell 2, (S.at_ 4 rfl).cell 3⟩
        refine hK _ _ (fun _ => HF) ?_
        clear hK K
        try simp only [Act.put]
        refine wpAnyL_pure (i := 5) (v := ?_) rfl rfl (by kernel_rfl) (by kernel_rfl) (by kernel_rfl) (fun _ _ _ h => h) HF (Or.inl ⟨by rfl, ?_⟩) ?_
        rotate_left 1
        · (intro v _; go_simp; try with_reducible rfl)
        try simp only [Act.put]
        refine wpAnyL_pure (i := 6) (v := ?_) rfl rfl (by kernel_rfl) (by kernel_rfl) (by kernel_rfl) (fun _ _ _ h => h) HF (Or.inl ⟨by rfl, ?_⟩) ?_
        rotate_left 1
        · (intro v _; go_simp; try with_reducible rfl)
        try simp only [Act.put]
        refine wpAnyL_pure (i := 7) (v := ?_) rfl rfl (by kernel_rfl) (by kernel_rfl) (by kernel_rfl) (fun _ _ _ h => h) HF (Or.inl ⟨by rfl, ?_⟩) ?_
        rotate_left 1
        · (intro v _; go_simp; try with_reducible rfl)
        try simp only [Act.put]
        have f0 := lk S 1 0 rfl rfl
        have f1 := (S.at_ 1 rfl).free 0
        have f2 := lk S 1 1 rfl rfl
        have f3 := (S.at_ 1 rfl).free 1
        have f4 := lk S 1 2 rfl rfl
        have f5 := (S.at_ 1 rfl).free 2
        have f6 := lk S 1 3 rfl rfl
        have f7 := (S.at_ 1 rfl).free 3
        refine wpAnyL_step (i := 9) (by kernel_rfl) rfl rfl ?_
        intro K hK
        go_simp
        replace S := S.put 1 rfl 0 (.slice Aw0_0 nw0_0 cw0_0)
        replace c := st c S (S.base_le 1 rfl)
        replace S := S.put 1 rfl 1 (.slice Aw0_1 nw0_1 cw0_1)
        replace c := st c S (S.base_le 1 rfl)
        replace S := S.put 1 rfl 2 (.slice Aw0_2 nw0_2 cw0_2)
        replace c := st c S (S.base_le 1 rfl)
        replace S := S.put 1 rfl 3 (.slice Aw0_3 nw0_3 cw0_3)
        replace c := st c S (S.base_le 1 rfl)
        clear HF
        have HF : ((((w58.setCell ⟨w56.heap.size, 0, none⟩ (.slice Aw0_0 nw0_0 cw0_0)).setCell ⟨w56.heap.size, 1, none⟩ (.slice Aw0_1 nw0_1 cw0_1)).setCell ⟨w56.heap.size, 2, none⟩ (.slice Aw0_2 nw0_2 cw0_2)).setCell ⟨w56.heap.size, 3, none⟩ (.slice Aw0_3 nw0_3 cw0_3)).cell? ⟨w.heap.size, 0, none⟩ = some (.slice Aa0_0 na0_0 ca0_0) ∧ ((((w58.setCell ⟨w56.heap.size, 0, none⟩ (.slice Aw0_0 nw0_0 cw0_0)).setCell ⟨w56.heap.size, 1, none⟩ (.slice Aw0_1 nw0_1 cw0_1)).setCell ⟨w56.heap.size, 2, none⟩ (.slice Aw0_2 nw0_2 cw0_2)).setCell ⟨w56.heap.size, 3, none⟩ (.slice Aw0_3 nw0_3 cw0_3)).cell? ⟨w.heap.size, 1, none⟩ = some (.slice Aa0_1 na0_1 ca0_1) ∧ ((((w58.setCell ⟨w56.heap.size, 0, none⟩ (.slice Aw0_0 nw0_0 cw0_0)).setCell ⟨w56.heap.size, 1, none⟩ (.slice Aw0_1 nw0_1 cw0_1)).setCell ⟨w56.heap.size, 2, none⟩ (.slice Aw0_2 nw0_2 cw0_2)).setCell ⟨w56.heap.size, 3, none⟩ (.slice Aw0_3 nw0_3 cw0_3)).cell? ⟨w.heap.size, 2, none⟩ = some (.slice Aa0_2 na0_2 ca0_2) ∧ ((((w58.setCell ⟨w56.heap.size, 0, none⟩ (.slice Aw0_0 nw0_0 cw0_0)).setCell ⟨w56.heap.size, 1, none⟩ (.slice Aw0_1 nw0_1 cw0_1)).setCell ⟨w56.heap.size, 2, none⟩ (.slice Aw0_2 nw0_2 cw0_2)).setCell ⟨w56.heap.size, 3, none⟩ (.slice Aw0_3 nw0_3 cw0_3)).cell? ⟨w.heap.size, 3, none⟩ = some (.slice Aa0_3 na0_3 ca0_3) ∧ ((((w58.setCell ⟨w56.heap.size, 0, none⟩ (.slice Aw0_0 nw0_0 cw0_0)).setCell ⟨w56.heap.size, 1, none⟩ (.slice Aw0_1 nw0_1 cw0_1)).setCell ⟨w56.heap.size, 2, none⟩ (.slice Aw0_2 nw0_2 cw0_2)).setCell ⟨w56.heap.size, 3, none⟩ (.slice Aw0_3 nw0_3 cw0_3)).cell? ⟨w.heap.size + 1, 0, none⟩ = some (.int .i64 xa1_0) ∧ ((((w58.setCell ⟨w56.heap.size, 0, none⟩ (.slice Aw0_0 nw0_0 cw0_0)).setCell ⟨w56.heap.size, 1, none⟩ (.slice Aw0_1 nw0_1 cw0_1)).setCell ⟨w56.heap.size, 2, none⟩ (.slice Aw0_2 nw0_2 cw0_2)).setCell ⟨w56.heap.size, 3, none⟩ (.slice Aw0_3 nw0_3 cw0_3)).cell? ⟨w.heap.size + 1, 1, none⟩ = some (.int .i64 xa1_1) ∧ ((((w58.setCell ⟨w56.heap.size, 0, none⟩ (.slice Aw0_0 nw0_0 cw0_0)).setCell ⟨w56.heap.size, 1, none⟩ (.slice Aw0_1 nw0_1 cw0_1)).setCell ⟨w56.heap.size, 2, none⟩ (.slice Aw0_2 nw0_2 cw0_2)).setCell ⟨w56.heap.size, 3, none⟩ (.slice Aw0_3 nw0_3 cw0_3)).cell? ⟨w.heap.size + 1, 2, none⟩ = some (.int .i64 xa1_2) ∧ ((((w58.setCell ⟨w56.heap.size, 0, none⟩ (.slice Aw0_0 nw0_0 cw0_0)).setCell ⟨w56.heap.size, 1, none⟩ (.slice Aw0_1 nw0_1 cw0_1)).setCell ⟨w56.heap.size, 2, none⟩ (.slice Aw0_2 nw0_2 cw0_2)).setCell ⟨w56.heap.size, 3, none⟩ (.slice Aw0_3 nw0_3 cw0_3)).cell? ⟨w.heap.size + 1, 3, none⟩ = some (.slice Aa1_3 na1_3 ca1_3) := ⟨(S.at_ 5 rfl).cell 0, (S.at_ 5 rfl).cell 1, (S.at_ 5 rfl).cell 2, (S.at_ 5 rfl).cell 3, (S.at_ 4 rfl).cell 0, (S.at_ 4 rfl).cell 1, (S.at_ 4 rfl).cell 2, (S.at_ 4 rfl).cell 3⟩
        refine hK _ _ (fun _ => HF) ?_
        clear hK K
        try simp only [Act.put]
        generalize (((w58.setCell ⟨w56.heap.size, 0, none⟩ (.slice Aw0_0 nw0_0 cw0_0)).setCell ⟨w56.heap.size, 1, none⟩ (.slice Aw0_1 nw0_1 cw0_1)).setCell ⟨w56.heap.size, 2, none⟩ (.slice Aw0_2 nw0_2 cw0_2)).setCell ⟨w56.heap.size, 3, none⟩ (.slice Aw0_3 nw0_3 cw0_3) = w59 at *
        clear f0 f1 f2 f3 f4 f5 f6 f7
        refine wpAnyL_step (i := 10) (by kernel_rfl) rfl rfl ?_
        intro K hK
        go_simp
        refine hK _ _ (fun h => nomatch (show true = false from h)) ?_
        clear hK K
        try simp only [Act.put]
        refine wpAnyL_done (by kernel_rfl) ?_ _
        replace S := S.pick 0 rfl
        replace S := S.pick 1 rfl
        replace S := S.sub (.cons_cons _ (.cons_cons _ (.cons _ (.cons _ (.cons_cons _ (.cons_cons _ (List.nil_sublist _)))))))
        go_wp2_with fail
        go_meet
        exact ⟨_, _, _, _, _, _, _, _, _, _, _, _, _, _, rfl, rfl, S, c⟩
    · intro K hK
      go_simp
      replace S := S.boxAt c.size (w55.heap.size) rfl #[.slice none 0 0, .slice none 0 0, .slice none 0 0, .slice none 0 0] 34
      replace c := al c S
      clear HF
      have HF : (w55.alloc (.cells #[.slice none 0 0, .slice none 0 0, .slice none 0 0, .slice none 0 0] 34)).cell? ⟨w.heap.size, 0, none⟩ = some (.slice Aa0_0 na0_0 ca0_0) ∧ (w55.alloc (.cells #[.slice none 0 0, .slice none 0 0, .slice none 0 0, .slice none 0 0] 34)).cell? ⟨w.heap.size, 1, none⟩ = some (.slice Aa0_1 na0_1 ca0_1) ∧ (w55.alloc (.cells #[.slice none 0 0, .slice none 0 0, .slice none 0 0, .slice none 0 0] 34)).cell? ⟨w.heap.size, 2, none⟩ = some (.slice Aa0_2 na0_2 ca0_2) ∧ (w55.alloc (.cells #[.slice none 0 0, .slice none 0 0, .slice none 0 0, .slice none 0 0] 34)).cell? ⟨w.heap.size, 3, none⟩ = some (.slice Aa0_3 na0_3 ca0_3) ∧ (w55.alloc (.cells #[.slice none 0 0, .slice none 0 0, .slice none 0 0, .slice none 0 0] 34)).cell? ⟨w.heap.size + 1, 0, none⟩ = some (.int .i64 xa1_0) ∧ (w55.alloc (.cells #[.slice none 0 0, .slice none 0 0, .slice none 0 0, .slice none 0 0] 34)).cell? ⟨w.heap.size + 1, 1, none⟩ = some (.int .i64 xa1_1) ∧ (w55.alloc (.cells #[.slice none 0 0, .slice none 0 0, .slice none 0 0, .slice none 0 0] 34)).cell? ⟨w.heap.size + 1, 2, none⟩ = some (.int .i64 xa1_2) ∧ (w55.alloc (.cells #[.slice none 0 0, .slice none 0 0, .slice none 0 0, .slice none 0 0] 34)).cell? ⟨w.heap.size + 1, 3, none⟩ = some (.slice Aa1_3 na1_3 ca1_3) := ⟨(S.at_ 3 rfl).cell 0, (S.at_ 3 rfl).cell 1, (S.at_ 3 rfl).cell 2, (S.at_ 3 rfl).cell 3, (S.at_ 2 rfl).cell 0, (S.at_ 2 rfl).cell 1, (S.at_ 2 rfl).cell 2, (S.at_ 2 rfl).cell 3⟩
      refine hK _ _ (fun _ => HF) ?_
      clear hK K
      try simp only [Act.put]
      generalize hw : w55.alloc (.cells #[.slice none 0 0, .slice none 0 0, .slice none 0 0, .slice none 0 0] 34) = w56 at *
      clear hw
      refine wpAnyL_step (i := 3) (by kernel_rfl) rfl rfl ?_
      intro K hK
      go_simp
      refine (toHead_made _ _ _ _ d1 _ ((h1.keep c).up c.size) hz1).mono ?_
      rintro e w57 ⟨xs1_0, xs1_1, xs1_2, As1_3, ns1_3, cs1_3, rfl, o, b⟩
      obtain ⟨fp_Os1, S'⟩ := S.has b o c.size
      replace c := c.trans (b.mono c.size)
      clear S; have S := S'; clear S' o b
      clear HF
      have HF : w57.cell? ⟨w.heap.size, 0, none⟩ = some (.slice Aa0_0 na0_0 ca0_0) ∧ w57.cell? ⟨w.heap.size, 1, none⟩ = some (.slice Aa0_1 na0_1 ca0_1) ∧ w57.cell? ⟨w.heap.size, 2, none⟩ = some (.slice Aa0_2 na0_2 ca0_2) ∧ w57.cell? ⟨w.heap.size, 3, none⟩ = some (.slice Aa0_3 na0_3 ca0_3) ∧ w57.cell? ⟨w.heap.size + 1, 0, none⟩ = some (.int .i64 xa1_0) ∧ w57.cell? ⟨w.heap.size + 1, 1, none⟩ = some (.int .i64 xa1_1) ∧ w57.cell? ⟨w.heap.size + 1, 2, none⟩ = some (.int .i64 xa1_2) ∧ w57.cell? ⟨w.heap.size + 1, 3, none⟩ = some (.slice Aa1_3 na1_3 ca1_3) := ⟨(S.at_ 4 rfl).cell 0, (S.at_ 4 rfl).cell 1, (S.at_ 4 rfl).cell 2, (S.at_ 4 rfl).cell 3, (S.at_ 3 rfl).cell 0, (S.at_ 3 rfl).cell 1, (S.at_ 3 rfl).cell 2, (S.at_ 3 rfl).cell 3⟩
      refine hK _ _ (fun _ => HF) ?_
      clear hK K
      try simp only [Act.put]
      refine wpAnyL_step (i := 4) (by kernel_rfl) rfl rfl ?_
      intro K hK
      go_simp
      refine (SP.out _ _ _ _ _ _ _ _ _ _ _ _ d0 _ _ _ _ _ _ d1 _ ((S.own_ 2 rfl).rd) hz0 ((S.own_ 0 rfl).rd) hz1).mono ?_
      rintro e w58 ⟨Aw0_0, nw0_0, cw0_0, Aw0_1, nw0_1, cw0_1, Aw0_2, nw0_2, cw0_2, Aw0_3, nw0_3, cw0_3, rfl, o, b⟩
      obtain ⟨fp_Ow0, S'⟩ := S.has b o c.size
      replace c := c.trans (b.mono c.size)
      clear S; have S := S'; clear S' o b
      clear HF
      have HF : w58.cell? ⟨w.heap.size, 0, none⟩ = some (.slice Aa0_0 na0_0 ca0_0) ∧ w58.cell? ⟨w.heap.size, 1, none⟩ = some (.slice Aa0_1 na0_1 ca0_1) ∧ w58.cell? ⟨w.heap.size, 2, none⟩ = some (.slice Aa0_2 na0_2 ca0_2) ∧ w58.cell? ⟨w.heap.size, 3, none⟩ = some (.slice Aa0_3 na0_3 ca0_3) ∧ w58.cell? ⟨w.heap.size + 1, 0, none⟩ = some (.int .i64 xa1_0) ∧ w58.cell? ⟨w.heap.size + 1, 1, none⟩ = some (.int .i64 xa1_1) ∧ w58.cell? ⟨w.heap.size + 1, 2, none⟩ = some (.int .i64 xa1_2) ∧ w58.cell? ⟨w.heap.size + 1, 3, none⟩ = some (.slice Aa1_3 na1_3 ca1_3) := ⟨(S.at_ 5 rfl).cell 0, (S.at_ 5 rfl).cell 1, (S.at_ 5 rfl).cell 2, (S.at_ 5 rfl).cell 3, (S.at_ 4 rfl).cell 0, (S.at_ 4 rfl).cell 1, (S.at_ 4 rfl).cell 2, (S.at_ 4 rfl).cell 3⟩
      refine hK _ _ (fun _ => HF) ?_
      clear hK K
      try simp only [Act.put]
      refine wpAnyL_pure (i := 5) (v := ?_) rfl rfl (by kernel_rfl) (by kernel_rfl) (by kernel_rfl) (fun _ _ _ h => h) HF (Or.inl ⟨by rfl, ?_⟩) ?_
      rotate_left 1
      · (intro v _; go_simp; try with_reducible rfl)
      try simp only [Act.put]
      refine wpAnyL_pure (i := 6) (v := ?_) rfl rfl (by kernel_rfl) (by kernel_rfl) (by kernel_rfl) (fun _ _ _ h => h) HF (Or.inl ⟨by rfl, ?_⟩) ?_
      rotate_left 1
      · (intro v _; go_simp; try with_reducible rfl)
      try simp only [Act.put]
      refine wpAnyL_pure (i := 7) (v := ?_) rfl rfl (by kernel_rfl) (by kernel_rfl) (by kernel_rfl) (fun _ _ _ h => h) HF (Or.inl ⟨by rfl, ?_⟩) ?_
      rotate_left 1
      · (intro v _; go_simp; try with_reducible rfl)
      try simp only [Act.put]
      have f0 := lk S 2 0 rfl rfl
      have f1 := (S.at_ 2 rfl).free 0
      have f2 := lk S 2 1 rfl rfl
      have f3 := (S.at_ 2 rfl).free 1
      have f4 := lk S 2 2 rfl rfl
      have f5 := (S.at_ 2 rfl).free 2
      have f6 := lk S 2 3 rfl rfl
      have f7 := (S.at_ 2 rfl).free 3
      refine wpAnyL_step (i := 9) (by kernel_rfl) rfl rfl ?_
      intro K hK
      go_simp
      replace S := S.put 2 rfl 0 (.slice Aw0_0 nw0_0 cw0_0)
      replace c := st c S (S.base_le 2 rfl)
      replace S := S.put 2 rfl 1 (.slice Aw0_1 nw0_1 cw0_1)
      replace c := st c S (S.base_le 2 rfl)
      replace S := S.put 2 rfl 2 (.slice Aw0_2 nw0_2 cw0_2)
      replace c := st c S (S.base_le 2 rfl)
      replace S := S.put 2 rfl 3 (.slice Aw0_3 nw0_3 cw0_3)
      replace c := st c S (S.base_le 2 rfl)
      clear HF
      have HF : ((((w58.setCell ⟨w55.heap.size, 0, none⟩ (.slice Aw0_0 nw0_0 cw0_0)).setCell ⟨w55.heap.size, 1, none⟩ (.slice Aw0_1 nw0_1 cw0_1)).setCell ⟨w55.heap.size, 2, none⟩ (.slice Aw0_2 nw0_2 cw0_2)).setCell ⟨w55.heap.size, 3, none⟩ (.slice Aw0_3 nw0_3 cw0_3)).cell? ⟨w.heap.size, 0, none⟩ = some (.slice Aa0_0 na0_0 ca0_0) ∧ ((((w58.setCell ⟨w55.heap.size, 0, none⟩ (.slice Aw0_0 nw0_0 cw0_0)).setCell ⟨w55.heap.size, 1, none⟩ (.slice Aw0_1 nw0_1 cw0_1)).setCell ⟨w55.heap.size, 2, none⟩ (.slice Aw0_2 nw0_2 cw0_2)).setCell ⟨w55.heap.size, 3, none⟩ (.slice Aw0_3 nw0_3 cw0_3)).cell? ⟨w.heap.size, 1, none⟩ = some (.slice Aa0_1 na0_1 ca0_1) ∧ ((((w58.setCell ⟨w55.heap.size, 0, none⟩ (.slice Aw0_0 nw0_0 cw0_0)).setCell ⟨w55.heap.size, 1, none⟩ (.slice Aw0_1 nw0_1 cw0_1)).setCell ⟨w55.heap.size, 2, none⟩ (.slice Aw0_2 nw0_2 cw0_2)).setCell ⟨w55.heap.size, 3, none⟩ (.slice Aw0_3 nw0_3 cw0_3)).cell? ⟨w.heap.size, 2, none⟩ = some (.slice Aa0_2 na0_2 ca0_2) ∧ ((((w58.setCell ⟨w55.heap.size, 0, none⟩ (.slice Aw0_0 nw0_0 cw0_0)).setCell ⟨w55.heap.size, 1, none⟩ (.slice Aw0_1 nw0_1 cw0_1)).setCell ⟨w55.heap.size, 2, none⟩ (.slice Aw0_2 nw0_2 cw0_2)).setCell ⟨w55.heap.size, 3, none⟩ (.slice Aw0_3 nw0_3 cw0_3)).cell? ⟨w.heap.size, 3, none⟩ = some (.slice Aa0_3 na0_3 ca0_3) ∧ ((((w58.setCell ⟨w55.heap.size, 0, none⟩ (.slice Aw0_0 nw0_0 cw0_0)).setCell ⟨w55.heap.size, 1, none⟩ (.slice Aw0_1 nw0_1 cw0_1)).setCell ⟨w55.heap.size, 2, none⟩ (.slice Aw0_2 nw0_2 cw0_2)).setCell ⟨w55.heap.size, 3, none⟩ (.slice Aw0_3 nw0_3 cw0_3)).cell? ⟨w.heap.size + 1, 0, none⟩ = some (.int .i64 xa1_0) ∧ ((((w58.setCell ⟨w55.heap.size, 0, none⟩ (.slice Aw0_0 nw0_0 cw0_0)).setCell ⟨w55.heap.size, 1, none⟩ (.slice Aw0_1 nw0_1 cw0_1)).setCell ⟨w55.heap.size, 2, none⟩ (.slice Aw0_2 nw0_2 cw0_2)).setCell ⟨w55.heap.size, 3, none⟩ (.slice Aw0_3 nw0_3 cw0_3)).cell? ⟨w.heap.size + 1, 1, none⟩ = some (.int .i64 xa1_1) ∧ ((((w58.setCell ⟨w55.heap.size, 0, none⟩ (.slice Aw0_0 nw0_0 cw0_0)).setCell ⟨w55.heap.size, 1, none⟩ (.slice Aw0_1 nw0_1 cw0_1)).setCell ⟨w55.heap.size, 2, none⟩ (.slice Aw0_2 nw0_2 cw0_2)).setCell ⟨w55.heap.size, 3, none⟩ (.slice Aw0_3 nw0_3 cw0_3)).cell? ⟨w.heap.size + 1, 2, none⟩ = some (.int .i64 xa1_2) ∧ ((((w58.setCell ⟨w55.heap.size, 0, none⟩ (.slice Aw0_0 nw0_0 cw0_0)).setCell ⟨w55.heap.size, 1, none⟩ (.slice Aw0_1 nw0_1 cw0_1)).setCell ⟨w55.heap.size, 2, none⟩ (.slice Aw0_2 nw0_2 cw0_2)).setCell ⟨w55.heap.size, 3, none⟩ (.slice Aw0_3 nw0_3 cw0_3)).cell? ⟨w.heap.size + 1, 3, none⟩ = some (.slice Aa1_3 na1_3 ca1_3) := ⟨(S.at_ 5 rfl).cell 0, (S.at_ 5 rfl).cell 1, (S.at_ 5 rfl).cell 2, (S.at_ 5 rfl).cell 3, (S.at_ 4 rfl).cell 0, (S.at_ 4 rfl).cell 1, (S.at_ 4 rfl).cell 2, (S.at_ 4 rfl).cell 3⟩
      refine hK _ _ (fun _ => HF) ?_
      clear hK K
      try simp only [Act.put]
      generalize (((w58.setCell ⟨w55.heap.size, 0, none⟩ (.slice Aw0_0 nw0_0 cw0_0)).setCell ⟨w55.heap.size, 1, none⟩ (.slice Aw0_1 nw0_1 cw0_1)).setCell ⟨w55.heap.size, 2, none⟩ (.slice Aw0_2 nw0_2 cw0_2)).setCell ⟨w55.heap.size, 3, none⟩ (.slice Aw0_3 nw0_3 cw0_3) = w59 at *
      clear f0 f1 f2 f3 f4 f5 f6 f7
      refine wpAnyL_step (i := 10) (by kernel_rfl) rfl rfl ?_
      intro K hK
      go_simp
      refine hK _ _ (fun h => nomatch (show true = false from h)) ?_
      clear hK K
      try simp only [Act.put]
      refine wpAnyL_done (by kernel_rfl) ?_ _
      replace S := S.pick 0 rfl
      replace S := S.pick 2 rfl
      replace S := S.sub (.cons_cons _ (.cons_cons _ (.cons _ (.cons _ (.cons_cons _ (.cons_cons _ (List.nil_sublist _)))))))
      go_wp2_with fail
      go_meet
      exact ⟨_, _, _, _, _, _, _, _, _, _, _, _, _, _, rfl, rfl, S, c⟩
  · intro K hK
    go_simp
    replace S := S.boxAt c.size (w54.heap.size) rfl #[.slice none 0 0, .slice none 0 0, .slice none 0 0, .slice none 0 0] 34
    replace c := al c S
    clear HF
    have HF : (w54.alloc (.cells #[.slice none 0 0, .slice none 0 0, .slice none 0 0, .slice none 0 0] 34)).cell? ⟨w.heap.size, 0, none⟩ = some (.slice Aa0_0 na0_0 ca0_0) ∧ (w54.alloc (.cells #[.slice none 0 0, .slice none 0 0, .slice none 0 0, .slice none 0 0] 34)).cell? ⟨w.heap.size, 1, none⟩ = some (.slice Aa0_1 na0_1 ca0_1) ∧ (w54.alloc (.cells #[.slice none 0 0, .slice none 0 0, .slice none 0 0, .slice none 0 0] 34)).cell? ⟨w.heap.size, 2, none⟩ = some (.slice Aa0_2 na0_2 ca0_2) ∧ (w54.alloc (.cells #[.slice none 0 0, .slice none 0 0, .slice none 0 0, .slice none 0 0] 34)).cell? ⟨w.heap.size, 3, none⟩ = some (.slice Aa0_3 na0_3 ca0_3) ∧ (w54.alloc (.cells #[.slice none 0 0, .slice none 0 0, .slice none 0 0, .slice none 0 0] 34)).cell? ⟨w.heap.size + 1, 0, none⟩ = some (.int .i64 xa1_0) ∧ (w54.alloc (.cells #[.slice none 0 0, .slice none 0 0, .slice none 0 0, .slice none 0 0] 34)).cell? ⟨w.heap.size + 1, 1, none⟩ = some (.int .i64 xa1_1) ∧ (w54.alloc (.cells #[.slice none 0 0, .slice none 0 0, .slice none 0 0, .slice none 0 0] 34)).cell? ⟨w.heap.size + 1, 2, none⟩ = some (.int .i64 xa1_2) ∧ (w54.alloc (.cells #[.slice none 0 0, .slice none 0 0, .slice none 0 0, .slice none 0 0] 34)).cell? ⟨w.heap.size + 1, 3, none⟩ = some (.slice Aa1_3 na1_3 ca1_3) := ⟨(S.at_ 2 rfl).cell 0, (S.at_ 2 rfl).cell 1, (S.at_ 2 rfl).cell 2, (S.at_ 2 rfl).cell 3, (S.at_ 1 rfl).cell 0, (S.at_ 1 rfl).cell 1, (S.at_ 1 rfl).cell 2, (S.at_ 1 rfl).cell 3⟩
    refine hK _ _ (fun _ => HF) ?_
    clear hK K
    try simp only [Act.put]
    generalize hw : w54.alloc (.cells #[.slice none 0 0, .slice none 0 0, .slice none 0 0, .slice none 0 0] 34) = w55 at *
    clear hw
    refine wpAnyL_step (i := 1) (by kernel_rfl) rfl rfl ?_
    intro K hK
    go_simp
    refine (toTwo_made _ _ _ _ d0 _ ((h0.keep c).up c.size) hz0).mono ?_
    rintro e w56 ⟨As0_0, ns0_0, cs0_0, As0_1, ns0_1, cs0_1, As0_2, ns0_2, cs0_2, As0_3, ns0_3, cs0_3, rfl, o, b⟩
    obtain ⟨fp_Os0, S'⟩ := S.has b o c.size
    replace c := c.trans (b.mono c.size)
    clear S; have S := S'; clear S' o b
    clear HF
    have HF : w56.cell? ⟨w.heap.size, 0, none⟩ = some (.slice Aa0_0 na0_0 ca0_0) ∧ w56.cell? ⟨w.heap.size, 1, none⟩ = some (.slice Aa0_1 na0_1 ca0_1) ∧ w56.cell? ⟨w.heap.size, 2, none⟩ = some (.slice Aa0_2 na0_2 ca0_2) ∧ w56.cell? ⟨w.heap.size, 3, none⟩ = some (.slice Aa0_3 na0_3 ca0_3) ∧ w56.cell? ⟨w.heap.size + 1, 0, none⟩ = some (.int .i64 xa1_0) ∧ w56.cell? ⟨w.heap.size + 1, 1, none⟩ = some (.int .i64 xa1_1) ∧ w56.cell? ⟨w.heap.size + 1, 2, none⟩ = some (.int .i64 xa1_2) ∧ w56.cell? ⟨w.heap.size + 1, 3, none⟩ = some (.slice Aa1_3 na1_3 ca1_3) := ⟨(S.at_ 3 rfl).cell 0, (S.at_ 3 rfl).cell 1, (S.at_ 3 rfl).cell 2, (S.at_ 3 rfl).cell 3, (S.at_ 2 rfl).cell 0, (S.at_ 2 rfl).cell 1, (S.at_ 2 rfl).cell 2, (S.at_ 2 rfl).cell 3⟩
    refine hK _ _ (fun _ => HF) ?_
    clear hK K
    try simp only [Act.put]
    refine wpAnyL_step (i := 3) (by kernel_rfl) rfl rfl ?_
    intro K hK
    go_simp
    refine (toHead_made _ _ _ _ d1 _ ((h1.keep c).up c.size) hz1).mono ?_
    rintro e w57 ⟨xs1_0, xs1_1, xs1_2, As1_3, ns1_3, cs1_3, rfl, o, b⟩
    obtain ⟨fp_Os1, S'⟩ := S.has b o c.size
    replace c := c.trans (b.mono c.size)
    clear S; have S := S'; clear S' o b
    clear HF
    have HF : w57.cell? ⟨w.heap.size, 0, none⟩ = some (.slice Aa0_0 na0_0 ca0_0) ∧ w57.cell? ⟨w.heap.size, 1, none⟩ = some (.slice Aa0_1 na0_1 ca0_1) ∧ w57.cell? ⟨w.heap.size, 2, none⟩ = some (.slice Aa0_2 na0_2 ca0_2) ∧ w57.cell? ⟨w.heap.size, 3, none⟩ = some (.slice Aa0_3 na0_3 ca0_3) ∧ w57.cell? ⟨w.heap.size + 1, 0, none⟩ = some (.int .i64 xa1_0) ∧ w57.cell? ⟨w.heap.size + 1, 1, none⟩ = some (.int .i64 xa1_1) ∧ w57.cell? ⟨w.heap.size + 1, 2, none⟩ = some (.int .i64 xa1_2) ∧ w57.cell? ⟨w.heap.size + 1, 3, none⟩ = some (.slice Aa1_3 na1_3 ca1_3) := ⟨(S.at_ 4 rfl).cell 0, (S.at_ 4 rfl).cell 1, (S.at_ 4 rfl).cell 2, (S.at_ 4 rfl).cell 3, (S.at_ 3 rfl).cell 0, (S.at_ 3 rfl).cell 1, (S.at_ 3 rfl).cell 2, (S.at_ 3 rfl).cell 3⟩
    refine hK _ _ (fun _ => HF) ?_
    clear hK K
    try simp only [Act.put]
    refine wpAnyL_step (i := 4) (by kernel_rfl) rfl rfl ?_
    intro K hK
    go_simp
    refine (SP.out _ _ _ _ _ _ _ _ _ _ _ _ d0 _ _ _ _ _ _ d1 _ ((S.own_ 1 rfl).rd) hz0 ((S.own_ 0 rfl).rd) hz1).mono ?_
    rintro e w58 ⟨Aw0_0, nw0_0, cw0_0, Aw0_1, nw0_1, cw0_1, Aw0_2, nw0_2, cw0_2, Aw0_3, nw0_3, cw0_3, rfl, o, b⟩
    obtain ⟨fp_Ow0, S'⟩ := S.has b o c.size
    replace c := c.trans (b.mono c.size)
    clear S; have S := S'; clear S' o b
    clear HF
    have HF : w58.cell? ⟨w.heap.size, 0, none⟩ = some (.slice Aa0_0 na0_0 ca0_0) ∧ w58.cell? ⟨w.heap.size, 1, none⟩ = some (.slice Aa0_1 na0_1 ca0_1) ∧ w58.cell? ⟨w.heap.size, 2, none⟩ = some (.slice Aa0_2 na0_2 ca0_2) ∧ w58.cell? ⟨w.heap.size, 3, none⟩ = some (.slice Aa0_3 na0_3 ca0_3) ∧ w58.cell? ⟨w.heap.size + 1, 0, none⟩ = some (.int .i64 xa1_0) ∧ w58.cell? ⟨w.heap.size + 1, 1, none⟩ = some (.int .i64 xa1_1) ∧ w58.cell? ⟨w.heap.size + 1, 2, none⟩ = some (.int .i64 xa1_2) ∧ w58.cell? ⟨w.heap.size + 1, 3, none⟩ = some (.slice Aa1_3 na1_3 ca1_3) := ⟨(S.at_ 5 rfl).cell 0, (S.at_ 5 rfl).cell 1, (S.at_ 5 rfl).cell 2, (S.at_ 5 rfl).cell 3, (S.at_ 4 rfl).cell 0, (S.at_ 4 rfl).cell 1, (S.at_ 4 rfl).cell 2, (S.at_ 4 rfl).cell 3⟩
    refine hK _ _ (fun _ => HF) ?_
    clear hK K
    try simp only [Act.put]
    refine wpAnyL_pure (i := 5) (v := ?_) rfl rfl (by kernel_rfl) (by kernel_rfl) (by kernel_rfl) (fun _ _ _ h => h) HF (Or.inl ⟨by rfl, ?_⟩) ?_
    rotate_left 1
    · (intro v _; go_simp; try with_reducible rfl)
    try simp only [Act.put]
    refine wpAnyL_pure (i := 6) (v := ?_) rfl rfl (by kernel_rfl) (by kernel_rfl) (by kernel_rfl) (fun _ _ _ h => h) HF (Or.inl ⟨by rfl, ?_⟩) ?_
    rotate_left 1
    · (intro v _; go_simp; try with_reducible rfl)
    try simp only [Act.put]
    refine wpAnyL_pure (i := 7) (v := ?_) rfl rfl (by kernel_rfl) (by kernel_rfl) (by kernel_rfl) (fun _ _ _ h => h) HF (Or.inl ⟨by rfl, ?_⟩) ?_
    rotate_left 1
    · (intro v _; go_simp; try with_reducible rfl)
    try simp only [Act.put]
    have f0 := lk S 3 0 rfl rfl
    have f1 := (S.at_ 3 rfl).free 0
    have f2 := lk S 3 1 rfl rfl
    have f3 := (S.at_ 3 rfl).free 1
    have f4 := lk S 3 2 rfl rfl
    have f5 := (S.at_ 3 rfl).free 2
    have f6 := lk S 3 3 rfl rfl
    have f7 := (S.at_ 3 rfl).free 3
    refine wpAnyL_step (i := 9) (by kernel_rfl) rfl rfl ?_
    intro K hK
    go_simp
    replace S := S.put 3 rfl 0 (.slice Aw0_0 nw0_0 cw0_0)
    replace c := st c S (S.base_le 3 rfl)
    replace S := S.put 3 rfl 1 (.slice Aw0_1 nw0_1 cw0_1)
    replace c := st c S (S.base_le 3 rfl)
    replace S := S.put 3 rfl 2 (.slice Aw0_2 nw0_2 cw0_2)
    replace c := st c S (S.base_le 3 rfl)
    replace S := S.put 3 rfl 3 (.slice Aw0_3 nw0_3 cw0_3)
    replace c := st c S (S.base_le 3 rfl)
    clear HF
    have HF : ((((w58.setCell ⟨w54.heap.size, 0, none⟩ (.slice Aw0_0 nw0_0 cw0_0)).setCell ⟨w54.heap.size, 1, none⟩ (.slice Aw0_1 nw0_1 cw0_1)).setCell ⟨w54.heap.size, 2, none⟩ (.slice Aw0_2 nw0_2 cw0_2)).setCell ⟨w54.heap.size, 3, none⟩ (.slice Aw0_3 nw0_3 cw0_3)).cell? ⟨w.heap.size, 0, none⟩ = some (.slice Aa0_0 na0_0 ca0_0) ∧ ((((w58.setCell ⟨w54.heap.size, 0, none⟩ (.slice Aw0_0 nw0_0 cw0_0)).setCell ⟨w54.heap.size, 1, none⟩ (.slice Aw0_1 nw0_1 cw0_1)).setCell ⟨w54.heap.size, 2, none⟩ (.slice Aw0_2 nw0_2 cw0_2)).setCell ⟨w54.heap.size, 3, none⟩ (.slice Aw0_3 nw0_3 cw0_3)).cell? ⟨w.heap.size, 1, none⟩ = some (.slice Aa0_1 na0_1 ca0_1) ∧ ((((w58.setCell ⟨w54.heap.size, 0, none⟩ (.slice Aw0_0 nw0_0 cw0_0)).setCell ⟨w54.heap.size, 1, none⟩ (.slice Aw0_1 nw0_1 cw0_1)).setCell ⟨w54.heap.size, 2, none⟩ (.slice Aw0_2 nw0_2 cw0_2)).setCell ⟨w54.heap.size, 3, none⟩ (.slice Aw0_3 nw0_3 cw0_3)).cell? ⟨w.heap.size, 2, none⟩ = some (.slice Aa0_2 na0_2 ca0_2) ∧ ((((w58.setCell ⟨w54.heap.size, 0, none⟩ (.slice Aw0_0 nw0_0 cw0_0)).setCell ⟨w54.heap.size, 1, none⟩ (.slice Aw0_1 nw0_1 cw0_1)).setCell ⟨w54.heap.size, 2, none⟩ (.slice Aw0_2 nw0_2 cw0_2)).setCell ⟨w54.heap.size, 3, none⟩ (.slice Aw0_3 nw0_3 cw0_3)).cell? ⟨w.heap.size, 3, none⟩ = some (.slice Aa0_3 na0_3 ca0_3) ∧ ((((w58.setCell ⟨w54.heap.size, 0, none⟩ (.slice Aw0_0 nw0_0 cw0_0)).setCell ⟨w54.heap.size, 1, none⟩ (.slice Aw0_1 nw0_1 cw0_1)).setCell ⟨w54.heap.size, 2, none⟩ (.slice Aw0_2 nw0_2 cw0_2)).setCell ⟨w54.heap.size, 3, none⟩ (.slice Aw0_3 nw0_3 cw0_3)).cell? ⟨w.heap.size + 1, 0, none⟩ = some (.int .i64 xa1_0) ∧ ((((w58.setCell ⟨w54.heap.size, 0, none⟩ (.slice Aw0_0 nw0_0 cw0_0)).setCell ⟨w54.heap.size, 1, none⟩ (.slice Aw0_1 nw0_1 cw0_1)).setCell ⟨w54.heap.size, 2, none⟩ (.slice Aw0_2 nw0_2 cw0_2)).setCell ⟨w54.heap.size, 3, none⟩ (.slice Aw0_3 nw0_3 cw0_3)).cell? ⟨w.heap.size + 1, 1, none⟩ = some (.int .i64 xa1_1) ∧ ((((w58.setCell ⟨w54.heap.size, 0, none⟩ (.slice Aw0_0 nw0_0 cw0_0)).setCell ⟨w54.heap.size, 1, none⟩ (.slice Aw0_1 nw0_1 cw0_1)).setCell ⟨w54.heap.size, 2, none⟩ (.slice Aw0_2 nw0_2 cw0_2)).setCell ⟨w54.heap.size, 3, none⟩ (.slice Aw0_3 nw0_3 cw0_3)).cell? ⟨w.heap.size + 1, 2, none⟩ = some (.int .i64 xa1_2) ∧ ((((w58.setCell ⟨w54.heap.size, 0, none⟩ (.slice Aw0_0 nw0_0 cw0_0)).setCell ⟨w54.heap.size, 1, none⟩ (.slice Aw0_1 nw0_1 cw0_1)).setCell ⟨w54.heap.size, 2, none⟩ (.slice Aw0_2 nw0_2 cw0_2)).setCell ⟨w54.heap.size, 3, none⟩ (.slice Aw0_3 nw0_3 cw0_3)).cell? ⟨w.heap.size + 1, 3, none⟩ = some (.slice Aa1_3 na1_3 ca1_3) := ⟨(S.at_ 5 rfl).cell 0, (S.at_ 5 rfl).cell 1, (S.at_ 5 rfl).cell 2, (S.at_ 5 rfl).cell 3, (S.at_ 4 rfl).cell 0, (S.at_ 4 rfl).cell 1, (S.at_ 4 rfl).cell 2, (S.at_ 4 rfl).cell 3⟩
    refine hK _ _ (fun _ => HF) ?_
    clear hK K
    try simp only [Act.put]
    generalize (((w58.setCell ⟨w54.heap.size, 0, none⟩ (.slice Aw0_0 nw0_0 cw0_0)).setCell ⟨w54.heap.size, 1, none⟩ (.slice Aw0_1 nw0_1 cw0_1)).setCell ⟨w54.heap.size, 2, none⟩ (.slice Aw0_2 nw0_2 cw0_2)).setCell ⟨w54.heap.size, 3, none⟩ (.slice Aw0_3 nw0_3 cw0_3) = w59 at *
    clear f0 f1 f2 f3 f4 f5 f6 f7
    refine wpAnyL_step (i := 10) (by kernel_rfl) rfl rfl ?_
    intro K hK
    go_simp
    refine hK _ _ (fun h => nomatch (show true = false from h)) ?_
    clear hK K
    try simp only [Act.put]
    refine wpAnyL_done (by kernel_rfl) ?_ _
    replace S := S.pick 0 rfl
    replace S := S.pick 3 rfl
    replace S := S.sub (.cons_cons _ (.cons_cons _ (.cons _ (.cons _ (.cons_cons _ (.cons_cons _ (List.nil_sublist _)))))))
    go_wp2_with fail
    go_meet
    exact ⟨_, _, _, _, _, _, _, _, _, _, _, _, _, _, rfl, rfl, S, c⟩
 obtain ⟨pw0, Aw0_0, nw0_0, cw0_0, Aw0_1, nw0_1, cw0_1, Aw0_2, nw0_2, cw0_2, Aw0_3, nw0_3, cw0_3, fp_w0, rfl, rfl, S, c⟩ := hcut
 clear SH CH f0 f1 f2 f3 f4 f5 f6 f7
 generalize wc = w4 at *
 rw [← HFX0.out] at S
 rw [← HFX1.out]
 have f0 := lk S 3 0 rfl rfl
 have f1 := lk S 3 1 rfl rfl
 have f2 := lk S 3 2 rfl rfl
 have f3 := lk S 3 3 rfl rfl
 go_wp2_with fail
 refine (toTwo_made _ _ _ _ d0 _ ((h0.keep c).up c.size) hz0).mono ?_
 rintro e w5 ⟨Ax0_0, nx0_0, cx0_0, Ax0_1, nx0_1, cx0_1, Ax0_2, nx0_2, cx0_2, Ax0_3, nx0_3, cx0_3, rfl, o, b⟩
 obtain ⟨fp_x0, S'⟩ := S.has b o c.size
 replace c := c.trans (b.mono c.size)
 clear S; have S := S'; clear S' o b f0 f1 f2 f3
 replace S := S.box c.size #[.slice Ax0_0 nx0_0 cx0_0, .slice Ax0_1 nx0_1 cx0_1, .slice Ax0_2 nx0_2 cx0_2, .slice Ax0_3 nx0_3 cx0_3] 34
 replace c := al c S
 have f0 := lk S 4 0 rfl rfl
 have f1 := lk S 4 1 rfl rfl
 have f2 := lk S 4 2 rfl rfl
 have f3 := lk S 4 3 rfl rfl
 go_wp2_with fail
 generalize w5.alloc (.cells #[.slice Ax0_0 nx0_0 cx0_0, .slice Ax0_1 nx0_1 cx0_1, .slice Ax0_2 nx0_2 cx0_2, .slice Ax0_3 nx0_3 cx0_3] 34) = w6 at *
 refine (toHead_made _ _ _ _ d1 _ ((h1.keep c).up c.size) hz1).mono ?_
 rintro e w7 ⟨xx1_0, xx1_1, xx1_2, Ax1_3, nx1_3, cx1_3, rfl, o, b⟩
 obtain ⟨fp_x1, S'⟩ := S.has b o c.size
 replace c := c.trans (b.mono c.size)
 clear S; have S := S'; clear S' o b f0 f1 f2 f3
 replace S := S.box c.size #[.int .i64 xx1_0, .int .i64 xx1_1, .int .i64 xx1_2, .slice Ax1_3 nx1_3 cx1_3] 59
 replace c := al c S
 have f0 := lk S 2 0 rfl rfl
 have f1 := lk S 2 1 rfl rfl
 have f2 := lk S 2 2 rfl rfl
 have f3 := lk S 2 3 rfl rfl
 go_wp2_with fail
 generalize w7.alloc (.cells #[.int .i64 xx1_0, .int .i64 xx1_1, .int .i64 xx1_2, .slice Ax1_3 nx1_3 cx1_3] 59) = w8 at *
 refine (IM.out _ _ _ _ _ _ _ _ _ _ _ _ d0 _ _ _ _ _ _ d1 _ ((S.own_ 3 rfl).rd) hz0 ((S.own_ 1 rfl).rd) hz1).mono ?_
 rintro e w9 ⟨Ag0_0, ng0_0, cg0_0, Ag0_1, ng0_1, cg0_1, Ag0_2, ng0_2, cg0_2, Ag0_3, ng0_3, cg0_3, rfl, o, b⟩
 obtain ⟨fp_g0, S'⟩ := S.has b o c.size
 replace c := c.trans (b.mono c.size)
 clear S; have S := S'; clear S' o b f0 f1 f2 f3
 rw [← HFX0.out] at S
 rw [← HFX1.out]
 replace S := S.box c.size #[.slice Ag0_0 ng0_0 cg0_0, .slice Ag0_1 ng0_1 cg0_1, .slice Ag0_2 ng0_2 cg0_2, .slice Ag0_3 ng0_3 cg0_3] 34
 replace c := al c S
 have f0 := lk S 0 0 rfl rfl
 have f1 := lk S 0 1 rfl rfl
 have f2 := lk S 0 2 rfl rfl
 have f3 := lk S 0 3 rfl rfl
 have f4 := lk S 6 0 rfl rfl
 have f5 := lk S 6 1 rfl rfl
 have f6 := lk S 6 2 rfl rfl
 have f7 := lk S 6 3 rfl rfl
 go_wp2_with fail
 generalize w9.alloc (.cells #[.slice Ag0_0 ng0_0 cg0_0, .slice Ag0_1 ng0_1 cg0_1, .slice Ag0_2 ng0_2 cg0_2, .slice Ag0_3 ng0_3 cg0_3] 34) = w10 at *
 refine (eqTwo_yes _ _ _ _ _ _ _ _ _ _ fx0 _ ((S.own_ 1 rfl).rd) ((S.own_ 7 rfl).rd) (Nat.le_refl _) (Nat.le_refl _) hfz0).mono ?_
 rintro e w11 ⟨rfl, b⟩
 replace c := c.trans (b.mono c.size)
 replace S := S.keep b
 clear b f0 f1 f2 f3 f4 f5 f6 f7
 have f0 := lk S 4 0 rfl rfl
 have f1 := lk S 4 1 rfl rfl
 have f2 := lk S 4 2 rfl rfl
 have f3 := lk S 4 3 rfl rfl
 have f4 := lk S 9 0 rfl rfl
 have f5 := lk S 9 1 rfl rfl
 have f6 := lk S 9 2 rfl rfl
 have f7 := lk S 9 3 rfl rfl
 have SH := jd S
 have CH := jd c
 clear S c
 go_wp2_with fail
 go_region_held3 (fun v => v.cell? ⟨w5.heap.size, 0, none⟩ = some (.slice Ax0_0 nx0_0 cx0_0) ∧ v.cell? ⟨w5.heap.size, 1, none⟩ = some (.slice Ax0_1 nx0_1 cx0_1) ∧ v.cell? ⟨w5.heap.size, 2, none⟩ = some (.slice Ax0_2 nx0_2 cx0_2) ∧ v.cell? ⟨w5.heap.size, 3, none⟩ = some (.slice Ax0_3 nx0_3 cx0_3) ∧ v.cell? ⟨w.heap.size, 0, none⟩ = some (.slice Aa0_0 na0_0 ca0_0) ∧ v.cell? ⟨w.heap.size, 1, none⟩ = some (.slice Aa0_1 na0_1 ca0_1) ∧ v.cell? ⟨w.heap.size, 2, none⟩ = some (.slice Aa0_2 na0_2 ca0_2) ∧ v.cell? ⟨w.heap.size, 3, none⟩ = some (.slice Aa0_3 na0_3 ca0_3)) (go_keep)
  (first
   | (go_at_call 10
      refine (toTwo_made _ _ _ _ d0 _ ((h0.keep CH.out.drew).up CH.out.size) hz0).mono ?_
      rintro e w12 ⟨Az0_0, nz0_0, cz0_0, Az0_1, nz0_1, cz0_1, Az0_2, nz0_2, cz0_2, Az0_3, nz0_3, cz0_3, rfl, o, b⟩
      have S1 := (SH.out.keep ((Below.refl _ _).drew)).keep b
      have g0 : (w12).cell? ⟨w5.heap.size, 0, none⟩ = some (.slice Ax0_0 nx0_0 cx0_0) := (S1.at_ 4 rfl).cell 0
      have g1 : (w12).cell? ⟨w5.heap.size, 1, none⟩ = some (.slice Ax0_1 nx0_1 cx0_1) := (S1.at_ 4 rfl).cell 1
      have g2 : (w12).cell? ⟨w5.heap.size, 2, none⟩ = some (.slice Ax0_2 nx0_2 cx0_2) := (S1.at_ 4 rfl).cell 2
      have g3 : (w12).cell? ⟨w5.heap.size, 3, none⟩ = some (.slice Ax0_3 nx0_3 cx0_3) := (S1.at_ 4 rfl).cell 3
      have g4 : (w12).cell? ⟨w.heap.size, 0, none⟩ = some (.slice Aa0_0 na0_0 ca0_0) := (S1.at_ 9 rfl).cell 0
      have g5 : (w12).cell? ⟨w.heap.size, 1, none⟩ = some (.slice Aa0_1 na0_1 ca0_1) := (S1.at_ 9 rfl).cell 1
      have g6 : (w12).cell? ⟨w.heap.size, 2, none⟩ = some (.slice Aa0_2 na0_2 ca0_2) := (S1.at_ 9 rfl).cell 2
      have g7 : (w12).cell? ⟨w.heap.size, 3, none⟩ = some (.slice Aa0_3 na0_3 ca0_3) := (S1.at_ 9 rfl).cell 3
      have O1 := jd o
      have B1 := jd b
      clear S1 o b)
   | (go_at_call 12
      refine (eqTwo_yes _ _ _ _ _ _ _ _ _ _ d0 _ ((((SH.out.keep ((Below.refl _ _).drew)).keep B1.out).own_ 5 rfl).rd) (O1.out.rd) (Nat.le_refl _) (Nat.le_refl _) (by omega)).mono ?_
      rintro e w13 ⟨rfl, b⟩
      have S3 := ((SH.out.keep ((Below.refl _ _).drew)).keep B1.out).keep b
      have r0 : (w13).cell? ⟨w5.heap.size, 0, none⟩ = some (.slice Ax0_0 nx0_0 cx0_0) := (S3.at_ 4 rfl).cell 0
      have r1 : (w13).cell? ⟨w5.heap.size, 1, none⟩ = some (.slice Ax0_1 nx0_1 cx0_1) := (S3.at_ 4 rfl).cell 1
      have r2 : (w13).cell? ⟨w5.heap.size, 2, none⟩ = some (.slice Ax0_2 nx0_2 cx0_2) := (S3.at_ 4 rfl).cell 2
      have r3 : (w13).cell? ⟨w5.heap.size, 3, none⟩ = some (.slice Ax0_3 nx0_3 cx0_3) := (S3.at_ 4 rfl).cell 3
      have r4 : (w13).cell? ⟨w.heap.size, 0, none⟩ = some (.slice Aa0_0 na0_0 ca0_0) := (S3.at_ 9 rfl).cell 0
      have r5 : (w13).cell? ⟨w.heap.size, 1, none⟩ = some (.slice Aa0_1 na0_1 ca0_1) := (S3.at_ 9 rfl).cell 1
      have r6 : (w13).cell? ⟨w.heap.size, 2, none⟩ = some (.slice Aa0_2 na0_2 ca0_2) := (S3.at_ 9 rfl).cell 2
      have r7 : (w13).cell? ⟨w.heap.size, 3, none⟩ = some (.slice Aa0_3 na0_3 ca0_3) := (S3.at_ 9 rfl).cell 3
      have S2 := jd S3
      have C2 := jd ((CH.out.drew.trans (B1.out.mono CH.out.size)).trans (b.mono (CH.out.drew.trans (B1.out.mono CH.out.size)).size))
      clear b S3))
 have S := S2.out
 have c := C2.out
 clear SH CH S2 C2 O1 B1 f0 g0 r0 f1 g1 r1 f2 g2 r2 f3 g3 r3 f4 g4 r4 f5 g5 r5 f6 g6 r6 f7 g7 r7
 have f0 := lk S 2 0 rfl rfl
 have f1 := lk S 2 1 rfl rfl
 have f2 := lk S 2 2 rfl rfl
 have f3 := lk S 2 3 rfl rfl
 have f4 := lk S 8 0 rfl rfl
 have f5 := lk S 8 1 rfl rfl
 have f6 := lk S 8 2 rfl rfl
 have f7 := lk S 8 3 rfl rfl
 have SH := jd S
 have CH := jd c
 clear S c
 go_wp2_with fail
 go_region_held3 (fun v => v.cell? ⟨w7.heap.size, 0, none⟩ = some (.int .i64 xx1_0) ∧ v.cell? ⟨w7.heap.size, 1, none⟩ = some (.int .i64 xx1_1) ∧ v.cell? ⟨w7.heap.size, 2, none⟩ = some (.int .i64 xx1_2) ∧ v.cell? ⟨w7.heap.size, 3, none⟩ = some (.slice Ax1_3 nx1_3 cx1_3) ∧ v.cell? ⟨w.heap.size + 1, 0, none⟩ = some (.int .i64 xa1_0) ∧ v.cell? ⟨w.heap.size + 1, 1, none⟩ = some (.int .i64 xa1_1) ∧ v.cell? ⟨w.heap.size + 1, 2, none⟩ = some (.int .i64 xa1_2) ∧ v.cell? ⟨w.heap.size + 1, 3, none⟩ = some (.slice Aa1_3 na1_3 ca1_3)) (go_keep)
  (first
   | (go_at_call 22
      refine (toHead_made _ _ _ _ d1 _ ((h1.keep CH.out.drew).up CH.out.size) hz1).mono ?_
      rintro e w14 ⟨xz1_0, xz1_1, xz1_2, Az1_3, nz1_3, cz1_3, rfl, o, b⟩
      have S1 := (SH.out.keep ((Below.refl _ _).drew)).keep b
      have g0 : (w14).cell? ⟨w7.heap.size, 0, none⟩ = some (.int .i64 xx1_0) := (S1.at_ 2 rfl).cell 0
      have g1 : (w14).cell? ⟨w7.heap.size, 1, none⟩ = some (.int .i64 xx1_1) := (S1.at_ 2 rfl).cell 1
      have g2 : (w14).cell? ⟨w7.heap.size, 2, none⟩ = some (.int .i64 xx1_2) := (S1.at_ 2 rfl).cell 2
      have g3 : (w14).cell? ⟨w7.heap.size, 3, none⟩ = some (.slice Ax1_3 nx1_3 cx1_3) := (S1.at_ 2 rfl).cell 3
      have g4 : (w14).cell? ⟨w.heap.size + 1, 0, none⟩ = some (.int .i64 xa1_0) := (S1.at_ 8 rfl).cell 0
      have g5 : (w14).cell? ⟨w.heap.size + 1, 1, none⟩ = some (.int .i64 xa1_1) := (S1.at_ 8 rfl).cell 1
      have g6 : (w14).cell? ⟨w.heap.size + 1, 2, none⟩ = some (.int .i64 xa1_2) := (S1.at_ 8 rfl).cell 2
      have g7 : (w14).cell? ⟨w.heap.size + 1, 3, none⟩ = some (.slice Aa1_3 na1_3 ca1_3) := (S1.at_ 8 rfl).cell 3
      have O1 := jd o
      have B1 := jd b
      clear S1 o b)
   | (go_at_call 24
      refine (eqHead_yes _ _ _ _ _ _ _ _ _ _ d1 _ ((((SH.out.keep ((Below.refl _ _).drew)).keep B1.out).own_ 3 rfl).rd) (O1.out.rd) (Nat.le_refl _) (Nat.le_refl _) (by omega)).mono ?_
      rintro e w15 ⟨rfl, b⟩
      have S3 := ((SH.out.keep ((Below.refl _ _).drew)).keep B1.out).keep b
      have r0 : (w15).cell? ⟨w7.heap.size, 0, none⟩ = some (.int .i64 xx1_0) := (S3.at_ 2 rfl).cell 0
      have r1 : (w15).cell? ⟨w7.heap.size, 1, none⟩ = some (.int .i64 xx1_1) := (S3.at_ 2 rfl).cell 1
      have r2 : (w15).cell? ⟨w7.heap.size, 2, none⟩ = some (.int .i64 xx1_2) := (S3.at_ 2 rfl).cell 2
      have r3 : (w15).cell? ⟨w7.heap.size, 3, none⟩ = some (.slice Ax1_3 nx1_3 cx1_3) := (S3.at_ 2 rfl).cell 3
      have r4 : (w15).cell? ⟨w.heap.size + 1, 0, none⟩ = some (.int .i64 xa1_0) := (S3.at_ 8 rfl).cell 0
      have r5 : (w15).cell? ⟨w.heap.size + 1, 1, none⟩ = some (.int .i64 xa1_1) := (S3.at_ 8 rfl).cell 1
      have r6 : (w15).cell? ⟨w.heap.size + 1, 2, none⟩ = some (.int .i64 xa1_2) := (S3.at_ 8 rfl).cell 2
      have r7 : (w15).cell? ⟨w.heap.size + 1, 3, none⟩ = some (.slice Aa1_3 na1_3 ca1_3) := (S3.at_ 8 rfl).cell 3
      have S2 := jd S3
      have C2 := jd ((CH.out.drew.trans (B1.out.mono CH.out.size)).trans (b.mono (CH.out.drew.trans (B1.out.mono CH.out.size)).size))
      clear b S3))
 have S := S2.out
 have c := C2.out
 clear SH CH S2 C2 O1 B1 f0 g0 r0 f1 g1 r1 f2 g2 r2 f3 g3 r3 f4 g4 r4 f5 g5 r5 f6 g6 r6 f7 g7 r7
 have f0 := lk S 4 0 rfl rfl
 have f1 := lk S 4 1 rfl rfl
 have f2 := lk S 4 2 rfl rfl
 have f3 := lk S 4 3 rfl rfl
 go_wp2_with fail
 refine (markTwo_any _ _ _ _ d0 _ _ (S.own_ 5 rfl) (S.nodup_own 5 rfl) (by omega) (1) (by omega) (by omega)).mono ?_
 rintro e w16 ⟨m0, rfl, o, t, mk_x0, en_x0, es_x0⟩
 have b := S.below 5 rfl t c.size
 have S' := S.mark 5 rfl t o
 replace c := c.trans b
 clear S; have S := S'; clear S' o t b f0 f1 f2 f3
 have nb0 : d0.n ≤ 2097154 := by
  first | omega | exact two_n_le _ (by omega)
 have f0 := lk S 2 0 rfl rfl
 have f1 := lk S 2 1 rfl rfl
 have f2 := lk S 2 2 rfl rfl
 have f3 := lk S 2 3 rfl rfl
 go_wp2_with fail
 refine (markHead_any _ _ _ _ d1 _ _ (S.own_ 3 rfl) (S.nodup_own 3 rfl) (by omega) (1 + (d0.n : Int)) (by omega) (by omega)).mono ?_
 rintro e w17 ⟨m1, rfl, o, t, mk_x1, en_x1, es_x1⟩
 have b := S.below 3 rfl t c.size
 have S' := S.mark 3 rfl t o
 replace c := c.trans b
 clear S; have S := S'; clear S' o t b f0 f1 f2 f3
 have nb1 : d1.n ≤ 9437193 := by
  first | omega | exact head_n_le _ (by omega)
 have qk : ¬ (1 + (d0.n : Int) + (d1.n : Int) < 0) := by omega
 have f0 := lk S 0 0 rfl rfl
 have f1 := lk S 0 1 rfl rfl
 have f2 := lk S 0 2 rfl rfl
 have f3 := lk S 0 3 rfl rfl
 have f4 := lk S 6 0 rfl rfl
 have f5 := lk S 6 1 rfl rfl
 have f6 := lk S 6 2 rfl rfl
 have f7 := lk S 6 3 rfl rfl
 go_wp2_with fail
 refine (eqTwo_yes _ _ _ _ _ _ _ _ _ _ fx0 _ ((S.own_ 1 rfl).rd) ((S.own_ 7 rfl).rd) (Nat.le_refl _) (Nat.le_refl _) hfz0).mono ?_
 rintro e w18 ⟨rfl, b⟩
 replace c := c.trans (b.mono c.size)
 replace S := S.keep b
 clear b f0 f1 f2 f3 f4 f5 f6 f7
 have nr0 : fx0.n ≤ 2097154 := by
  first | omega | exact two_n_le _ (by omega)
 have f0 := lk S 0 0 rfl rfl
 have f1 := lk S 0 1 rfl rfl
 have f2 := lk S 0 2 rfl rfl
 have f3 := lk S 0 3 rfl rfl
 go_wp2_with fail
 refine (markTwo_any _ _ _ _ fx0 _ _ (S.own_ 1 rfl) (S.nodup_own 1 rfl) hfz0 (1) (by omega) (by omega)).mono ?_
 rintro e w19 ⟨e0, rfl, o, t, mk_g0, en_g0, es_g0⟩
 have b := S.below 1 rfl t c.size
 have S' := S.mark 1 rfl t o
 replace c := c.trans b
 clear S; have S := S'; clear S' o t b f0 f1 f2 f3
 have f0 := lk S 0 0 rfl rfl
 have f1 := lk S 0 1 rfl rfl
 have f2 := lk S 0 2 rfl rfl
 have f3 := lk S 0 3 rfl rfl
 go_wp2_with fail
 refine (heldTwo_any _ _ _ _ e0 _ _ ((S.own_ 1 rfl).rd) (Nat.le_refl _) (by omega) (1) (by omega) (by omega) mk_g0).mono ?_
 rintro e w20 ⟨rfl, b⟩
 rw [en_g0]
 have q20 : ¬ (1 + (fx0.n : Int) < 0) := by omega
 replace c := c.trans (b.mono c.size)
 replace S := S.keep b
 clear b f0 f1 f2 f3
 have f0 := lk S 9 0 rfl rfl
 have f1 := lk S 9 1 rfl rfl
 have f2 := lk S 9 2 rfl rfl
 have f3 := lk S 9 3 rfl rfl
 have f4 := lk S 8 0 rfl rfl
 have f5 := lk S 8 1 rfl rfl
 have f6 := lk S 8 2 rfl rfl
 have f7 := lk S 8 3 rfl rfl
 have SH := jd S
 have CH := jd c
 clear S c
 go_wp2_with fail
 go_cut [15, 16] (fun s0 s1 wx => ∃ (ph0 : Nat) (Ah0_0 : Option Addr) (nh0_0 ch0_0 : Nat) (Ah0_1 : Option Addr) (nh0_1 ch0_1 : Nat) (Ah0_2 : Option Addr) (nh0_2 ch0_2 : Nat) (Ah0_3 : Option Addr) (nh0_3 ch0_3 : Nat) (fp_h0 : List Nat), s0 = .pointer (some ⟨ph0, 0, none⟩) ∧ s1 = .bool ((f d0 d1).2) ∧ Sep wx w.heap.size [.blk ph0 #[.slice Ah0_0 nh0_0 ch0_0, .slice Ah0_1 nh0_1 ch0_1, .slice Ah0_2 nh0_2 ch0_2, .slice Ah0_3 nh0_3 ch0_3] 34, .own (((f d0 d1).1).cells) [.slice Ah0_0 nh0_0 ch0_0, .slice Ah0_1 nh0_1 ch0_1, .slice Ah0_2 nh0_2 ch0_2, .slice Ah0_3 nh0_3 ch0_3] fp_h0, .blk (w9.heap.size) #[.slice Ag0_0 ng0_0 cg0_0, .slice Ag0_1 ng0_1 cg0_1, .slice Ag0_2 ng0_2 cg0_2, .slice Ag0_3 ng0_3 cg0_3] 34, .own (e0.cells) [.slice Ag0_0 ng0_0 cg0_0, .slice Ag0_1 ng0_1 cg0_1, .slice Ag0_2 ng0_2 cg0_2, .slice Ag0_3 ng0_3 cg0_3] fp_g0, .blk (pw0) #[.slice Aw0_0 nw0_0 cw0_0, .slice Aw0_1 nw0_1 cw0_1, .slice Aw0_2 nw0_2 cw0_2, .slice Aw0_3 nw0_3 cw0_3] 34, .own (fx0.cells) [.slice Aw0_0 nw0_0 cw0_0, .slice Aw0_1 nw0_1 cw0_1, .slice Aw0_2 nw0_2 cw0_2, .slice Aw0_3 nw0_3 cw0_3] fp_w0] ∧ Below w.heap.size w wx)
 case first =>
  have S := SH.out
  have c := CH.out
  refine wp_region_L (fun v => v.cell? ⟨w.heap.size, 0, none⟩ = some (.slice Aa0_0 na0_0 ca0_0) ∧ v.cell? ⟨w.heap.size, 1, none⟩ = some (.slice Aa0_1 na0_1 ca0_1) ∧ v.cell? ⟨w.heap.size, 2, none⟩ = some (.slice Aa0_2 na0_2 ca0_2) ∧ v.cell? ⟨w.heap.size, 3, none⟩ = some (.slice Aa0_3 na0_3 ca0_3) ∧ v.cell? ⟨w.heap.size + 1, 0, none⟩ = some (.int .i64 xa1_0) ∧ v.cell? ⟨w.heap.size + 1, 1, none⟩ = some (.int .i64 xa1_1) ∧ v.cell? ⟨w.heap.size + 1, 2, none⟩ = some (.int .i64 xa1_2) ∧ v.cell? ⟨w.heap.size + 1, 3, none⟩ = some (.slice Aa1_3 na1_3 ca1_3)) 10 (by kernel_rfl) ?_
  clear f0 f1 f2 f3 f4 f5 f6 f7 SH CH
  replace S := S.keep ((Below.refl _ _).drew)
  replace c := c.drew
  generalize w20.drew = w71 at *
  have HF : w71.cell? ⟨w.heap.size, 0, none⟩ = some (.slice Aa0_0 na0_0 ca0_0) ∧ w71.cell? ⟨w.heap.size, 1, none⟩ = some (.slice Aa0_1 na0_1 ca0_1) ∧ w71.cell? ⟨w.heap.size, 2, none⟩ = some (.slice Aa0_2 na0_2 ca0_2) ∧ w71.cell? ⟨w.heap.size, 3, none⟩ = some (.slice Aa0_3 na0_3 ca0_3) ∧ w71.cell? ⟨w.heap.size + 1, 0, none⟩ = some (.int .i64 xa1_0) ∧ w71.cell? ⟨w.heap.size + 1, 1, none⟩ = some (.int .i64 xa1_1) ∧ w71.cell? ⟨w.heap.size + 1, 2, none⟩ = some (.int .i64 xa1_2) ∧ w71.cell? ⟨w.heap.size + 1, 3, none⟩ = some (.slice Aa1_3 na1_3 ca1_3) := ⟨(S.at_ 9 rfl).cell 0, (S.at_ 9 rfl).cell 1, (S.at_ 9 rfl).cell 2, (S.at_ 9 rfl).cell 3, (S.at_ 8 rfl).cell 0, (S.at_ 8 rfl).cell 1, (S.at_ 8 rfl).cell 2, (S.at_ 8 rfl).cell 3⟩
  refine tk 0 (v := ?_) rfl rfl HF (.inl ⟨by rfl, ?_⟩) ?_
  rotate_left 1
  · (rintro v ⟨a0, a1, a2, a3, a4, a5, a6, a7⟩; go_simp; try with_reducible rfl)
  try simp only [Act.put]
  refine tk 2 (v := ?_) rfl rfl HF (.inl ⟨by rfl, ?_⟩) ?_
  rotate_left 1
  · (rintro v ⟨a0, a1, a2, a3, a4, a5, a6, a7⟩; go_simp; try with_reducible rfl)
  try simp only [Act.put]
  refine wpAnyL_two (i := 1) (k := 8) (by kernel_rfl) rfl rfl rfl rfl ?_ ?_
  · intro K hK
    go_simp
    refine (toTwo_made _ _ _ _ d0 _ ((h0.keep c).up c.size) hz0).mono ?_
    rintro e w72 ⟨At0_0, nt0_0, ct0_0, At0_1, nt0_1, ct0_1, At0_2, nt0_2, ct0_2, At0_3, nt0_3, ct0_3, rfl, o, b⟩
    obtain ⟨fp_Ot0, S'⟩ := S.has b o c.size
    replace c := c.trans (b.mono c.size)
    clear S; have S := S'; clear S' o b
    clear HF
    have HF : w72.cell? ⟨w.heap.size, 0, none⟩ = some (.slice Aa0_0 na0_0 ca0_0) ∧ w72.cell? ⟨w.heap.size, 1, none⟩ = some (.slice Aa0_1 na0_1 ca0_1) ∧ w72.cell? ⟨w.heap.size, 2, none⟩ = some (.slice Aa0_2 na0_2 ca0_2) ∧ w72.cell? ⟨w.heap.size, 3, none⟩ = some (.slice Aa0_3 na0_3 ca0_3) ∧ w72.cell? ⟨w.heap.size + 1, 0, none⟩ = some (.int .i64 xa1_0) ∧ w72.cell? ⟨w.heap.size + 1, 1, none⟩ = some (.int .i64 xa1_1) ∧ w72.cell? ⟨w.heap.size + 1, 2, none⟩ = some (.int .i64 xa1_2) ∧ w72.cell? ⟨w.heap.size + 1, 3, none⟩ = some (.slice Aa1_3 na1_3 ca1_3) := ⟨(S.at_ 10 rfl).cell 0, (S.at_ 10 rfl).cell 1, (S.at_ 10 rfl).cell 2, (S.at_ 10 rfl).cell 3, (S.at_ 9 rfl).cell 0, (S.at_ 9 rfl).cell 1, (S.at_ 9 rfl).cell 2, (S.at_ 9 rfl).cell 3⟩
    refine hK _ _ (fun _ => HF) ?_
    clear hK K
    try simp only [Act.put]
    refine wpAnyL_two (i := 3) (k := 8) (by kernel_rfl) rfl rfl rfl rfl ?_ ?_
    · intro K hK
      go_simp
      refine (toHead_made _ _ _ _ d1 _ ((h1.keep c).up c.size) hz1).mono ?_
      rintro e w73 ⟨xt1_0, xt1_1, xt1_2, At1_3, nt1_3, ct1_3, rfl, o, b⟩
      obtain ⟨fp_Ot1, S'⟩ := S.has b o c.size
      replace c := c.trans (b.mono c.size)
      clear S; have S := S'; clear S' o b
      clear HF
      have HF : w73.cell? ⟨w.heap.size, 0, none⟩ = some (.slice Aa0_0 na0_0 ca0_0) ∧ w73.cell? ⟨w.heap.size, 1, none⟩ = some (.slice Aa0_1 na0_1 ca0_1) ∧ w73.cell? ⟨w.heap.size, 2, none⟩ = some (.slice Aa0_2 na0_2 ca0_2) ∧ w73.cell? ⟨w.heap.size, 3, none⟩ = some (.slice Aa0_3 na0_3 ca0_3) ∧ w73.cell? ⟨w.heap.size + 1, 0, none⟩ = some (.int .i64 xa1_0) ∧ w73.cell? ⟨w.heap.size + 1, 1, none⟩ = some (.int .i64 xa1_1) ∧ w73.cell? ⟨w.heap.size + 1, 2, none⟩ = some (.int .i64 xa1_2) ∧ w73.cell? ⟨w.heap.size + 1, 3, none⟩ = some (.slice Aa1_3 na1_3 ca1_3) := ⟨(S.at_ 11 rfl).cell 0, (S.at_ 11 rfl).cell 1, (S.at_ 11 rfl).cell 2, (S.at_ 11 rfl).cell 3, (S.at_ 10 rfl).cell 0, (S.at_ 10 rfl).cell 1, (S.at_ 10 rfl).cell 2, (S.at_ 10 rfl).cell 3⟩
      refine hK _ _ (fun _ => HF) ?_
      clear hK K
      try simp only [Act.put]
      refine wpAnyL_two (i := 4) (k := 8) (by kernel_rfl) rfl rfl rfl rfl ?_ ?_
      · intro K hK
        go_simp
        refine (IM.out _ _ _ _ _ _ _ _ _ _ _ _ d0 _ _ _ _ _ _ d1 _ ((S.own_ 1 rfl).rd) hz0 ((S.own_ 0 rfl).rd) hz1).mono ?_
        rintro e w74 ⟨Ah0_0, nh0_0, ch0_0, Ah0_1, nh0_1, ch0_1, Ah0_2, nh0_2, ch0_2, Ah0_3, nh0_3, ch0_3, rfl, o, b⟩
        obtain ⟨fp_Oh0, S'⟩ := S.has b o c.size
        replace c := c.trans (b.mono c.size)
        clear S; have S := S'; clear S' o b
        clear HF
        have HF : w74.cell? ⟨w.heap.size, 0, none⟩ = some (.slice Aa0_0 na0_0 ca0_0) ∧ w74.cell? ⟨w.heap.size, 1, none⟩ = some (.slice Aa0_1 na0_1 ca0_1) ∧ w74.cell? ⟨w.heap.size, 2, none⟩ = some (.slice Aa0_2 na0_2 ca0_2) ∧ w74.cell? ⟨w.heap.size, 3, none⟩ = some (.slice Aa0_3 na0_3 ca0_3) ∧ w74.cell? ⟨w.heap.size + 1, 0, none⟩ = some (.int .i64 xa1_0) ∧ w74.cell? ⟨w.heap.size + 1, 1, none⟩ = some (.int .i64 xa1_1) ∧ w74.cell? ⟨w.heap.size + 1, 2, none⟩ = some (.int .i64 xa1_2) ∧ w74.cell? ⟨w.heap.size + 1, 3, none⟩ = some (.slice Aa1_3 na1_3 ca1_3) := ⟨(S.at_ 12 rfl).cell 0, (S.at_ 12 rfl).cell 1, (S.at_ 12 rfl).cell 2, (S.at_ 12 rfl).cell 3, (S.at_ 11 rfl).cell 0, (S.at_ 11 rfl).cell 1, (S.at_ 11 rfl).cell 2, (S.at_ 11 rfl).cell 3⟩
        refine hK _ _ (fun _ => HF) ?_
        clear hK K
        try simp only [Act.put]
        refine wpAnyL_pure (i := 5) (v := ?_) rfl rfl (by kernel_rfl) (by kernel_rfl) (by kernel_rfl) (fun _ _ _ h => h) HF (Or.inl ⟨by rfl, ?_⟩) ?_
        rotate_left 1
        · (intro v _; go_simp; try with_reducible rfl)
        try simp only [Act.put]
        refine wpAnyL_pure (i := 6) (v := ?_) rfl rfl (by kernel_rfl) (by kernel_rfl) (by kernel_rfl) (fun _ _ _ h => h) HF (Or.inl ⟨by rfl, ?_⟩) ?_
        rotate_left 1
        · (intro v _; go_simp; try with_reducible rfl)
        try simp only [Act.put]
        refine wpAnyL_pure (i := 7) (v := ?_) rfl rfl (by kernel_rfl) (by kernel_rfl) (by kernel_rfl) (fun _ _ _ h => h) HF (Or.inl ⟨by rfl, ?_⟩) ?_
        rotate_left 1
        · (intro v _; go_simp; try with_reducible rfl)
        try simp only [Act.put]
        refine wpAnyL_step (i := 8) (by kernel_rfl) rfl rfl ?_
        intro K hK
        go_simp
        replace S := S.boxAt c.size (w74.heap.size) rfl #[.slice none 0 0, .slice none 0 0, .slice none 0 0, .slice none 0 0] 34
        replace c := al c S
        clear HF
        have HF : (w74.alloc (.cells #[.slice none 0 0, .slice none 0 0, .slice none 0 0, .slice none 0 0] 34)).cell? ⟨w.heap.size, 0, none⟩ = some (.slice Aa0_0 na0_0 ca0_0) ∧ (w74.alloc (.cells #[.slice none 0 0, .slice none 0 0, .slice none 0 0, .slice none 0 0] 34)).cell? ⟨w.heap.size, 1, none⟩ = some (.slice Aa0_1 na0_1 ca0_1) ∧ (w74.alloc (.cells #[.slice none 0 0, .slice none 0 0, .slice none 0 0, .slice none 0 0] 34)).cell? ⟨w.heap.size, 2, none⟩ = some (.slice Aa0_2 na0_2 ca0_2) ∧ (w74.alloc (.cells #[.slice none 0 0, .slice none 0 0, .slice none 0 0, .slice none 0 0] 34)).cell? ⟨w.heap.size, 3, none⟩ = some (.slice Aa0_3 na0_3 ca0_3) ∧ (w74.alloc (.cells #[.slice none 0 0, .slice none 0 0, .slice none 0 0, .slice none 0 0] 34)).cell? ⟨w.heap.size + 1, 0, none⟩ = some (.int .i64 xa1_0) ∧ (w74.alloc (.cells #[.slice none 0 0, .slice none 0 0, .slice none 0 0, .slice none 0 0] 34)).cell? ⟨w.heap.size + 1, 1, none⟩ = some (.int .i64 xa1_1) ∧ (w74.alloc (.cells #[.slice none 0 0, .slice none 0 0, .slice none 0 0, .slice none 0 0] 34)).cell? ⟨w.heap.size + 1, 2, none⟩ = some (.int .i64 xa1_2) ∧ (w74.alloc (.cells #[.slice none 0 0, .slice none 0 0, .slice none 0 0, .slice none 0 0] 34)).cell? ⟨w.heap.size + 1, 3, none⟩ = some (.slice Aa1_3 na1_3 ca1_3) := ⟨(S.at_ 13 rfl).cell 0, (S.at_ 13 rfl).cell 1, (S.at_ 13 rfl).cell 2, (S.at_ 13 rfl).cell 3, (S.at_ 12 rfl).cell 0, (S.at_ 12 rfl).cell 1, (S.at_ 12 rfl).cell 2, (S.at_ 12 rfl).cell 3⟩
        refine hK _ _ (fun _ => HF) ?_
        clear hK K
        try simp only [Act.put]
        generalize hw : w74.alloc (.cells #[.slice none 0 0, .slice none 0 0, .slice none 0 0, .slice none 0 0] 34) = w75 at *
        clear hw
        have f0 := lk S 0 0 rfl rfl
        have f1 := (S.at_ 0 rfl).free 0
        have f2 := lk S 0 1 rfl rfl
        have f3 := (S.at_ 0 rfl).free 1
        have f4 := lk S 0 2 rfl rfl
        have f5 := (S.at_ 0 rfl).free 2
        have f6 := lk S 0 3 rfl rfl
        have f7 := (S.at_ 0 rfl).free 3
        refine wpAnyL_step (i := 9) (by kernel_rfl) rfl rfl ?_
        intro K hK
        go_simp
        replace S := S.put 0 rfl 0 (.slice Ah0_0 nh0_0 ch0_0)
        replace c := st c S (S.base_le 0 rfl)
        replace S := S.put 0 rfl 1 (.slice Ah0_1 nh0_1 ch0_1)
        replace c := st c S (S.base_le 0 rfl)
        replace S := S.put 0 rfl 2 (.slice Ah0_2 nh0_2 ch0_2)
        replace c := st c S (S.base_le 0 rfl)
        replace S := S.put 0 rfl 3 (.slice Ah0_3 nh0_3 ch0_3)
        replace c := st c S (S.base_le 0 rfl)
        clear HF
        have HF : ((((w75.setCell ⟨w74.heap.size, 0, none⟩ (.slice Ah0_0 nh0_0 ch0_0)).setCell ⟨w74.heap.size, 1, none⟩ (.slice Ah0_1 nh0_1 ch0_1)).setCell ⟨w74.heap.size, 2, none⟩ (.slice Ah0_2 nh0_2 ch0_2)).setCell ⟨w74.heap.size, 3, none⟩ (.slice Ah0_3 nh0_3 ch0_3)).cell? ⟨w.heap.size, 0, none⟩ = some (.slice Aa0_0 na0_0 ca0_0) ∧ ((((w75.setCell ⟨w74.heap.size, 0, none⟩ (.slice Ah0_0 nh0_0 ch0_0)).setCell ⟨w74.heap.size, 1, none⟩ (.slice Ah0_1 nh0_1 ch0_1)).setCell ⟨w74.heap.size, 2, none⟩ (.slice Ah0_2 nh0_2 ch0_2)).setCell ⟨w74.heap.size, 3, none⟩ (.slice Ah0_3 nh0_3 ch0_3)).cell? ⟨w.heap.size, 1, none⟩ = some (.slice Aa0_1 na0_1 ca0_1) ∧ ((((w75.setCell ⟨w74.heap.size, 0, none⟩ (.slice Ah0_0 nh0_0 ch0_0)).setCell ⟨w74.heap.size, 1, none⟩ (.slice Ah0_1 nh0_1 ch0_1)).setCell ⟨w74.heap.size, 2, none⟩ (.slice Ah0_2 nh0_2 ch0_2)).setCell ⟨w74.heap.size, 3, none⟩ (.slice Ah0_3 nh0_3 ch0_3)).cell? ⟨w.heap.size, 2, none⟩ = some (.slice Aa0_2 na0_2 ca0_2) ∧ ((((w75.setCell ⟨w74.heap.size, 0, none⟩ (.slice Ah0_0 nh0_0 ch0_0)).setCell ⟨w74.heap.size, 1, none⟩ (.slice Ah0_1 nh0_1 ch0_1)).setCell ⟨w74.heap.size, 2, none⟩ (.slice Ah0_2 nh0_2 ch0_2)).setCell ⟨w74.heap.size, 3, none⟩ (.slice Ah0_3 nh0_3 ch0_3)).cell? ⟨w.heap.size, 3, none⟩ = some (.slice Aa0_3 na0_3 ca0_3) ∧ ((((w75.setCell ⟨w74.heap.size, 0, none⟩ (.slice Ah0_0 nh0_0 ch0_0)).setCell ⟨w74.heap.size, 1, none⟩ (.slice Ah0_1 nh0_1 ch0_1)).setCell ⟨w74.heap.size, 2, none⟩ (.slice Ah0_2 nh0_2 ch0_2)).setCell ⟨w74.heap.size, 3, none⟩ (.slice Ah0_3 nh0_3 ch0_3)).cell? ⟨w.heap.size + 1, 0, none⟩ = some (.int .i64 xa1_0) ∧ ((((w75.setCell ⟨w74.heap.size, 0, none⟩ (.slice Ah0_0 nh0_0 ch0_0)).setCell ⟨w74.heap.size, 1, none⟩ (.slice Ah0_1 nh0_1 ch0_1)).setCell ⟨w74.heap.size, 2, none⟩ (.slice Ah0_2 nh0_2 ch0_2)).setCell ⟨w74.heap.size, 3, none⟩ (.slice Ah0_3 nh0_3 ch0_3)).cell? ⟨w.heap.size + 1, 1, none⟩ = some (.int .i64 xa1_1) ∧ ((((w75.setCell ⟨w74.heap.size, 0, none⟩ (.slice Ah0_0 nh0_0 ch0_0)).setCell ⟨w74.heap.size, 1, none⟩ (.slice Ah0_1 nh0_1 ch0_1)).setCell ⟨w74.heap.size, 2, none⟩ (.slice Ah0_2 nh0_2 ch0_2)).setCell ⟨w74.heap.size, 3, none⟩ (.slice Ah0_3 nh0_3 ch0_3)).cell? ⟨w.heap.size + 1, 2, none⟩ = some (.int .i64 xa1_2) ∧ ((((w75.setCell ⟨w74.heap.size, 0, none⟩ (.slice Ah0_0 nh0_0 ch0_0)).setCell ⟨w74.heap.size, 1, none⟩ (.slice Ah0_1 nh0_1 ch0_1)).setCell ⟨w74.heap.size, 2, none⟩ (.slice Ah0_2 nh0_2 ch0_2)).setCell ⟨w74.heap.size, 3, none⟩ (.slice Ah0_3 nh0_3 ch0_3)).cell? ⟨w.heap.size + 1, 3, none⟩ = some (.slice Aa1_3 na1_3 ca1_3) := ⟨(S.at_ 13 rfl).cell 0, (S.at_ 13 rfl).cell 1, (S.at_ 13 rfl).cell 2, (S.at_ 13 rfl).cell 3, (S.at_ 12 rfl).cell 0, (S.at_ 12 rfl).cell 1, (S.at_ 12 rfl).cell 2, (S.at_ 12 rfl).cell 3⟩
        refine hK _ _ (fun _ => HF) ?_
        clear hK K
        try simp only [Act.put]
        generalize (((w75.setCell ⟨w74.heap.size, 0, none⟩ (.slice Ah0_0 nh0_0 ch0_0)).setCell ⟨w74.heap.size, 1, none⟩ (.slice Ah0_1 nh0_1 ch0_1)).setCell ⟨w74.heap.size, 2, none⟩ (.slice Ah0_2 nh0_2 ch0_2)).setCell ⟨w74.heap.size, 3, none⟩ (.slice Ah0_3 nh0_3 ch0_3) = w76 at *
        clear f0 f1 f2 f3 f4 f5 f6 f7
        refine wpAnyL_step (i := 10) (by kernel_rfl) rfl rfl ?_
        intro K hK
        go_simp
        refine hK _ _ (fun h => nomatch (show true = false from h)) ?_
        clear hK K
        try simp only [Act.put]
        refine wpAnyL_done (by kernel_rfl) ?_ _
        replace S := S.pick 1 rfl
        replace S := S.pick 1 rfl
        replace S := S.sub (.cons_cons _ (.cons_cons _ (.cons _ (.cons _ (.cons_cons _ (.cons_cons _ (.cons _ (.cons _ (.cons _ (.cons _ (.cons_cons _ (.cons_cons _ (List.nil_sublist _)))))))))))))
        go_wp2_with fail
        go_meet
        exact ⟨_, _, _, _, _, _, _, _, _, _, _, _, _, _, rfl, rfl, S, c⟩
      · intro K hK
        go_simp
        replace S := S.boxAt c.size (w73.heap.size) rfl #[.slice none 0 0, .slice none 0 0, .slice none 0 0, .slice none 0 0] 34
        replace c := al c S
        clear HF
        have HF : (w73.alloc (.cells #[.slice none 0 0, .slice none 0 0, .slice none 0 0, .slice none 0 0] 34)).cell? ⟨w.heap.size, 0, none⟩ = some (.slice Aa0_0 na0_0 ca0_0) ∧ (w73.alloc (.cells #[.slice none 0 0, .slice none 0 0, .slice none 0 0, .slice none 0 0] 34)).cell? ⟨w.heap.size, 1, none⟩ = some (.slice Aa0_1 na0_1 ca0_1) ∧ (w73.alloc (.cells #[.slice none 0 0, .slice none 0 0, .slice none 0 0, .slice none 0 0] 34)).cell? ⟨w.heap.size, 2, none⟩ = some (.slice Aa0_2 na0_2 ca0_2) ∧ (w73.alloc (.cells #[.slice none 0 0, .slice none 0 0, .slice none 0 0, .slice none 0 0] 34)).cell? ⟨w.heap.size, 3, none⟩ = some (.slice Aa0_3 na0_3 ca0_3) ∧ (w73.alloc (.cells #[.slice none 0 0, .slice none 0 0, .slice none 0 0, .slice none 0 0] 34)).cell? ⟨w.heap.size + 1, 0, none⟩ = some (.int .i64 xa1_0) ∧ (w73.alloc (.cells #[.slice none 0 0, .slice none 0 0, .slice none 0 0, .slice none 0 0] 34)).cell? ⟨w.heap.size + 1, 1, none⟩ = some (.int .i64 xa1_1) ∧ (w73.alloc (.cells #[.slice none 0 0, .slice none 0 0, .slice none 0 0, .slice none 0 0] 34)).cell? ⟨w.heap.size + 1, 2, none⟩ = some (.int .i64 xa1_2) ∧ (w73.alloc (.cells #[.slice none 0 0, .slice none 0 0, .slice none 0 0, .slice none 0 0] 34)).cell? ⟨w.heap.size + 1, 3, none⟩ = some (.slice Aa1_3 na1_3 ca1_3) := ⟨(S.at_ 12 rfl).cell 0, (S.at_ 12 rfl).cell 1, (S.at_ 12 rfl).cell 2, (S.at_ 12 rfl).cell 3, (S.at_ 11 rfl).cell 0, (S.at_ 11 rfl).cell 1, (S.at_ 11 rfl).cell 2, (S.at_ 11 rfl).cell 3⟩
        refine hK _ _ (fun _ => HF) ?_
        clear hK K
        try simp only [Act.put]
        generalize hw : w73.alloc (.cells #[.slice none 0 0, .slice none 0 0, .slice none 0 0, .slice none 0 0] 34) = w74 at *
        clear hw
        refine wpAnyL_step (i := 4) (by kernel_rfl) rfl rfl ?_
        intro K hK
        go_simp
        refine (IM.out _ _ _ _ _ _ _ _ _ _ _ _ d0 _ _ _ _ _ _ d1 _ ((S.own_ 2 rfl).rd) hz0 ((S.own_ 1 rfl).rd) hz1).mono ?_
        rintro e w75 ⟨Ah0_0, nh0_0, ch0_0, Ah0_1, nh0_1, ch0_1, Ah0_2, nh0_2, ch0_2, Ah0_3, nh0_3, ch0_3, rfl, o, b⟩
        obtain ⟨fp_Oh0, S'⟩ := S.has b o c.size
        replace c := c.trans (b.mono c.size)
        clear S; have S := S'; clear S' o b
        clear HF
        have HF : w75.cell? ⟨w.heap.size, 0, none⟩ = some (.slice Aa0_0 na0_0 ca0_0) ∧ w75.cell? ⟨w.heap.size, 1, none⟩ = some (.slice Aa0_1 na0_1 ca0_1) ∧ w75.cell? ⟨w.heap.size, 2, none⟩ = some (.slice Aa0_2 na0_2 ca0_2) ∧ w75.cell? ⟨w.heap.size, 3, none⟩ = some (.slice Aa0_3 na0_3 ca0_3) ∧ w75.cell? ⟨w.heap.size + 1, 0, none⟩ = some (.int .i64 xa1_0) ∧ w75.cell? ⟨w.heap.size + 1, 1, none⟩ = some (.int .i64 xa1_1) ∧ w75.cell? ⟨w.heap.size + 1, 2, none⟩ = some (.int .i64 xa1_2) ∧ w75.cell? ⟨w.heap.size + 1, 3, none⟩ = some (.slice Aa1_3 na1_3 ca1_3) := ⟨(S.at_ 13 rfl).cell 0, (S.at_ 13 rfl).cell 1, (S.at_ 13 rfl).cell 2, (S.at_ 13 rfl).cell 3, (S.at_ 12 rfl).cell 0, (S.at_ 12 rfl).cell 1, (S.at_ 12 rfl).cell 2, (S.at_ 12 rfl).cell 3⟩
        refine hK _ _ (fun _ => HF) ?_
        clear hK K
        try simp only [Act.put]
        refine wpAnyL_pure (i := 5) (v := ?_) rfl rfl (by kernel_rfl) (by kernel_rfl) (by kernel_rfl) (fun _ _ _ h => h) HF (Or.inl ⟨by rfl, ?_⟩) ?_
        rotate_left 1
        · (intro v _; go_simp; try with_reducible rfl)
        try simp only [Act.put]
        refine wpAnyL_pure (i := 6) (v := ?_) rfl rfl (by kernel_rfl) (by kernel_rfl) (by kernel_rfl) (fun _ _ _ h => h) HF (Or.inl ⟨by rfl, ?_⟩) ?_
        rotate_left 1
        · (intro v _; go_simp; try with_reducible rfl)
        try simp only [Act.put]
        refine wpAnyL_pure (i := 7) (v := ?_) rfl rfl (by kernel_rfl) (by kernel_rfl) (by kernel_rfl) (fun _ _ _ h => h) HF (Or.inl ⟨by rfl, ?_⟩) ?_
        rotate_left 1
        · (intro v _; go_simp; try with_reducible rfl)
        try simp only [Act.put]
        have f0 := lk S 1 0 rfl rfl
        have f1 := (S.at_ 1 rfl).free 0
        have f2 := lk S 1 1 rfl rfl
        have f3 := (S.at_ 1 rfl).free 1
        have f4 := lk S 1 2 rfl rfl
        have f5 := (S.at_ 1 rfl).free 2
        have f6 := lk S 1 3 rfl rfl
        have f7 := (S.at_ 1 rfl).free 3
        refine wpAnyL_step (i := 9) (by kernel_rfl) rfl rfl ?_
        intro K hK
        go_simp
        replace S := S.put 1 rfl 0 (.slice Ah0_0 nh0_0 ch0_0)
        replace c := st c S (S.base_le 1 rfl)
        replace S := S.put 1 rfl 1 (.slice Ah0_1 nh0_1 ch0_1)
        replace c := st c S (S.base_le 1 rfl)
        replace S := S.put 1 rfl 2 (.slice Ah0_2 nh0_2 ch0_2)
        replace c := st c S (S.base_le 1 rfl)
        replace S := S.put 1 rfl 3 (.slice Ah0_3 nh0_3 ch0_3)
        replace c := st c S (S.base_le 1 rfl)
        clear HF
        have HF : ((((w75.setCell ⟨w73.heap.size, 0, none⟩ (.slice Ah0_0 nh0_0 ch0_0)).setCell ⟨w73.heap.size, 1, none⟩ (.slice Ah0_1 nh0_1 ch0_1)).setCell ⟨w73.heap.size, 2, none⟩ (.slice Ah0_2 nh0_2 ch0_2)).setCell ⟨w73.heap.size, 3, none⟩ (.slice Ah0_3 nh0_3 ch0_3)).cell? ⟨w.heap.size, 0, none⟩ = some (.slice Aa0_0 na0_0 ca0_0) ∧ ((((w75.setCell ⟨w73.heap.size, 0, none⟩ (.slice Ah0_0 nh0_0 ch0_0)).setCell ⟨w73.heap.size, 1, none⟩ (.slice Ah0_1 nh0_1 ch0_1)).setCell ⟨w73.heap.size, 2, none⟩ (.slice Ah0_2 nh0_2 ch0_2)).setCell ⟨w73.heap.size, 3, none⟩ (.slice Ah0_3 nh0_3 ch0_3)).cell? ⟨w.heap.size, 1, none⟩ = some (.slice Aa0_1 na0_1 ca0_1) ∧ ((((w75.setCell ⟨w73.heap.size, 0, none⟩ (.slice Ah0_0 nh0_0 ch0_0)).setCell ⟨w73.heap.size, 1, none⟩ (.slice Ah0_1 nh0_1 ch0_1)).setCell ⟨w73.heap.size, 2, none⟩ (.slice Ah0_2 nh0_2 ch0_2)).setCell ⟨w73.heap.size, 3, none⟩ (.slice Ah0_3 nh0_3 ch0_3)).cell? ⟨w.heap.size, 2, none⟩ = some (.slice Aa0_2 na0_2 ca0_2) ∧ ((((w75.setCell ⟨w73.heap.size, 0, none⟩ (.slice Ah0_0 nh0_0 ch0_0)).setCell ⟨w73.heap.size, 1, none⟩ (.slice Ah0_1 nh0_1 ch0_1)).setCell ⟨w73.heap.size, 2, none⟩ (.slice Ah0_2 nh0_2 ch0_2)).setCell ⟨w73.heap.size, 3, none⟩ (.slice Ah0_3 nh0_3 ch0_3)).cell? ⟨w.heap.size, 3, none⟩ = some (.slice Aa0_3 na0_3 ca0_3) ∧ ((((w75.setCell ⟨w73.heap.size, 0, none⟩ (.slice Ah0_0 nh0_0 ch0_0)).setCell ⟨w73.heap.size, 1, none⟩ (.slice Ah0_1 nh0_1 ch0_1)).setCell ⟨w73.heap.size, 2, none⟩ (.slice Ah0_2 nh0_2 ch0_2)).setCell ⟨w73.heap.size, 3, none⟩ (.slice Ah0_3 nh0_3 ch0_3)).cell? ⟨w.heap.size + 1, 0, none⟩ = some (.int .i64 xa1_0) ∧ ((((w75.setCell ⟨w73.heap.size, 0, none⟩ (.slice Ah0_0 nh0_0 ch0_0)).setCell ⟨w73.heap.size, 1, none⟩ (.slice Ah0_1 nh0_1 ch0_1)).setCell ⟨w73.heap.size, 2, none⟩ (.slice Ah0_2 nh0_2 ch0_2)).setCell ⟨w73.heap.size, 3, none⟩ (.slice Ah0_3 nh0_3 ch0_3)).cell? ⟨w.heap.size + 1, 1, none⟩ = some (.int .i64 xa1_1) ∧ ((((w75.setCell ⟨w73.heap.size, 0, none⟩ (.slice Ah0_0 nh0_0 ch0_0)).setCell ⟨w73.heap.size, 1, none⟩ (.slice Ah0_1 nh0_1 ch0_1)).setCell ⟨w73.heap.size, 2, none⟩ (.slice Ah0_2 nh0_2 ch0_2)).setCell ⟨w73.heap.size, 3, none⟩ (.slice Ah0_3 nh0_3 ch0_3)).cell? ⟨w.heap.size + 1, 2, none⟩ = some (.int .i64 xa1_2) ∧ ((((w75.setCell ⟨w73.heap.size, 0, none⟩ (.slice Ah0_0 nh0_0 ch0_0)).setCell ⟨w73.heap.size, 1, none⟩ (.slice Ah0_1 nh0_1 ch0_1)).setCell ⟨w73.heap.size, 2, none⟩ (.slice Ah0_2 nh0_2 ch0_2)).setCell ⟨w73.heap.size, 3, none⟩ (.slice Ah0_3 nh0_3 ch0_3)).cell? ⟨w.heap.size + 1, 3, none⟩ = some (.slice Aa1_3 na1_3 ca1_3) := ⟨(S.at_ 13 rfl).cell 0, (S.at_ 13 rfl).cell 1, (S.at_ 13 rfl).cell 2, (S.at_ 13 rfl).cell 3, (S.at_ 12 rfl).cell 0, (S.at_ 12 rfl).cell 1, (S.at_ 12 rfl).cell 2, (S.at_ 12 rfl).cell 3⟩
        refine hK _ _ (fun _ => HF) ?_
        clear hK K
        try simp only [Act.put]
        generalize (((w75.setCell ⟨w73.heap.size, 0, none⟩ (.slice Ah0_0 nh0_0 ch0_0)).setCell ⟨w73.heap.size, 1, none⟩ (.slice Ah0_1 nh0_1 ch0_1)).setCell ⟨w73.heap.size, 2, none⟩ (.slice Ah0_2 nh0_2 ch0_2)).setCell ⟨w73.heap.size, 3, none⟩ (.slice Ah0_3 nh0_3 ch0_3) = w76 at *
        clear f0 f1 f2 f3 f4 f5 f6 f7
        refine wpAnyL_step (i := 10) (by kernel_rfl) rfl rfl ?_
        intro K hK
        go_simp
        refine hK _ _ (fun h => nomatch (show true = false from h)) ?_
        clear hK K
        try simp only [Act.put]
        refine wpAnyL_done (by kernel_rfl) ?_ _
        replace S := S.pick 0 rfl
        replace S := S.pick 1 rfl
        replace S := S.sub (.cons_cons _ (.cons_cons _ (.cons _ (.cons _ (.cons_cons _ (.cons_cons _ (.cons _ (.cons _ (.cons _ (.cons _ (.cons_cons _ (.cons_cons _ (List.nil_sublist _)))))))))))))
        go_wp2_with fail
        go_meet
        exact ⟨_, _, _, _, _, _, _, _, _, _, _, _, _, _, rfl, rfl, S, c⟩
    · intro K hK
      go_simp
      replace S := S.boxAt c.size (w72.heap.size) rfl #[.slice none 0 0, .slice none 0 0, .slice none 0 0, .slice none 0 0] 34
      replace c := al c S
      clear HF
      have HF : (w72.alloc (.cells #[.slice none 0 0, .slice none 0 0, .slice none 0 0, .slice none 0 0] 34)).cell? ⟨w.heap.size, 0, none⟩ = some (.slice Aa0_0 na0_0 ca0_0) ∧ (w72.alloc (.cells #[.slice none 0 0, .slice none 0 0, .slice none 0 0, .slice none 0 0] 34)).cell? ⟨w.heap.size, 1, none⟩ = some (.slice Aa0_1 na0_1 ca0_1) ∧ (w72.alloc (.cells #[.slice none 0 0, .slice none 0 0, .slice none 0 0, .slice none 0 0] 34)).cell? ⟨w.heap.size, 2, none⟩ = some (.slice Aa0_2 na0_2 ca0_2) ∧ (w72.alloc (.cells #[.slice none 0 0, .slice none 0 0, .slice none 0 0, .slice none 0 0] 34)).cell? ⟨w.heap.size, 3, none⟩ = some (.slice Aa0_3 na0_3 ca0_3) ∧ (w72.alloc (.cells #[.slice none 0 0, .slice none 0 0, .slice none 0 0, .slice none 0 0] 34)).cell? ⟨w.heap.size + 1, 0, none⟩ = some (.int .i64 xa1_0) ∧ (w72.alloc (.cells #[.slice none 0 0, .slice none 0 0, .slice none 0 0, .slice none 0 0] 34)).cell? ⟨w.heap.size + 1, 1, none⟩ = some (.int .i64 xa1_1) ∧ (w72.alloc (.cells #[.slice none 0 0, .slice none 0 0, .slice none 0 0, .slice none 0 0] 34)).cell? ⟨w.heap.size + 1, 2, none⟩ = some (.int .i64 xa1_2) ∧ (w72.alloc (.cells #[.slice none 0 0, .slice none 0 0, .slice none 0 0, .slice none 0 0] 34)).cell? ⟨w.heap.size + 1, 3, none⟩ = some (.slice Aa1_3 na1_3 ca1_3) := ⟨(S.at_ 11 rfl).cell 0, (S.at_ 11 rfl).cell 1, (S.at_ 11 rfl).cell 2, (S.at_ 11 rfl).cell 3, (S.at_ 10 rfl).cell 0, (S.at_ 10 rfl).cell 1, (S.at_ 10 rfl).cell 2, (S.at_ 10 rfl).cell 3⟩
      refine hK _ _ (fun _ => HF) ?_
      clear hK K
      try simp only [Act.put]
      generalize hw : w72.alloc (.cells #[.slice none 0 0, .slice none 0 0, .slice none 0 0, .slice none 0 0] 34) = w73 at *
      clear hw
      refine wpAnyL_step (i := 3) (by kernel_rfl) rfl rfl ?_
      intro K hK
      go_simp
      refine (toHead_made _ _ _ _ d1 _ ((h1.keep c).up c.size) hz1).mono ?_
      rintro e w74 ⟨xt1_0, xt1_1, xt1_2, At1_3, nt1_3, ct1_3, rfl, o, b⟩
      obtain ⟨fp_Ot1, S'⟩ := S.has b o c.size
      replace c := c.trans (b.mono c.size)
      clear S; have S := S'; clear S' o b
      clear HF
      have HF : w74.cell? ⟨w.heap.size, 0, none⟩ = some (.slice Aa0_0 na0_0 ca0_0) ∧ w74.cell? ⟨w.heap.size, 1, none⟩ = some (.slice Aa0_1 na0_1 ca0_1) ∧ w74.cell? ⟨w.heap.size, 2, none⟩ = some (.slice Aa0_2 na0_2 ca0_2) ∧ w74.cell? ⟨w.heap.size, 3, none⟩ = some (.slice Aa0_3 na0_3 ca0_3) ∧ w74.cell? ⟨w.heap.size + 1, 0, none⟩ = some (.int .i64 xa1_0) ∧ w74.cell? ⟨w.heap.size + 1, 1, none⟩ = some (.int .i64 xa1_1) ∧ w74.cell? ⟨w.heap.size + 1, 2, none⟩ = some (.int .i64 xa1_2) ∧ w74.cell? ⟨w.heap.size + 1, 3, none⟩ = some (.slice Aa1_3 na1_3 ca1_3) := ⟨(S.at_ 12 rfl).cell 0, (S.at_ 12 rfl).cell 1, (S.at_ 12 rfl).cell 2, (S.at_ 12 rfl).cell 3, (S.at_ 11 rfl).cell 0, (S.at_ 11 rfl).cell 1, (S.at_ 11 rfl).cell 2, (S.at_ 11 rfl).cell 3⟩
      refine hK _ _ (fun _ => HF) ?_
      clear hK K
      try simp only [Act.put]
      refine wpAnyL_step (i := 4) (by kernel_rfl) rfl rfl ?_
      intro K hK
      go_simp
      refine (IM.out _ _ _ _ _ _ _ _ _ _ _ _ d0 _ _ _ _ _ _ d1 _ ((S.own_ 2 rfl).rd) hz0 ((S.own_ 0 rfl).rd) hz1).mono ?_
      rintro e w75 ⟨Ah0_0, nh0_0, ch0_0, Ah0_1, nh0_1, ch0_1, Ah0_2, nh0_2, ch0_2, Ah0_3, nh0_3, ch0_3, rfl, o, b⟩
      obtain ⟨fp_Oh0, S'⟩ := S.has b o c.size
      replace c := c.trans (b.mono c.size)
      clear S; have S := S'; clear S' o b
      clear HF
      have HF : w75.cell? ⟨w.heap.size, 0, none⟩ = some (.slice Aa0_0 na0_0 ca0_0) ∧ w75.cell? ⟨w.heap.size, 1, none⟩ = some (.slice Aa0_1 na0_1 ca0_1) ∧ w75.cell? ⟨w.heap.size, 2, none⟩ = some (.slice Aa0_2 na0_2 ca0_2) ∧ w75.cell? ⟨w.heap.size, 3, none⟩ = some (.slice Aa0_3 na0_3 ca0_3) ∧ w75.cell? ⟨w.heap.size + 1, 0, none⟩ = some (.int .i64 xa1_0) ∧ w75.cell? ⟨w.heap.size + 1, 1, none⟩ = some (.int .i64 xa1_1) ∧ w75.cell? ⟨w.heap.size + 1, 2, none⟩ = some (.int .i64 xa1_2) ∧ w75.cell? ⟨w.heap.size + 1, 3, none⟩ = some (.slice Aa1_3 na1_3 ca1_3) := ⟨(S.at_ 13 rfl).cell 0, (S.at_ 13 rfl).cell 1, (S.at_ 13 rfl).cell 2, (S.at_ 13 rfl).cell 3, (S.at_ 12 rfl).cell 0, (S.at_ 12 rfl).cell 1, (S.at_ 12 rfl).cell 2, (S.at_ 12 rfl).cell 3⟩
      refine hK _ _ (fun _ => HF) ?_
      clear hK K
      try simp only [Act.put]
      refine wpAnyL_pure (i := 5) (v := ?_) rfl rfl (by kernel_rfl) (by kernel_rfl) (by kernel_rfl) (fun _ _ _ h => h) HF (Or.inl ⟨by rfl, ?_⟩) ?_
      rotate_left 1
      · (intro v _; go_simp; try with_reducible rfl)
      try simp only [Act.put]
      refine wpAnyL_pure (i := 6) (v := ?_) rfl rfl (by kernel_rfl) (by kernel_rfl) (by kernel_rfl) (fun _ _ _ h => h) HF (Or.inl ⟨by rfl, ?_⟩) ?_
      rotate_left 1
      · (intro v _; go_simp; try with_reducible rfl)
      try simp only [Act.put]
      refine wpAnyL_pure (i := 7) (v := ?_) rfl rfl (by kernel_rfl) (by kernel_rfl) (by kernel_rfl) (fun _ _ _ h => h) HF (Or.inl ⟨by rfl, ?_⟩) ?_
      rotate_left 1
      · (intro v _; go_simp; try with_reducible rfl)
      try simp only [Act.put]
      have f0 := lk S 2 0 rfl rfl
      have f1 := (S.at_ 2 rfl).free 0
      have f2 := lk S 2 1 rfl rfl
      have f3 := (S.at_ 2 rfl).free 1
      have f4 := lk S 2 2 rfl rfl
      have f5 := (S.at_ 2 rfl).free 2
      have f6 := lk S 2 3 rfl rfl
      have f7 := (S.at_ 2 rfl).free 3
      refine wpAnyL_step (i := 9) (by kernel_rfl) rfl rfl ?_
      intro K hK
      go_simp
      replace S := S.put 2 rfl 0 (.slice Ah0_0 nh0_0 ch0_0)
      replace c := st c S (S.base_le 2 rfl)
      replace S := S.put 2 rfl 1 (.slice Ah0_1 nh0_1 ch0_1)
      replace c := st c S (S.base_le 2 rfl)
      replace S := S.put 2 rfl 2 (.slice Ah0_2 nh0_2 ch0_2)
      replace c := st c S (S.base_le 2 rfl)
      replace S := S.put 2 rfl 3 (.slice Ah0_3 nh0_3 ch0_3)
      replace c := st c S (S.base_le 2 rfl)
      clear HF
      have HF : ((((w75.setCell ⟨w72.heap.size, 0, none⟩ (.slice Ah0_0 nh0_0 ch0_0)).setCell ⟨w72.heap.size, 1, none⟩ (.slice Ah0_1 nh0_1 ch0_1)).setCell ⟨w72.heap.size, 2, none⟩ (.slice Ah0_2 nh0_2 ch0_2)).setCell ⟨w72.heap.size, 3, none⟩ (.slice Ah0_3 nh0_3 ch0_3)).cell? ⟨w.heap.size, 0, none⟩ = some (.slice Aa0_0 na0_0 ca0_0) ∧ ((((w75.setCell ⟨w72.heap.size, 0, none⟩ (.slice Ah0_0 nh0_0 ch0_0)).setCell ⟨w72.heap.size, 1, none⟩ (.slice Ah0_1 nh0_1 ch0_1)).setCell ⟨w72.heap.size, 2, none⟩ (.slice Ah0_2 nh0_2 ch0_2)).setCell ⟨w72.heap.size, 3, none⟩ (.slice Ah0_3 nh0_3 ch0_3)).cell? ⟨w.heap.size, 1, none⟩ = some (.slice Aa0_1 na0_1 ca0_1) ∧ ((((w75.setCell ⟨w72.heap.size, 0, none⟩ (.slice Ah0_0 nh0_0 ch0_0)).setCell ⟨w72.heap.size, 1, none⟩ (.slice Ah0_1 nh0_1 ch0_1)).setCell ⟨w72.heap.size, 2, none⟩ (.slice Ah0_2 nh0_2 ch0_2)).setCell ⟨w72.heap.size, 3, none⟩ (.slice Ah0_3 nh0_3 ch0_3)).cell? ⟨w.heap.size, 2, none⟩ = some (.slice Aa0_2 na0_2 ca0_2) ∧ ((((w75.setCell ⟨w72.heap.size, 0, none⟩ (.slice Ah0_0 nh0_0 ch0_0)).setCell ⟨w72.heap.size, 1, none⟩ (.slice Ah0_1 nh0_1 ch0_1)).setCell ⟨w72.heap.size, 2, none⟩ (.slice Ah0_2 nh0_2 ch0_2)).setCell ⟨w72.heap.size, 3, none⟩ (.slice Ah0_3 nh0_3 ch0_3)).cell? ⟨w.heap.size, 3, none⟩ = some (.slice Aa0_3 na0_3 ca0_3) ∧ ((((w75.setCell ⟨w72.heap.size, 0, none⟩ (.slice Ah0_0 nh0_0 ch0_0)).setCell ⟨w72.heap.size, 1, none⟩ (.slice Ah0_1 nh0_1 ch0_1)).setCell ⟨w72.heap.size, 2, none⟩ (.slice Ah0_2 nh0_2 ch0_2)).setCell ⟨w72.heap.size, 3, none⟩ (.slice Ah0_3 nh0_3 ch0_3)).cell? ⟨w.heap.size + 1, 0, none⟩ = some (.int .i64 xa1_0) ∧ ((((w75.setCell ⟨w72.heap.size, 0, none⟩ (.slice Ah0_0 nh0_0 ch0_0)).setCell ⟨w72.heap.size, 1, none⟩ (.slice Ah0_1 nh0_1 ch0_1)).setCell ⟨w72.heap.size, 2, none⟩ (.slice Ah0_2 nh0_2 ch0_2)).setCell ⟨w72.heap.size, 3, none⟩ (.slice Ah0_3 nh0_3 ch0_3)).cell? ⟨w.heap.size + 1, 1, none⟩ = some (.int .i64 xa1_1) ∧ ((((w75.setCell ⟨w72.heap.size, 0, none⟩ (.slice Ah0_0 nh0_0 ch0_0)).setCell ⟨w72.heap.size, 1, none⟩ (.slice Ah0_1 nh0_1 ch0_1)).setCell ⟨w72.heap.size, 2, none⟩ (.slice Ah0_2 nh0_2 ch0_2)).setCell ⟨w72.heap.size, 3, none⟩ (.slice Ah0_3 nh0_3 ch0_3)).cell? ⟨w.heap.size + 1, 2, none⟩ = some (.int .i64 xa1_2) ∧ ((((w75.setCell ⟨w72.heap.size, 0, none⟩ (.slice Ah0_0 nh0_0 ch0_0)).setCell ⟨w72.heap.size, 1, none⟩ (.slice Ah0_1 nh0_1 ch0_1)).setCell ⟨w72.heap.size, 2, none⟩ (.slice Ah0_2 nh0_2 ch0_2)).setCell ⟨w72.heap.size, 3, none⟩ (.slice Ah0_3 nh0_3 ch0_3)).cell? ⟨w.heap.size + 1, 3, none⟩ = some (.slice Aa1_3 na1_3 ca1_3) := ⟨(S.at_ 13 rfl).cell 0, (S.at_ 13 rfl).cell 1, (S.at_ 13 rfl).cell 2, (S.at_ 13 rfl).cell 3, (S.at_ 12 rfl).cell 0, (S.at_ 12 rfl).cell 1, (S.at_ 12 rfl).cell 2, (S.at_ 12 rfl).cell 3⟩
      refine hK _ _ (fun _ => HF) ?_
      clear hK K
      try simp only [Act.put]
      generalize (((w75.setCell ⟨w72.heap.size, 0, none⟩ (.slice Ah0_0 nh0_0 ch0_0)).setCell ⟨w72.heap.size, 1, none⟩ (.slice Ah0_1 nh0_1 ch0_1)).setCell ⟨w72.heap.size, 2, none⟩ (.slice Ah0_2 nh0_2 ch0_2)).setCell ⟨w72.heap.size, 3, none⟩ (.slice Ah0_3 nh0_3 ch0_3) = w76 at *
      clear f0 f1 f2 f3 f4 f5 f6 f7
      refine wpAnyL_step (i := 10) (by kernel_rfl) rfl rfl ?_
      intro K hK
      go_simp
      refine hK _ _ (fun h => nomatch (show true = false from h)) ?_
      clear hK K
      try simp only [Act.put]
      refine wpAnyL_done (by kernel_rfl) ?_ _
      replace S := S.pick 0 rfl
      replace S := S.pick 2 rfl
      replace S := S.sub (.cons_cons _ (.cons_cons _ (.cons _ (.cons _ (.cons_cons _ (.cons_cons _ (.cons _ (.cons _ (.cons _ (.cons _ (.cons_cons _ (.cons_cons _ (List.nil_sublist _)))))))))))))
      go_wp2_with fail
      go_meet
      exact ⟨_, _, _, _, _, _, _, _, _, _, _, _, _, _, rfl, rfl, S, c⟩
  · intro K hK
    go_simp
    replace S := S.boxAt c.size (w71.heap.size) rfl #[.slice none 0 0, .slice none 0 0, .slice none 0 0, .slice none 0 0] 34
    replace c := al c S
    clear HF
    have HF : (w71.alloc (.cells #[.slice none 0 0, .slice none 0 0, .slice none 0 0, .slice none 0 0] 34)).cell? ⟨w.heap.size, 0, none⟩ = some (.slice Aa0_0 na0_0 ca0_0) ∧ (w71.alloc (.cells #[.slice none 0 0, .slice none 0 0, .slice none 0 0, .slice none 0 0] 34)).cell? ⟨w.heap.size, 1, none⟩ = some (.slice Aa0_1 na0_1 ca0_1) ∧ (w71.alloc (.cells #[.slice none 0 0, .slice none 0 0, .slice none 0 0, .slice none 0 0] 34)).cell? ⟨w.heap.size, 2, none⟩ = some (.slice Aa0_2 na0_2 ca0_2) ∧ (w71.alloc (.cells #[.slice none 0 0, .slice none 0 0, .slice none 0 0, .slice none 0 0] 34)).cell? ⟨w.heap.size, 3, none⟩ = some (.slice Aa0_3 na0_3 ca0_3) ∧ (w71.alloc (.cells #[.slice none 0 0, .slice none 0 0, .slice none 0 0, .slice none 0 0] 34)).cell? ⟨w.heap.size + 1, 0, none⟩ = some (.int .i64 xa1_0) ∧ (w71.alloc (.cells #[.slice none 0 0, .slice none 0 0, .slice none 0 0, .slice none 0 0] 34)).cell? ⟨w.heap.size + 1, 1, none⟩ = some (.int .i64 xa1_1) ∧ (w71.alloc (.cells #[.slice none 0 0, .slice none 0 0, .slice none 0 0, .slice none 0 0] 34)).cell? ⟨w.heap.size + 1, 2, none⟩ = some (.int .i64 xa1_2) ∧ (w71.alloc (.cells #[.slice none 0 0, .slice none 0 0, .slice none 0 0, .slice none 0 0] 34)).cell? ⟨w.heap.size + 1, 3, none⟩ = some (.slice Aa1_3 na1_3 ca1_3) := ⟨(S.at_ 10 rfl).cell 0, (S.at_ 10 rfl).cell 1, (S.at_ 10 rfl).cell 2, (S.at_ 10 rfl).cell 3, (S.at_ 9 rfl).cell 0, (S.at_ 9 rfl).cell 1, (S.at_ 9 rfl).cell 2, (S.at_ 9 rfl).cell 3⟩
    refine hK _ _ (fun _ => HF) ?_
    clear hK K
    try simp only [Act.put]
    generalize hw : w71.alloc (.cells #[.slice none 0 0, .slice none 0 0, .slice none 0 0, .slice none 0 0] 34) = w72 at *
    clear hw
    refine wpAnyL_step (i := 1) (by kernel_rfl) rfl rfl ?_
    intro K hK
    go_simp
    refine (toTwo_made _ _ _ _ d0 _ ((h0.keep c).up c.size) hz0).mono ?_
    rintro e w73 ⟨At0_0, nt0_0, ct0_0, At0_1, nt0_1, ct0_1, At0_2, nt0_2, ct0_2, At0_3, nt0_3, ct0_3, rfl, o, b⟩
    obtain ⟨fp_Ot0, S'⟩ := S.has b o c.size
    replace c := c.trans (b.mono c.size)
    clear S; have S := S'; clear S' o b
    clear HF
    have HF : w73.cell? ⟨w.heap.size, 0, none⟩ = some (.slice Aa0_0 na0_0 ca0_0) ∧ w73.cell? ⟨w.heap.size, 1, none⟩ = some (.slice Aa0_1 na0_1 ca0_1) ∧ w73.cell? ⟨w.heap.size, 2, none⟩ = some (.slice Aa0_2 na0_2 ca0_2) ∧ w73.cell? ⟨w.heap.size, 3, none⟩ = some (.slice Aa0_3 na0_3 ca0_3) ∧ w73.cell? ⟨w.heap.size + 1, 0, none⟩ = some (.int .i64 xa1_0) ∧ w73.cell? ⟨w.heap.size + 1, 1, none⟩ = some (.int .i64 xa1_1) ∧ w73.cell? ⟨w.heap.size + 1, 2, none⟩ = some (.int .i64 xa1_2) ∧ w73.cell? ⟨w.heap.size + 1, 3, none⟩ = some (.slice Aa1_3 na1_3 ca1_3) := ⟨(S.at_ 11 rfl).cell 0, (S.at_ 11 rfl).cell 1, (S.at_ 11 rfl).cell 2, (S.at_ 11 rfl).cell 3, (S.at_ 10 rfl).cell 0, (S.at_ 10 rfl).cell 1, (S.at_ 10 rfl).cell 2, (S.at_ 10 rfl).cell 3⟩
    refine hK _ _ (fun _ => HF) ?_
    clear hK K
    try simp only [Act.put]
    refine wpAnyL_step (i := 3) (by kernel_rfl) rfl rfl ?_
    intro K hK
    go_simp
    refine (toHead_made _ _ _ _ d1 _ ((h1.keep c).up c.size) hz1).mono ?_
    rintro e w74 ⟨xt1_0, xt1_1, xt1_2, At1_3, nt1_3, ct1_3, rfl, o, b⟩
    obtain ⟨fp_Ot1, S'⟩ := S.has b o c.size
    replace c := c.trans (b.mono c.size)
    clear S; have S := S'; clear S' o b
    clear HF
    have HF : w74.cell? ⟨w.heap.size, 0, none⟩ = some (.slice Aa0_0 na0_0 ca0_0) ∧ w74.cell? ⟨w.heap.size, 1, none⟩ = some (.slice Aa0_1 na0_1 ca0_1) ∧ w74.cell? ⟨w.heap.size, 2, none⟩ = some (.slice Aa0_2 na0_2 ca0_2) ∧ w74.cell? ⟨w.heap.size, 3, none⟩ = some (.slice Aa0_3 na0_3 ca0_3) ∧ w74.cell? ⟨w.heap.size + 1, 0, none⟩ = some (.int .i64 xa1_0) ∧ w74.cell? ⟨w.heap.size + 1, 1, none⟩ = some (.int .i64 xa1_1) ∧ w74.cell? ⟨w.heap.size + 1, 2, none⟩ = some (.int .i64 xa1_2) ∧ w74.cell? ⟨w.heap.size + 1, 3, none⟩ = some (.slice Aa1_3 na1_3 ca1_3) := ⟨(S.at_ 12 rfl).cell 0, (S.at_ 12 rfl).cell 1, (S.at_ 12 rfl).cell 2, (S.at_ 12 rfl).cell 3, (S.at_ 11 rfl).cell 0, (S.at_ 11 rfl).cell 1, (S.at_ 11 rfl).cell 2, (S.at_ 11 rfl).cell 3⟩
    refine hK _ _ (fun _ => HF) ?_
    clear hK K
    try simp only [Act.put]
    refine wpAnyL_step (i := 4) (by kernel_rfl) rfl rfl ?_
    intro K hK
    go_simp
    refine (IM.out _ _ _ _ _ _ _ _ _ _ _ _ d0 _ _ _ _ _ _ d1 _ ((S.own_ 1 rfl).rd) hz0 ((S.own_ 0 rfl).rd) hz1).mono ?_
    rintro e w75 ⟨Ah0_0, nh0_0, ch0_0, Ah0_1, nh0_1, ch0_1, Ah0_2, nh0_2, ch0_2, Ah0_3, nh0_3, ch0_3, rfl, o, b⟩
    obtain ⟨fp_Oh0, S'⟩ := S.has b o c.size
    replace c := c.trans (b.mono c.size)
    clear S; have S := S'; clear S' o b
    clear HF
    have HF : w75.cell? ⟨w.heap.size, 0, none⟩ = some (.slice Aa0_0 na0_0 ca0_0) ∧ w75.cell? ⟨w.heap.size, 1, none⟩ = some (.slice Aa0_1 na0_1 ca0_1) ∧ w75.cell? ⟨w.heap.size, 2, none⟩ = some (.slice Aa0_2 na0_2 ca0_2) ∧ w75.cell? ⟨w.heap.size, 3, none⟩ = some (.slice Aa0_3 na0_3 ca0_3) ∧ w75.cell? ⟨w.heap.size + 1, 0, none⟩ = some (.int .i64 xa1_0) ∧ w75.cell? ⟨w.heap.size + 1, 1, none⟩ = some (.int .i64 xa1_1) ∧ w75.cell? ⟨w.heap.size + 1, 2, none⟩ = some (.int .i64 xa1_2) ∧ w75.cell? ⟨w.heap.size + 1, 3, none⟩ = some (.slice Aa1_3 na1_3 ca1_3) := ⟨(S.at_ 13 rfl).cell 0, (S.at_ 13 rfl).cell 1, (S.at_ 13 rfl).cell 2, (S.at_ 13 rfl).cell 3, (S.at_ 12 rfl).cell 0, (S.at_ 12 rfl).cell 1, (S.at_ 12 rfl).cell 2, (S.at_ 12 rfl).cell 3⟩
    refine hK _ _ (fun _ => HF) ?_
    clear hK K
    try simp only [Act.put]
    refine wpAnyL_pure (i := 5) (v := ?_) rfl rfl (by kernel_rfl) (by kernel_rfl) (by kernel_rfl) (fun _ _ _ h => h) HF (Or.inl ⟨by rfl, ?_⟩) ?_
    rotate_left 1
    · (intro v _; go_simp; try with_reducible rfl)
    try simp only [Act.put]
    refine wpAnyL_pure (i := 6) (v := ?_) rfl rfl (by kernel_rfl) (by kernel_rfl) (by kernel_rfl) (fun _ _ _ h => h) HF (Or.inl ⟨by rfl, ?_⟩) ?_
    rotate_left 1
    · (intro v _; go_simp; try with_reducible rfl)
    try simp only [Act.put]
    refine wpAnyL_pure (i := 7) (v := ?_) rfl rfl (by kernel_rfl) (by kernel_rfl) (by kernel_rfl) (fun _ _ _ h => h) HF (Or.inl ⟨by rfl, ?_⟩) ?_
    rotate_left 1
    · (intro v _; go_simp; try with_reducible rfl)
    try simp only [Act.put]
    have f0 := lk S 3 0 rfl rfl
    have f1 := (S.at_ 3 rfl).free 0
    have f2 := lk S 3 1 rfl rfl
    have f3 := (S.at_ 3 rfl).free 1
    have f4 := lk S 3 2 rfl rfl
    have f5 := (S.at_ 3 rfl).free 2
    have f6 := lk S 3 3 rfl rfl
    have f7 := (S.at_ 3 rfl).free 3
    refine wpAnyL_step (i := 9) (by kernel_rfl) rfl rfl ?_
    intro K hK
    go_simp
    replace S := S.put 3 rfl 0 (.slice Ah0_0 nh0_0 ch0_0)
    replace c := st c S (S.base_le 3 rfl)
    replace S := S.put 3 rfl 1 (.slice Ah0_1 nh0_1 ch0_1)
    replace c := st c S (S.base_le 3 rfl)
    replace S := S.put 3 rfl 2 (.slice Ah0_2 nh0_2 ch0_2)
    replace c := st c S (S.base_le 3 rfl)
    replace S := S.put 3 rfl 3 (.slice Ah0_3 nh0_3 ch0_3)
    replace c := st c S (S.base_le 3 rfl)
    clear HF
    have HF : ((((w75.setCell ⟨w71.heap.size, 0, none⟩ (.slice Ah0_0 nh0_0 ch0_0)).setCell ⟨w71.heap.size, 1, none⟩ (.slice Ah0_1 nh0_1 ch0_1)).setCell ⟨w71.heap.size, 2, none⟩ (.slice Ah0_2 nh0_2 ch0_2)).setCell ⟨w71.heap.size, 3, none⟩ (.slice Ah0_3 nh0_3 ch0_3)).cell? ⟨w.heap.size, 0, none⟩ = some (.slice Aa0_0 na0_0 ca0_0) ∧ ((((w75.setCell ⟨w71.heap.size, 0, none⟩ (.slice Ah0_0 nh0_0 ch0_0)).setCell ⟨w71.heap.size, 1, none⟩ (.slice Ah0_1 nh0_1 ch0_1)).setCell ⟨w71.heap.size, 2, none⟩ (.slice Ah0_2 nh0_2 ch0_2)).setCell ⟨w71.heap.size, 3, none⟩ (.slice Ah0_3 nh0_3 ch0_3)).cell? ⟨w.heap.size, 1, none⟩ = some (.slice Aa0_1 na0_1 ca0_1) ∧ ((((w75.setCell ⟨w71.heap.size, 0, none⟩ (.slice Ah0_0 nh0_0 ch0_0)).setCell ⟨w71.heap.size, 1, none⟩ (.slice Ah0_1 nh0_1 ch0_1)).setCell ⟨w71.heap.size, 2, none⟩ (.slice Ah0_2 nh0_2 ch0_2)).setCell ⟨w71.heap.size, 3, none⟩ (.slice Ah0_3 nh0_3 ch0_3)).cell? ⟨w.heap.size, 2, none⟩ = some (.slice Aa0_2 na0_2 ca0_2) ∧ ((((w75.setCell ⟨w71.heap.size, 0, none⟩ (.slice Ah0_0 nh0_0 ch0_0)).setCell ⟨w71.heap.size, 1, none⟩ (.slice Ah0_1 nh0_1 ch0_1)).setCell ⟨w71.heap.size, 2, none⟩ (.slice Ah0_2 nh0_2 ch0_2)).setCell ⟨w71.heap.size, 3, none⟩ (.slice Ah0_3 nh0_3 ch0_3)).cell? ⟨w.heap.size, 3, none⟩ = some (.slice Aa0_3 na0_3 ca0_3) ∧ ((((w75.setCell ⟨w71.heap.size, 0, none⟩ (.slice Ah0_0 nh0_0 ch0_0)).setCell ⟨w71.heap.size, 1, none⟩ (.slice Ah0_1 nh0_1 ch0_1)).setCell ⟨w71.heap.size, 2, none⟩ (.slice Ah0_2 nh0_2 ch0_2)).setCell ⟨w71.heap.size, 3, none⟩ (.slice Ah0_3 nh0_3 ch0_3)).cell? ⟨w.heap.size + 1, 0, none⟩ = some (.int .i64 xa1_0) ∧ ((((w75.setCell ⟨w71.heap.size, 0, none⟩ (.slice Ah0_0 nh0_0 ch0_0)).setCell ⟨w71.heap.size, 1, none⟩ (.slice Ah0_1 nh0_1 ch0_1)).setCell ⟨w71.heap.size, 2, none⟩ (.slice Ah0_2 nh0_2 ch0_2)).setCell ⟨w71.heap.size, 3, none⟩ (.slice Ah0_3 nh0_3 ch0_3)).cell? ⟨w.heap.size + 1, 1, none⟩ = some (.int .i64 xa1_1) ∧ ((((w75.setCell ⟨w71.heap.size, 0, none⟩ (.slice Ah0_0 nh0_0 ch0_0)).setCell ⟨w71.heap.size, 1, none⟩ (.slice Ah0_1 nh0_1 ch0_1)).setCell ⟨w71.heap.size, 2, none⟩ (.slice Ah0_2 nh0_2 ch0_2)).setCell ⟨w71.heap.size, 3, none⟩ (.slice Ah0_3 nh0_3 ch0_3)).cell? ⟨w.heap.size + 1, 2, none⟩ = some (.int .i64 xa1_2) ∧ ((((w75.setCell ⟨w71.heap.size, 0, none⟩ (.slice Ah0_0 nh0_0 ch0_0)).setCell ⟨w71.heap.size, 1, none⟩ (.slice Ah0_1 nh0_1 ch0_1)).setCell ⟨w71.heap.size, 2, none⟩ (.slice Ah0_2 nh0_2 ch0_2)).setCell ⟨w71.heap.size, 3, none⟩ (.slice Ah0_3 nh0_3 ch0_3)).cell? ⟨w.heap.size + 1, 3, none⟩ = some (.slice Aa1_3 na1_3 ca1_3) := ⟨(S.at_ 13 rfl).cell 0, (S.at_ 13 rfl).cell 1, (S.at_ 13 rfl).cell 2, (S.at_ 13 rfl).cell 3, (S.at_ 12 rfl).cell 0, (S.at_ 12 rfl).cell 1, (S.at_ 12 rfl).cell 2, (S.at_ 12 rfl).cell 3⟩
    refine hK _ _ (fun _ => HF) ?_
    clear hK K
    try simp only [Act.put]
    generalize (((w75.setCell ⟨w71.heap.size, 0, none⟩ (.slice Ah0_0 nh0_0 ch0_0)).setCell ⟨w71.heap.size, 1, none⟩ (.slice Ah0_1 nh0_1 ch0_1)).setCell ⟨w71.heap.size, 2, none⟩ (.slice Ah0_2 nh0_2 ch0_2)).setCell ⟨w71.heap.size, 3, none⟩ (.slice Ah0_3 nh0_3 ch0_3) = w76 at *
    clear f0 f1 f2 f3 f4 f5 f6 f7
    refine wpAnyL_step (i := 10) (by kernel_rfl) rfl rfl ?_
    intro K hK
    go_simp
    refine hK _ _ (fun h => nomatch (show true = false from h)) ?_
    clear hK K
    try simp only [Act.put]
    refine wpAnyL_done (by kernel_rfl) ?_ _
    replace S := S.pick 0 rfl
    replace S := S.pick 3 rfl
    replace S := S.sub (.cons_cons _ (.cons_cons _ (.cons _ (.cons _ (.cons_cons _ (.cons_cons _ (.cons _ (.cons _ (.cons _ (.cons _ (.cons_cons _ (.cons_cons _ (List.nil_sublist _)))))))))))))
    go_wp2_with fail
    go_meet
    exact ⟨_, _, _, _, _, _, _, _, _, _, _, _, _, _, rfl, rfl, S, c⟩
 obtain ⟨ph0, Ah0_0, nh0_0, ch0_0, Ah0_1, nh0_1, ch0_1, Ah0_2, nh0_2, ch0_2, Ah0_3, nh0_3, ch0_3, fp_h0, rfl, rfl, S, c⟩ := hcut
 clear SH CH f0 f1 f2 f3 f4 f5 f6 f7
 generalize wc = w21 at *
 rw [← HFX0.out] at S
 rw [← HFX1.out]
 have f0 := lk S 0 0 rfl rfl
 have f1 := lk S 0 1 rfl rfl
 have f2 := lk S 0 2 rfl rfl
 have f3 := lk S 0 3 rfl rfl
 have f4 := lk S 4 0 rfl rfl
 have f5 := lk S 4 1 rfl rfl
 have f6 := lk S 4 2 rfl rfl
 have f7 := lk S 4 3 rfl rfl
 go_wp2_with fail
 refine (eqTwo_yes _ _ _ _ _ _ _ _ _ _ fx0 _ ((S.own_ 1 rfl).rd) ((S.own_ 5 rfl).rd) (Nat.le_refl _) (Nat.le_refl _) hfz0).mono ?_
 rintro e w22 ⟨rfl, b⟩
 replace c := c.trans (b.mono c.size)
 replace S := S.keep b
 clear b f0 f1 f2 f3 f4 f5 f6 f7
 have f0 := lk S 2 0 rfl rfl
 have f1 := lk S 2 1 rfl rfl
 have f2 := lk S 2 2 rfl rfl
 have f3 := lk S 2 3 rfl rfl
 go_wp2_with fail
 refine (heldTwo_any _ _ _ _ e0 _ _ ((S.own_ 3 rfl).rd) (Nat.le_refl _) (by omega) (1) (by omega) (by omega) mk_g0).mono ?_
 rintro e w23 ⟨rfl, b⟩
 rw [en_g0]
 have q23 : ¬ (1 + (fx0.n : Int) < 0) := by omega
 replace c := c.trans (b.mono c.size)
 replace S := S.keep b
 clear b f0 f1 f2 f3
 go_wp2
 go_ret
 exact ⟨rfl, c⟩
end Go.Proofs.Ytecihkkagpbkdaa
