/- Parts of my texts: LawKeptEntry. -/
import Derived.Test.YtecihkkagpbkdaaK4
import Derived.Test.YtecihkkagpbkdaaK6
import Derived.Deep.DeepCutAuto
namespace Go.Proofs.Ytecihkkagpbkdaa
set_option maxRecDepth 100000
set_option linter.unusedVariables false
open Go.RowKit
set_option maxHeartbeats 12800000 in
theorem lawKeptEntry (f : TwoM → EntM → (TwoM) × Bool)
    (hf0 : ∀ (d0 : TwoM) (e1 : EntM), d0.sz ≤ 1048576 → ((f d0 e1).1).sz ≤ 1048577)
    (hs : ∀ (Aa0_0 : Option Addr) (na0_0 ca0_0 : Nat) (Aa0_1 : Option Addr) (na0_1 ca0_1 : Nat) (Aa0_2 : Option Addr) (na0_2 ca0_2 : Nat) (Aa0_3 : Option Addr) (na0_3 ca0_3 : Nat) (d0 : TwoM) (xa1_0 : Int) (xa1_1 : Int) (xa1_2 : Int) (xa1_3 : Int) (xa1_4 : Int) (xa1_5 : Int) (xa1_6 : Int) (xa1_7 : Int) (xa1_8 : Int) (w : World), Rd w w.heap.size (d0.cells) [.slice Aa0_0 na0_0 ca0_0, .slice Aa0_1 na0_1 ca0_1, .slice Aa0_2 na0_2 ca0_2, .slice Aa0_3 na0_3 ca0_3] → d0.sz ≤ 1048576 → Calls Try.prog 17 #[.agg #[.slice Aa0_0 na0_0 ca0_0, .slice Aa0_1 na0_1 ca0_1, .slice Aa0_2 na0_2 ca0_2, .slice Aa0_3 na0_3 ca0_3], .agg #[.int .i64 xa1_0, .int .i64 xa1_1, .int .i64 xa1_2, .int .i64 xa1_3, .int .i64 xa1_4, .int .i64 xa1_5, .int .i64 xa1_6, .int .i64 xa1_7, .int .i64 xa1_8]] w (fun e w' => ∃ (Ar0_0 : Option Addr) (nr0_0 cr0_0 : Nat) (Ar0_1 : Option Addr) (nr0_1 cr0_1 : Nat) (Ar0_2 : Option Addr) (nr0_2 cr0_2 : Nat) (Ar0_3 : Option Addr) (nr0_3 cr0_3 : Nat), e = .returned (.tuple #[.agg #[.slice Ar0_0 nr0_0 cr0_0, .slice Ar0_1 nr0_1 cr0_1, .slice Ar0_2 nr0_2 cr0_2, .slice Ar0_3 nr0_3 cr0_3], .bool (f d0 ⟨xa1_0, xa1_1, xa1_2, xa1_3, xa1_4, xa1_5, xa1_6, xa1_7, xa1_8⟩).2]) ∧ Has w' w.heap.size (((f d0 ⟨xa1_0, xa1_1, xa1_2, xa1_3, xa1_4, xa1_5, xa1_6, xa1_7, xa1_8⟩).1).cells) [.slice Ar0_0 nr0_0 cr0_0, .slice Ar0_1 nr0_1 cr0_1, .slice Ar0_2 nr0_2 cr0_2, .slice Ar0_3 nr0_3 cr0_3] ∧ Below w.heap.size w w'))
    (hi : ∀ (Aa0_0 : Option Addr) (na0_0 ca0_0 : Nat) (Aa0_1 : Option Addr) (na0_1 ca0_1 : Nat) (Aa0_2 : Option Addr) (na0_2 ca0_2 : Nat) (Aa0_3 : Option Addr) (na0_3 ca0_3 : Nat) (d0 : TwoM) (xa1_0 : Int) (xa1_1 : Int) (xa1_2 : Int) (xa1_3 : Int) (xa1_4 : Int) (xa1_5 : Int) (xa1_6 : Int) (xa1_7 : Int) (xa1_8 : Int) (w : World), Rd w w.heap.size (d0.cells) [.slice Aa0_0 na0_0 ca0_0, .slice Aa0_1 na0_1 ca0_1, .slice Aa0_2 na0_2 ca0_2, .slice Aa0_3 na0_3 ca0_3] → d0.sz ≤ 1048576 → Calls Try.prog 19 #[.agg #[.slice Aa0_0 na0_0 ca0_0, .slice Aa0_1 na0_1 ca0_1, .slice Aa0_2 na0_2 ca0_2, .slice Aa0_3 na0_3 ca0_3], .agg #[.int .i64 xa1_0, .int .i64 xa1_1, .int .i64 xa1_2, .int .i64 xa1_3, .int .i64 xa1_4, .int .i64 xa1_5, .int .i64 xa1_6, .int .i64 xa1_7, .int .i64 xa1_8]] w (fun e w' => ∃ (Ar0_0 : Option Addr) (nr0_0 cr0_0 : Nat) (Ar0_1 : Option Addr) (nr0_1 cr0_1 : Nat) (Ar0_2 : Option Addr) (nr0_2 cr0_2 : Nat) (Ar0_3 : Option Addr) (nr0_3 cr0_3 : Nat), e = .returned (.tuple #[.agg #[.slice Ar0_0 nr0_0 cr0_0, .slice Ar0_1 nr0_1 cr0_1, .slice Ar0_2 nr0_2 cr0_2, .slice Ar0_3 nr0_3 cr0_3], .bool (f d0 ⟨xa1_0, xa1_1, xa1_2, xa1_3, xa1_4, xa1_5, xa1_6, xa1_7, xa1_8⟩).2]) ∧ Has w' w.heap.size (((f d0 ⟨xa1_0, xa1_1, xa1_2, xa1_3, xa1_4, xa1_5, xa1_6, xa1_7, xa1_8⟩).1).cells) [.slice Ar0_0 nr0_0 cr0_0, .slice Ar0_1 nr0_1 cr0_1, .slice Ar0_2 nr0_2 cr0_2, .slice Ar0_3 nr0_3 cr0_3] ∧ Below w.heap.size w w'))
    (Aa0_0 : Option Addr) (na0_0 ca0_0 : Nat) (Aa0_1 : Option Addr) (na0_1 ca0_1 : Nat) (Aa0_2 : Option Addr) (na0_2 ca0_2 : Nat) (Aa0_3 : Option Addr) (na0_3 ca0_3 : Nat) (d0 : TwoM) (xa1_0 : Int) (xa1_1 : Int) (xa1_2 : Int) (xa1_3 : Int) (xa1_4 : Int) (xa1_5 : Int) (xa1_6 : Int) (xa1_7 : Int) (xa1_8 : Int) (w : World) (h0 : Rd w w.heap.size (d0.cells) [.slice Aa0_0 na0_0 ca0_0, .slice Aa0_1 na0_1 ca0_1, .slice Aa0_2 na0_2 ca0_2, .slice Aa0_3 na0_3 ca0_3]) :
    Calls Try.prog 5 #[.agg #[.slice Aa0_0 na0_0 ca0_0, .slice Aa0_1 na0_1 ca0_1, .slice Aa0_2 na0_2 ca0_2, .slice Aa0_3 na0_3 ca0_3], .agg #[.int .i64 xa1_0, .int .i64 xa1_1, .int .i64 xa1_2, .int .i64 xa1_3, .int .i64 xa1_4, .int .i64 xa1_5, .int .i64 xa1_6, .int .i64 xa1_7, .int .i64 xa1_8]] w fun e w' => e = .returned (.bool true) ∧ Below w.heap.size w w' := by
 have SP := jd hs
 have IM := jd hi
 clear hs hi
 have S := Sep.nil w w.heap.size
 have c := Below.refl w.heap.size w
 replace S := S.box c.size #[.slice Aa0_0 na0_0 ca0_0, .slice Aa0_1 na0_1 ca0_1, .slice Aa0_2 na0_2 ca0_2, .slice Aa0_3 na0_3 ca0_3] 27
 replace c := al c S
 replace S := S.boxAt c.size (w.heap.size + 1) (by simp) #[.int .i64 xa1_0, .int .i64 xa1_1, .int .i64 xa1_2, .int .i64 xa1_3, .int .i64 xa1_4, .int .i64 xa1_5, .int .i64 xa1_6, .int .i64 xa1_7, .int .i64 xa1_8] 44
 replace c := al c S
 go_enter Try.func5, Try.ntmps5
 go_wp2_with fail
 generalize (w.alloc (.cells #[.slice Aa0_0 na0_0 ca0_0, .slice Aa0_1 na0_1 ca0_1, .slice Aa0_2 na0_2 ca0_2, .slice Aa0_3 na0_3 ca0_3] 27)).alloc (.cells #[.int .i64 xa1_0, .int .i64 xa1_1, .int .i64 xa1_2, .int .i64 xa1_3, .int .i64 xa1_4, .int .i64 xa1_5, .int .i64 xa1_6, .int .i64 xa1_7, .int .i64 xa1_8] 44) = w1 at *
 refine (szTwo_any _ _ _ _ d0 _ _ _ (h0.keep c) c.size (by omega) (by omega)).mono ?_
 rintro e w2 ⟨rfl, b⟩
 replace c := c.trans (b.mono c.size)
 replace S := S.keep b
 clear b
 by_cases hzi0 : ((d0.sz : Nat) : Int) ≤ 1048576
 case neg =>
  rw [left, if_neg hzi0]
  go_wp2
  go_ret
  exact ⟨rfl, c⟩
 rw [left, if_pos hzi0]
 have hz0 : d0.sz ≤ 1048576 := by omega
 have qz0 : ¬ ((1048576 : Int) - (d0.sz : Int) < 0) := by omega
 obtain ⟨fx0, hfx0⟩ : ∃ q, q = (f d0 ⟨xa1_0, xa1_1, xa1_2, xa1_3, xa1_4, xa1_5, xa1_6, xa1_7, xa1_8⟩).1 := ⟨_, rfl⟩
 have hfz0 := hf0 d0 ⟨xa1_0, xa1_1, xa1_2, xa1_3, xa1_4, xa1_5, xa1_6, xa1_7, xa1_8⟩ hz0
 rw [← hfx0] at hfz0
 have HFX0 := jd hfx0
 clear hfx0
 obtain ⟨fx1, hfx1⟩ : ∃ q, q = (f d0 ⟨xa1_0, xa1_1, xa1_2, xa1_3, xa1_4, xa1_5, xa1_6, xa1_7, xa1_8⟩).2 := ⟨_, rfl⟩
 have HFX1 := jd hfx1
 clear hfx1
 have f0 := lk S 1 0 rfl rfl
 have f1 := lk S 1 1 rfl rfl
 have f2 := lk S 1 2 rfl rfl
 have f3 := lk S 1 3 rfl rfl
 have f4 := lk S 0 0 rfl rfl
 have f5 := lk S 0 1 rfl rfl
 have f6 := lk S 0 2 rfl rfl
 have f7 := lk S 0 3 rfl rfl
 have f8 := lk S 0 4 rfl rfl
 have f9 := lk S 0 5 rfl rfl
 have f10 := lk S 0 6 rfl rfl
 have f11 := lk S 0 7 rfl rfl
 have f12 := lk S 0 8 rfl rfl
 have SH := jd S
 have CH := jd c
 clear S c
 go_wp2_with fail
 go_cut [6, 7] (fun s0 s1 wx => ∃ (pw0 : Nat) (Aw0_0 : Option Addr) (nw0_0 cw0_0 : Nat) (Aw0_1 : Option Addr) (nw0_1 cw0_1 : Nat) (Aw0_2 : Option Addr) (nw0_2 cw0_2 : Nat) (Aw0_3 : Option Addr) (nw0_3 cw0_3 : Nat) (fp_w0 : List Nat), s0 = .pointer (some ⟨pw0, 0, none⟩) ∧ s1 = .bool ((f d0 ⟨xa1_0, xa1_1, xa1_2, xa1_3, xa1_4, xa1_5, xa1_6, xa1_7, xa1_8⟩).2) ∧ Sep wx w.heap.size [.blk pw0 #[.slice Aw0_0 nw0_0 cw0_0, .slice Aw0_1 nw0_1 cw0_1, .slice Aw0_2 nw0_2 cw0_2, .slice Aw0_3 nw0_3 cw0_3] 34, .own (((f d0 ⟨xa1_0, xa1_1, xa1_2, xa1_3, xa1_4, xa1_5, xa1_6, xa1_7, xa1_8⟩).1).cells) [.slice Aw0_0 nw0_0 cw0_0, .slice Aw0_1 nw0_1 cw0_1, .slice Aw0_2 nw0_2 cw0_2, .slice Aw0_3 nw0_3 cw0_3] fp_w0, .blk (w.heap.size + 1) #[.int .i64 xa1_0, .int .i64 xa1_1, .int .i64 xa1_2, .int .i64 xa1_3, .int .i64 xa1_4, .int .i64 xa1_5, .int .i64 xa1_6, .int .i64 xa1_7, .int .i64 xa1_8] 44, .blk (w.heap.size) #[.slice Aa0_0 na0_0 ca0_0, .slice Aa0_1 na0_1 ca0_1, .slice Aa0_2 na0_2 ca0_2, .slice Aa0_3 na0_3 ca0_3] 27] ∧ Below w.heap.size w wx)
 case first =>
  have S := SH.out
  have c := CH.out
  refine wp_region_L (fun v => v.cell? ⟨w.heap.size, 0, none⟩ = some (.slice Aa0_0 na0_0 ca0_0) ∧ v.cell? ⟨w.heap.size, 1, none⟩ = some (.slice Aa0_1 na0_1 ca0_1) ∧ v.cell? ⟨w.heap.size, 2, none⟩ = some (.slice Aa0_2 na0_2 ca0_2) ∧ v.cell? ⟨w.heap.size, 3, none⟩ = some (.slice Aa0_3 na0_3 ca0_3) ∧ v.cell? ⟨w.heap.size + 1, 0, none⟩ = some (.int .i64 xa1_0) ∧ v.cell? ⟨w.heap.size + 1, 1, none⟩ = some (.int .i64 xa1_1) ∧ v.cell? ⟨w.heap.size + 1, 2, none⟩ = some (.int .i64 xa1_2) ∧ v.cell? ⟨w.heap.size + 1, 3, none⟩ = some (.int .i64 xa1_3) ∧ v.cell? ⟨w.heap.size + 1, 4, none⟩ = some (.int .i64 xa1_4) ∧ v.cell? ⟨w.heap.size + 1, 5, none⟩ = some (.int .i64 xa1_5) ∧ v.cell? ⟨w.heap.size + 1, 6, none⟩ = some (.int .i64 xa1_6) ∧ v.cell? ⟨w.heap.size + 1, 7, none⟩ = some (.int .i64 xa1_7) ∧ v.cell? ⟨w.heap.size + 1, 8, none⟩ = some (.int .i64 xa1_8)) 10 (by kernel_rfl) ?_
  clear f0 f1 f2 f3 f4 f5 f6 f7 f8 f9 f10 f11 f12 SH CH
  replace S := S.keep ((Below.refl _ _).drew)
  replace c := c.drew
  generalize w2.drew = w53 at *
  have HF : w53.cell? ⟨w.heap.size, 0, none⟩ = some (.slice Aa0_0 na0_0 ca0_0) ∧ w53.cell? ⟨w.heap.size, 1, none⟩ = some (.slice Aa0_1 na0_1 ca0_1) ∧ w53.cell? ⟨w.heap.size, 2, none⟩ = some (.slice Aa0_2 na0_2 ca0_2) ∧ w53.cell? ⟨w.heap.size, 3, none⟩ = some (.slice Aa0_3 na0_3 ca0_3) ∧ w53.cell? ⟨w.heap.size + 1, 0, none⟩ = some (.int .i64 xa1_0) ∧ w53.cell? ⟨w.heap.size + 1, 1, none⟩ = some (.int .i64 xa1_1) ∧ w53.cell? ⟨w.heap.size + 1, 2, none⟩ = some (.int .i64 xa1_2) ∧ w53.cell? ⟨w.heap.size + 1, 3, none⟩ = some (.int .i64 xa1_3) ∧ w53.cell? ⟨w.heap.size + 1, 4, none⟩ = some (.int .i64 xa1_4) ∧ w53.cell? ⟨w.heap.size + 1, 5, none⟩ = some (.int .i64 xa1_5) ∧ w53.cell? ⟨w.heap.size + 1, 6, none⟩ = some (.int .i64 xa1_6) ∧ w53.cell? ⟨w.heap.size + 1, 7, none⟩ = some (.int .i64 xa1_7) ∧ w53.cell? ⟨w.heap.size + 1, 8, none⟩ = some (.int .i64 xa1_8) := ⟨(S.at_ 1 rfl).cell 0, (S.at_ 1 rfl).cell 1, (S.at_ 1 rfl).cell 2, (S.at_ 1 rfl).cell 3, (S.at_ 0 rfl).cell 0, (S.at_ 0 rfl).cell 1, (S.at_ 0 rfl).cell 2, (S.at_ 0 rfl).cell 3, (S.at_ 0 rfl).cell 4, (S.at_ 0 rfl).cell 5, (S.at_ 0 rfl).cell 6, (S.at_ 0 rfl).cell 7, (S.at_ 0 rfl).cell 8⟩
  refine tk 0 (v := ?_) rfl rfl HF (.inl ⟨by rfl, ?_⟩) ?_
  rotate_left 1
  · (rintro v ⟨a0, a1, a2, a3, a4, a5, a6, a7, a8, a9, a10, a11, a12⟩; go_simp; try with_reducible rfl)
  try simp only [Act.put]
  refine tk 2 (v := ?_) rfl rfl HF (.inl ⟨by rfl, ?_⟩) ?_
  rotate_left 1
  · (rintro v ⟨a0, a1, a2, a3, a4, a5, a6, a7, a8, a9, a10, a11, a12⟩; go_simp; try with_reducible rfl)
  try simp only [Act.put]
  refine wpAnyL_two (i := 1) (k := 8) (by kernel_rfl) rfl rfl rfl rfl ?_ ?_
  · intro K hK
    go_simp
    refine (toTwo_made _ _ _ _ d0 _ ((h0.keep c).up c.size) hz0).mono ?_
    rintro e w54 ⟨As0_0, ns0_0, cs0_0, As0_1, ns0_1, cs0_1, As0_2, ns0_2, cs0_2, As0_3, ns0_3, cs0_3, rfl, o, b⟩
    obtain ⟨fp_Os0, S'⟩ := S.has b o c.size
    replace c := c.trans (b.mono c.size)
    clear S; have S := S'; clear S' o b
    clear HF
    have HF : w54.cell? ⟨w.heap.size, 0, none⟩ = some (.slice Aa0_0 na0_0 ca0_0) ∧ w54.cell? ⟨w.heap.size, 1, none⟩ = some (.slice Aa0_1 na0_1 ca0_1) ∧ w54.cell? ⟨w.heap.size, 2, none⟩ = some (.slice Aa0_2 na0_2 ca0_2) ∧ w54.cell? ⟨w.heap.size, 3, none⟩ = some (.slice Aa0_3 na0_3 ca0_3) ∧ w54.cell? ⟨w.heap.size + 1, 0, none⟩ = some (.int .i64 xa1_0) ∧ w54.cell? ⟨w.heap.size + 1, 1, none⟩ = some (.int .i64 xa1_1) ∧ w54.cell? ⟨w.heap.size + 1, 2, none⟩ = some (.int .i64 xa1_2) ∧ w54.cell? ⟨w.heap.size + 1, 3, none⟩ = some (.int .i64 xa1_3) ∧ w54.cell? ⟨w.heap.size + 1, 4, none⟩ = some (.int .i64 xa1_4) ∧ w54.cell? ⟨w.heap.size + 1, 5, none⟩ = some (.int .i64 xa1_5) ∧ w54.cell? ⟨w.heap.size + 1, 6, none⟩ = some (.int .i64 xa1_6) ∧ w54.cell? ⟨w.heap.size + 1, 7, none⟩ = some (.int .i64 xa1_7) ∧ w54.cell? ⟨w.heap.size + 1, 8, none⟩ = some (.int .i64 xa1_8) := ⟨(S.at_ 2 rfl).cell 0, (S.at_ 2 rfl).cell 1, (S.at_ 2 rfl).cell 2, (S.at_ 2 rfl).cell 3, (S.at_ 1 rfl).cell 0, (S.at_ 1 rfl).cell 1, (S.at_ 1 rfl).cell 2, (S.at_ 1 rfl).cell 3, (S.at_ 1 rfl).cell 4, (S.at_ 1 rfl).cell 5, (S.at_ 1 rfl).cell 6, (S.at_ 1 rfl).cell 7, (S.at_ 1 rfl).cell 8⟩
    refine hK _ _ (fun _ => HF) ?_
    clear hK K
    try simp only [Act.put]
    refine wpAnyL_two (i := 3) (k := 8) (by kernel_rfl) rfl rfl rfl rfl ?_ ?_
    · intro K hK
      go_simp
      refine (toEntry_any _ _ _ _ _ _ _ _ _ _).mono ?_
      rintro e w55 ⟨rfl, b⟩
      replace c := c.trans (b.mono c.size)
      replace S := S.keep b
      clear b
      clear HF
      have HF : w55.cell? ⟨w.heap.size, 0, none⟩ = some (.slice Aa0_0 na0_0 ca0_0) ∧ w55.cell? ⟨w.heap.size, 1, none⟩ = some (.slice Aa0_1 na0_1 ca0_1) ∧ w55.cell? ⟨w.heap.size, 2, none⟩ = some (.slice Aa0_2 na0_2 ca0_2) ∧ w55.cell? ⟨w.heap.size, 3, none⟩ = some (.slice Aa0_3 na0_3 ca0_3) ∧ w55.cell? ⟨w.heap.size + 1, 0, none⟩ = some (.int .i64 xa1_0) ∧ w55.cell? ⟨w.heap.size + 1, 1, none⟩ = some (.int .i64 xa1_1) ∧ w55.cell? ⟨w.heap.size + 1, 2, none⟩ = some (.int .i64 xa1_2) ∧ w55.cell? ⟨w.heap.size + 1, 3, none⟩ = some (.int .i64 xa1_3) ∧ w55.cell? ⟨w.heap.size + 1, 4, none⟩ = some (.int .i64 xa1_4) ∧ w55.cell? ⟨w.heap.size + 1, 5, none⟩ = some (.int .i64 xa1_5) ∧ w55.cell? ⟨w.heap.size + 1, 6, none⟩ = some (.int .i64 xa1_6) ∧ w55.cell? ⟨w.heap.size + 1, 7, none⟩ = some (.int .i64 xa1_7) ∧ w55.cell? ⟨w.heap.size + 1, 8, none⟩ = some (.int .i64 xa1_8) := ⟨(S.at_ 2 rfl).cell 0, (S.at_ 2 rfl).cell 1, (S.at_ 2 rfl).cell 2, (S.at_ 2 rfl).cell 3, (S.at_ 1 rfl).cell 0, (S.at_ 1 rfl).cell 1, (S.at_ 1 rfl).cell 2, (S.at_ 1 rfl).cell 3, (S.at_ 1 rfl).cell 4, (S.at_ 1 rfl).cell 5, (S.at_ 1 rfl).cell 6, (S.at_ 1 rfl).cell 7, (S.at_ 1 rfl).cell 8⟩
      refine hK _ _ (fun _ => HF) ?_
      clear hK K
      try simp only [Act.put]
      refine wpAnyL_two (i := 4) (k := 8) (by kernel_rfl) rfl rfl rfl rfl ?_ ?_
      · intro K hK
        go_simp
        refine (SP.out _ _ _ _ _ _ _ _ _ _ _ _ d0 _ _ _ _ _ _ _ _ _ _ ((S.own_ 0 rfl).rd) hz0).mono ?_
        rintro e w56 ⟨Aw0_0, nw0_0, cw0_0, Aw0_1, nw0_1, cw0_1, Aw0_2, nw0_2, cw0_2, Aw0_3, nw0_3, cw0_3, rfl, o, b⟩
        obtain ⟨fp_Ow0, S'⟩ := S.has b o c.size
        replace c := c.trans (b.mono c.size)
        clear S; have S := S'; clear S' o b
        clear HF
        have HF : w56.cell? ⟨w.heap.size, 0, none⟩ = some (.slice Aa0_0 na0_0 ca0_0) ∧ w56.cell? ⟨w.heap.size, 1, none⟩ = some (.slice Aa0_1 na0_1 ca0_1) ∧ w56.cell? ⟨w.heap.size, 2, none⟩ = some (.slice Aa0_2 na0_2 ca0_2) ∧ w56.cell? ⟨w.heap.size, 3, none⟩ = some (.slice Aa0_3 na0_3 ca0_3) ∧ w56.cell? ⟨w.heap.size + 1, 0, none⟩ = some (.int .i64 xa1_0) ∧ w56.cell? ⟨w.heap.size + 1, 1, none⟩ = some (.int .i64 xa1_1) ∧ w56.cell? ⟨w.heap.size + 1, 2, none⟩ = some (.int .i64 xa1_2) ∧ w56.cell? ⟨w.heap.size + 1, 3, none⟩ = some (.int .i64 xa1_3) ∧ w56.cell? ⟨w.heap.size + 1, 4, none⟩ = some (.int .i64 xa1_4) ∧ w56.cell? ⟨w.heap.size + 1, 5, none⟩ = some (.int .i64 xa1_5) ∧ w56.cell? ⟨w.heap.size + 1, 6, none⟩ = some (.int .i64 xa1_6) ∧ w56.cell? ⟨w.heap.size + 1, 7, none⟩ = some (.int .i64 xa1_7) ∧ w56.cell? ⟨w.heap.size + 1, 8, none⟩ = some (.int .i64 xa1_8) := ⟨(S.at_ 3 rfl).cell 0, (S.at_ 3 rfl).cell 1, (S.at_ 3 rfl).cell 2, (S.at_ 3 rfl).cell 3, (S.at_ 2 rfl).cell 0, (S.at_ 2 rfl).cell 1, (S.at_ 2 rfl).cell 2, (S.at_ 2 rfl).cell 3, (S.at_ 2 rfl).cell 4, (S.at_ 2 rfl).cell 5, (S.at_ 2 rfl).cell 6, (S.at_ 2 rfl).cell 7, (S.at_ 2 rfl).cell 8⟩
        refine hK _ _ (fun _ => HF) ?_
        clear hK K
        try simp only [Act.put]
        refine wpAnyL_pure (i := 5) (v := ?_) rfl rfl (by kernel_rfl) (by kernel_rfl) (by kernel_rfl) (fun _ _ _ h => h) HF (Or.inl ⟨by rfl, ?_⟩) ?_
        rotate_left 1
        · (intro v _; go_simp; try with_reducible rfl)
        try simp only [Act.put]
        refine wpAnyL_pure (i := 6) (v := ?_) rfl rfl (by kernel_rfl) (by kernel_rfl) (by kernel_rfl) (fun _ _ _ h => h) HF (Or.inl ⟨by rfl, ?_⟩) ?_
        rotate_left 1
        · (intro v _; go_simp; try with_reducible rfl)
        try simp only [Act.put]
        refine wpAnyL_pure (i := 7) (v := ?_) rfl rfl (by kernel_rfl) (by kernel_rfl) (by kernel_rfl) (fun _ _ _ h => h) HF (Or.inl ⟨by rfl, ?_⟩) ?_
        rotate_left 1
        · (intro v _; go_simp; try with_reducible rfl)
        try simp only [Act.put]
        refine wpAnyL_step (i := 8) (by kernel_rfl) rfl rfl ?_
        intro K hK
        go_simp
        replace S := S.boxAt c.size (w56.heap.size) rfl #[.slice none 0 0, .slice none 0 0, .slice none 0 0, .slice none 0 0] 34
        replace c := al c S
        clear HF
        have HF : (w56.alloc (.cells #[.slice none 0 0, .slice none 0 0, .slice none 0 0, .slice none 0 0] 34)).cell? ⟨w.heap.size, 0, none⟩ = some (.slice Aa0_0 na0_0 ca0_0) ∧ (w56.alloc (.cells #[.slice none 0 0, .slice none 0 0, .slice none 0 0, .slice none 0 0] 34)).cell? ⟨w.heap.size, 1, none⟩ = some (.slice Aa0_1 na0_1 ca0_1) ∧ (w56.alloc (.cells #[.slice none 0 0, .slice none 0 0, .slice none 0 0, .slice none 0 0] 34)).cell? ⟨w.heap.size, 2, none⟩ = some (.slice Aa0_2 na0_2 ca0_2) ∧ (w56.alloc (.cells #[.slice none 0 0, .slice none 0 0, .slice none 0 0, .slice none 0 0] 34)).cell? ⟨w.heap.size, 3, none⟩ = some (.slice Aa0_3 na0_3 ca0_3) ∧ (w56.alloc (.cells #[.slice none 0 0, .slice none 0 0, .slice none 0 0, .slice none 0 0] 34)).cell? ⟨w.heap.size + 1, 0, none⟩ = some (.int .i64 xa1_0) ∧ (w56.alloc (.cells #[.slice none 0 0, .slice none 0 0, .slice none 0 0, .slice none 0 0] 34)).cell? ⟨w.heap.size + 1, 1, none⟩ = some (.int .i64 xa1_1) ∧ (w56.alloc (.cells #[.slice none 0 0, .slice none 0 0, .slice none 0 0, .slice none 0 0] 34)).cell? ⟨w.heap.size + 1, 2, none⟩ = some (.int .i64 xa1_2) ∧ (w56.alloc (.cells #[.slice none 0 0, .slice none 0 0, .slice none 0 0, .slice none 0 0] 34)).cell? ⟨w.heap.size + 1, 3, none⟩ = some (.int .i64 xa1_3) ∧ (w56.alloc (.cells #[.slice none 0 0, .slice none 0 0, .slice none 0 0, .slice none 0 0] 34)).cell? ⟨w.heap.size + 1, 4, none⟩ = some (.int .i64 xa1_4) ∧ (w56.alloc (.cells #[.slice none 0 0, .slice none 0 0, .slice none 0 0, .slice none 0 0] 34)).cell? ⟨w.heap.size + 1, 5, none⟩ = some (.int .i64 xa1_5) ∧ (w56.alloc (.cells #[.slice none 0 0, .slice none 0 0, .slice none 0 0, .slice none 0 0] 34)).cell? ⟨w.heap.size + 1, 6, none⟩ = some (.int .i64 xa1_6) ∧ (w56.alloc (.cells #[.slice none 0 0, .slice none 0 0, .slice none 0 0, .slice none 0 0] 34)).cell? ⟨w.heap.size + 1, 7, none⟩ = some (.int .i64 xa1_7) ∧ (w56.alloc (.cells #[.slice none 0 0, .slice none 0 0, .slice none 0 0, .slice none 0 0] 34)).cell? ⟨w.heap.size + 1, 8, none⟩ = some (.int .i64 xa1_8) := ⟨(S.at_ 4 rfl).cell 0, (S.at_ 4 rfl).cell 1, (S.at_ 4 rfl).cell 2, (S.at_ 4 rfl).cell 3, (S.at_ 3 rfl).cell 0, (S.at_ 3 rfl).cell 1, (S.at_ 3 rfl).cell 2, (S.at_ 3 rfl).cell 3, (S.at_ 3 rfl).cell 4, (S.at_ 3 rfl).cell 5, (S.at_ 3 rfl).cell 6, (S.at_ 3 rfl).cell 7, (S.at_ 3 rfl).cell 8⟩
        refine hK _ _ (fun _ => HF) ?_
        clear hK K
        try simp only [Act.put]
        generalize hw : w56.alloc (.cells #[.slice none 0 0, .slice none 0 0, .slice none 0 0, .slice none 0 0] 34) = w57 at *
        clear hw
        have f0 := lk S 0 0 rfl rfl
        have f1 := (S.at_ 0 rfl).free 0
        have f2 := lk S 0 1 rfl rfl
        have f3 := (S.at_ 0 rfl).free 1
        have f4 := lk S 0 2 rfl rfl
        have f5 := (S.at_ 0 rfl).free 2
        have f6 := lk S 0 3 rfl rfl
        have f7 := (S.at_ 0 rfl).free 3
        refine wpAnyL_step (i := 9) (by kernel_rfl) rfl rfl ?_
        intro K hK
        go_simp
        replace S := S.put 0 rfl 0 (.slice Aw0_0 nw0_0 cw0_0)
        replace c := st c S (S.base_le 0 rfl)
        replace S := S.put 0 rfl 1 (.slice Aw0_1 nw0_1 cw0_1)
        replace c := st c S (S.base_le 0 rfl)
        replace S := S.put 0 rfl 2 (.slice Aw0_2 nw0_2 cw0_2)
        replace c := st c S (S.base_le 0 rfl)
        replace S := S.put 0 rfl 3 (.slice Aw0_3 nw0_3 cw0_3)
        replace c := st c S (S.base_le 0 rfl)
        clear HF
        have HF : ((((w57.setCell ⟨w56.heap.size, 0, none⟩ (.slice Aw0_0 nw0_0 cw0_0)).setCell ⟨w56.heap.size, 1, none⟩ (.slice Aw0_1 nw0_1 cw0_1)).setCell ⟨w56.heap.size, 2, none⟩ (.slice Aw0_2 nw0_2 cw0_2)).setCell ⟨w56.heap.size, 3, none⟩ (.slice Aw0_3 nw0_3 cw0_3)).cell? ⟨w.heap.size, 0, none⟩ = some (.slice Aa0_0 na0_0 ca0_0) ∧ ((((w57.setCell ⟨w56.heap.size, 0, none⟩ (.slice Aw0_0 nw0_0 cw0_0)).setCell ⟨w56.heap.size, 1, none⟩ (.slice Aw0_1 nw0_1 cw0_1)).setCell ⟨w56.heap.size, 2, none⟩ (.slice Aw0_2 nw0_2 cw0_2)).setCell ⟨w56.heap.size, 3, none⟩ (.slice Aw0_3 nw0_3 cw0_3)).cell? ⟨w.heap.size, 1, none⟩ = some (.slice Aa0_1 na0_1 ca0_1) ∧ ((((w57.setCell ⟨w56.heap.size, 0, none⟩ (.slice Aw0_0 nw0_0 cw0_0)).setCell ⟨w56.heap.size, 1, none⟩ (.slice Aw0_1 nw0_1 cw0_1)).setCell ⟨w56.heap.size, 2, none⟩ (.slice Aw0_2 nw0_2 cw0_2)).setCell ⟨w56.heap.size, 3, none⟩ (.slice Aw0_3 nw0_3 cw0_3)).cell? ⟨w.heap.size, 2, none⟩ = some (.slice Aa0_2 na0_2 ca0_2) ∧ ((((w57.setCell ⟨w56.heap.size, 0, none⟩ (.slice Aw0_0 nw0_0 cw0_0)).setCell ⟨w56.heap.size, 1, none⟩ (.slice Aw0_1 nw0_1 cw0_1)).setCell ⟨w56.heap.size, 2, none⟩ (.slice Aw0_2 nw0_2 cw0_2)).setCell ⟨w56.heap.size, 3, none⟩ (.slice Aw0_3 nw0_3 cw0_3)).cell? ⟨w.heap.size, 3, none⟩ = some (.slice Aa0_3 na0_3 ca0_3) ∧ ((((w57.setCell ⟨w56.heap.size, 0, none⟩ (.slice Aw0_0 nw0_0 cw0_0)).setCell ⟨w56.heap.size, 1, none⟩ (.slice Aw0_1 nw0_1 cw0_1)).setCell ⟨w56.heap.size, 2, none⟩ (.slice Aw0_2 nw0_2 cw0_2)).setCell ⟨w56.heap.size, 3, none⟩ (.slice Aw0_3 nw0_3 cw0_3)).cell? ⟨w.heap.size + 1, 0, none⟩ = some (.int .i64 xa1_0) ∧ ((((w57.setCell ⟨w56.heap.size, 0, none⟩ (.slice Aw0_0 nw0_0 cw0_0)).setCell ⟨w56.heap.size, 1, none⟩ (.slice Aw0_1 nw0_1 cw0_1)).setCell ⟨w56.heap.size, 2, none⟩ (.slice Aw0_2 nw0_2 cw0_2)).setCell ⟨w56.heap.size, 3, none⟩ (.slice Aw0_3 nw0_3 cw0_3)).cell? ⟨w.heap.size + 1, 1, none⟩ = some (.int .i64 xa1_1) ∧ ((((w57.setCell ⟨w56.heap.size, 0, none⟩ (.slice Aw0_0 nw0_0 cw0_0)).setCell ⟨w56.heap.size, 1, none⟩ (.slice Aw0_1 nw0_1 cw0_1)).setCell ⟨w56.heap.size, 2, none⟩ (.slice Aw0_2 nw0_2 cw0_2)).setCell ⟨w56.heap.size, 3, none⟩ (.slice Aw0_3 nw0_3 cw0_3)).cell? ⟨w.heap.size + 1, 2, none⟩ = some (.int .i64 xa1_2) ∧ ((((w57.setCell ⟨w56.heap.size, 0, none⟩ (.slice Aw0_0 nw0_0 cw0_0)).setCell ⟨w56.heap.size, 1, none⟩ (.slice Aw0_1 nw0_1 cw0_1)).setCell ⟨w56.heap.size, 2, none⟩ (.slice Aw0_2 nw0_2 cw0_2)).setCell ⟨w56.heap.size, 3, none⟩ (.slice Aw0_3 nw0_3 cw0_3)).cell? ⟨w.heap.size + 1, 3, none⟩ = some (.int .i64 xa1_3) ∧ ((((w57.setCell ⟨w56.heap.size, 0, none⟩ (.slice Aw0_0 nw0_0 cw0_0)).setCell ⟨w56.heap.size, 1, none⟩ (.slice Aw0_1 nw0_1 cw0_1)).setCell ⟨w56.heap.size, 2, none⟩ (.slice Aw0_2 nw0_2 cw0_2)).setCell ⟨w56.heap.size, 3, none⟩ (.slice Aw0_3 nw0_3 cw0_3)).cell? ⟨w.heap.size + 1, 4, none⟩ = some (.int .i64 xa1_4) ∧ ((((w57.setCell ⟨w56.heap.size, 0, none⟩ (.slice Aw0_0 nw0_0 cw0_0)).setCell ⟨w56.heap.size, 1, none⟩ (.slice Aw0_1 nw0_1 cw0_1)).setCell ⟨w56.heap.size, 2, none⟩ (.slice Aw0_2 nw0_2 cw0_2)).setCell ⟨w56.heap.size, 3, none⟩ (.slice Aw0_3 nw0_3 cw0_3)).cell? ⟨w.heap.size + 1, 5, none⟩ = some (.int .i64 xa1_5) ∧ ((((w57.setCell ⟨w56.heap.size, 0, none⟩ (.slice Aw0_0 nw0_0 cw0_0)).setCell ⟨w56.heap.size, 1, none⟩ (.slice Aw0_1 nw0_1 cw0_1)).setCell ⟨w56.heap.size, 2, none⟩ (.slice Aw0_2 nw0_2 cw0_2)).setCell ⟨w56.heap.size, 3, none⟩ (.slice Aw0_3 nw0_3 cw0_3)).cell? ⟨w.heap.size + 1, 6, none⟩ = some (.int .i64 xa1_6) ∧ ((((w57.setCell ⟨w56.heap.size, 0, none⟩ (.slice Aw0_0 nw0_0 cw0_0)).setCell ⟨w56.heap.size, 1, none⟩ (.slice Aw0_1 nw0_1 cw0_1)).setCell ⟨w56.heap.size, 2, none⟩ (.slice Aw0_2 nw0_2 cw0_2)).setCell ⟨w56.heap.size, 3, none⟩ (.slice Aw0_3 nw0_3 cw0_3)).cell? ⟨w.heap.size + 1, 7, none⟩ = some (.int .i64 xa1_7) ∧ ((((w57.setCell ⟨w56.heap.size, 0, none⟩ (.slice Aw0_0 nw0_0 cw0_0)).setCell ⟨w56.heap.size, 1, none⟩ (.slice Aw0_1 nw0_1 cw0_1)).setCell ⟨w56.heap.size, 2, none⟩ (.slice Aw0_2 nw0_2 cw0_2)).setCell ⟨w56.heap.size, 3, none⟩ (.slice Aw0_3 nw0_3 cw0_3)).cell? ⟨w.heap.size + 1, 8, none⟩ = some (.int .i64 xa1_8) := ⟨(S.at_ 4 rfl).cell 0, (S.at_ 4 rfl).cell 1, (S.at_ 4 rfl).cell 2, (S.at_ 4 rfl).cell 3, (S.at_ 3 rfl).cell 0, (S.at_ 3 rfl).cell 1, (S.at_ 3 rfl).cell 2, (S.at_ 3 rfl).cell 3, (S.at_ 3 rfl).cell 4, (S.at_ 3 rfl).cell 5, (S.at_ 3 rfl).cell 6, (S.at_ 3 rfl).cell 7, (S.at_ 3 rfl).cell 8⟩
        refine hK _ _ (fun _ => HF) ?_
        clear hK K
        try simp only [Act.put]
        generalize (((w57.setCell ⟨w56.heap.size, 0, none⟩ (.slice Aw0_0 nw0_0 cw0_0)).setCell ⟨w56.heap.size, 1, none⟩ (.slice Aw0_1 nw0_1 cw0_1)).setCell ⟨w56.heap.size, 2, none⟩ (.slice Aw0_2 nw0_2 cw0_2)).setCell ⟨w56.heap.size, 3, none⟩ (.slice Aw0_3 nw0_3 cw0_3) = w58 at *
        clear f0 f1 f2 f3 f4 f5 f6 f7
        refine wpAnyL_step (i := 10) (by kernel_rfl) rfl rfl ?_
        intro K hK
        go_simp
        refine hK _ _ (fun h => nomatch (show true = false from h)) ?_
        clear hK K
        try simp only [Act.put]
        refine wpAnyL_done (by kernel_rfl) ?_ _
        replace S := S.pick 1 rfl
        replace S := S.pick 1 rfl
        replace S := S.sub (.cons_cons _ (.cons_cons _ (.cons _ (.cons_cons _ (.cons_cons _ (List.nil_sublist _))))))
        go_wp2_with fail
        go_meet
        exact ⟨_, _, _, _, _, _, _, _, _, _, _, _, _, _, rfl, rfl, S, c⟩
      · intro K hK
        go_simp
        replace S := S.boxAt c.size (w55.heap.size) rfl #[.slice none 0 0, .slice none 0 0, .slice none 0 0, .slice none 0 0] 34
        replace c := al c S
        clear HF
        have HF : (w55.alloc (.cells #[.slice none 0 0, .slice none 0 0, .slice none 0 0, .slice none 0 0] 34)).cell? ⟨w.heap.size, 0, none⟩ = some (.slice Aa0_0 na0_0 ca0_0) ∧ (w55.alloc (.cells #[.slice none 0 0, .slice none 0 0, .slice none 0 0, .slice none 0 0] 34)).cell? ⟨w.heap.size, 1, none⟩ = some (.slice Aa0_1 na0_1 ca0_1) ∧ (w55.alloc (.cells #[.slice none 0 0, .slice none 0 0, .slice none 0 0, .slice none 0 0] 34)).cell? ⟨w.heap.size, 2, none⟩ = some (.slice Aa0_2 na0_2 ca0_2) ∧ (w55.alloc (.cells #[.slice none 0 0, .slice none 0 0, .slice none 0 0, .slice none 0 0] 34)).cell? ⟨w.heap.size, 3, none⟩ = some (.slice Aa0_3 na0_3 ca0_3) ∧ (w55.alloc (.cells #[.slice none 0 0, .slice none 0 0, .slice none 0 0, .slice none 0 0] 34)).cell? ⟨w.heap.size + 1, 0, none⟩ = some (.int .i64 xa1_0) ∧ (w55.alloc (.cells #[.slice none 0 0, .slice none 0 0, .slice none 0 0, .slice none 0 0] 34)).cell? ⟨w.heap.size + 1, 1, none⟩ = some (.int .i64 xa1_1) ∧ (w55.alloc (.cells #[.slice none 0 0, .slice none 0 0, .slice none 0 0, .slice none 0 0] 34)).cell? ⟨w.heap.size + 1, 2, none⟩ = some (.int .i64 xa1_2) ∧ (w55.alloc (.cells #[.slice none 0 0, .slice none 0 0, .slice none 0 0, .slice none 0 0] 34)).cell? ⟨w.heap.size + 1, 3, none⟩ = some (.int .i64 xa1_3) ∧ (w55.alloc (.cells #[.slice none 0 0, .slice none 0 0, .slice none 0 0, .slice none 0 0] 34)).cell? ⟨w.heap.size + 1, 4, none⟩ = some (.int .i64 xa1_4) ∧ (w55.alloc (.cells #[.slice none 0 0, .slice none 0 0, .slice none 0 0, .slice none 0 0] 34)).cell? ⟨w.heap.size + 1, 5, none⟩ = some (.int .i64 xa1_5) ∧ (w55.alloc (.cells #[.slice none 0 0, .slice none 0 0, .slice none 0 0, .slice none 0 0] 34)).cell? ⟨w.heap.size + 1, 6, none⟩ = some (.int .i64 xa1_6) ∧ (w55.alloc (.cells #[.slice none 0 0, .slice none 0 0, .slice none 0 0, .slice none 0 0] 34)).cell? ⟨w.heap.size + 1, 7, none⟩ = some (.int .i64 xa1_7) ∧ (w55.alloc (.cells #[.slice none 0 0, .slice none 0 0, .slice none 0 0, .slice none 0 0] 34)).cell? ⟨w.heap.size + 1, 8, none⟩ = some (.int .i64 xa1_8) := ⟨(S.at_ 3 rfl).cell 0, (S.at_ 3 rfl).cell 1, (S.at_ 3 rfl).cell 2, (S.at_ 3 rfl).cell 3, (S.at_ 2 rfl).cell 0, (S.at_ 2 rfl).cell 1, (S.at_ 2 rfl).cell 2, (S.at_ 2 rfl).cell 3, (S.at_ 2 rfl).cell 4, (S.at_ 2 rfl).cell 5, (S.at_ 2 rfl).cell 6, (S.at_ 2 rfl).cell 7, (S.at_ 2 rfl).cell 8⟩
        refine hK _ _ (fun _ => HF) ?_
        clear hK K
        try simp only [Act.put]
        generalize hw : w55.alloc (.cells #[.slice none 0 0, .slice none 0 0, .slice none 0 0, .slice none 0 0] 34) = w56 at *
        clear hw
        refine wpAnyL_step (i := 4) (by kernel_rfl) rfl rfl ?_
        intro K hK
        go_simp
        refine (SP.out _ _ _ _ _ _ _ _ _ _ _ _ d0 _ _ _ _ _ _ _ _ _ _ ((S.own_ 1 rfl).rd) hz0).mono ?_
        rintro e w57 ⟨Aw0_0, nw0_0, cw0_0, Aw0_1, nw0_1, cw0_1, Aw0_2, nw0_2, cw0_2, Aw0_3, nw0_3, cw0_3, rfl, o, b⟩
        obtain ⟨fp_Ow0, S'⟩ := S.has b o c.size
        replace c := c.trans (b.mono c.size)
        clear S; have S := S'; clear S' o b
        clear HF
        have HF : w57.cell? ⟨w.heap.size, 0, none⟩ = some (.slice Aa0_0 na0_0 ca0_0) ∧ w57.cell? ⟨w.heap.size, 1, none⟩ = some (.slice Aa0_1 na0_1 ca0_1) ∧ w57.cell? ⟨w.heap.size, 2, none⟩ = some (.slice Aa0_2 na0_2 ca0_2) ∧ w57.cell? ⟨w.heap.size, 3, none⟩ = some (.slice Aa0_3 na0_3 ca0_3) ∧ w57.cell? ⟨w.heap.size + 1, 0, none⟩ = some (.int .i64 xa1_0) ∧ w57.cell? ⟨w.heap.size + 1, 1, none⟩ = some (.int .i64 xa1_1) ∧ w57.cell? ⟨w.heap.size + 1, 2, none⟩ = some (.int .i64 xa1_2) ∧ w57.cell? ⟨w.heap.size + 1, 3, none⟩ = some (.int .i64 xa1_3) ∧ w57.cell? ⟨w.heap.size + 1, 4, none⟩ = some (.int .i64 xa1_4) ∧ w57.cell? ⟨w.heap.size + 1, 5, none⟩ = some (.int .i64 xa1_5) ∧ w57.cell? ⟨w.heap.size + 1, 6, none⟩ = some (.int .i64 xa1_6) ∧ w57.cell? ⟨w.heap.size + 1, 7, none⟩ = some (.int .i64 xa1_7) ∧ w57.cell? ⟨w.heap.size + 1, 8, none⟩ = some (.int .i64 xa1_8) := ⟨(S.at_ 4 rfl).cell 0, (S.at_ 4 rfl).cell 1, (S.at_ 4 rfl).cell 2, (S.at_ 4 rfl).cell 3, (S.at_ 3 rfl).cell 0, (S.at_ 3 rfl).cell 1, (S.at_ 3 rfl).cell 2, (S.at_ 3 rfl).cell 3, (S.at_ 3 rfl).cell 4, (S.at_ 3 rfl).cell 5, (S.at_ 3 rfl).cell 6, (S.at_ 3 rfl).cell 7, (S.at_ 3 rfl).cell 8⟩
        refine hK _ _ (fun _ => HF) ?_
        clear hK K
        try simp only [Act.put]
        refine wpAnyL_pure (i := 5) (v := ?_) rfl rfl (by kernel_rfl) (by kernel_rfl) (by kernel_rfl) (fun _ _ _ h => h) HF (Or.inl ⟨by rfl, ?_⟩) ?_
        rotate_left 1
        · (intro v _; go_simp; try with_reducible rfl)
        try simp only [Act.put]
        refine wpAnyL_pure (i := 6) (v := ?_) rfl rfl (by kernel_rfl) (by kernel_rfl) (by kernel_rfl) (fun _ _ _ h => h) HF (Or.inl ⟨by rfl, ?_⟩) ?_
        rotate_left 1
        · (intro v _; go_simp; try with_reducible rfl)
        try simp only [Act.put]
        refine wpAnyL_pure (i := 7) (v := ?_) rfl rfl (by kernel_rfl) (by kernel_rfl) (by kernel_rfl) (fun _ _ _ h => h) HF (Or.inl ⟨by rfl, ?_⟩) ?_
        rotate_left 1
        · (intro v _; go_simp; try with_reducible rfl)
        try simp only [Act.put]
        have f0 := lk S 1 0 rfl rfl
        have f1 := (S.at_ 1 rfl).free 0
        have f2 := lk S 1 1 rfl rfl
        have f3 := (S.at_ 1 rfl).free 1
        have f4 := lk S 1 2 rfl rfl
        have f5 := (S.at_ 1 rfl).free 2
        have f6 := lk S 1 3 rfl rfl
        have f7 := (S.at_ 1 rfl).free 3
        refine wpAnyL_step (i := 9) (by kernel_rfl) rfl rfl ?_
        intro K hK
        go_simp
        replace S := S.put 1 rfl 0 (.slice Aw0_0 nw0_0 cw0_0)
        replace c := st c S (S.base_le 1 rfl)
        replace S := S.put 1 rfl 1 (.slice Aw0_1 nw0_1 cw0_1)
        replace c := st c S (S.base_le 1 rfl)
        replace S := S.put 1 rfl 2 (.slice Aw0_2 nw0_2 cw0_2)
        replace c := st c S (S.base_le 1 rfl)
        replace S := S.put 1 rfl 3 (.slice Aw0_3 nw0_3 cw0_3)
        replace c := st c S (S.base_le 1 rfl)
        clear HF
        have HF : ((((w57.setCell ⟨w55.heap.size, 0, none⟩ (.slice Aw0_0 nw0_0 cw0_0)).setCell ⟨w55.heap.size, 1, none⟩ (.slice Aw0_1 nw0_1 cw0_1)).setCell ⟨w55.heap.size, 2, none⟩ (.slice Aw0_2 nw0_2 cw0_2)).setCell ⟨w55.heap.size, 3, none⟩ (.slice Aw0_3 nw0_3 cw0_3)).cell? ⟨w.heap.size, 0, none⟩ = some (.slice Aa0_0 na0_0 ca0_0) ∧ ((((w57.setCell ⟨w55.heap.size, 0, none⟩ (.slice Aw0_0 nw0_0 cw0_0)).setCell ⟨w55.heap.size, 1, none⟩ (.slice Aw0_1 nw0_1 cw0_1)).setCell ⟨w55.heap.size, 2, none⟩ (.slice Aw0_2 nw0_2 cw0_2)).setCell ⟨w55.heap.size, 3, none⟩ (.slice Aw0_3 nw0_3 cw0_3)).cell? ⟨w.heap.size, 1, none⟩ = some (.slice Aa0_1 na0_1 ca0_1) ∧ ((((w57.setCell ⟨w55.heap.size, 0, none⟩ (.slice Aw0_0 nw0_0 cw0_0)).setCell ⟨w55.heap.size, 1, none⟩ (.slice Aw0_1 nw0_1 cw0_1)).setCell ⟨w55.heap.size, 2, none⟩ (.slice Aw0_2 nw0_2 cw0_2)).setCell ⟨w55.heap.size, 3, none⟩ (.slice Aw0_3 nw0_3 cw0_3)).cell? ⟨w.heap.size, 2, none⟩ = some (.slice Aa0_2 na0_2 ca0_2) ∧ ((((w57.setCell ⟨w55.heap.size, 0, none⟩ (.slice Aw0_0 nw0_0 cw0_0)).setCell ⟨w55.heap.size, 1, none⟩ (.slice Aw0_1 nw0_1 cw0_1)).setCell ⟨w55.heap.size, 2, none⟩ (.slice Aw0_2 nw0_2 cw0_2)).setCell ⟨w55.heap.size, 3, none⟩ (.slice Aw0_3 nw0_3 cw0_3)).cell? ⟨w.heap.size, 3, none⟩ = some (.slice Aa0_3 na0_3 ca0_3) ∧ ((((w57.setCell ⟨w55.heap.size, 0, none⟩ (.slice Aw0_0 nw0_0 cw0_0)).setCell ⟨w55.heap.size, 1, none⟩ (.slice Aw0_1 nw0_1 cw0_1)).setCell ⟨w55.heap.size, 2, none⟩ (.slice Aw0_2 nw0_2 cw0_2)).setCell ⟨w55.heap.size, 3, none⟩ (.slice Aw0_3 nw0_3 cw0_3)).cell? ⟨w.heap.size + 1, 0, none⟩ = some (.int .i64 xa1_0) ∧ ((((w57.setCell ⟨w55.heap.size, 0, none⟩ (.slice Aw0_0 nw0_0 cw0_0)).setCell ⟨w55.heap.size, 1, none⟩ (.slice Aw0_1 nw0_1 cw0_1)).setCell ⟨w55.heap.size, 2, none⟩ (.slice Aw0_2 nw0_2 cw0_2)).setCell ⟨w55.heap.size, 3, none⟩ (.slice Aw0_3 nw0_3 cw0_3)).cell? ⟨w.heap.size + 1, 1, none⟩ = some (.int .i64 xa1_1) ∧ ((((w57.setCell ⟨w55.heap.size, 0, none⟩ (.slice Aw0_0 nw0_0 cw0_0)).setCell ⟨w55.heap.size, 1, none⟩ (.slice Aw0_1 nw0_1 cw0_1)).setCell ⟨w55.heap.size, 2, none⟩ (.slice Aw0_2 nw0_2 cw0_2)).setCell ⟨w55.heap.size, 3, none⟩ (.slice Aw0_3 nw0_3 cw0_3)).cell? ⟨w.heap.size + 1, 2, none⟩ = some (.int .i64 xa1_2) ∧ ((((w57.setCell ⟨w55.heap.size, 0, none⟩ (.slice Aw0_0 nw0_0 cw0_0)).setCell ⟨w55.heap.size, 1, none⟩ (.slice Aw0_1 nw0_1 cw0_1)).setCell ⟨w55.heap.size, 2, none⟩ (.slice Aw0_2 nw0_2 cw0_2)).setCell ⟨w55.heap.size, 3, none⟩ (.slice Aw0_3 nw0_3 cw0_3)).cell? ⟨w.heap.size + 1, 3, none⟩ = some (.int .i64 xa1_3) ∧ ((((w57.setCell ⟨w55.heap.size, 0, none⟩ (.slice Aw0_0 nw0_0 cw0_0)).setCell ⟨w55.heap.size, 1, none⟩ (.slice Aw0_1 nw0_1 cw0_1)).setCell ⟨w55.heap.size, 2, none⟩ (.slice Aw0_2 nw0_2 cw0_2)).setCell ⟨w55.heap.size, 3, none⟩ (.slice Aw0_3 nw0_3 cw0_3)).cell? ⟨w.heap.size + 1, 4, none⟩ = some (.int .i64 xa1_4) ∧ ((((w57.setCell ⟨w55.heap.size, 0, none⟩ (.slice Aw0_0 nw0_0 cw0_0)).setCell ⟨w55.heap.size, 1, none⟩ (.slice Aw0_1 nw0_1 cw0_1)).setCell ⟨w55.heap.size, 2, none⟩ (.slice Aw0_2 nw0_2 cw0_2)).setCell ⟨w55.heap.size, 3, none⟩ (.slice Aw0_3 nw0_3 cw0_3)).cell? ⟨w.heap.size + 1, 5, none⟩ = some (.int .i64 xa1_5) ∧ ((((w57.setCell ⟨w55.heap.size, 0, none⟩ (.slice Aw0_0 nw0_0 cw0_0)).setCell ⟨w55.heap.size, 1, none⟩ (.slice Aw0_1 nw0_1 cw0_1)).setCell ⟨w55.heap.size, 2, none⟩ (.slice Aw0_2 nw0_2 cw0_2)).setCell ⟨w55.heap.size, 3, none⟩ (.slice Aw0_3 nw0_3 cw0_3)).cell? ⟨w.heap.size + 1, 6, none⟩ = some (.int .i64 xa1_6) ∧ ((((w57.setCell ⟨w55.heap.size, 0, none⟩ (.slice Aw0_0 nw0_0 cw0_0)).setCell ⟨w55.heap.size, 1, none⟩ (.slice Aw0_1 nw0_1 cw0_1)).setCell ⟨w55.heap.size, 2, none⟩ (.slice Aw0_2 nw0_2 cw0_2)).setCell ⟨w55.heap.size, 3, none⟩ (.slice Aw0_3 nw0_3 cw0_3)).cell? ⟨w.heap.size + 1, 7, none⟩ = some (.int .i64 xa1_7) ∧ ((((w57.setCell ⟨w55.heap.size, 0, none⟩ (.slice Aw0_0 nw0_0 cw0_0)).setCell ⟨w55.heap.size, 1, none⟩ (.slice Aw0_1 nw0_1 cw0_1)).setCell ⟨w55.heap.size, 2, none⟩ (.slice Aw0_2 nw0_2 cw0_2)).setCell ⟨w55.heap.size, 3, none⟩ (.slice Aw0_3 nw0_3 cw0_3)).cell? ⟨w.heap.size + 1, 8, none⟩ = some (.int .i64 xa1_8) := ⟨(S.at_ 4 rfl).cell 0, (S.at_ 4 rfl).cell 1, (S.at_ 4 rfl).cell 2, (S.at_ 4 rfl).cell 3, (S.at_ 3 rfl).cell 0, (S.at_ 3 rfl).cell 1, (S.at_ 3 rfl).cell 2, (S.at_ 3 rfl).cell 3, (S.at_ 3 rfl).cell 4, (S.at_ 3 rfl).cell 5, (S.at_ 3 rfl).cell 6, (S.at_ 3 rfl).cell 7, (S.at_ 3 rfl).cell 8⟩
        refine hK _ _ (fun _ => HF) ?_
        clear hK K
        try simp only [Act.put]
        generalize (((w57.setCell ⟨w55.heap.size, 0, none⟩ (.slice Aw0_0 nw0_0 cw0_0)).setCell ⟨w55.heap.size, 1, none⟩ (.slice Aw0_1 nw0_1 cw0_1)).setCell ⟨w55.heap.size, 2, none⟩ (.slice Aw0_2 nw0_2 cw0_2)).setCell ⟨w55.heap.size, 3, none⟩ (.slice Aw0_3 nw0_3 cw0_3) = w58 at *
        clear f0 f1 f2 f3 f4 f5 f6 f7
        refine wpAnyL_step (i := 10) (by kernel_rfl) rfl rfl ?_
        intro K hK
        go_simp
        refine hK _ _ (fun h => nomatch (show true = false from h)) ?_
        clear hK K
        try simp only [Act.put]
        refine wpAnyL_done (by kernel_rfl) ?_ _
        replace S := S.pick 0 rfl
        replace S := S.pick 1 rfl
        replace S := S.sub (.cons_cons _ (.cons_cons _ (.cons _ (.cons_cons _ (.cons_cons _ (List.nil_sublist _))))))
        go_wp2_with fail
        go_meet
        exact ⟨_, _, _, _, _, _, _, _, _, _, _, _, _, _, rfl, rfl, S, c⟩
    · intro K hK
      go_simp
      replace S := S.boxAt c.size (w54.heap.size) rfl #[.slice none 0 0, .slice none 0 0, .slice none 0 0, .slice none 0 0] 34
      replace c := al c S
      clear HF
      have HF : (w54.alloc (.cells #[.slice none 0 0, .slice none 0 0, .slice none 0 0, .slice none 0 0] 34)).cell? ⟨w.heap.size, 0, none⟩ = some (.slice Aa0_0 na0_0 ca0_0) ∧ (w54.alloc (.cells #[.slice none 0 0, .slice none 0 0, .slice none 0 0, .slice none 0 0] 34)).cell? ⟨w.heap.size, 1, none⟩ = some (.slice Aa0_1 na0_1 ca0_1) ∧ (w54.alloc (.cells #[.slice none 0 0, .slice none 0 0, .slice none 0 0, .slice none 0 0] 34)).cell? ⟨w.heap.size, 2, none⟩ = some (.slice Aa0_2 na0_2 ca0_2) ∧ (w54.alloc (.cells #[.slice none 0 0, .slice none 0 0, .slice none 0 0, .slice none 0 0] 34)).cell? ⟨w.heap.size, 3, none⟩ = some (.slice Aa0_3 na0_3 ca0_3) ∧ (w54.alloc (.cells #[.slice none 0 0, .slice none 0 0, .slice none 0 0, .slice none 0 0] 34)).cell? ⟨w.heap.size + 1, 0, none⟩ = some (.int .i64 xa1_0) ∧ (w54.alloc (.cells #[.slice none 0 0, .slice none 0 0, .slice none 0 0, .slice none 0 0] 34)).cell? ⟨w.heap.size + 1, 1, none⟩ = some (.int .i64 xa1_1) ∧ (w54.alloc (.cells #[.slice none 0 0, .slice none 0 0, .slice none 0 0, .slice none 0 0] 34)).cell? ⟨w.heap.size + 1, 2, none⟩ = some (.int .i64 xa1_2) ∧ (w54.alloc (.cells #[.slice none 0 0, .slice none 0 0, .slice none 0 0, .slice none 0 0] 34)).cell? ⟨w.heap.size + 1, 3, none⟩ = some (.int .i64 xa1_3) ∧ (w54.alloc (.cells #[.slice none 0 0, .slice none 0 0, .slice none 0 0, .slice none 0 0] 34)).cell? ⟨w.heap.size + 1, 4, none⟩ = some (.int .i64 xa1_4) ∧ (w54.alloc (.cells #[.slice none 0 0, .slice none 0 0, .slice none 0 0, .slice none 0 0] 34)).cell? ⟨w.heap.size + 1, 5, none⟩ = some (.int .i64 xa1_5) ∧ (w54.alloc (.cells #[.slice none 0 0, .slice none 0 0, .slice none 0 0, .slice none 0 0] 34)).cell? ⟨w.heap.size + 1, 6, none⟩ = some (.int .i64 xa1_6) ∧ (w54.alloc (.cells #[.slice none 0 0, .slice none 0 0, .slice none 0 0, .slice none 0 0] 34)).cell? ⟨w.heap.size + 1, 7, none⟩ = some (.int .i64 xa1_7) ∧ (w54.alloc (.cells #[.slice none 0 0, .slice none 0 0, .slice none 0 0, .slice none 0 0] 34)).cell? ⟨w.heap.size + 1, 8, none⟩ = some (.int .i64 xa1_8) := ⟨(S.at_ 3 rfl).cell 0, (S.at_ 3 rfl).cell 1, (S.at_ 3 rfl).cell 2, (S.at_ 3 rfl).cell 3, (S.at_ 2 rfl).cell 0, (S.at_ 2 rfl).cell 1, (S.at_ 2 rfl).cell 2, (S.at_ 2 rfl).cell 3, (S.at_ 2 rfl).cell 4, (S.at_ 2 rfl).cell 5, (S.at_ 2 rfl).cell 6, (S.at_ 2 rfl).cell 7, (S.at_ 2 rfl).cell 8⟩
      refine hK _ _ (fun _ => HF) ?_
      clear hK K
      try simp only [Act.put]
      generalize hw : w54.alloc (.cells #[.slice none 0 0, .slice none 0 0, .slice none 0 0, .slice none 0 0] 34) = w55 at *
      clear hw
      refine wpAnyL_step (i := 3) (by kernel_rfl) rfl rfl ?_
      intro K hK
      go_simp
      refine (toEntry_any _ _ _ _ _ _ _ _ _ _).mono ?_
      rintro e w56 ⟨rfl, b⟩
      replace c := c.trans (b.mono c.size)
      replace S := S.keep b
      clear b
      clear HF
      have HF : w56.cell? ⟨w.heap.size, 0, none⟩ = some (.slice Aa0_0 na0_0 ca0_0) ∧ w56.cell? ⟨w.heap.size, 1, none⟩ = some (.slice Aa0_1 na0_1 ca0_1) ∧ w56.cell? ⟨w.heap.size, 2, none⟩ = some (.slice Aa0_2 na0_2 ca0_2) ∧ w56.cell? ⟨w.heap.size, 3, none⟩ = some (.slice Aa0_3 na0_3 ca0_3) ∧ w56.cell? ⟨w.heap.size + 1, 0, none⟩ = some (.int .i64 xa1_0) ∧ w56.cell? ⟨w.heap.size + 1, 1, none⟩ = some (.int .i64 xa1_1) ∧ w56.cell? ⟨w.heap.size + 1, 2, none⟩ = some (.int .i64 xa1_2) ∧ w56.cell? ⟨w.heap.size + 1, 3, none⟩ = some (.int .i64 xa1_3) ∧ w56.cell? ⟨w.heap.size + 1, 4, none⟩ = some (.int .i64 xa1_4) ∧ w56.cell? ⟨w.heap.size + 1, 5, none⟩ = some (.int .i64 xa1_5) ∧ w56.cell? ⟨w.heap.size + 1, 6, none⟩ = some (.int .i64 xa1_6) ∧ w56.cell? ⟨w.heap.size + 1, 7, none⟩ = some (.int .i64 xa1_7) ∧ w56.cell? ⟨w.heap.size + 1, 8, none⟩ = some (.int .i64 xa1_8) := ⟨(S.at_ 3 rfl).cell 0, (S.at_ 3 rfl).cell 1, (S.at_ 3 rfl).cell 2, (S.at_ 3 rfl).cell 3, (S.at_ 2 rfl).cell 0, (S.at_ 2 rfl).cell 1, (S.at_ 2 rfl).cell 2, (S.at_ 2 rfl).cell 3, (S.at_ 2 rfl).cell 4, (S.at_ 2 rfl).cell 5, (S.at_ 2 rfl).cell 6, (S.at_ 2 rfl).cell 7, (S.at_ 2 rfl).cell 8⟩
      refine hK _ _ (fun _ => HF) ?_
      clear hK K
      try simp only [Act.put]
      refine wpAnyL_step (i := 4) (by kernel_rfl) rfl rfl ?_
      intro K hK
      go_simp
      refine (SP.out _ _ _ _ _ _ _ _ _ _ _ _ d0 _ _ _ _ _ _ _ _ _ _ ((S.own_ 1 rfl).rd) hz0).mono ?_
      rintro e w57 ⟨Aw0_0, nw0_0, cw0_0, Aw0_1, nw0_1, cw0_1, Aw0_2, nw0_2, cw0_2, Aw0_3, nw0_3, cw0_3, rfl, o, b⟩
      obtain ⟨fp_Ow0, S'⟩ := S.has b o c.size
      replace c := c.trans (b.mono c.size)
      clear S; have S := S'; clear S' o b
      clear HF
      have HF : w57.cell? ⟨w.heap.size, 0, none⟩ = some (.slice Aa0_0 na0_0 ca0_0) ∧ w57.cell? ⟨w.heap.size, 1, none⟩ = some (.slice Aa0_1 na0_1 ca0_1) ∧ w57.cell? ⟨w.heap.size, 2, none⟩ = some (.slice Aa0_2 na0_2 ca0_2) ∧ w57.cell? ⟨w.heap.size, 3, none⟩ = some (.slice Aa0_3 na0_3 ca0_3) ∧ w57.cell? ⟨w.heap.size + 1, 0, none⟩ = some (.int .i64 xa1_0) ∧ w57.cell? ⟨w.heap.size + 1, 1, none⟩ = some (.int .i64 xa1_1) ∧ w57.cell? ⟨w.heap.size + 1, 2, none⟩ = some (.int .i64 xa1_2) ∧ w57.cell? ⟨w.heap.size + 1, 3, none⟩ = some (.int .i64 xa1_3) ∧ w57.cell? ⟨w.heap.size + 1, 4, none⟩ = some (.int .i64 xa1_4) ∧ w57.cell? ⟨w.heap.size + 1, 5, none⟩ = some (.int .i64 xa1_5) ∧ w57.cell? ⟨w.heap.size + 1, 6, none⟩ = some (.int .i64 xa1_6) ∧ w57.cell? ⟨w.heap.size + 1, 7, none⟩ = some (.int .i64 xa1_7) ∧ w57.cell? ⟨w.heap.size + 1, 8, none⟩ = some (.int .i64 xa1_8) := ⟨(S.at_ 4 rfl).cell 0, (S.at_ 4 rfl).cell 1, (S.at_ 4 rfl).cell 2, (S.at_ 4 rfl).cell 3, (S.at_ 3 rfl).cell 0, (S.at_ 3 rfl).cell 1, (S.at_ 3 rfl).cell 2, (S.at_ 3 rfl).cell 3, (S.at_ 3 rfl).cell 4, (S.at_ 3 rfl).cell 5, (S.at_ 3 rfl).cell 6, (S.at_ 3 rfl).cell 7, (S.at_ 3 rfl).cell 8⟩
      refine hK _ _ (fun _ => HF) ?_
      clear hK K
      try simp only [Act.put]
      refine wpAnyL_pure (i := 5) (v := ?_) rfl rfl (by kernel_rfl) (by kernel_rfl) (by kernel_rfl) (fun _ _ _ h => h) HF (Or.inl ⟨by rfl, ?_⟩) ?_
      rotate_left 1
      · (intro v _; go_simp; try with_reducible rfl)
      try simp only [Act.put]
      refine wpAnyL_pure (i := 6) (v := ?_) rfl rfl (by kernel_rfl) (by kernel_rfl) (by kernel_rfl) (fun _ _ _ h => h) HF (Or.inl ⟨by rfl, ?_⟩) ?_
      rotate_left 1
      · (intro v _; go_simp; try with_reducible rfl)
      try simp only [Act.put]
      refine wpAnyL_pure (i := 7) (v := ?_) rfl rfl (by kernel_rfl) (by kernel_rfl) (by kernel_rfl) (fun _ _ _ h => h) HF (Or.inl ⟨by rfl, ?_⟩) ?_
      rotate_left 1
      · (intro v _; go_simp; try with_reducible rfl)
      try simp only [Act.put]
      have f0 := lk S 1 0 rfl rfl
      have f1 := (S.at_ 1 rfl).free 0
      have f2 := lk S 1 1 rfl rfl
      have f3 := (S.at_ 1 rfl).free 1
      have f4 := lk S 1 2 rfl rfl
      have f5 := (S.at_ 1 rfl).free 2
      have f6 := lk S 1 3 rfl rfl
      have f7 := (S.at_ 1 rfl).free 3
      refine wpAnyL_step (i := 9) (by kernel_rfl) rfl rfl ?_
      intro K hK
      go_simp
      replace S := S.put 1 rfl 0 (.slice Aw0_0 nw0_0 cw0_0)
      replace c := st c S (S.base_le 1 rfl)
      replace S := S.put 1 rfl 1 (.slice Aw0_1 nw0_1 cw0_1)
      replace c := st c S (S.base_le 1 rfl)
      replace S := S.put 1 rfl 2 (.slice Aw0_2 nw0_2 cw0_2)
      replace c := st c S (S.base_le 1 rfl)
      replace S := S.put 1 rfl 3 (.slice Aw0_3 nw0_3 cw0_3)
      replace c := st c S (S.base_le 1 rfl)
      clear HF
      have HF : ((((w57.setCell ⟨w54.heap.size, 0, none⟩ (.slice Aw0_0 nw0_0 cw0_0)).setCell ⟨w54.heap.size, 1, none⟩ (.slice Aw0_1 nw0_1 cw0_1)).setCell ⟨w54.heap.size, 2, none⟩ (.slice Aw0_2 nw0_2 cw0_2)).setCell ⟨w54.heap.size, 3, none⟩ (.slice Aw0_3 nw0_3 cw0_3)).cell? ⟨w.heap.size, 0, none⟩ = some (.slice Aa0_0 na0_0 ca0_0) ∧ ((((w57.setCell ⟨w54.heap.size, 0, none⟩ (.slice Aw0_0 nw0_0 cw0_0)).setCell ⟨w54.heap.size, 1, none⟩ (.slice Aw0_1 nw0_1 cw0_1)).setCell ⟨w54.heap.size, 2, none⟩ (.slice Aw0_2 nw0_2 cw0_2)).setCell ⟨w54.heap.size, 3, none⟩ (.slice Aw0_3 nw0_3 cw0_3)).cell? ⟨w.heap.size, 1, none⟩ = some (.slice Aa0_1 na0_1 ca0_1) ∧ ((((w57.setCell ⟨w54.heap.size, 0, none⟩ (.slice Aw0_0 nw0_0 cw0_0)).setCell ⟨w54.heap.size, 1, none⟩ (.slice Aw0_1 nw0_1 cw0_1)).setCell ⟨w54.heap.size, 2, none⟩ (.slice Aw0_2 nw0_2 cw0_2)).setCell ⟨w54.heap.size, 3, none⟩ (.slice Aw0_3 nw0_3 cw0_3)).cell? ⟨w.heap.size, 2, none⟩ = some (.slice Aa0_2 na0_2 ca0_2) ∧ ((((w57.setCell ⟨w54.heap.size, 0, none⟩ (.slice Aw0_0 nw0_0 cw0_0)).setCell ⟨w54.heap.size, 1, none⟩ (.slice Aw0_1 nw0_1 cw0_1)).setCell ⟨w54.heap.size, 2, none⟩ (.slice Aw0_2 nw0_2 cw0_2)).setCell ⟨w54.heap.size, 3, none⟩ (.slice Aw0_3 nw0_3 cw0_3)).cell? ⟨w.heap.size, 3, none⟩ = some (.slice Aa0_3 na0_3 ca0_3) ∧ ((((w57.setCell ⟨w54.heap.size, 0, none⟩ (.slice Aw0_0 nw0_0 cw0_0)).setCell ⟨w54.heap.size, 1, none⟩ (.slice Aw0_1 nw0_1 cw0_1)).setCell ⟨w54.heap.size, 2, none⟩ (.slice Aw0_2 nw0_2 cw0_2)).setCell ⟨w54.heap.size, 3, none⟩ (.slice Aw0_3 nw0_3 cw0_3)).cell? ⟨w.heap.size + 1, 0, none⟩ = some (.int .i64 xa1_0) ∧ ((((w57.setCell ⟨w54.heap.size, 0, none⟩ (.slice Aw0_0 nw0_0 cw0_0)).setCell ⟨w54.heap.size, 1, none⟩ (.slice Aw0_1 nw0_1 cw0_1)).setCell ⟨w54.heap.size, 2, none⟩ (.slice Aw0_2 nw0_2 cw0_2)).setCell ⟨w54.heap.size, 3, none⟩ (.slice Aw0_3 nw0_3 cw0_3)).cell? ⟨w.heap.size + 1, 1, none⟩ = some (.int .i64 xa1_1) ∧ ((((w57.setCell ⟨w54.heap.size, 0, none⟩ (.slice Aw0_0 nw0_0 cw0_0)).setCell ⟨w54.heap.size, 1, none⟩ (.slice Aw0_1 nw0_1 cw0_1)).setCell ⟨w54.heap.size, 2, none⟩ (.slice Aw0_2 nw0_2 cw0_2)).setCell ⟨w54.heap.size, 3, none⟩ (.slice Aw0_3 nw0_3 cw0_3)).cell? ⟨w.heap.size + 1, 2, none⟩ = some (.int .i64 xa1_2) ∧ ((((w57.setCell ⟨w54.heap.size, 0, none⟩ (.slice Aw0_0 nw0_0 cw0_0)).setCell ⟨w54.heap.size, 1, none⟩ (.slice Aw0_1 nw0_1 cw0_1)).setCell ⟨w54.heap.size, 2, none⟩ (.slice Aw0_2 nw0_2 cw0_2)).setCell ⟨w54.heap.size, 3, none⟩ (.slice Aw0_3 nw0_3 cw0_3)).cell? ⟨w.heap.size + 1, 3, none⟩ = some (.int .i64 xa1_3) ∧ ((((w57.setCell ⟨w54.heap.size, 0, none⟩ (.slice Aw0_0 nw0_0 cw0_0)).setCell ⟨w54.heap.size, 1, none⟩ (.slice Aw0_1 nw0_1 cw0_1)).setCell ⟨w54.heap.size, 2, none⟩ (.slice Aw0_2 nw0_2 cw0_2)).setCell ⟨w54.heap.size, 3, none⟩ (.slice Aw0_3 nw0_3 cw0_3)).cell? ⟨w.heap.size + 1, 4, none⟩ = some (.int .i64 xa1_4) ∧ ((((w57.setCell ⟨w54.heap.size, 0, none⟩ (.slice Aw0_0 nw0_0 cw0_0)).setCell ⟨w54.heap.size, 1, none⟩ (.slice Aw0_1 nw0_1 cw0_1)).setCell ⟨w54.heap.size, 2, none⟩ (.slice Aw0_2 nw0_2 cw0_2)).setCell ⟨w54.heap.size, 3, none⟩ (.slice Aw0_3 nw0_3 cw0_3)).cell? ⟨w.heap.size + 1, 5, none⟩ = some (.int .i64 xa1_5) ∧ ((((w57.setCell ⟨w54.heap.size, 0, none⟩ (.slice Aw0_0 nw0_0 cw0_0)).setCell ⟨w54.heap.size, 1, none⟩ (.slice Aw0_1 nw0_1 cw0_1)).setCell ⟨w54.heap.size, 2, none⟩ (.slice Aw0_2 nw0_2 cw0_2)).setCell ⟨w54.heap.size, 3, none⟩ (.slice Aw0_3 nw0_3 cw0_3)).cell? ⟨w.heap.size + 1, 6, none⟩ = some (.int .i64 xa1_6) ∧ ((((w57.setCell ⟨w54.heap.size, 0, none⟩ (.slice Aw0_0 nw0_0 cw0_0)).setCell ⟨w54.heap.size, 1, none⟩ (.slice Aw0_1 nw0_1 cw0_1)).setCell ⟨w54.heap.size, 2, none⟩ (.slice Aw0_2 nw0_2 cw0_2)).setCell ⟨w54.heap.size, 3, none⟩ (.slice Aw0_3 nw0_3 cw0_3)).cell? ⟨w.heap.size + 1, 7, none⟩ = some (.int .i64 xa1_7) ∧ ((((w57.setCell ⟨w54.heap.size, 0, none⟩ (.slice Aw0_0 nw0_0 cw0_0)).setCell ⟨w54.heap.size, 1, none⟩ (.slice Aw0_1 nw0_1 cw0_1)).setCell ⟨w54.heap.size, 2, none⟩ (.slice Aw0_2 nw0_2 cw0_2)).setCell ⟨w54.heap.size, 3, none⟩ (.slice Aw0_3 nw0_3 cw0_3)).cell? ⟨w.heap.size + 1, 8, none⟩ = some (.int .i64 xa1_8) := ⟨(S.at_ 4 rfl).cell 0, (S.at_ 4 rfl).cell 1, (S.at_ 4 rfl).cell 2, (S.at_ 4 rfl).cell 3, (S.at_ 3 rfl).cell 0, (S.at_ 3 rfl).cell 1, (S.at_ 3 rfl).cell 2, (S.at_ 3 rfl).cell 3, (S.at_ 3 rfl).cell 4, (S.at_ 3 rfl).cell 5, (S.at_ 3 rfl).cell 6, (S.at_ 3 rfl).cell 7, (S.at_ 3 rfl).cell 8⟩
      refine hK _ _ (fun _ => HF) ?_
      clear hK K
      try simp only [Act.put]
      generalize (((w57.setCell ⟨w54.heap.size, 0, none⟩ (.slice Aw0_0 nw0_0 cw0_0)).setCell ⟨w54.heap.size, 1, none⟩ (.slice Aw0_1 nw0_1 cw0_1)).setCell ⟨w54.heap.size, 2, none⟩ (.slice Aw0_2 nw0_2 cw0_2)).setCell ⟨w54.heap.size, 3, none⟩ (.slice Aw0_3 nw0_3 cw0_3) = w58 at *
      clear f0 f1 f2 f3 f4 f5 f6 f7
      refine wpAnyL_step (i := 10) (by kernel_rfl) rfl rfl ?_
      intro K hK
      go_simp
      refine hK _ _ (fun h => nomatch (show true = false from h)) ?_
      clear hK K
      try simp only [Act.put]
      refine wpAnyL_done (by kernel_rfl) ?_ _
      replace S := S.pick 0 rfl
      replace S := S.pick 1 rfl
      replace S := S.sub (.cons_cons _ (.cons_cons _ (.cons _ (.cons_cons _ (.cons_cons _ (List.nil_sublist _))))))
      go_wp2_with fail
      go_meet
      exact ⟨_, _, _, _, _, _, _, _, _, _, _, _, _, _, rfl, rfl, S, c⟩
  · intro K hK
    go_simp
    replace S := S.boxAt c.size (w53.heap.size) rfl #[.slice none 0 0, .slice none 0 0, .slice none 0 0, .slice none 0 0] 34
    replace c := al c S
    clear HF
    have HF : (w53.alloc (.cells #[.slice none 0 0, .slice none 0 0, .slice none 0 0, .slice none 0 0] 34)).cell? ⟨w.heap.size, 0, none⟩ = some (.slice Aa0_0 na0_0 ca0_0) ∧ (w53.alloc (.cells #[.slice none 0 0, .slice none 0 0, .slice none 0 0, .slice none 0 0] 34)).cell? ⟨w.heap.size, 1, none⟩ = some (.slice Aa0_1 na0_1 ca0_1) ∧ (w53.alloc (.cells #[.slice none 0 0, .slice none 0 0, .slice none 0 0, .slice none 0 0] 34)).cell? ⟨w.heap.size, 2, none⟩ = some (.slice Aa0_2 na0_2 ca0_2) ∧ (w53.alloc (.cells #[.slice none 0 0, .slice none 0 0, .slice none 0 0, .slice none 0 0] 34)).cell? ⟨w.heap.size, 3, none⟩ = some (.slice Aa0_3 na0_3 ca0_3) ∧ (w53.alloc (.cells #[.slice none 0 0, .slice none 0 0, .slice none 0 0, .slice none 0 0] 34)).cell? ⟨w.heap.size + 1, 0, none⟩ = some (.int .i64 xa1_0) ∧ (w53.alloc (.cells #[.slice none 0 0, .slice none 0 0, .slice none 0 0, .slice none 0 0] 34)).cell? ⟨w.heap.size + 1, 1, none⟩ = some (.int .i64 xa1_1) ∧ (w53.alloc (.cells #[.slice none 0 0, .slice none 0 0, .slice none 0 0, .slice none 0 0] 34)).cell? ⟨w.heap.size + 1, 2, none⟩ = some (.int .i64 xa1_2) ∧ (w53.alloc (.cells #[.slice none 0 0, .slice none 0 0, .slice none 0 0, .slice none 0 0] 34)).cell? ⟨w.heap.size + 1, 3, none⟩ = some (.int .i64 xa1_3) ∧ (w53.alloc (.cells #[.slice none 0 0, .slice none 0 0, .slice none 0 0, .slice none 0 0] 34)).cell? ⟨w.heap.size + 1, 4, none⟩ = some (.int .i64 xa1_4) ∧ (w53.alloc (.cells #[.slice none 0 0, .slice none 0 0, .slice none 0 0, .slice none 0 0] 34)).cell? ⟨w.heap.size + 1, 5, none⟩ = some (.int .i64 xa1_5) ∧ (w53.alloc (.cells #[.slice none 0 0, .slice none 0 0, .slice none 0 0, .slice none 0 0] 34)).cell? ⟨w.heap.size + 1, 6, none⟩ = some (.int .i64 xa1_6) ∧ (w53.alloc (.cells #[.slice none 0 0, .slice none 0 0, .slice none 0 0, .slice none 0 0] 34)).cell? ⟨w.heap.size + 1, 7, none⟩ = some (.int .i64 xa1_7) ∧ (w53.alloc (.cells #[.slice none 0 0, .slice none 0 0, .slice none 0 0, .slice none 0 0] 34)).cell? ⟨w.heap.size + 1, 8, none⟩ = some (.int .i64 xa1_8) := ⟨(S.at_ 2 rfl).cell 0, (S.at_ 2 rfl).cell 1, (S.at_ 2 rfl).cell 2, (S.at_ 2 rfl).cell 3, (S.at_ 1 rfl).cell 0, (S.at_ 1 rfl).cell 1, (S.at_ 1 rfl).cell 2, (S.at_ 1 rfl).cell 3, (S.at_ 1 rfl).cell 4, (S.at_ 1 rfl).cell 5, (S.at_ 1 rfl).cell 6, (S.at_ 1 rfl).cell 7, (S.at_ 1 rfl).cell 8⟩
    refine hK _ _ (fun _ => HF) ?_
    clear hK K
    try simp only [Act.put]
    generalize hw : w53.alloc (.cells #[.slice none 0 0, .slice none 0 0, .slice none 0 0, .slice none 0 0] 34) = w54 at *
    clear hw
    refine wpAnyL_step (i := 1) (by kernel_rfl) rfl rfl ?_
    intro K hK
    go_simp
    refine (toTwo_made _ _ _ _ d0 _ ((h0.keep c).up c.size) hz0).mono ?_
    rintro e w55 ⟨As0_0, ns0_0, cs0_0, As0_1, ns0_1, cs0_1, As0_2, ns0_2, cs0_2, As0_3, ns0_3, cs0_3, rfl, o, b⟩
    obtain ⟨fp_Os0, S'⟩ := S.has b o c.size
    replace c := c.trans (b.mono c.size)
    clear S; have S := S'; clear S' o b
    clear HF
    have HF : w55.cell? ⟨w.heap.size, 0, none⟩ = some (.slice Aa0_0 na0_0 ca0_0) ∧ w55.cell? ⟨w.heap.size, 1, none⟩ = some (.slice Aa0_1 na0_1 ca0_1) ∧ w55.cell? ⟨w.heap.size, 2, none⟩ = some (.slice Aa0_2 na0_2 ca0_2) ∧ w55.cell? ⟨w.heap.size, 3, none⟩ = some (.slice Aa0_3 na0_3 ca0_3) ∧ w55.cell? ⟨w.heap.size + 1, 0, none⟩ = some (.int .i64 xa1_0) ∧ w55.cell? ⟨w.heap.size + 1, 1, none⟩ = some (.int .i64 xa1_1) ∧ w55.cell? ⟨w.heap.size + 1, 2, none⟩ = some (.int .i64 xa1_2) ∧ w55.cell? ⟨w.heap.size + 1, 3, none⟩ = some (.int .i64 xa1_3) ∧ w55.cell? ⟨w.heap.size + 1, 4, none⟩ = some (.int .i64 xa1_4) ∧ w55.cell? ⟨w.heap.size + 1, 5, none⟩ = some (.int .i64 xa1_5) ∧ w55.cell? ⟨w.heap.size + 1, 6, none⟩ = some (.int .i64 xa1_6) ∧ w55.cell? ⟨w.heap.size + 1, 7, none⟩ = some (.int .i64 xa1_7) ∧ w55.cell? ⟨w.heap.size + 1, 8, none⟩ = some (.int .i64 xa1_8) := ⟨(S.at_ 3 rfl).cell 0, (S.at_ 3 rfl).cell 1, (S.at_ 3 rfl).cell 2, (S.at_ 3 rfl).cell 3, (S.at_ 2 rfl).cell 0, (S.at_ 2 rfl).cell 1, (S.at_ 2 rfl).cell 2, (S.at_ 2 rfl).cell 3, (S.at_ 2 rfl).cell 4, (S.at_ 2 rfl).cell 5, (S.at_ 2 rfl).cell 6, (S.at_ 2 rfl).cell 7, (S.at_ 2 rfl).cell 8⟩
    refine hK _ _ (fun _ => HF) ?_
    clear hK K
    try simp only [Act.put]
    refine wpAnyL_step (i := 3) (by kernel_rfl) rfl rfl ?_
    intro K hK
    go_simp
    refine (toEntry_any _ _ _ _ _ _ _ _ _ _).mono ?_
    rintro e w56 ⟨rfl, b⟩
    replace c := c.trans (b.mono c.size)
    replace S := S.keep b
    clear b
    clear HF
    have HF : w56.cell? ⟨w.heap.size, 0, none⟩ = some (.slice Aa0_0 na0_0 ca0_0) ∧ w56.cell? ⟨w.heap.size, 1, none⟩ = some (.slice Aa0_1 na0_1 ca0_1) ∧ w56.cell? ⟨w.heap.size, 2, none⟩ = some (.slice Aa0_2 na0_2 ca0_2) ∧ w56.cell? ⟨w.heap.size, 3, none⟩ = some (.slice Aa0_3 na0_3 ca0_3) ∧ w56.cell? ⟨w.heap.size + 1, 0, none⟩ = some (.int .i64 xa1_0) ∧ w56.cell? ⟨w.heap.size + 1, 1, none⟩ = some (.int .i64 xa1_1) ∧ w56.cell? ⟨w.heap.size + 1, 2, none⟩ = some (.int .i64 xa1_2) ∧ w56.cell? ⟨w.heap.size + 1, 3, none⟩ = some (.int .i64 xa1_3) ∧ w56.cell? ⟨w.heap.size + 1, 4, none⟩ = some (.int .i64 xa1_4) ∧ w56.cell? ⟨w.heap.size + 1, 5, none⟩ = some (.int .i64 xa1_5) ∧ w56.cell? ⟨w.heap.size + 1, 6, none⟩ = some (.int .i64 xa1_6) ∧ w56.cell? ⟨w.heap.size + 1, 7, none⟩ = some (.int .i64 xa1_7) ∧ w56.cell? ⟨w.heap.size + 1, 8, none⟩ = some (.int .i64 xa1_8) := ⟨(S.at_ 3 rfl).cell 0, (S.at_ 3 rfl).cell 1, (S.at_ 3 rfl).cell 2, (S.at_ 3 rfl).cell 3, (S.at_ 2 rfl).cell 0, (S.at_ 2 rfl).cell 1, (S.at_ 2 rfl).cell 2, (S.at_ 2 rfl).cell 3, (S.at_ 2 rfl).cell 4, (S.at_ 2 rfl).cell 5, (S.at_ 2 rfl).cell 6, (S.at_ 2 rfl).cell 7, (S.at_ 2 rfl).cell 8⟩
    refine hK _ _ (fun _ => HF) ?_
    clear hK K
    try simp only [Act.put]
    refine wpAnyL_step (i := 4) (by kernel_rfl) rfl rfl ?_
    intro K hK
    go_simp
    refine (SP.out _ _ _ _ _ _ _ _ _ _ _ _ d0 _ _ _ _ _ _ _ _ _ _ ((S.own_ 0 rfl).rd) hz0).mono ?_
    rintro e w57 ⟨Aw0_0, nw0_0, cw0_0, Aw0_1, nw0_1, cw0_1, Aw0_2, nw0_2, cw0_2, Aw0_3, nw0_3, cw0_3, rfl, o, b⟩
    obtain ⟨fp_Ow0, S'⟩ := S.has b o c.size
    replace c := c.trans (b.mono c.size)
    clear S; have S := S'; clear S' o b
    clear HF
    have HF : w57.cell? ⟨w.heap.size, 0, none⟩ = some (.slice Aa0_0 na0_0 ca0_0) ∧ w57.cell? ⟨w.heap.size, 1, none⟩ = some (.slice Aa0_1 na0_1 ca0_1) ∧ w57.cell? ⟨w.heap.size, 2, none⟩ = some (.slice Aa0_2 na0_2 ca0_2) ∧ w57.cell? ⟨w.heap.size, 3, none⟩ = some (.slice Aa0_3 na0_3 ca0_3) ∧ w57.cell? ⟨w.heap.size + 1, 0, none⟩ = some (.int .i64 xa1_0) ∧ w57.cell? ⟨w.heap.size + 1, 1, none⟩ = some (.int .i64 xa1_1) ∧ w57.cell? ⟨w.heap.size + 1, 2, none⟩ = some (.int .i64 xa1_2) ∧ w57.cell? ⟨w.heap.size + 1, 3, none⟩ = some (.int .i64 xa1_3) ∧ w57.cell? ⟨w.heap.size + 1, 4, none⟩ = some (.int .i64 xa1_4) ∧ w57.cell? ⟨w.heap.size + 1, 5, none⟩ = some (.int .i64 xa1_5) ∧ w57.cell? ⟨w.heap.size + 1, 6, none⟩ = some (.int .i64 xa1_6) ∧ w57.cell? ⟨w.heap.size + 1, 7, none⟩ = some (.int .i64 xa1_7) ∧ w57.cell? ⟨w.heap.size + 1, 8, none⟩ = some (.int .i64 xa1_8) := ⟨(S.at_ 4 rfl).cell 0, (S.at_ 4 rfl).cell 1, (S.at_ 4 rfl).cell 2, (S.at_ 4 rfl).cell 3, (S.at_ 3 rfl).cell 0, (S.at_ 3 rfl).cell 1, (S.at_ 3 rfl).cell 2, (S.at_ 3 rfl).cell 3, (S.at_ 3 rfl).cell 4, (S.at_ 3 rfl).cell 5, (S.at_ 3 rfl).cell 6, (S.at_ 3 rfl).cell 7, (S.at_ 3 rfl).cell 8⟩
    refine hK _ _ (fun _ => HF) ?_
    clear hK K
    try simp only [Act.put]
    refine wpAnyL_pure (i := 5) (v := ?_) rfl rfl (by kernel_rfl) (by kernel_rfl) (by kernel_rfl) (fun _ _ _ h => h) HF (Or.inl ⟨by rfl, ?_⟩) ?_
    rotate_left 1
    · (intro v _; go_simp; try with_reducible rfl)
    try simp only [Act.put]
    refine wpAnyL_pure (i := 6) (v := ?_) rfl rfl (by kernel_rfl) (by kernel_rfl) (by kernel_rfl) (fun _ _ _ h => h) HF (Or.inl ⟨by rfl, ?_⟩) ?_
    rotate_left 1
    · (intro v _; go_simp; try with_reducible rfl)
    try simp only [Act.put]
    refine wpAnyL_pure (i := 7) (v := ?_) rfl rfl (by kernel_rfl) (by kernel_rfl) (by kernel_rfl) (fun _ _ _ h => h) HF (Or.inl ⟨by rfl, ?_⟩) ?_
    rotate_left 1
    · (intro v _; go_simp; try with_reducible rfl)
    try simp only [Act.put]
    have f0 := lk S 2 0 rfl rfl
    have f1 := (S.at_ 2 rfl).free 0
    have f2 := lk S 2 1 rfl rfl
    have f3 := (S.at_ 2 rfl).free 1
    have f4 := lk S 2 2 rfl rfl
    have f5 := (S.at_ 2 rfl).free 2
    have f6 := lk S 2 3 rfl rfl
    have f7 := (S.at_ 2 rfl).free 3
    refine wpAnyL_step (i := 9) (by kernel_rfl) rfl rfl ?_
    intro K hK
    go_simp
    replace S := S.put 2 rfl 0 (.slice Aw0_0 nw0_0 cw0_0)
    replace c := st c S (S.base_le 2 rfl)
    replace S := S.put 2 rfl 1 (.slice Aw0_1 nw0_1 cw0_1)
    replace c := st c S (S.base_le 2 rfl)
    replace S := S.put 2 rfl 2 (.slice Aw0_2 nw0_2 cw0_2)
    replace c := st c S (S.base_le 2 rfl)
    replace S := S.put 2 rfl 3 (.slice Aw0_3 nw0_3 cw0_3)
    replace c := st c S (S.base_le 2 rfl)
    clear HF
    have HF : ((((w57.setCell ⟨w53.heap.size, 0, none⟩ (.slice Aw0_0 nw0_0 cw0_0)).setCell ⟨w53.heap.size, 1, none⟩ (.slice Aw0_1 nw0_1 cw0_1)).setCell ⟨w53.heap.size, 2, none⟩ (.slice Aw0_2 nw0_2 cw0_2)).setCell ⟨w53.heap.size, 3, none⟩ (.slice Aw0_3 nw0_3 cw0_3)).cell? ⟨w.heap.size, 0, none⟩ = some (.slice Aa0_0 na0_0 ca0_0) ∧ ((((w57.setCell ⟨w53.heap.size, 0, none⟩ (.slice Aw0_0 nw0_0 cw0_0)).setCell ⟨w53.heap.size, 1, none⟩ (.slice Aw0_1 nw0_1 cw0_1)).setCell ⟨w53.heap.size, 2, none⟩ (.slice Aw0_2 nw0_2 cw0_2)).setCell ⟨w53.heap.size, 3, none⟩ (.slice Aw0_3 nw0_3 cw0_3)).cell? ⟨w.heap.size, 1, none⟩ = some (.slice Aa0_1 na0_1 ca0_1) ∧ ((((w57.setCell ⟨w53.heap.size, 0, none⟩ (.slice Aw0_0 nw0_0 cw0_0)).setCell ⟨w53.heap.size, 1, none⟩ (.slice Aw0_1 nw0_1 cw0_1)).setCell ⟨w53.heap.size, 2, none⟩ (.slice Aw0_2 nw0_2 cw0_2)).setCell ⟨w53.heap.size, 3, none⟩ (.slice Aw0_3 nw0_3 cw0_3)).cell? ⟨w.heap.size, 2, none⟩ = some (.slice Aa0_2 na0_2 ca0_2) ∧ ((((w57.setCell ⟨w53.heap.size, 0, none⟩ (.slice Aw0_0 nw0_0 cw0_0)).setCell ⟨w53.heap.size, 1, none⟩ (.slice Aw0_1 nw0_1 cw0_1)).setCell ⟨w53.heap.size, 2, none⟩ (.slice Aw0_2 nw0_2 cw0_2)).setCell ⟨w53.heap.size, 3, none⟩ (.slice Aw0_3 nw0_3 cw0_3)).cell? ⟨w.heap.size, 3, none⟩ = some (.slice Aa0_3 na0_3 ca0_3) ∧ ((((w57.setCell ⟨w53.heap.size, 0, none⟩ (.slice Aw0_0 nw0_0 cw0_0)).setCell ⟨w53.heap.size, 1, none⟩ (.slice Aw0_1 nw0_1 cw0_1)).setCell ⟨w53.heap.size, 2, none⟩ (.slice Aw0_2 nw0_2 cw0_2)).setCell ⟨w53.heap.size, 3, none⟩ (.slice Aw0_3 nw0_3 cw0_3)).cell? ⟨w.heap.size + 1, 0, none⟩ = some (.int .i64 xa1_0) ∧ ((((w57.setCell ⟨w53.heap.size, 0, none⟩ (.slice Aw0_0 nw0_0 cw0_0)).setCell ⟨w53.heap.size, 1, none⟩ (.slice Aw0_1 nw0_1 cw0_1)).setCell ⟨w53.heap.size, 2, none⟩ (.slice Aw0_2 nw0_2 cw0_2)).setCell ⟨w53.heap.size, 3, none⟩ (.slice Aw0_3 nw0_3 cw0_3)).cell? ⟨w.heap.size + 1, 1, none⟩ = some (.int .i64 xa1_1) ∧ ((((w57.setCell ⟨w53.heap.size, 0, none⟩ (.slice Aw0_0 nw0_0 cw0_0)).setCell ⟨w53.heap.size, 1, none⟩ (.slice Aw0_1 nw0_1 cw0_1)).setCell ⟨w53.heap.size, 2, none⟩ (.slice Aw0_2 nw0_2 cw0_2)).setCell ⟨w53.heap.size, 3, none⟩ (.slice Aw0_3 nw0_3 cw0_3)).cell? ⟨w.heap.size + 1, 2, none⟩ = some (.int .i64 xa1_2) ∧ ((((w57.setCell ⟨w53.heap.size, 0, none⟩ (.slice Aw0_0 nw0_0 cw0_0)).setCell ⟨w53.heap.size, 1, none⟩ (.slice Aw0_1 nw0_1 cw0_1)).setCell ⟨w53.heap.size, 2, none⟩ (.slice Aw0_2 nw0_2 cw0_2)).setCell ⟨w53.heap.size, 3, none⟩ (.slice Aw0_3 nw0_3 cw0_3)).cell? ⟨w.heap.size + 1, 3, none⟩ = some (.int .i64 xa1_3) ∧ ((((w57.setCell ⟨w53.heap.size, 0, none⟩ (.slice Aw0_0 nw0_0 cw0_0)).setCell ⟨w53.heap.size, 1, none⟩ (.slice Aw0_1 nw0_1 cw0_1)).setCell ⟨w53.heap.size, 2, none⟩ (.slice Aw0_2 nw0_2 cw0_2)).setCell ⟨w53.heap.size, 3, none⟩ (.slice Aw0_3 nw0_3 cw0_3)).cell? ⟨w.heap.size + 1, 4, none⟩ = some (.int .i64 xa1_4) ∧ ((((w57.setCell ⟨w53.heap.size, 0, none⟩ (.slice Aw0_0 nw0_0 cw0_0)).setCell ⟨w53.heap.size, 1, none⟩ (.slice Aw0_1 nw0_1 cw0_1)).setCell ⟨w53.heap.size, 2, none⟩ (.slice Aw0_2 nw0_2 cw0_2)).setCell ⟨w53.heap.size, 3, none⟩ (.slice Aw0_3 nw0_3 cw0_3)).cell? ⟨w.heap.size + 1, 5, none⟩ = some (.int .i64 xa1_5) ∧ ((((w57.setCell ⟨w53.heap.size, 0, none⟩ (.slice Aw0_0 nw0_0 cw0_0)).setCell ⟨w53.heap.size, 1, none⟩ (.slice Aw0_1 nw0_1 cw0_1)).setCell ⟨w53.heap.size, 2, none⟩ (.slice Aw0_2 nw0_2 cw0_2)).setCell ⟨w53.heap.size, 3, none⟩ (.slice Aw0_3 nw0_3 cw0_3)).cell? ⟨w.heap.size + 1, 6, none⟩ = some (.int .i64 xa1_6) ∧ ((((w57.setCell ⟨w53.heap.size, 0, none⟩ (.slice Aw0_0 nw0_0 cw0_0)).setCell ⟨w53.heap.size, 1, none⟩ (.slice Aw0_1 nw0_1 cw0_1)).setCell ⟨w53.heap.size, 2, none⟩ (.slice Aw0_2 nw0_2 cw0_2)).setCell ⟨w53.heap.size, 3, none⟩ (.slice Aw0_3 nw0_3 cw0_3)).cell? ⟨w.heap.size + 1, 7, none⟩ = some (.int .i64 xa1_7) ∧ ((((w57.setCell ⟨w53.heap.size, 0, none⟩ (.slice Aw0_0 nw0_0 cw0_0)).setCell ⟨w53.heap.size, 1, none⟩ (.slice Aw0_1 nw0_1 cw0_1)).setCell ⟨w53.heap.size, 2, none⟩ (.slice Aw0_2 nw0_2 cw0_2)).setCell ⟨w53.heap.size, 3, none⟩ (.slice Aw0_3 nw0_3 cw0_3)).cell? ⟨w.heap.size + 1, 8, none⟩ = some (.int .i64 xa1_8) := ⟨(S.at_ 4 rfl).cell 0, (S.at_ 4 rfl).cell 1, (S.at_ 4 rfl).cell 2, (S.at_ 4 rfl).cell 3, (S.at_ 3 rfl).cell 0, (S.at_ 3 rfl).cell 1, (S.at_ 3 rfl).cell 2, (S.at_ 3 rfl).cell 3, (S.at_ 3 rfl).cell 4, (S.at_ 3 rfl).cell 5, (S.at_ 3 rfl).cell 6, (S.at_ 3 rfl).cell 7, (S.at_ 3 rfl).cell 8⟩
    refine hK _ _ (fun _ => HF) ?_
    clear hK K
    try simp only [Act.put]
    generalize (((w57.setCell ⟨w53.heap.size, 0, none⟩ (.slice Aw0_0 nw0_0 cw0_0)).setCell ⟨w53.heap.size, 1, none⟩ (.slice Aw0_1 nw0_1 cw0_1)).setCell ⟨w53.heap.size, 2, none⟩ (.slice Aw0_2 nw0_2 cw0_2)).setCell ⟨w53.heap.size, 3, none⟩ (.slice Aw0_3 nw0_3 cw0_3) = w58 at *
    clear f0 f1 f2 f3 f4 f5 f6 f7
    refine wpAnyL_step (i := 10) (by kernel_rfl) rfl rfl ?_
    intro K hK
    go_simp
    refine hK _ _ (fun h => nomatch (show true = false from h)) ?_
    clear hK K
    try simp only [Act.put]
    refine wpAnyL_done (by kernel_rfl) ?_ _
    replace S := S.pick 0 rfl
    replace S := S.pick 2 rfl
    replace S := S.sub (.cons_cons _ (.cons_cons _ (.cons _ (.cons_cons _ (.cons_cons _ (List.nil_sublist _))))))
    go_wp2_with fail
    go_meet
    exact ⟨_, _, _, _, _, _, _, _, _, _, _, _, _, _, rfl, rfl, S, c⟩
 obtain ⟨pw0, Aw0_0, nw0_0, cw0_0, Aw0_1, nw0_1, cw0_1, Aw0_2, nw0_2, cw0_2, Aw0_3, nw0_3, cw0_3, fp_w0, rfl, rfl, S, c⟩ := hcut
 clear SH CH f0 f1 f2 f3 f4 f5 f6 f7 f8 f9 f10 f11 f12
 generalize wc = w3 at *
 rw [← HFX0.out] at S
 rw [← HFX1.out]
 have f0 := lk S 3 0 rfl rfl
 have f1 := lk S 3 1 rfl rfl
 have f2 := lk S 3 2 rfl rfl
 have f3 := lk S 3 3 rfl rfl
 go_wp2_with fail
 refine (toTwo_made _ _ _ _ d0 _ ((h0.keep c).up c.size) hz0).mono ?_
 rintro e w4 ⟨Ax0_0, nx0_0, cx0_0, Ax0_1, nx0_1, cx0_1, Ax0_2, nx0_2, cx0_2, Ax0_3, nx0_3, cx0_3, rfl, o, b⟩
 obtain ⟨fp_x0, S'⟩ := S.has b o c.size
 replace c := c.trans (b.mono c.size)
 clear S; have S := S'; clear S' o b f0 f1 f2 f3
 replace S := S.box c.size #[.slice Ax0_0 nx0_0 cx0_0, .slice Ax0_1 nx0_1 cx0_1, .slice Ax0_2 nx0_2 cx0_2, .slice Ax0_3 nx0_3 cx0_3] 34
 replace c := al c S
 go_wp2_with fail
 generalize w4.alloc (.cells #[.slice Ax0_0 nx0_0 cx0_0, .slice Ax0_1 nx0_1 cx0_1, .slice Ax0_2 nx0_2 cx0_2, .slice Ax0_3 nx0_3 cx0_3] 34) = w5 at *
 have SH := jd S
 have CH := jd c
 clear S c
 go_cut [9, 10] (fun s0 s1 wx => ∃ (pg0 : Nat) (Ag0_0 : Option Addr) (ng0_0 cg0_0 : Nat) (Ag0_1 : Option Addr) (ng0_1 cg0_1 : Nat) (Ag0_2 : Option Addr) (ng0_2 cg0_2 : Nat) (Ag0_3 : Option Addr) (ng0_3 cg0_3 : Nat) (fp_g0 : List Nat), s0 = .pointer (some ⟨pg0, 0, none⟩) ∧ s1 = .bool ((f d0 ⟨xa1_0, xa1_1, xa1_2, xa1_3, xa1_4, xa1_5, xa1_6, xa1_7, xa1_8⟩).2) ∧ Sep wx w.heap.size [.blk pg0 #[.slice Ag0_0 ng0_0 cg0_0, .slice Ag0_1 ng0_1 cg0_1, .slice Ag0_2 ng0_2 cg0_2, .slice Ag0_3 ng0_3 cg0_3] 34, .own (((f d0 ⟨xa1_0, xa1_1, xa1_2, xa1_3, xa1_4, xa1_5, xa1_6, xa1_7, xa1_8⟩).1).cells) [.slice Ag0_0 ng0_0 cg0_0, .slice Ag0_1 ng0_1 cg0_1, .slice Ag0_2 ng0_2 cg0_2, .slice Ag0_3 ng0_3 cg0_3] fp_g0, .blk (w4.heap.size) #[.slice Ax0_0 nx0_0 cx0_0, .slice Ax0_1 nx0_1 cx0_1, .slice Ax0_2 nx0_2 cx0_2, .slice Ax0_3 nx0_3 cx0_3] 34, .own (d0.cells) [.slice Ax0_0 nx0_0 cx0_0, .slice Ax0_1 nx0_1 cx0_1, .slice Ax0_2 nx0_2 cx0_2, .slice Ax0_3 nx0_3 cx0_3] fp_x0, .blk (pw0) #[.slice Aw0_0 nw0_0 cw0_0, .slice Aw0_1 nw0_1 cw0_1, .slice Aw0_2 nw0_2 cw0_2, .slice Aw0_3 nw0_3 cw0_3] 34, .own (fx0.cells) [.slice Aw0_0 nw0_0 cw0_0, .slice Aw0_1 nw0_1 cw0_1, .slice Aw0_2 nw0_2 cw0_2, .slice Aw0_3 nw0_3 cw0_3] fp_w0, .blk (w.heap.size + 1) #[.int .i64 xa1_0, .int .i64 xa1_1, .int .i64 xa1_2, .int .i64 xa1_3, .int .i64 xa1_4, .int .i64 xa1_5, .int .i64 xa1_6, .int .i64 xa1_7, .int .i64 xa1_8] 44, .blk (w.heap.size) #[.slice Aa0_0 na0_0 ca0_0, .slice Aa0_1 na0_1 ca0_1, .slice Aa0_2 na0_2 ca0_2, .slice Aa0_3 na0_3 ca0_3] 27] ∧ Below w.heap.size w wx)
 case first =>
  have S := SH.out
  have c := CH.out
  refine wp_region_L (fun v => v.cell? ⟨w4.heap.size, 0, none⟩ = some (.slice Ax0_0 nx0_0 cx0_0) ∧ v.cell? ⟨w4.heap.size, 1, none⟩ = some (.slice Ax0_1 nx0_1 cx0_1) ∧ v.cell? ⟨w4.heap.size, 2, none⟩ = some (.slice Ax0_2 nx0_2 cx0_2) ∧ v.cell? ⟨w4.heap.size, 3, none⟩ = some (.slice Ax0_3 nx0_3 cx0_3) ∧ v.cell? ⟨w.heap.size + 1, 0, none⟩ = some (.int .i64 xa1_0) ∧ v.cell? ⟨w.heap.size + 1, 1, none⟩ = some (.int .i64 xa1_1) ∧ v.cell? ⟨w.heap.size + 1, 2, none⟩ = some (.int .i64 xa1_2) ∧ v.cell? ⟨w.heap.size + 1, 3, none⟩ = some (.int .i64 xa1_3) ∧ v.cell? ⟨w.heap.size + 1, 4, none⟩ = some (.int .i64 xa1_4) ∧ v.cell? ⟨w.heap.size + 1, 5, none⟩ = some (.int .i64 xa1_5) ∧ v.cell? ⟨w.heap.size + 1, 6, none⟩ = some (.int .i64 xa1_6) ∧ v.cell? ⟨w.heap.size + 1, 7, none⟩ = some (.int .i64 xa1_7) ∧ v.cell? ⟨w.heap.size + 1, 8, none⟩ = some (.int .i64 xa1_8)) 9 (by kernel_rfl) ?_
  clear SH CH
  replace S := S.keep ((Below.refl _ _).drew)
  replace c := c.drew
  generalize w5.drew = w56 at *
  have HF : w56.cell? ⟨w4.heap.size, 0, none⟩ = some (.slice Ax0_0 nx0_0 cx0_0) ∧ w56.cell? ⟨w4.heap.size, 1, none⟩ = some (.slice Ax0_1 nx0_1 cx0_1) ∧ w56.cell? ⟨w4.heap.size, 2, none⟩ = some (.slice Ax0_2 nx0_2 cx0_2) ∧ w56.cell? ⟨w4.heap.size, 3, none⟩ = some (.slice Ax0_3 nx0_3 cx0_3) ∧ w56.cell? ⟨w.heap.size + 1, 0, none⟩ = some (.int .i64 xa1_0) ∧ w56.cell? ⟨w.heap.size + 1, 1, none⟩ = some (.int .i64 xa1_1) ∧ w56.cell? ⟨w.heap.size + 1, 2, none⟩ = some (.int .i64 xa1_2) ∧ w56.cell? ⟨w.heap.size + 1, 3, none⟩ = some (.int .i64 xa1_3) ∧ w56.cell? ⟨w.heap.size + 1, 4, none⟩ = some (.int .i64 xa1_4) ∧ w56.cell? ⟨w.heap.size + 1, 5, none⟩ = some (.int .i64 xa1_5) ∧ w56.cell? ⟨w.heap.size + 1, 6, none⟩ = some (.int .i64 xa1_6) ∧ w56.cell? ⟨w.heap.size + 1, 7, none⟩ = some (.int .i64 xa1_7) ∧ w56.cell? ⟨w.heap.size + 1, 8, none⟩ = some (.int .i64 xa1_8) := ⟨(S.at_ 0 rfl).cell 0, (S.at_ 0 rfl).cell 1, (S.at_ 0 rfl).cell 2, (S.at_ 0 rfl).cell 3, (S.at_ 4 rfl).cell 0, (S.at_ 4 rfl).cell 1, (S.at_ 4 rfl).cell 2, (S.at_ 4 rfl).cell 3, (S.at_ 4 rfl).cell 4, (S.at_ 4 rfl).cell 5, (S.at_ 4 rfl).cell 6, (S.at_ 4 rfl).cell 7, (S.at_ 4 rfl).cell 8⟩
  refine tk 0 (v := ?_) rfl rfl HF (.inl ⟨by rfl, ?_⟩) ?_
  rotate_left 1
  · (rintro v ⟨a0, a1, a2, a3, a4, a5, a6, a7, a8, a9, a10, a11, a12⟩; go_simp; try with_reducible rfl)
  try simp only [Act.put]
  refine tk 1 (v := ?_) rfl rfl HF (.inl ⟨by rfl, ?_⟩) ?_
  rotate_left 1
  · (rintro v ⟨a0, a1, a2, a3, a4, a5, a6, a7, a8, a9, a10, a11, a12⟩; go_simp; try with_reducible rfl)
  try simp only [Act.put]
  refine wpAnyL_two (i := 2) (k := 7) (by kernel_rfl) rfl rfl rfl rfl ?_ ?_
  · intro K hK
    go_simp
    refine (toEntry_any _ _ _ _ _ _ _ _ _ _).mono ?_
    rintro e w57 ⟨rfl, b⟩
    replace c := c.trans (b.mono c.size)
    replace S := S.keep b
    clear b
    clear HF
    have HF : w57.cell? ⟨w4.heap.size, 0, none⟩ = some (.slice Ax0_0 nx0_0 cx0_0) ∧ w57.cell? ⟨w4.heap.size, 1, none⟩ = some (.slice Ax0_1 nx0_1 cx0_1) ∧ w57.cell? ⟨w4.heap.size, 2, none⟩ = some (.slice Ax0_2 nx0_2 cx0_2) ∧ w57.cell? ⟨w4.heap.size, 3, none⟩ = some (.slice Ax0_3 nx0_3 cx0_3) ∧ w57.cell? ⟨w.heap.size + 1, 0, none⟩ = some (.int .i64 xa1_0) ∧ w57.cell? ⟨w.heap.size + 1, 1, none⟩ = some (.int .i64 xa1_1) ∧ w57.cell? ⟨w.heap.size + 1, 2, none⟩ = some (.int .i64 xa1_2) ∧ w57.cell? ⟨w.heap.size + 1, 3, none⟩ = some (.int .i64 xa1_3) ∧ w57.cell? ⟨w.heap.size + 1, 4, none⟩ = some (.int .i64 xa1_4) ∧ w57.cell? ⟨w.heap.size + 1, 5, none⟩ = some (.int .i64 xa1_5) ∧ w57.cell? ⟨w.heap.size + 1, 6, none⟩ = some (.int .i64 xa1_6) ∧ w57.cell? ⟨w.heap.size + 1, 7, none⟩ = some (.int .i64 xa1_7) ∧ w57.cell? ⟨w.heap.size + 1, 8, none⟩ = some (.int .i64 xa1_8) := ⟨(S.at_ 0 rfl).cell 0, (S.at_ 0 rfl).cell 1, (S.at_ 0 rfl).cell 2, (S.at_ 0 rfl).cell 3, (S.at_ 4 rfl).cell 0, (S.at_ 4 rfl).cell 1, (S.at_ 4 rfl).cell 2, (S.at_ 4 rfl).cell 3, (S.at_ 4 rfl).cell 4, (S.at_ 4 rfl).cell 5, (S.at_ 4 rfl).cell 6, (S.at_ 4 rfl).cell 7, (S.at_ 4 rfl).cell 8⟩
    refine hK _ _ (fun _ => HF) ?_
    clear hK K
    try simp only [Act.put]
    refine wpAnyL_two (i := 3) (k := 7) (by kernel_rfl) rfl rfl rfl rfl ?_ ?_
    · intro K hK
      go_simp
      refine (IM.out _ _ _ _ _ _ _ _ _ _ _ _ d0 _ _ _ _ _ _ _ _ _ _ ((S.own_ 1 rfl).rd) hz0).mono ?_
      rintro e w58 ⟨Ag0_0, ng0_0, cg0_0, Ag0_1, ng0_1, cg0_1, Ag0_2, ng0_2, cg0_2, Ag0_3, ng0_3, cg0_3, rfl, o, b⟩
      obtain ⟨fp_Og0, S'⟩ := S.has b o c.size
      replace c := c.trans (b.mono c.size)
      clear S; have S := S'; clear S' o b
      clear HF
      have HF : w58.cell? ⟨w4.heap.size, 0, none⟩ = some (.slice Ax0_0 nx0_0 cx0_0) ∧ w58.cell? ⟨w4.heap.size, 1, none⟩ = some (.slice Ax0_1 nx0_1 cx0_1) ∧ w58.cell? ⟨w4.heap.size, 2, none⟩ = some (.slice Ax0_2 nx0_2 cx0_2) ∧ w58.cell? ⟨w4.heap.size, 3, none⟩ = some (.slice Ax0_3 nx0_3 cx0_3) ∧ w58.cell? ⟨w.heap.size + 1, 0, none⟩ = some (.int .i64 xa1_0) ∧ w58.cell? ⟨w.heap.size + 1, 1, none⟩ = some (.int .i64 xa1_1) ∧ w58.cell? ⟨w.heap.size + 1, 2, none⟩ = some (.int .i64 xa1_2) ∧ w58.cell? ⟨w.heap.size + 1, 3, none⟩ = some (.int .i64 xa1_3) ∧ w58.cell? ⟨w.heap.size + 1, 4, none⟩ = some (.int .i64 xa1_4) ∧ w58.cell? ⟨w.heap.size + 1, 5, none⟩ = some (.int .i64 xa1_5) ∧ w58.cell? ⟨w.heap.size + 1, 6, none⟩ = some (.int .i64 xa1_6) ∧ w58.cell? ⟨w.heap.size + 1, 7, none⟩ = some (.int .i64 xa1_7) ∧ w58.cell? ⟨w.heap.size + 1, 8, none⟩ = some (.int .i64 xa1_8) := ⟨(S.at_ 1 rfl).cell 0, (S.at_ 1 rfl).cell 1, (S.at_ 1 rfl).cell 2, (S.at_ 1 rfl).cell 3, (S.at_ 5 rfl).cell 0, (S.at_ 5 rfl).cell 1, (S.at_ 5 rfl).cell 2, (S.at_ 5 rfl).cell 3, (S.at_ 5 rfl).cell 4, (S.at_ 5 rfl).cell 5, (S.at_ 5 rfl).cell 6, (S.at_ 5 rfl).cell 7, (S.at_ 5 rfl).cell 8⟩
      refine hK _ _ (fun _ => HF) ?_
      clear hK K
      try simp only [Act.put]
      refine wpAnyL_pure (i := 4) (v := ?_) rfl rfl (by kernel_rfl) (by kernel_rfl) (by kernel_rfl) (fun _ _ _ h => h) HF (Or.inl ⟨by rfl, ?_⟩) ?_
      rotate_left 1
      · (intro v _; go_simp; try with_reducible rfl)
      try simp only [Act.put]
      refine wpAnyL_pure (i := 5) (v := ?_) rfl rfl (by kernel_rfl) (by kernel_rfl) (by kernel_rfl) (fun _ _ _ h => h) HF (Or.inl ⟨by rfl, ?_⟩) ?_
      rotate_left 1
      · (intro v _; go_simp; try with_reducible rfl)
      try simp only [Act.put]
      refine wpAnyL_pure (i := 6) (v := ?_) rfl rfl (by kernel_rfl) (by kernel_rfl) (by kernel_rfl) (fun _ _ _ h => h) HF (Or.inl ⟨by rfl, ?_⟩) ?_
      rotate_left 1
      · (intro v _; go_simp; try with_reducible rfl)
      try simp only [Act.put]
      refine wpAnyL_step (i := 7) (by kernel_rfl) rfl rfl ?_
      intro K hK
      go_simp
      replace S := S.boxAt c.size (w58.heap.size) rfl #[.slice none 0 0, .slice none 0 0, .slice none 0 0, .slice none 0 0] 34
      replace c := al c S
      clear HF
      have HF : (w58.alloc (.cells #[.slice none 0 0, .slice none 0 0, .slice none 0 0, .slice none 0 0] 34)).cell? ⟨w4.heap.size, 0, none⟩ = some (.slice Ax0_0 nx0_0 cx0_0) ∧ (w58.alloc (.cells #[.slice none 0 0, .slice none 0 0, .slice none 0 0, .slice none 0 0] 34)).cell? ⟨w4.heap.size, 1, none⟩ = some (.slice Ax0_1 nx0_1 cx0_1) ∧ (w58.alloc (.cells #[.slice none 0 0, .slice none 0 0, .slice none 0 0, .slice none 0 0] 34)).cell? ⟨w4.heap.size, 2, none⟩ = some (.slice Ax0_2 nx0_2 cx0_2) ∧ (w58.alloc (.cells #[.slice none 0 0, .slice none 0 0, .slice none 0 0, .slice none 0 0] 34)).cell? ⟨w4.heap.size, 3, none⟩ = some (.slice Ax0_3 nx0_3 cx0_3) ∧ (w58.alloc (.cells #[.slice none 0 0, .slice none 0 0, .slice none 0 0, .slice none 0 0] 34)).cell? ⟨w.heap.size + 1, 0, none⟩ = some (.int .i64 xa1_0) ∧ (w58.alloc (.cells #[.slice none 0 0, .slice none 0 0, .slice none 0 0, .slice none 0 0] 34)).cell? ⟨w.heap.size + 1, 1, none⟩ = some (.int .i64 xa1_1) ∧ (w58.alloc (.cells #[.slice none 0 0, .slice none 0 0, .slice none 0 0, .slice none 0 0] 34)).cell? ⟨w.heap.size + 1, 2, none⟩ = some (.int .i64 xa1_2) ∧ (w58.alloc (.cells #[.slice none 0 0, .slice none 0 0, .slice none 0 0, .slice none 0 0] 34)).cell? ⟨w.heap.size + 1, 3, none⟩ = some (.int .i64 xa1_3) ∧ (w58.alloc (.cells #[.slice none 0 0, .slice none 0 0, .slice none 0 0, .slice none 0 0] 34)).cell? ⟨w.heap.size + 1, 4, none⟩ = some (.int .i64 xa1_4) ∧ (w58.alloc (.cells #[.slice none 0 0, .slice none 0 0, .slice none 0 0, .slice none 0 0] 34)).cell? ⟨w.heap.size + 1, 5, none⟩ = some (.int .i64 xa1_5) ∧ (w58.alloc (.cells #[.slice none 0 0, .slice none 0 0, .slice none 0 0, .slice none 0 0] 34)).cell? ⟨w.heap.size + 1, 6, none⟩ = some (.int .i64 xa1_6) ∧ (w58.alloc (.cells #[.slice none 0 0, .slice none 0 0, .slice none 0 0, .slice none 0 0] 34)).cell? ⟨w.heap.size + 1, 7, none⟩ = some (.int .i64 xa1_7) ∧ (w58.alloc (.cells #[.slice none 0 0, .slice none 0 0, .slice none 0 0, .slice none 0 0] 34)).cell? ⟨w.heap.size + 1, 8, none⟩ = some (.int .i64 xa1_8) := ⟨(S.at_ 2 rfl).cell 0, (S.at_ 2 rfl).cell 1, (S.at_ 2 rfl).cell 2, (S.at_ 2 rfl).cell 3, (S.at_ 6 rfl).cell 0, (S.at_ 6 rfl).cell 1, (S.at_ 6 rfl).cell 2, (S.at_ 6 rfl).cell 3, (S.at_ 6 rfl).cell 4, (S.at_ 6 rfl).cell 5, (S.at_ 6 rfl).cell 6, (S.at_ 6 rfl).cell 7, (S.at_ 6 rfl).cell 8⟩
      refine hK _ _ (fun _ => HF) ?_
      clear hK K
      try simp only [Act.put]
      generalize hw : w58.alloc (.cells #[.slice none 0 0, .slice none 0 0, .slice none 0 0, .slice none 0 0] 34) = w59 at *
      clear hw
      have f0 := lk S 0 0 rfl rfl
      have f1 := (S.at_ 0 rfl).free 0
      have f2 := lk S 0 1 rfl rfl
      have f3 := (S.at_ 0 rfl).free 1
      have f4 := lk S 0 2 rfl rfl
      have f5 := (S.at_ 0 rfl).free 2
      have f6 := lk S 0 3 rfl rfl
      have f7 := (S.at_ 0 rfl).free 3
      refine wpAnyL_step (i := 8) (by kernel_rfl) rfl rfl ?_
      intro K hK
      go_simp
      replace S := S.put 0 rfl 0 (.slice Ag0_0 ng0_0 cg0_0)
      replace c := st c S (S.base_le 0 rfl)
      replace S := S.put 0 rfl 1 (.slice Ag0_1 ng0_1 cg0_1)
      replace c := st c S (S.base_le 0 rfl)
      replace S := S.put 0 rfl 2 (.slice Ag0_2 ng0_2 cg0_2)
      replace c := st c S (S.base_le 0 rfl)
      replace S := S.put 0 rfl 3 (.slice Ag0_3 ng0_3 cg0_3)
      replace c := st c S (S.base_le 0 rfl)
      clear HF
      have HF : ((((w59.setCell ⟨w58.heap.size, 0, none⟩ (.slice Ag0_0 ng0_0 cg0_0)).setCell ⟨w58.heap.size, 1, none⟩ (.slice Ag0_1 ng0_1 cg0_1)).setCell ⟨w58.heap.size, 2, none⟩ (.slice Ag0_2 ng0_2 cg0_2)).setCell ⟨w58.heap.size, 3, none⟩ (.slice Ag0_3 ng0_3 cg0_3)).cell? ⟨w4.heap.size, 0, none⟩ = some (.slice Ax0_0 nx0_0 cx0_0) ∧ ((((w59.setCell ⟨w58.heap.size, 0, none⟩ (.slice Ag0_0 ng0_0 cg0_0)).setCell ⟨w58.heap.size, 1, none⟩ (.slice Ag0_1 ng0_1 cg0_1)).setCell ⟨w58.heap.size, 2, none⟩ (.slice Ag0_2 ng0_2 cg0_2)).setCell ⟨w58.heap.size, 3, none⟩ (.slice Ag0_3 ng0_3 cg0_3)).cell? ⟨w4.heap.size, 1, none⟩ = some (.slice Ax0_1 nx0_1 cx0_1) ∧ ((((w59.setCell ⟨w58.heap.size, 0, none⟩ (.slice Ag0_0 ng0_0 cg0_0)).setCell ⟨w58.heap.size, 1, none⟩ (.slice Ag0_1 ng0_1 cg0_1)).setCell ⟨w58.heap.size, 2, none⟩ (.slice Ag0_2 ng0_2 cg0_2)).setCell ⟨w58.heap.size, 3, none⟩ (.slice Ag0_3 ng0_3 cg0_3)).cell? ⟨w4.heap.size, 2, none⟩ = some (.slice Ax0_2 nx0_2 cx0_2) ∧ ((((w59.setCell ⟨w58.heap.size, 0, none⟩ (.slice Ag0_0 ng0_0 cg0_0)).setCell ⟨w58.heap.size, 1, none⟩ (.slice Ag0_1 ng0_1 cg0_1)).setCell ⟨w58.heap.size, 2, none⟩ (.slice Ag0_2 ng0_2 cg0_2)).setCell ⟨w58.heap.size, 3, none⟩ (.slice Ag0_3 ng0_3 cg0_3)).cell? ⟨w4.heap.size, 3, none⟩ = some (.slice Ax0_3 nx0_3 cx0_3) ∧ ((((w59.setCell ⟨w58.heap.size, 0, none⟩ (.slice Ag0_0 ng0_0 cg0_0)).setCell ⟨w58.heap.size, 1, none⟩ (.slice Ag0_1 ng0_1 cg0_1)).setCell ⟨w58.heap.size, 2, none⟩ (.slice Ag0_2 ng0_2 cg0_2)).setCell ⟨w58.heap.size, 3, none⟩ (.slice Ag0_3 ng0_3 cg0_3)).cell? ⟨w.heap.size + 1, 0, none⟩ = some (.int .i64 xa1_0) ∧ ((((w59.setCell ⟨w58.heap.size, 0, none⟩ (.slice Ag0_0 ng0_0 cg0_0)).setCell ⟨w58.heap.size, 1, none⟩ (.slice Ag0_1 ng0_1 cg0_1)).setCell ⟨w58.heap.size, 2, none⟩ (.slice Ag0_2 ng0_2 cg0_2)).setCell ⟨w58.heap.size, 3, none⟩ (.slice Ag0_3 ng0_3 cg0_3)).cell? ⟨w.heap.size + 1, 1, none⟩ = some (.int .i64 xa1_1) ∧ ((((w59.setCell ⟨w58.heap.size, 0, none⟩ (.slice Ag0_0 ng0_0 cg0_0)).setCell ⟨w58.heap.size, 1, none⟩ (.slice Ag0_1 ng0_1 cg0_1)).setCell ⟨w58.heap.size, 2, none⟩ (.slice Ag0_2 ng0_2 cg0_2)).setCell ⟨w58.heap.size, 3, none⟩ (.slice Ag0_3 ng0_3 cg0_3)).cell? ⟨w.heap.size + 1, 2, none⟩ = some (.int .i64 xa1_2) ∧ ((((w59.setCell ⟨w58.heap.size, 0, none⟩ (.slice Ag0_0 ng0_0 cg0_0)).setCell ⟨w58.heap.size, 1, none⟩ (.slice Ag0_1 ng0_1 cg0_1)).setCell ⟨w58.heap.size, 2, none⟩ (.slice Ag0_2 ng0_2 cg0_2)).setCell ⟨w58.heap.size, 3, none⟩ (.slice Ag0_3 ng0_3 cg0_3)).cell? ⟨w.heap.size + 1, 3, none⟩ = some (.int .i64 xa1_3) ∧ ((((w59.setCell ⟨w58.heap.size, 0, none⟩ (.slice Ag0_0 ng0_0 cg0_0)).setCell ⟨w58.heap.size, 1, none⟩ (.slice Ag0_1 ng0_1 cg0_1)).setCell ⟨w58.heap.size, 2, none⟩ (.slice Ag0_2 ng0_2 cg0_2)).setCell ⟨w58.heap.size, 3, none⟩ (.slice Ag0_3 ng0_3 cg0_3)).cell? ⟨w.heap.size + 1, 4, none⟩ = some (.int .i64 xa1_4) ∧ ((((w59.setCell ⟨w58.heap.size, 0, none⟩ (.slice Ag0_0 ng0_0 cg0_0)).setCell ⟨w58.heap.size, 1, none⟩ (.slice Ag0_1 ng0_1 cg0_1)).setCell ⟨w58.heap.size, 2, none⟩ (.slice Ag0_2 ng0_2 cg0_2)).setCell ⟨w58.heap.size, 3, none⟩ (.slice Ag0_3 ng0_3 cg0_3)).cell? ⟨w.heap.size + 1, 5, none⟩ = some (.int .i64 xa1_5) ∧ ((((w59.setCell ⟨w58.heap.size, 0, none⟩ (.slice Ag0_0 ng0_0 cg0_0)).setCell ⟨w58.heap.size, 1, none⟩ (.slice Ag0_1 ng0_1 cg0_1)).setCell ⟨w58.heap.size, 2, none⟩ (.slice Ag0_2 ng0_2 cg0_2)).setCell ⟨w58.heap.size, 3, none⟩ (.slice Ag0_3 ng0_3 cg0_3)).cell? ⟨w.heap.size + 1, 6, none⟩ = some (.int .i64 xa1_6) ∧ ((((w59.setCell ⟨w58.heap.size, 0, none⟩ (.slice Ag0_0 ng0_0 cg0_0)).setCell ⟨w58.heap.size, 1, none⟩ (.slice Ag0_1 ng0_1 cg0_1)).setCell ⟨w58.heap.size, 2, none⟩ (.slice Ag0_2 ng0_2 cg0_2)).setCell ⟨w58.heap.size, 3, none⟩ (.slice Ag0_3 ng0_3 cg0_3)).cell? ⟨w.heap.size + 1, 7, none⟩ = some (.int .i64 xa1_7) ∧ ((((w59.setCell ⟨w58.heap.size, 0, none⟩ (.slice Ag0_0 ng0_0 cg0_0)).setCell ⟨w58.heap.size, 1, none⟩ (.slice Ag0_1 ng0_1 cg0_1)).setCell ⟨w58.heap.size, 2, none⟩ (.slice Ag0_2 ng0_2 cg0_2)).setCell ⟨w58.heap.size, 3, none⟩ (.slice Ag0_3 ng0_3 cg0_3)).cell? ⟨w.heap.size + 1, 8, none⟩ = some (.int .i64 xa1_8) := ⟨(S.at_ 2 rfl).cell 0, (S.at_ 2 rfl).cell 1, (S.at_ 2 rfl).cell 2, (S.at_ 2 rfl).cell 3, (S.at_ 6 rfl).cell 0, (S.at_ 6 rfl).cell 1, (S.at_ 6 rfl).cell 2, (S.at_ 6 rfl).cell 3, (S.at_ 6 rfl).cell 4, (S.at_ 6 rfl).cell 5, (S.at_ 6 rfl).cell 6, (S.at_ 6 rfl).cell 7, (S.at_ 6 rfl).cell 8⟩
      refine hK _ _ (fun _ => HF) ?_
      clear hK K
      try simp only [Act.put]
      generalize (((w59.setCell ⟨w58.heap.size, 0, none⟩ (.slice Ag0_0 ng0_0 cg0_0)).setCell ⟨w58.heap.size, 1, none⟩ (.slice Ag0_1 ng0_1 cg0_1)).setCell ⟨w58.heap.size, 2, none⟩ (.slice Ag0_2 ng0_2 cg0_2)).setCell ⟨w58.heap.size, 3, none⟩ (.slice Ag0_3 ng0_3 cg0_3) = w60 at *
      clear f0 f1 f2 f3 f4 f5 f6 f7
      refine wpAnyL_step (i := 9) (by kernel_rfl) rfl rfl ?_
      intro K hK
      go_simp
      refine hK _ _ (fun h => nomatch (show true = false from h)) ?_
      clear hK K
      try simp only [Act.put]
      refine wpAnyL_done (by kernel_rfl) ?_ _
      replace S := S.pick 1 rfl
      replace S := S.pick 1 rfl
      replace S := S.sub (.cons_cons _ (.cons_cons _ (.cons_cons _ (.cons_cons _ (.cons_cons _ (.cons_cons _ (.cons_cons _ (.cons_cons _ (List.nil_sublist _)))))))))
      go_wp2_with fail
      go_meet
      exact ⟨_, _, _, _, _, _, _, _, _, _, _, _, _, _, rfl, rfl, S, c⟩
    · intro K hK
      go_simp
      replace S := S.boxAt c.size (w57.heap.size) rfl #[.slice none 0 0, .slice none 0 0, .slice none 0 0, .slice none 0 0] 34
      replace c := al c S
      clear HF
      have HF : (w57.alloc (.cells #[.slice none 0 0, .slice none 0 0, .slice none 0 0, .slice none 0 0] 34)).cell? ⟨w4.heap.size, 0, none⟩ = some (.slice Ax0_0 nx0_0 cx0_0) ∧ (w57.alloc (.cells #[.slice none 0 0, .slice none 0 0, .slice none 0 0, .slice none 0 0] 34)).cell? ⟨w4.heap.size, 1, none⟩ = some (.slice Ax0_1 nx0_1 cx0_1) ∧ (w57.alloc (.cells #[.slice none 0 0, .slice none 0 0, .slice none 0 0, .slice none 0 0] 34)).cell? ⟨w4.heap.size, 2, none⟩ = some (.slice Ax0_2 nx0_2 cx0_2) ∧ (w57.alloc (.cells #[.slice none 0 0, .slice none 0 0, .slice none 0 0, .slice none 0 0] 34)).cell? ⟨w4.heap.size, 3, none⟩ = some (.slice Ax0_3 nx0_3 cx0_3) ∧ (w57.alloc (.cells #[.slice none 0 0, .slice none 0 0, .slice none 0 0, .slice none 0 0] 34)).cell? ⟨w.heap.size + 1, 0, none⟩ = some (.int .i64 xa1_0) ∧ (w57.alloc (.cells #[.slice none 0 0, .slice none 0 0, .slice none 0 0, .slice none 0 0] 34)).cell? ⟨w.heap.size + 1, 1, none⟩ = some (.int .i64 xa1_1) ∧ (w57.alloc (.cells #[.slice none 0 0, .slice none 0 0, .slice none 0 0, .slice none 0 0] 34)).cell? ⟨w.heap.size + 1, 2, none⟩ = some (.int .i64 xa1_2) ∧ (w57.alloc (.cells #[.slice none 0 0, .slice none 0 0, .slice none 0 0, .slice none 0 0] 34)).cell? ⟨w.heap.size + 1, 3, none⟩ = some (.int .i64 xa1_3) ∧ (w57.alloc (.cells #[.slice none 0 0, .slice none 0 0, .slice none 0 0, .slice none 0 0] 34)).cell? ⟨w.heap.size + 1, 4, none⟩ = some (.int .i64 xa1_4) ∧ (w57.alloc (.cells #[.slice none 0 0, .slice none 0 0, .slice none 0 0, .slice none 0 0] 34)).cell? ⟨w.heap.size + 1, 5, none⟩ = some (.int .i64 xa1_5) ∧ (w57.alloc (.cells #[.slice none 0 0, .slice none 0 0, .slice none 0 0, .slice none 0 0] 34)).cell? ⟨w.heap.size + 1, 6, none⟩ = some (.int .i64 xa1_6) ∧ (w57.alloc (.cells #[.slice none 0 0, .slice none 0 0, .slice none 0 0, .slice none 0 0] 34)).cell? ⟨w.heap.size + 1, 7, none⟩ = some (.int .i64 xa1_7) ∧ (w57.alloc (.cells #[.slice none 0 0, .slice none 0 0, .slice none 0 0, .slice none 0 0] 34)).cell? ⟨w.heap.size + 1, 8, none⟩ = some (.int .i64 xa1_8) := ⟨(S.at_ 1 rfl).cell 0, (S.at_ 1 rfl).cell 1, (S.at_ 1 rfl).cell 2, (S.at_ 1 rfl).cell 3, (S.at_ 5 rfl).cell 0, (S.at_ 5 rfl).cell 1, (S.at_ 5 rfl).cell 2, (S.at_ 5 rfl).cell 3, (S.at_ 5 rfl).cell 4, (S.at_ 5 rfl).cell 5, (S.at_ 5 rfl).cell 6, (S.at_ 5 rfl).cell 7, (S.at_ 5 rfl).cell 8⟩
      refine hK _ _ (fun _ => HF) ?_
      clear hK K
      try simp only [Act.put]
      generalize hw : w57.alloc (.cells #[.slice none 0 0, .slice none 0 0, .slice none 0 0, .slice none 0 0] 34) = w58 at *
      clear hw
      refine wpAnyL_step (i := 3) (by kernel_rfl) rfl rfl ?_
      intro K hK
      go_simp
      refine (IM.out _ _ _ _ _ _ _ _ _ _ _ _ d0 _ _ _ _ _ _ _ _ _ _ ((S.own_ 2 rfl).rd) hz0).mono ?_
      rintro e w59 ⟨Ag0_0, ng0_0, cg0_0, Ag0_1, ng0_1, cg0_1, Ag0_2, ng0_2, cg0_2, Ag0_3, ng0_3, cg0_3, rfl, o, b⟩
      obtain ⟨fp_Og0, S'⟩ := S.has b o c.size
      replace c := c.trans (b.mono c.size)
      clear S; have S := S'; clear S' o b
      clear HF
      have HF : w59.cell? ⟨w4.heap.size, 0, none⟩ = some (.slice Ax0_0 nx0_0 cx0_0) ∧ w59.cell? ⟨w4.heap.size, 1, none⟩ = some (.slice Ax0_1 nx0_1 cx0_1) ∧ w59.cell? ⟨w4.heap.size, 2, none⟩ = some (.slice Ax0_2 nx0_2 cx0_2) ∧ w59.cell? ⟨w4.heap.size, 3, none⟩ = some (.slice Ax0_3 nx0_3 cx0_3) ∧ w59.cell? ⟨w.heap.size + 1, 0, none⟩ = some (.int .i64 xa1_0) ∧ w59.cell? ⟨w.heap.size + 1, 1, none⟩ = some (.int .i64 xa1_1) ∧ w59.cell? ⟨w.heap.size + 1, 2, none⟩ = some (.int .i64 xa1_2) ∧ w59.cell? ⟨w.heap.size + 1, 3, none⟩ = some (.int .i64 xa1_3) ∧ w59.cell? ⟨w.heap.size + 1, 4, none⟩ = some (.int .i64 xa1_4) ∧ w59.cell? ⟨w.heap.size + 1, 5, none⟩ = some (.int .i64 xa1_5) ∧ w59.cell? ⟨w.heap.size + 1, 6, none⟩ = some (.int .i64 xa1_6) ∧ w59.cell? ⟨w.heap.size + 1, 7, none⟩ = some (.int .i64 xa1_7) ∧ w59.cell? ⟨w.heap.size + 1, 8, none⟩ = some (.int .i64 xa1_8) := ⟨(S.at_ 2 rfl).cell 0, (S.at_ 2 rfl).cell 1, (S.at_ 2 rfl).cell 2, (S.at_ 2 rfl).cell 3, (S.at_ 6 rfl).cell 0, (S.at_ 6 rfl).cell 1, (S.at_ 6 rfl).cell 2, (S.at_ 6 rfl).cell 3, (S.at_ 6 rfl).cell 4, (S.at_ 6 rfl).cell 5, (S.at_ 6 rfl).cell 6, (S.at_ 6 rfl).cell 7, (S.at_ 6 rfl).cell 8⟩
      refine hK _ _ (fun _ => HF) ?_
      clear hK K
      try simp only [Act.put]
      refine wpAnyL_pure (i := 4) (v := ?_) rfl rfl (by kernel_rfl) (by kernel_rfl) (by kernel_rfl) (fun _ _ _ h => h) HF (Or.inl ⟨by rfl, ?_⟩) ?_
      rotate_left 1
      · (intro v _; go_simp; try with_reducible rfl)
      try simp only [Act.put]
      refine wpAnyL_pure (i := 5) (v := ?_) rfl rfl (by kernel_rfl) (by kernel_rfl) (by kernel_rfl) (fun _ _ _ h => h) HF (Or.inl ⟨by rfl, ?_⟩) ?_
      rotate_left 1
      · (intro v _; go_simp; try with_reducible rfl)
      try simp only [Act.put]
      refine wpAnyL_pure (i := 6) (v := ?_) rfl rfl (by kernel_rfl) (by kernel_rfl) (by kernel_rfl) (fun _ _ _ h => h) HF (Or.inl ⟨by rfl, ?_⟩) ?_
      rotate_left 1
      · (intro v _; go_simp; try with_reducible rfl)
      try simp only [Act.put]
      have f0 := lk S 1 0 rfl rfl
      have f1 := (S.at_ 1 rfl).free 0
      have f2 := lk S 1 1 rfl rfl
      have f3 := (S.at_ 1 rfl).free 1
      have f4 := lk S 1 2 rfl rfl
      have f5 := (S.at_ 1 rfl).free 2
      have f6 := lk S 1 3 rfl rfl
      have f7 := (S.at_ 1 rfl).free 3
      refine wpAnyL_step (i := 8) (by kernel_rfl) rfl rfl ?_
      intro K hK
      go_simp
      replace S := S.put 1 rfl 0 (.slice Ag0_0 ng0_0 cg0_0)
      replace c := st c S (S.base_le 1 rfl)
      replace S := S.put 1 rfl 1 (.slice Ag0_1 ng0_1 cg0_1)
      replace c := st c S (S.base_le 1 rfl)
      replace S := S.put 1 rfl 2 (.slice Ag0_2 ng0_2 cg0_2)
      replace c := st c S (S.base_le 1 rfl)
      replace S := S.put 1 rfl 3 (.slice Ag0_3 ng0_3 cg0_3)
      replace c := st c S (S.base_le 1 rfl)
      clear HF
      have HF : ((((w59.setCell ⟨w57.heap.size, 0, none⟩ (.slice Ag0_0 ng0_0 cg0_0)).setCell ⟨w57.heap.size, 1, none⟩ (.slice Ag0_1 ng0_1 cg0_1)).setCell ⟨w57.heap.size, 2, none⟩ (.slice Ag0_2 ng0_2 cg0_2)).setCell ⟨w57.heap.size, 3, none⟩ (.slice Ag0_3 ng0_3 cg0_3)).cell? ⟨w4.heap.size, 0, none⟩ = some (.slice Ax0_0 nx0_0 cx0_0) ∧ ((((w59.setCell ⟨w57.heap.size, 0, none⟩ (.slice Ag0_0 ng0_0 cg0_0)).setCell ⟨w57.heap.size, 1, none⟩ (.slice Ag0_1 ng0_1 cg0_1)).setCell ⟨w57.heap.size, 2, none⟩ (.slice Ag0_2 ng0_2 cg0_2)).setCell ⟨w57.heap.size, 3, none⟩ (.slice Ag0_3 ng0_3 cg0_3)).cell? ⟨w4.heap.size, 1, none⟩ = some (.slice Ax0_1 nx0_1 cx0_1) ∧ ((((w59.setCell ⟨w57.heap.size, 0, none⟩ (.slice Ag0_0 ng0_0 cg0_0)).setCell ⟨w57.heap.size, 1, none⟩ (.slice Ag0_1 ng0_1 cg0_1)).setCell ⟨w57.heap.size, 2, none⟩ (.slice Ag0_2 ng0_2 cg0_2)).setCell ⟨w57.heap.size, 3, none⟩ (.slice Ag0_3 ng0_3 cg0_3)).cell? ⟨w4.heap.size, 2, none⟩ = some (.slice Ax0_2 nx0_2 cx0_2) ∧ ((((w59.setCell ⟨w57.heap.size, 0, none⟩ (.slice Ag0_0 ng0_0 cg0_0)).setCell ⟨w57.heap.size, 1, none⟩ (.slice Ag0_1 ng0_1 cg0_1)).setCell ⟨w57.heap.size, 2, none⟩ (.slice Ag0_2 ng0_2 cg0_2)).setCell ⟨w57.heap.size, 3, none⟩ (.slice Ag0_3 ng0_3 cg0_3)).cell? ⟨w4.heap.size, 3, none⟩ = some (.slice Ax0_3 nx0_3 cx0_3) ∧ ((((w59.setCell ⟨w57.heap.size, 0, none⟩ (.slice Ag0_0 ng0_0 cg0_0)).setCell ⟨w57.heap.size, 1, none⟩ (.slice Ag0_1 ng0_1 cg0_1)).setCell ⟨w57.heap.size, 2, none⟩ (.slice Ag0_2 ng0_2 cg0_2)).setCell ⟨w57.heap.size, 3, none⟩ (.slice Ag0_3 ng0_3 cg0_3)).cell? ⟨w.heap.size + 1, 0, none⟩ = some (.int .i64 xa1_0) ∧ ((((w59.setCell ⟨w57.heap.size, 0, none⟩ (.slice Ag0_0 ng0_0 cg0_0)).setCell ⟨w57.heap.size, 1, none⟩ (.slice Ag0_1 ng0_1 cg0_1)).setCell ⟨w57.heap.size, 2, none⟩ (.slice Ag0_2 ng0_2 cg0_2)).setCell ⟨w57.heap.size, 3, none⟩ (.slice Ag0_3 ng0_3 cg0_3)).cell? ⟨w.heap.size + 1, 1, none⟩ = some (.int .i64 xa1_1) ∧ ((((w59.setCell ⟨w57.heap.size, 0, none⟩ (.slice Ag0_0 ng0_0 cg0_0)).setCell ⟨w57.heap.size, 1, none⟩ (.slice Ag0_1 ng0_1 cg0_1)).setCell ⟨w57.heap.size, 2, none⟩ (.slice Ag0_2 ng0_2 cg0_2)).setCell ⟨w57.heap.size, 3, none⟩ (.slice Ag0_3 ng0_3 cg0_3)).cell? ⟨w.heap.size + 1, 2, none⟩ = some (.int .i64 xa1_2) ∧ ((((w59.setCell ⟨w57.heap.size, 0, none⟩ (.slice Ag0_0 ng0_0 cg0_0)).setCell ⟨w57.heap.size, 1, none⟩ (.slice Ag0_1 ng0_1 cg0_1)).setCell ⟨w57.heap.size, 2, none⟩ (.slice Ag0_2 ng0_2 cg0_2)).setCell ⟨w57.heap.size, 3, none⟩ (.slice Ag0_3 ng0_3 cg0_3)).cell? ⟨w.heap.size + 1, 3, none⟩ = some (.int .i64 xa1_3) ∧ ((((w59.setCell ⟨w57.heap.size, 0, none⟩ (.slice Ag0_0 ng0_0 cg0_0)).setCell ⟨w57.heap.size, 1, none⟩ (.slice Ag0_1 ng0_1 cg0_1)).setCell ⟨w57.heap.size, 2, none⟩ (.slice Ag0_2 ng0_2 cg0_2)).setCell ⟨w57.heap.size, 3, none⟩ (.slice Ag0_3 ng0_3 cg0_3)).cell? ⟨w.heap.size + 1, 4, none⟩ = some (.int .i64 xa1_4) ∧ ((((w59.setCell ⟨w57.heap.size, 0, none⟩ (.slice Ag0_0 ng0_0 cg0_0)).setCell ⟨w57.heap.size, 1, none⟩ (.slice Ag0_1 ng0_1 cg0_1)).setCell ⟨w57.heap.size, 2, none⟩ (.slice Ag0_2 ng0_2 cg0_2)).setCell ⟨w57.heap.size, 3, none⟩ (.slice Ag0_3 ng0_3 cg0_3)).cell? ⟨w.heap.size + 1, 5, none⟩ = some (.int .i64 xa1_5) ∧ ((((w59.setCell ⟨w57.heap.size, 0, none⟩ (.slice Ag0_0 ng0_0 cg0_0)).setCell ⟨w57.heap.size, 1, none⟩ (.slice Ag0_1 ng0_1 cg0_1)).setCell ⟨w57.heap.size, 2, none⟩ (.slice Ag0_2 ng0_2 cg0_2)).setCell ⟨w57.heap.size, 3, none⟩ (.slice Ag0_3 ng0_3 cg0_3)).cell? ⟨w.heap.size + 1, 6, none⟩ = some (.int .i64 xa1_6) ∧ ((((w59.setCell ⟨w57.heap.size, 0, none⟩ (.slice Ag0_0 ng0_0 cg0_0)).setCell ⟨w57.heap.size, 1, none⟩ (.slice Ag0_1 ng0_1 cg0_1)).setCell ⟨w57.heap.size, 2, none⟩ (.slice Ag0_2 ng0_2 cg0_2)).setCell ⟨w57.heap.size, 3, none⟩ (.slice Ag0_3 ng0_3 cg0_3)).cell? ⟨w.heap.size + 1, 7, none⟩ = some (.int .i64 xa1_7) ∧ ((((w59.setCell ⟨w57.heap.size, 0, none⟩ (.slice Ag0_0 ng0_0 cg0_0)).setCell ⟨w57.heap.size, 1, none⟩ (.slice Ag0_1 ng0_1 cg0_1)).setCell ⟨w57.heap.size, 2, none⟩ (.slice Ag0_2 ng0_2 cg0_2)).setCell ⟨w57.heap.size, 3, none⟩ (.slice Ag0_3 ng0_3 cg0_3)).cell? ⟨w.heap.size + 1, 8, none⟩ = some (.int .i64 xa1_8) := ⟨(S.at_ 2 rfl).cell 0, (S.at_ 2 rfl).cell 1, (S.at_ 2 rfl).cell 2, (S.at_ 2 rfl).cell 3, (S.at_ 6 rfl).cell 0, (S.at_ 6 rfl).cell 1, (S.at_ 6 rfl).cell 2, (S.at_ 6 rfl).cell 3, (S.at_ 6 rfl).cell 4, (S.at_ 6 rfl).cell 5, (S.at_ 6 rfl).cell 6, (S.at_ 6 rfl).cell 7, (S.at_ 6 rfl).cell 8⟩
      refine hK _ _ (fun _ => HF) ?_
      clear hK K
      try simp only [Act.put]
      generalize (((w59.setCell ⟨w57.heap.size, 0, none⟩ (.slice Ag0_0 ng0_0 cg0_0)).setCell ⟨w57.heap.size, 1, none⟩ (.slice Ag0_1 ng0_1 cg0_1)).setCell ⟨w57.heap.size, 2, none⟩ (.slice Ag0_2 ng0_2 cg0_2)).setCell ⟨w57.heap.size, 3, none⟩ (.slice Ag0_3 ng0_3 cg0_3) = w60 at *
      clear f0 f1 f2 f3 f4 f5 f6 f7
      refine wpAnyL_step (i := 9) (by kernel_rfl) rfl rfl ?_
      intro K hK
      go_simp
      refine hK _ _ (fun h => nomatch (show true = false from h)) ?_
      clear hK K
      try simp only [Act.put]
      refine wpAnyL_done (by kernel_rfl) ?_ _
      replace S := S.pick 0 rfl
      replace S := S.pick 1 rfl
      replace S := S.sub (.cons_cons _ (.cons_cons _ (.cons_cons _ (.cons_cons _ (.cons_cons _ (.cons_cons _ (.cons_cons _ (.cons_cons _ (List.nil_sublist _)))))))))
      go_wp2_with fail
      go_meet
      exact ⟨_, _, _, _, _, _, _, _, _, _, _, _, _, _, rfl, rfl, S, c⟩
  · intro K hK
    go_simp
    replace S := S.boxAt c.size (w56.heap.size) rfl #[.slice none 0 0, .slice none 0 0, .slice none 0 0, .slice none 0 0] 34
    replace c := al c S
    clear HF
    have HF : (w56.alloc (.cells #[.slice none 0 0, .slice none 0 0, .slice none 0 0, .slice none 0 0] 34)).cell? ⟨w4.heap.size, 0, none⟩ = some (.slice Ax0_0 nx0_0 cx0_0) ∧ (w56.alloc (.cells #[.slice none 0 0, .slice none 0 0, .slice none 0 0, .slice none 0 0] 34)).cell? ⟨w4.heap.size, 1, none⟩ = some (.slice Ax0_1 nx0_1 cx0_1) ∧ (w56.alloc (.cells #[.slice none 0 0, .slice none 0 0, .slice none 0 0, .slice none 0 0] 34)).cell? ⟨w4.heap.size, 2, none⟩ = some (.slice Ax0_2 nx0_2 cx0_2) ∧ (w56.alloc (.cells #[.slice none 0 0, .slice none 0 0, .slice none 0 0, .slice none 0 0] 34)).cell? ⟨w4.heap.size, 3, none⟩ = some (.slice Ax0_3 nx0_3 cx0_3) ∧ (w56.alloc (.cells #[.slice none 0 0, .slice none 0 0, .slice none 0 0, .slice none 0 0] 34)).cell? ⟨w.heap.size + 1, 0, none⟩ = some (.int .i64 xa1_0) ∧ (w56.alloc (.cells #[.slice none 0 0, .slice none 0 0, .slice none 0 0, .slice none 0 0] 34)).cell? ⟨w.heap.size + 1, 1, none⟩ = some (.int .i64 xa1_1) ∧ (w56.alloc (.cells #[.slice none 0 0, .slice none 0 0, .slice none 0 0, .slice none 0 0] 34)).cell? ⟨w.heap.size + 1, 2, none⟩ = some (.int .i64 xa1_2) ∧ (w56.alloc (.cells #[.slice none 0 0, .slice none 0 0, .slice none 0 0, .slice none 0 0] 34)).cell? ⟨w.heap.size + 1, 3, none⟩ = some (.int .i64 xa1_3) ∧ (w56.alloc (.cells #[.slice none 0 0, .slice none 0 0, .slice none 0 0, .slice none 0 0] 34)).cell? ⟨w.heap.size + 1, 4, none⟩ = some (.int .i64 xa1_4) ∧ (w56.alloc (.cells #[.slice none 0 0, .slice none 0 0, .slice none 0 0, .slice none 0 0] 34)).cell? ⟨w.heap.size + 1, 5, none⟩ = some (.int .i64 xa1_5) ∧ (w56.alloc (.cells #[.slice none 0 0, .slice none 0 0, .slice none 0 0, .slice none 0 0] 34)).cell? ⟨w.heap.size + 1, 6, none⟩ = some (.int .i64 xa1_6) ∧ (w56.alloc (.cells #[.slice none 0 0, .slice none 0 0, .slice none 0 0, .slice none 0 0] 34)).cell? ⟨w.heap.size + 1, 7, none⟩ = some (.int .i64 xa1_7) ∧ (w56.alloc (.cells #[.slice none 0 0, .slice none 0 0, .slice none 0 0, .slice none 0 0] 34)).cell? ⟨w.heap.size + 1, 8, none⟩ = some (.int .i64 xa1_8) := ⟨(S.at_ 1 rfl).cell 0, (S.at_ 1 rfl).cell 1, (S.at_ 1 rfl).cell 2, (S.at_ 1 rfl).cell 3, (S.at_ 5 rfl).cell 0, (S.at_ 5 rfl).cell 1, (S.at_ 5 rfl).cell 2, (S.at_ 5 rfl).cell 3, (S.at_ 5 rfl).cell 4, (S.at_ 5 rfl).cell 5, (S.at_ 5 rfl).cell 6, (S.at_ 5 rfl).cell 7, (S.at_ 5 rfl).cell 8⟩
    refine hK _ _ (fun _ => HF) ?_
    clear hK K
    try simp only [Act.put]
    generalize hw : w56.alloc (.cells #[.slice none 0 0, .slice none 0 0, .slice none 0 0, .slice none 0 0] 34) = w57 at *
    clear hw
    refine wpAnyL_step (i := 2) (by kernel_rfl) rfl rfl ?_
    intro K hK
    go_simp
    refine (toEntry_any _ _ _ _ _ _ _ _ _ _).mono ?_
    rintro e w58 ⟨rfl, b⟩
    replace c := c.trans (b.mono c.size)
    replace S := S.keep b
    clear b
    clear HF
    have HF : w58.cell? ⟨w4.heap.size, 0, none⟩ = some (.slice Ax0_0 nx0_0 cx0_0) ∧ w58.cell? ⟨w4.heap.size, 1, none⟩ = some (.slice Ax0_1 nx0_1 cx0_1) ∧ w58.cell? ⟨w4.heap.size, 2, none⟩ = some (.slice Ax0_2 nx0_2 cx0_2) ∧ w58.cell? ⟨w4.heap.size, 3, none⟩ = some (.slice Ax0_3 nx0_3 cx0_3) ∧ w58.cell? ⟨w.heap.size + 1, 0, none⟩ = some (.int .i64 xa1_0) ∧ w58.cell? ⟨w.heap.size + 1, 1, none⟩ = some (.int .i64 xa1_1) ∧ w58.cell? ⟨w.heap.size + 1, 2, none⟩ = some (.int .i64 xa1_2) ∧ w58.cell? ⟨w.heap.size + 1, 3, none⟩ = some (.int .i64 xa1_3) ∧ w58.cell? ⟨w.heap.size + 1, 4, none⟩ = some (.int .i64 xa1_4) ∧ w58.cell? ⟨w.heap.size + 1, 5, none⟩ = some (.int .i64 xa1_5) ∧ w58.cell? ⟨w.heap.size + 1, 6, none⟩ = some (.int .i64 xa1_6) ∧ w58.cell? ⟨w.heap.size + 1, 7, none⟩ = some (.int .i64 xa1_7) ∧ w58.cell? ⟨w.heap.size + 1, 8, none⟩ = some (.int .i64 xa1_8) := ⟨(S.at_ 1 rfl).cell 0, (S.at_ 1 rfl).cell 1, (S.at_ 1 rfl).cell 2, (S.at_ 1 rfl).cell 3, (S.at_ 5 rfl).cell 0, (S.at_ 5 rfl).cell 1, (S.at_ 5 rfl).cell 2, (S.at_ 5 rfl).cell 3, (S.at_ 5 rfl).cell 4, (S.at_ 5 rfl).cell 5, (S.at_ 5 rfl).cell 6, (S.at_ 5 rfl).cell 7, (S.at_ 5 rfl).cell 8⟩
    refine hK _ _ (fun _ => HF) ?_
    clear hK K
    try simp only [Act.put]
    refine wpAnyL_step (i := 3) (by kernel_rfl) rfl rfl ?_
    intro K hK
    go_simp
    refine (IM.out _ _ _ _ _ _ _ _ _ _ _ _ d0 _ _ _ _ _ _ _ _ _ _ ((S.own_ 2 rfl).rd) hz0).mono ?_
    rintro e w59 ⟨Ag0_0, ng0_0, cg0_0, Ag0_1, ng0_1, cg0_1, Ag0_2, ng0_2, cg0_2, Ag0_3, ng0_3, cg0_3, rfl, o, b⟩
    obtain ⟨fp_Og0, S'⟩ := S.has b o c.size
    replace c := c.trans (b.mono c.size)
    clear S; have S := S'; clear S' o b
    clear HF
    have HF : w59.cell? ⟨w4.heap.size, 0, none⟩ = some (.slice Ax0_0 nx0_0 cx0_0) ∧ w59.cell? ⟨w4.heap.size, 1, none⟩ = some (.slice Ax0_1 nx0_1 cx0_1) ∧ w59.cell? ⟨w4.heap.size, 2, none⟩ = some (.slice Ax0_2 nx0_2 cx0_2) ∧ w59.cell? ⟨w4.heap.size, 3, none⟩ = some (.slice Ax0_3 nx0_3 cx0_3) ∧ w59.cell? ⟨w.heap.size + 1, 0, none⟩ = some (.int .i64 xa1_0) ∧ w59.cell? ⟨w.heap.size + 1, 1, none⟩ = some (.int .i64 xa1_1) ∧ w59.cell? ⟨w.heap.size + 1, 2, none⟩ = some (.int .i64 xa1_2) ∧ w59.cell? ⟨w.heap.size + 1, 3, none⟩ = some (.int .i64 xa1_3) ∧ w59.cell? ⟨w.heap.size + 1, 4, none⟩ = some (.int .i64 xa1_4) ∧ w59.cell? ⟨w.heap.size + 1, 5, none⟩ = some (.int .i64 xa1_5) ∧ w59.cell? ⟨w.heap.size + 1, 6, none⟩ = some (.int .i64 xa1_6) ∧ w59.cell? ⟨w.heap.size + 1, 7, none⟩ = some (.int .i64 xa1_7) ∧ w59.cell? ⟨w.heap.size + 1, 8, none⟩ = some (.int .i64 xa1_8) := ⟨(S.at_ 2 rfl).cell 0, (S.at_ 2 rfl).cell 1, (S.at_ 2 rfl).cell 2, (S.at_ 2 rfl).cell 3, (S.at_ 6 rfl).cell 0, (S.at_ 6 rfl).cell 1, (S.at_ 6 rfl).cell 2, (S.at_ 6 rfl).cell 3, (S.at_ 6 rfl).cell 4, (S.at_ 6 rfl).cell 5, (S.at_ 6 rfl).cell 6, (S.at_ 6 rfl).cell 7, (S.at_ 6 rfl).cell 8⟩
    refine hK _ _ (fun _ => HF) ?_
    clear hK K
    try simp only [Act.put]
    refine wpAnyL_pure (i := 4) (v := ?_) rfl rfl (by kernel_rfl) (by kernel_rfl) (by kernel_rfl) (fun _ _ _ h => h) HF (Or.inl ⟨by rfl, ?_⟩) ?_
    rotate_left 1
    · (intro v _; go_simp; try with_reducible rfl)
    try simp only [Act.put]
    refine wpAnyL_pure (i := 5) (v := ?_) rfl rfl (by kernel_rfl) (by kernel_rfl) (by kernel_rfl) (fun _ _ _ h => h) HF (Or.inl ⟨by rfl, ?_⟩) ?_
    rotate_left 1
    · (intro v _; go_simp; try with_reducible rfl)
    try simp only [Act.put]
    refine wpAnyL_pure (i := 6) (v := ?_) rfl rfl (by kernel_rfl) (by kernel_rfl) (by kernel_rfl) (fun _ _ _ h => h) HF (Or.inl ⟨by rfl, ?_⟩) ?_
    rotate_left 1
    · (intro v _; go_simp; try with_reducible rfl)
    try simp only [Act.put]
    have f0 := lk S 1 0 rfl rfl
    have f1 := (S.at_ 1 rfl).free 0
    have f2 := lk S 1 1 rfl rfl
    have f3 := (S.at_ 1 rfl).free 1
    have f4 := lk S 1 2 rfl rfl
    have f5 := (S.at_ 1 rfl).free 2
    have f6 := lk S 1 3 rfl rfl
    have f7 := (S.at_ 1 rfl).free 3
    refine wpAnyL_step (i := 8) (by kernel_rfl) rfl rfl ?_
    intro K hK
    go_simp
    replace S := S.put 1 rfl 0 (.slice Ag0_0 ng0_0 cg0_0)
    replace c := st c S (S.base_le 1 rfl)
    replace S := S.put 1 rfl 1 (.slice Ag0_1 ng0_1 cg0_1)
    replace c := st c S (S.base_le 1 rfl)
    replace S := S.put 1 rfl 2 (.slice Ag0_2 ng0_2 cg0_2)
    replace c := st c S (S.base_le 1 rfl)
    replace S := S.put 1 rfl 3 (.slice Ag0_3 ng0_3 cg0_3)
    replace c := st c S (S.base_le 1 rfl)
    clear HF
    have HF : ((((w59.setCell ⟨w56.heap.size, 0, none⟩ (.slice Ag0_0 ng0_0 cg0_0)).setCell ⟨w56.heap.size, 1, none⟩ (.slice Ag0_1 ng0_1 cg0_1)).setCell ⟨w56.heap.size, 2, none⟩ (.slice Ag0_2 ng0_2 cg0_2)).setCell ⟨w56.heap.size, 3, none⟩ (.slice Ag0_3 ng0_3 cg0_3)).cell? ⟨w4.heap.size, 0, none⟩ = some (.slice Ax0_0 nx0_0 cx0_0) ∧ ((((w59.setCell ⟨w56.heap.size, 0, none⟩ (.slice Ag0_0 ng0_0 cg0_0)).setCell ⟨w56.heap.size, 1, none⟩ (.slice Ag0_1 ng0_1 cg0_1)).setCell ⟨w56.heap.size, 2, none⟩ (.slice Ag0_2 ng0_2 cg0_2)).setCell ⟨w56.heap.size, 3, none⟩ (.slice Ag0_3 ng0_3 cg0_3)).cell? ⟨w4.heap.size, 1, none⟩ = some (.slice Ax0_1 nx0_1 cx0_1) ∧ ((((w59.setCell ⟨w56.heap.size, 0, none⟩ (.slice Ag0_0 ng0_0 cg0_0)).setCell ⟨w56.heap.size, 1, none⟩ (.slice Ag0_1 ng0_1 cg0_1)).setCell ⟨w56.heap.size, 2, none⟩ (.slice Ag0_2 ng0_2 cg0_2)).setCell ⟨w56.heap.size, 3, none⟩ (.slice Ag0_3 ng0_3 cg0_3)).cell? ⟨w4.heap.size, 2, none⟩ = some (.slice Ax0_2 nx0_2 cx0_2) ∧ ((((w59.setCell ⟨w56.heap.size, 0, none⟩ (.slice Ag0_0 ng0_0 cg0_0)).setCell ⟨w56.heap.size, 1, none⟩ (.slice Ag0_1 ng0_1 cg0_1)).setCell ⟨w56.heap.size, 2, none⟩ (.slice Ag0_2 ng0_2 cg0_2)).setCell ⟨w56.heap.size, 3, none⟩ (.slice Ag0_3 ng0_3 cg0_3)).cell? ⟨w4.heap.size, 3, none⟩ = some (.slice Ax0_3 nx0_3 cx0_3) ∧ ((((w59.setCell ⟨w56.heap.size, 0, none⟩ (.slice Ag0_0 ng0_0 cg0_0)).setCell ⟨w56.heap.size, 1, none⟩ (.slice Ag0_1 ng0_1 cg0_1)).setCell ⟨w56.heap.size, 2, none⟩ (.slice Ag0_2 ng0_2 cg0_2)).setCell ⟨w56.heap.size, 3, none⟩ (.slice Ag0_3 ng0_3 cg0_3)).cell? ⟨w.heap.size + 1, 0, none⟩ = some (.int .i64 xa1_0) ∧ ((((w59.setCell ⟨w56.heap.size, 0, none⟩ (.slice Ag0_0 ng0_0 cg0_0)).setCell ⟨w56.heap.size, 1, none⟩ (.slice Ag0_1 ng0_1 cg0_1)).setCell ⟨w56.heap.size, 2, none⟩ (.slice Ag0_2 ng0_2 cg0_2)).setCell ⟨w56.heap.size, 3, none⟩ (.slice Ag0_3 ng0_3 cg0_3)).cell? ⟨w.heap.size + 1, 1, none⟩ = some (.int .i64 xa1_1) ∧ ((((w59.setCell ⟨w56.heap.size, 0, none⟩ (.slice Ag0_0 ng0_0 cg0_0)).setCell ⟨w56.heap.size, 1, none⟩ (.slice Ag0_1 ng0_1 cg0_1)).setCell ⟨w56.heap.size, 2, none⟩ (.slice Ag0_2 ng0_2 cg0_2)).setCell ⟨w56.heap.size, 3, none⟩ (.slice Ag0_3 ng0_3 cg0_3)).cell? ⟨w.heap.size + 1, 2, none⟩ = some (.int .i64 xa1_2) ∧ ((((w59.setCell ⟨w56.heap.size, 0, none⟩ (.slice Ag0_0 ng0_0 cg0_0)).setCell ⟨w56.heap.size, 1, none⟩ (.slice Ag0_1 ng0_1 cg0_1)).setCell ⟨w56.heap.size, 2, none⟩ (.slice Ag0_2 ng0_2 cg0_2)).setCell ⟨w56.heap.size, 3, none⟩ (.slice Ag0_3 ng0_3 cg0_3)).cell? ⟨w.heap.size + 1, 3, none⟩ = some (.int .i64 xa1_3) ∧ ((((w59.setCell ⟨w56.heap.size, 0, none⟩ (.slice Ag0_0 ng0_0 cg0_0)).setCell ⟨w56.heap.size, 1, none⟩ (.slice Ag0_1 ng0_1 cg0_1)).setCell ⟨w56.heap.size, 2, none⟩ (.slice Ag0_2 ng0_2 cg0_2)).setCell ⟨w56.heap.size, 3, none⟩ (.slice Ag0_3 ng0_3 cg0_3)).cell? ⟨w.heap.size + 1, 4, none⟩ = some (.int .i64 xa1_4) ∧ ((((w59.setCell ⟨w56.heap.size, 0, none⟩ (.slice Ag0_0 ng0_0 cg0_0)).setCell ⟨w56.heap.size, 1, none⟩ (.slice Ag0_1 ng0_1 cg0_1)).setCell ⟨w56.heap.size, 2, none⟩ (.slice Ag0_2 ng0_2 cg0_2)).setCell ⟨w56.heap.size, 3, none⟩ (.slice Ag0_3 ng0_3 cg0_3)).cell? ⟨w.heap.size + 1, 5, none⟩ = some (.int .i64 xa1_5) ∧ ((((w59.setCell ⟨w56.heap.size, 0, none⟩ (.slice Ag0_0 ng0_0 cg0_0)).setCell ⟨w56.heap.size, 1, none⟩ (.slice Ag0_1 ng0_1 cg0_1)).setCell ⟨w56.heap.size, 2, none⟩ (.slice Ag0_2 ng0_2 cg0_2)).setCell ⟨w56.heap.size, 3, none⟩ (.slice Ag0_3 ng0_3 cg0_3)).cell? ⟨w.heap.size + 1, 6, none⟩ = some (.int .i64 xa1_6) ∧ ((((w59.setCell ⟨w56.heap.size, 0, none⟩ (.slice Ag0_0 ng0_0 cg0_0)).setCell ⟨w56.heap.size, 1, none⟩ (.slice Ag0_1 ng0_1 cg0_1)).setCell ⟨w56.heap.size, 2, none⟩ (.slice Ag0_2 ng0_2 cg0_2)).setCell ⟨w56.heap.size, 3, none⟩ (.slice Ag0_3 ng0_3 cg0_3)).cell? ⟨w.heap.size + 1, 7, none⟩ = some (.int .i64 xa1_7) ∧ ((((w59.setCell ⟨w56.heap.size, 0, none⟩ (.slice Ag0_0 ng0_0 cg0_0)).setCell ⟨w56.heap.size, 1, none⟩ (.slice Ag0_1 ng0_1 cg0_1)).setCell ⟨w56.heap.size, 2, none⟩ (.slice Ag0_2 ng0_2 cg0_2)).setCell ⟨w56.heap.size, 3, none⟩ (.slice Ag0_3 ng0_3 cg0_3)).cell? ⟨w.heap.size + 1, 8, none⟩ = some (.int .i64 xa1_8) := ⟨(S.at_ 2 rfl).cell 0, (S.at_ 2 rfl).cell 1, (S.at_ 2 rfl).cell 2, (S.at_ 2 rfl).cell 3, (S.at_ 6 rfl).cell 0, (S.at_ 6 rfl).cell 1, (S.at_ 6 rfl).cell 2, (S.at_ 6 rfl).cell 3, (S.at_ 6 rfl).cell 4, (S.at_ 6 rfl).cell 5, (S.at_ 6 rfl).cell 6, (S.at_ 6 rfl).cell 7, (S.at_ 6 rfl).cell 8⟩
    refine hK _ _ (fun _ => HF) ?_
    clear hK K
    try simp only [Act.put]
    generalize (((w59.setCell ⟨w56.heap.size, 0, none⟩ (.slice Ag0_0 ng0_0 cg0_0)).setCell ⟨w56.heap.size, 1, none⟩ (.slice Ag0_1 ng0_1 cg0_1)).setCell ⟨w56.heap.size, 2, none⟩ (.slice Ag0_2 ng0_2 cg0_2)).setCell ⟨w56.heap.size, 3, none⟩ (.slice Ag0_3 ng0_3 cg0_3) = w60 at *
    clear f0 f1 f2 f3 f4 f5 f6 f7
    refine wpAnyL_step (i := 9) (by kernel_rfl) rfl rfl ?_
    intro K hK
    go_simp
    refine hK _ _ (fun h => nomatch (show true = false from h)) ?_
    clear hK K
    try simp only [Act.put]
    refine wpAnyL_done (by kernel_rfl) ?_ _
    replace S := S.pick 0 rfl
    replace S := S.pick 1 rfl
    replace S := S.sub (.cons_cons _ (.cons_cons _ (.cons_cons _ (.cons_cons _ (.cons_cons _ (.cons_cons _ (.cons_cons _ (.cons_cons _ (List.nil_sublist _)))))))))
    go_wp2_with fail
    go_meet
    exact ⟨_, _, _, _, _, _, _, _, _, _, _, _, _, _, rfl, rfl, S, c⟩
 obtain ⟨pg0, Ag0_0, ng0_0, cg0_0, Ag0_1, ng0_1, cg0_1, Ag0_2, ng0_2, cg0_2, Ag0_3, ng0_3, cg0_3, fp_g0, rfl, rfl, S, c⟩ := hcut
 clear SH CH
 generalize wc = w6 at *
 rw [← HFX0.out] at S
 rw [← HFX1.out]
 have f0 := lk S 0 0 rfl rfl
 have f1 := lk S 0 1 rfl rfl
 have f2 := lk S 0 2 rfl rfl
 have f3 := lk S 0 3 rfl rfl
 have f4 := lk S 4 0 rfl rfl
 have f5 := lk S 4 1 rfl rfl
 have f6 := lk S 4 2 rfl rfl
 have f7 := lk S 4 3 rfl rfl
 go_wp2_with fail
 refine (eqTwo_yes _ _ _ _ _ _ _ _ _ _ fx0 _ ((S.own_ 1 rfl).rd) ((S.own_ 5 rfl).rd) (Nat.le_refl _) (Nat.le_refl _) hfz0).mono ?_
 rintro e w7 ⟨rfl, b⟩
 replace c := c.trans (b.mono c.size)
 replace S := S.keep b
 clear b f0 f1 f2 f3 f4 f5 f6 f7
 have f0 := lk S 2 0 rfl rfl
 have f1 := lk S 2 1 rfl rfl
 have f2 := lk S 2 2 rfl rfl
 have f3 := lk S 2 3 rfl rfl
 have f4 := lk S 7 0 rfl rfl
 have f5 := lk S 7 1 rfl rfl
 have f6 := lk S 7 2 rfl rfl
 have f7 := lk S 7 3 rfl rfl
 have SH := jd S
 have CH := jd c
 clear S c
 go_wp2_with fail
 go_region_held3 (fun v => v.cell? ⟨w4.heap.size, 0, none⟩ = some (.slice Ax0_0 nx0_0 cx0_0) ∧ v.cell? ⟨w4.heap.size, 1, none⟩ = some (.slice Ax0_1 nx0_1 cx0_1) ∧ v.cell? ⟨w4.heap.size, 2, none⟩ = some (.slice Ax0_2 nx0_2 cx0_2) ∧ v.cell? ⟨w4.heap.size, 3, none⟩ = some (.slice Ax0_3 nx0_3 cx0_3) ∧ v.cell? ⟨w.heap.size, 0, none⟩ = some (.slice Aa0_0 na0_0 ca0_0) ∧ v.cell? ⟨w.heap.size, 1, none⟩ = some (.slice Aa0_1 na0_1 ca0_1) ∧ v.cell? ⟨w.heap.size, 2, none⟩ = some (.slice Aa0_2 na0_2 ca0_2) ∧ v.cell? ⟨w.heap.size, 3, none⟩ = some (.slice Aa0_3 na0_3 ca0_3)) (go_keep)
  (first
   | (go_at_call 10
      refine (toTwo_made _ _ _ _ d0 _ ((h0.keep CH.out.drew).up CH.out.size) hz0).mono ?_
      rintro e w8 ⟨Az0_0, nz0_0, cz0_0, Az0_1, nz0_1, cz0_1, Az0_2, nz0_2, cz0_2, Az0_3, nz0_3, cz0_3, rfl, o, b⟩
      have S1 := (SH.out.keep ((Below.refl _ _).drew)).keep b
      have g0 : (w8).cell? ⟨w4.heap.size, 0, none⟩ = some (.slice Ax0_0 nx0_0 cx0_0) := (S1.at_ 2 rfl).cell 0
      have g1 : (w8).cell? ⟨w4.heap.size, 1, none⟩ = some (.slice Ax0_1 nx0_1 cx0_1) := (S1.at_ 2 rfl).cell 1
      have g2 : (w8).cell? ⟨w4.heap.size, 2, none⟩ = some (.slice Ax0_2 nx0_2 cx0_2) := (S1.at_ 2 rfl).cell 2
      have g3 : (w8).cell? ⟨w4.heap.size, 3, none⟩ = some (.slice Ax0_3 nx0_3 cx0_3) := (S1.at_ 2 rfl).cell 3
      have g4 : (w8).cell? ⟨w.heap.size, 0, none⟩ = some (.slice Aa0_0 na0_0 ca0_0) := (S1.at_ 7 rfl).cell 0
      have g5 : (w8).cell? ⟨w.heap.size, 1, none⟩ = some (.slice Aa0_1 na0_1 ca0_1) := (S1.at_ 7 rfl).cell 1
      have g6 : (w8).cell? ⟨w.heap.size, 2, none⟩ = some (.slice Aa0_2 na0_2 ca0_2) := (S1.at_ 7 rfl).cell 2
      have g7 : (w8).cell? ⟨w.heap.size, 3, none⟩ = some (.slice Aa0_3 na0_3 ca0_3) := (S1.at_ 7 rfl).cell 3
      have O1 := jd o
      have B1 := jd b
      clear S1 o b)
   | (go_at_call 12
      refine (eqTwo_yes _ _ _ _ _ _ _ _ _ _ d0 _ ((((SH.out.keep ((Below.refl _ _).drew)).keep B1.out).own_ 3 rfl).rd) (O1.out.rd) (Nat.le_refl _) (Nat.le_refl _) (by omega)).mono ?_
      rintro e w9 ⟨rfl, b⟩
      have S3 := ((SH.out.keep ((Below.refl _ _).drew)).keep B1.out).keep b
      have r0 : (w9).cell? ⟨w4.heap.size, 0, none⟩ = some (.slice Ax0_0 nx0_0 cx0_0) := (S3.at_ 2 rfl).cell 0
      have r1 : (w9).cell? ⟨w4.heap.size, 1, none⟩ = some (.slice Ax0_1 nx0_1 cx0_1) := (S3.at_ 2 rfl).cell 1
      have r2 : (w9).cell? ⟨w4.heap.size, 2, none⟩ = some (.slice Ax0_2 nx0_2 cx0_2) := (S3.at_ 2 rfl).cell 2
      have r3 : (w9).cell? ⟨w4.heap.size, 3, none⟩ = some (.slice Ax0_3 nx0_3 cx0_3) := (S3.at_ 2 rfl).cell 3
      have r4 : (w9).cell? ⟨w.heap.size, 0, none⟩ = some (.slice Aa0_0 na0_0 ca0_0) := (S3.at_ 7 rfl).cell 0
      have r5 : (w9).cell? ⟨w.heap.size, 1, none⟩ = some (.slice Aa0_1 na0_1 ca0_1) := (S3.at_ 7 rfl).cell 1
      have r6 : (w9).cell? ⟨w.heap.size, 2, none⟩ = some (.slice Aa0_2 na0_2 ca0_2) := (S3.at_ 7 rfl).cell 2
      have r7 : (w9).cell? ⟨w.heap.size, 3, none⟩ = some (.slice Aa0_3 na0_3 ca0_3) := (S3.at_ 7 rfl).cell 3
      have S2 := jd S3
      have C2 := jd ((CH.out.drew.trans (B1.out.mono CH.out.size)).trans (b.mono (CH.out.drew.trans (B1.out.mono CH.out.size)).size))
      clear b S3))
 have S := S2.out
 have c := C2.out
 clear SH CH S2 C2 O1 B1 f0 g0 r0 f1 g1 r1 f2 g2 r2 f3 g3 r3 f4 g4 r4 f5 g5 r5 f6 g6 r6 f7 g7 r7
 have f0 := lk S 2 0 rfl rfl
 have f1 := lk S 2 1 rfl rfl
 have f2 := lk S 2 2 rfl rfl
 have f3 := lk S 2 3 rfl rfl
 go_wp2_with fail
 refine (markTwo_any _ _ _ _ d0 _ _ (S.own_ 3 rfl) (S.nodup_own 3 rfl) (by omega) (1) (by omega) (by omega)).mono ?_
 rintro e w10 ⟨m0, rfl, o, t, mk_x0, en_x0, es_x0⟩
 have b := S.below 3 rfl t c.size
 have S' := S.mark 3 rfl t o
 replace c := c.trans b
 clear S; have S := S'; clear S' o t b f0 f1 f2 f3
 have nb0 : d0.n ≤ 2097154 := by
  first | omega | exact two_n_le _ (by omega)
 have qk : ¬ (1 + (d0.n : Int) < 0) := by omega
 have f0 := lk S 0 0 rfl rfl
 have f1 := lk S 0 1 rfl rfl
 have f2 := lk S 0 2 rfl rfl
 have f3 := lk S 0 3 rfl rfl
 have f4 := lk S 4 0 rfl rfl
 have f5 := lk S 4 1 rfl rfl
 have f6 := lk S 4 2 rfl rfl
 have f7 := lk S 4 3 rfl rfl
 go_wp2_with fail
 refine (eqTwo_yes _ _ _ _ _ _ _ _ _ _ fx0 _ ((S.own_ 1 rfl).rd) ((S.own_ 5 rfl).rd) (Nat.le_refl _) (Nat.le_refl _) hfz0).mono ?_
 rintro e w11 ⟨rfl, b⟩
 replace c := c.trans (b.mono c.size)
 replace S := S.keep b
 clear b f0 f1 f2 f3 f4 f5 f6 f7
 have nr0 : fx0.n ≤ 2097154 := by
  first | omega | exact two_n_le _ (by omega)
 have f0 := lk S 0 0 rfl rfl
 have f1 := lk S 0 1 rfl rfl
 have f2 := lk S 0 2 rfl rfl
 have f3 := lk S 0 3 rfl rfl
 go_wp2_with fail
 refine (markTwo_any _ _ _ _ fx0 _ _ (S.own_ 1 rfl) (S.nodup_own 1 rfl) hfz0 (1) (by omega) (by omega)).mono ?_
 rintro e w12 ⟨e0, rfl, o, t, mk_g0, en_g0, es_g0⟩
 have b := S.below 1 rfl t c.size
 have S' := S.mark 1 rfl t o
 replace c := c.trans b
 clear S; have S := S'; clear S' o t b f0 f1 f2 f3
 have f0 := lk S 0 0 rfl rfl
 have f1 := lk S 0 1 rfl rfl
 have f2 := lk S 0 2 rfl rfl
 have f3 := lk S 0 3 rfl rfl
 go_wp2_with fail
 refine (heldTwo_any _ _ _ _ e0 _ _ ((S.own_ 1 rfl).rd) (Nat.le_refl _) (by omega) (1) (by omega) (by omega) mk_g0).mono ?_
 rintro e w13 ⟨rfl, b⟩
 rw [en_g0]
 have q13 : ¬ (1 + (fx0.n : Int) < 0) := by omega
 replace c := c.trans (b.mono c.size)
 replace S := S.keep b
 clear b f0 f1 f2 f3
 have f0 := lk S 7 0 rfl rfl
 have f1 := lk S 7 1 rfl rfl
 have f2 := lk S 7 2 rfl rfl
 have f3 := lk S 7 3 rfl rfl
 have f4 := lk S 6 0 rfl rfl
 have f5 := lk S 6 1 rfl rfl
 have f6 := lk S 6 2 rfl rfl
 have f7 := lk S 6 3 rfl rfl
 have f8 := lk S 6 4 rfl rfl
 have f9 := lk S 6 5 rfl rfl
 have f10 := lk S 6 6 rfl rfl
 have f11 := lk S 6 7 rfl rfl
 have f12 := lk S 6 8 rfl rfl
 have SH := jd S
 have CH := jd c
 clear S c
 go_wp2_with fail
 go_cut [14, 15] (fun s0 s1 wx => ∃ (ph0 : Nat) (Ah0_0 : Option Addr) (nh0_0 ch0_0 : Nat) (Ah0_1 : Option Addr) (nh0_1 ch0_1 : Nat) (Ah0_2 : Option Addr) (nh0_2 ch0_2 : Nat) (Ah0_3 : Option Addr) (nh0_3 ch0_3 : Nat) (fp_h0 : List Nat), s0 = .pointer (some ⟨ph0, 0, none⟩) ∧ s1 = .bool ((f d0 ⟨xa1_0, xa1_1, xa1_2, xa1_3, xa1_4, xa1_5, xa1_6, xa1_7, xa1_8⟩).2) ∧ Sep wx w.heap.size [.blk ph0 #[.slice Ah0_0 nh0_0 ch0_0, .slice Ah0_1 nh0_1 ch0_1, .slice Ah0_2 nh0_2 ch0_2, .slice Ah0_3 nh0_3 ch0_3] 34, .own (((f d0 ⟨xa1_0, xa1_1, xa1_2, xa1_3, xa1_4, xa1_5, xa1_6, xa1_7, xa1_8⟩).1).cells) [.slice Ah0_0 nh0_0 ch0_0, .slice Ah0_1 nh0_1 ch0_1, .slice Ah0_2 nh0_2 ch0_2, .slice Ah0_3 nh0_3 ch0_3] fp_h0, .blk (pg0) #[.slice Ag0_0 ng0_0 cg0_0, .slice Ag0_1 ng0_1 cg0_1, .slice Ag0_2 ng0_2 cg0_2, .slice Ag0_3 ng0_3 cg0_3] 34, .own (e0.cells) [.slice Ag0_0 ng0_0 cg0_0, .slice Ag0_1 ng0_1 cg0_1, .slice Ag0_2 ng0_2 cg0_2, .slice Ag0_3 ng0_3 cg0_3] fp_g0, .blk (pw0) #[.slice Aw0_0 nw0_0 cw0_0, .slice Aw0_1 nw0_1 cw0_1, .slice Aw0_2 nw0_2 cw0_2, .slice Aw0_3 nw0_3 cw0_3] 34, .own (fx0.cells) [.slice Aw0_0 nw0_0 cw0_0, .slice Aw0_1 nw0_1 cw0_1, .slice Aw0_2 nw0_2 cw0_2, .slice Aw0_3 nw0_3 cw0_3] fp_w0] ∧ Below w.heap.size w wx)
 case first =>
  have S := SH.out
  have c := CH.out
  refine wp_region_L (fun v => v.cell? ⟨w.heap.size, 0, none⟩ = some (.slice Aa0_0 na0_0 ca0_0) ∧ v.cell? ⟨w.heap.size, 1, none⟩ = some (.slice Aa0_1 na0_1 ca0_1) ∧ v.cell? ⟨w.heap.size, 2, none⟩ = some (.slice Aa0_2 na0_2 ca0_2) ∧ v.cell? ⟨w.heap.size, 3, none⟩ = some (.slice Aa0_3 na0_3 ca0_3) ∧ v.cell? ⟨w.heap.size + 1, 0, none⟩ = some (.int .i64 xa1_0) ∧ v.cell? ⟨w.heap.size + 1, 1, none⟩ = some (.int .i64 xa1_1) ∧ v.cell? ⟨w.heap.size + 1, 2, none⟩ = some (.int .i64 xa1_2) ∧ v.cell? ⟨w.heap.size + 1, 3, none⟩ = some (.int .i64 xa1_3) ∧ v.cell? ⟨w.heap.size + 1, 4, none⟩ = some (.int .i64 xa1_4) ∧ v.cell? ⟨w.heap.size + 1, 5, none⟩ = some (.int .i64 xa1_5) ∧ v.cell? ⟨w.heap.size + 1, 6, none⟩ = some (.int .i64 xa1_6) ∧ v.cell? ⟨w.heap.size + 1, 7, none⟩ = some (.int .i64 xa1_7) ∧ v.cell? ⟨w.heap.size + 1, 8, none⟩ = some (.int .i64 xa1_8)) 10 (by kernel_rfl) ?_
  clear f0 f1 f2 f3 f4 f5 f6 f7 f8 f9 f10 f11 f12 SH CH
  replace S := S.keep ((Below.refl _ _).drew)
  replace c := c.drew
  generalize w13.drew = w64 at *
  have HF : w64.cell? ⟨w.heap.size, 0, none⟩ = some (.slice Aa0_0 na0_0 ca0_0) ∧ w64.cell? ⟨w.heap.size, 1, none⟩ = some (.slice Aa0_1 na0_1 ca0_1) ∧ w64.cell? ⟨w.heap.size, 2, none⟩ = some (.slice Aa0_2 na0_2 ca0_2) ∧ w64.cell? ⟨w.heap.size, 3, none⟩ = some (.slice Aa0_3 na0_3 ca0_3) ∧ w64.cell? ⟨w.heap.size + 1, 0, none⟩ = some (.int .i64 xa1_0) ∧ w64.cell? ⟨w.heap.size + 1, 1, none⟩ = some (.int .i64 xa1_1) ∧ w64.cell? ⟨w.heap.size + 1, 2, none⟩ = some (.int .i64 xa1_2) ∧ w64.cell? ⟨w.heap.size + 1, 3, none⟩ = some (.int .i64 xa1_3) ∧ w64.cell? ⟨w.heap.size + 1, 4, none⟩ = some (.int .i64 xa1_4) ∧ w64.cell? ⟨w.heap.size + 1, 5, none⟩ = some (.int .i64 xa1_5) ∧ w64.cell? ⟨w.heap.size + 1, 6, none⟩ = some (.int .i64 xa1_6) ∧ w64.cell? ⟨w.heap.size + 1, 7, none⟩ = some (.int .i64 xa1_7) ∧ w64.cell? ⟨w.heap.size + 1, 8, none⟩ = some (.int .i64 xa1_8) := ⟨(S.at_ 7 rfl).cell 0, (S.at_ 7 rfl).cell 1, (S.at_ 7 rfl).cell 2, (S.at_ 7 rfl).cell 3, (S.at_ 6 rfl).cell 0, (S.at_ 6 rfl).cell 1, (S.at_ 6 rfl).cell 2, (S.at_ 6 rfl).cell 3, (S.at_ 6 rfl).cell 4, (S.at_ 6 rfl).cell 5, (S.at_ 6 rfl).cell 6, (S.at_ 6 rfl).cell 7, (S.at_ 6 rfl).cell 8⟩
  refine tk 0 (v := ?_) rfl rfl HF (.inl ⟨by rfl, ?_⟩) ?_
  rotate_left 1
  · (rintro v ⟨a0, a1, a2, a3, a4, a5, a6, a7, a8, a9, a10, a11, a12⟩; go_simp; try with_reducible rfl)
  try simp only [Act.put]
  refine tk 2 (v := ?_) rfl rfl HF (.inl ⟨by rfl, ?_⟩) ?_
  rotate_left 1
  · (rintro v ⟨a0, a1, a2, a3, a4, a5, a6, a7, a8, a9, a10, a11, a12⟩; go_simp; try with_reducible rfl)
  try simp only [Act.put]
  refine wpAnyL_two (i := 1) (k := 8) (by kernel_rfl) rfl rfl rfl rfl ?_ ?_
  · intro K hK
    go_simp
    refine (toTwo_made _ _ _ _ d0 _ ((h0.keep c).up c.size) hz0).mono ?_
    rintro e w65 ⟨At0_0, nt0_0, ct0_0, At0_1, nt0_1, ct0_1, At0_2, nt0_2, ct0_2, At0_3, nt0_3, ct0_3, rfl, o, b⟩
    obtain ⟨fp_Ot0, S'⟩ := S.has b o c.size
    replace c := c.trans (b.mono c.size)
    clear S; have S := S'; clear S' o b
    clear HF
    have HF : w65.cell? ⟨w.heap.size, 0, none⟩ = some (.slice Aa0_0 na0_0 ca0_0) ∧ w65.cell? ⟨w.heap.size, 1, none⟩ = some (.slice Aa0_1 na0_1 ca0_1) ∧ w65.cell? ⟨w.heap.size, 2, none⟩ = some (.slice Aa0_2 na0_2 ca0_2) ∧ w65.cell? ⟨w.heap.size, 3, none⟩ = some (.slice Aa0_3 na0_3 ca0_3) ∧ w65.cell? ⟨w.heap.size + 1, 0, none⟩ = some (.int .i64 xa1_0) ∧ w65.cell? ⟨w.heap.size + 1, 1, none⟩ = some (.int .i64 xa1_1) ∧ w65.cell? ⟨w.heap.size + 1, 2, none⟩ = some (.int .i64 xa1_2) ∧ w65.cell? ⟨w.heap.size + 1, 3, none⟩ = some (.int .i64 xa1_3) ∧ w65.cell? ⟨w.heap.size + 1, 4, none⟩ = some (.int .i64 xa1_4) ∧ w65.cell? ⟨w.heap.size + 1, 5, none⟩ = some (.int .i64 xa1_5) ∧ w65.cell? ⟨w.heap.size + 1, 6, none⟩ = some (.int .i64 xa1_6) ∧ w65.cell? ⟨w.heap.size + 1, 7, none⟩ = some (.int .i64 xa1_7) ∧ w65.cell? ⟨w.heap.size + 1, 8, none⟩ = some (.int .i64 xa1_8) := ⟨(S.at_ 8 rfl).cell 0, (S.at_ 8 rfl).cell 1, (S.at_ 8 rfl).cell 2, (S.at_ 8 rfl).cell 3, (S.at_ 7 rfl).cell 0, (S.at_ 7 rfl).cell 1, (S.at_ 7 rfl).cell 2, (S.at_ 7 rfl).cell 3, (S.at_ 7 rfl).cell 4, (S.at_ 7 rfl).cell 5, (S.at_ 7 rfl).cell 6, (S.at_ 7 rfl).cell 7, (S.at_ 7 rfl).cell 8⟩
    refine hK _ _ (fun _ => HF) ?_
    clear hK K
    try simp only [Act.put]
    refine wpAnyL_two (i := 3) (k := 8) (by kernel_rfl) rfl rfl rfl rfl ?_ ?_
    · intro K hK
      go_simp
      refine (toEntry_any _ _ _ _ _ _ _ _ _ _).mono ?_
      rintro e w66 ⟨rfl, b⟩
      replace c := c.trans (b.mono c.size)
      replace S := S.keep b
      clear b
      clear HF
      have HF : w66.cell? ⟨w.heap.size, 0, none⟩ = some (.slice Aa0_0 na0_0 ca0_0) ∧ w66.cell? ⟨w.heap.size, 1, none⟩ = some (.slice Aa0_1 na0_1 ca0_1) ∧ w66.cell? ⟨w.heap.size, 2, none⟩ = some (.slice Aa0_2 na0_2 ca0_2) ∧ w66.cell? ⟨w.heap.size, 3, none⟩ = some (.slice Aa0_3 na0_3 ca0_3) ∧ w66.cell? ⟨w.heap.size + 1, 0, none⟩ = some (.int .i64 xa1_0) ∧ w66.cell? ⟨w.heap.size + 1, 1, none⟩ = some (.int .i64 xa1_1) ∧ w66.cell? ⟨w.heap.size + 1, 2, none⟩ = some (.int .i64 xa1_2) ∧ w66.cell? ⟨w.heap.size + 1, 3, none⟩ = some (.int .i64 xa1_3) ∧ w66.cell? ⟨w.heap.size + 1, 4, none⟩ = some (.int .i64 xa1_4) ∧ w66.cell? ⟨w.heap.size + 1, 5, none⟩ = some (.int .i64 xa1_5) ∧ w66.cell? ⟨w.heap.size + 1, 6, none⟩ = some (.int .i64 xa1_6) ∧ w66.cell? ⟨w.heap.size + 1, 7, none⟩ = some (.int .i64 xa1_7) ∧ w66.cell? ⟨w.heap.size + 1, 8, none⟩ = some (.int .i64 xa1_8) := ⟨(S.at_ 8 rfl).cell 0, (S.at_ 8 rfl).cell 1, (S.at_ 8 rfl).cell 2, (S.at_ 8 rfl).cell 3, (S.at_ 7 rfl).cell 0, (S.at_ 7 rfl).cell 1, (S.at_ 7 rfl).cell 2, (S.at_ 7 rfl).cell 3, (S.at_ 7 rfl).cell 4, (S.at_ 7 rfl).cell 5, (S.at_ 7 rfl).cell 6, (S.at_ 7 rfl).cell 7, (S.at_ 7 rfl).cell 8⟩
      refine hK _ _ (fun _ => HF) ?_
      clear hK K
      try simp only [Act.put]
      refine wpAnyL_two (i := 4) (k := 8) (by kernel_rfl) rfl rfl rfl rfl ?_ ?_
      · intro K hK
        go_simp
        refine (IM.out _ _ _ _ _ _ _ _ _ _ _ _ d0 _ _ _ _ _ _ _ _ _ _ ((S.own_ 0 rfl).rd) hz0).mono ?_
        rintro e w67 ⟨Ah0_0, nh0_0, ch0_0, Ah0_1, nh0_1, ch0_1, Ah0_2, nh0_2, ch0_2, Ah0_3, nh0_3, ch0_3, rfl, o, b⟩
        obtain ⟨fp_Oh0, S'⟩ := S.has b o c.size
        replace c := c.trans (b.mono c.size)
        clear S; have S := S'; clear S' o b
        clear HF
        have HF : w67.cell? ⟨w.heap.size, 0, none⟩ = some (.slice Aa0_0 na0_0 ca0_0) ∧ w67.cell? ⟨w.heap.size, 1, none⟩ = some (.slice Aa0_1 na0_1 ca0_1) ∧ w67.cell? ⟨w.heap.size, 2, none⟩ = some (.slice Aa0_2 na0_2 ca0_2) ∧ w67.cell? ⟨w.heap.size, 3, none⟩ = some (.slice Aa0_3 na0_3 ca0_3) ∧ w67.cell? ⟨w.heap.size + 1, 0, none⟩ = some (.int .i64 xa1_0) ∧ w67.cell? ⟨w.heap.size + 1, 1, none⟩ = some (.int .i64 xa1_1) ∧ w67.cell? ⟨w.heap.size + 1, 2, none⟩ = some (.int .i64 xa1_2) ∧ w67.cell? ⟨w.heap.size + 1, 3, none⟩ = some (.int .i64 xa1_3) ∧ w67.cell? ⟨w.heap.size + 1, 4, none⟩ = some (.int .i64 xa1_4) ∧ w67.cell? ⟨w.heap.size + 1, 5, none⟩ = some (.int .i64 xa1_5) ∧ w67.cell? ⟨w.heap.size + 1, 6, none⟩ = some (.int .i64 xa1_6) ∧ w67.cell? ⟨w.heap.size + 1, 7, none⟩ = some (.int .i64 xa1_7) ∧ w67.cell? ⟨w.heap.size + 1, 8, none⟩ = some (.int .i64 xa1_8) := ⟨(S.at_ 9 rfl).cell 0, (S.at_ 9 rfl).cell 1, (S.at_ 9 rfl).cell 2, (S.at_ 9 rfl).cell 3, (S.at_ 8 rfl).cell 0, (S.at_ 8 rfl).cell 1, (S.at_ 8 rfl).cell 2, (S.at_ 8 rfl).cell 3, (S.at_ 8 rfl).cell 4, (S.at_ 8 rfl).cell 5, (S.at_ 8 rfl).cell 6, (S.at_ 8 rfl).cell 7, (S.at_ 8 rfl).cell 8⟩
        refine hK _ _ (fun _ => HF) ?_
        clear hK K
        try simp only [Act.put]
        refine wpAnyL_pure (i := 5) (v := ?_) rfl rfl (by kernel_rfl) (by kernel_rfl) (by kernel_rfl) (fun _ _ _ h => h) HF (Or.inl ⟨by rfl, ?_⟩) ?_
        rotate_left 1
        · (intro v _; go_simp; try with_reducible rfl)
        try simp only [Act.put]
        refine wpAnyL_pure (i := 6) (v := ?_) rfl rfl (by kernel_rfl) (by kernel_rfl) (by kernel_rfl) (fun _ _ _ h => h) HF (Or.inl ⟨by rfl, ?_⟩) ?_
        rotate_left 1
        · (intro v _; go_simp; try with_reducible rfl)
        try simp only [Act.put]
        refine wpAnyL_pure (i := 7) (v := ?_) rfl rfl (by kernel_rfl) (by kernel_rfl) (by kernel_rfl) (fun _ _ _ h => h) HF (Or.inl ⟨by rfl, ?_⟩) ?_
        rotate_left 1
        · (intro v _; go_simp; try with_reducible rfl)
        try simp only [Act.put]
        refine wpAnyL_step (i := 8) (by kernel_rfl) rfl rfl ?_
        intro K hK
        go_simp
        replace S := S.boxAt c.size (w67.heap.size) rfl #[.slice none 0 0, .slice none 0 0, .slice none 0 0, .slice none 0 0] 34
        replace c := al c S
        clear HF
        have HF : (w67.alloc (.cells #[.slice none 0 0, .slice none 0 0, .slice none 0 0, .slice none 0 0] 34)).cell? ⟨w.heap.size, 0, none⟩ = some (.slice Aa0_0 na0_0 ca0_0) ∧ (w67.alloc (.cells #[.slice none 0 0, .slice none 0 0, .slice none 0 0, .slice none 0 0] 34)).cell? ⟨w.heap.size, 1, none⟩ = some (.slice Aa0_1 na0_1 ca0_1) ∧ (w67.alloc (.cells #[.slice none 0 0, .slice none 0 0, .slice none 0 0, .slice none 0 0] 34)).cell? ⟨w.heap.size, 2, none⟩ = some (.slice Aa0_2 na0_2 ca0_2) ∧ (w67.alloc (.cells #[.slice none 0 0, .slice none 0 0, .slice none 0 0, .slice none 0 0] 34)).cell? ⟨w.heap.size, 3, none⟩ = some (.slice Aa0_3 na0_3 ca0_3) ∧ (w67.alloc (.cells #[.slice none 0 0, .slice none 0 0, .slice none 0 0, .slice none 0 0] 34)).cell? ⟨w.heap.size + 1, 0, none⟩ = some (.int .i64 xa1_0) ∧ (w67.alloc (.cells #[.slice none 0 0, .slice none 0 0, .slice none 0 0, .slice none 0 0] 34)).cell? ⟨w.heap.size + 1, 1, none⟩ = some (.int .i64 xa1_1) ∧ (w67.alloc (.cells #[.slice none 0 0, .slice none 0 0, .slice none 0 0, .slice none 0 0] 34)).cell? ⟨w.heap.size + 1, 2, none⟩ = some (.int .i64 xa1_2) ∧ (w67.alloc (.cells #[.slice none 0 0, .slice none 0 0, .slice none 0 0, .slice none 0 0] 34)).cell? ⟨w.heap.size + 1, 3, none⟩ = some (.int .i64 xa1_3) ∧ (w67.alloc (.cells #[.slice none 0 0, .slice none 0 0, .slice none 0 0, .slice none 0 0] 34)).cell? ⟨w.heap.size + 1, 4, none⟩ = some (.int .i64 xa1_4) ∧ (w67.alloc (.cells #[.slice none 0 0, .slice none 0 0, .slice none 0 0, .slice none 0 0] 34)).cell? ⟨w.heap.size + 1, 5, none⟩ = some (.int .i64 xa1_5) ∧ (w67.alloc (.cells #[.slice none 0 0, .slice none 0 0, .slice none 0 0, .slice none 0 0] 34)).cell? ⟨w.heap.size + 1, 6, none⟩ = some (.int .i64 xa1_6) ∧ (w67.alloc (.cells #[.slice none 0 0, .slice none 0 0, .slice none 0 0, .slice none 0 0] 34)).cell? ⟨w.heap.size + 1, 7, none⟩ = some (.int .i64 xa1_7) ∧ (w67.alloc (.cells #[.slice none 0 0, .slice none 0 0, .slice none 0 0, .slice none 0 0] 34)).cell? ⟨w.heap.size + 1, 8, none⟩ = some (.int .i64 xa1_8) := ⟨(S.at_ 10 rfl).cell 0, (S.at_ 10 rfl).cell 1, (S.at_ 10 rfl).cell 2, (S.at_ 10 rfl).cell 3, (S.at_ 9 rfl).cell 0, (S.at_ 9 rfl).cell 1, (S.at_ 9 rfl).cell 2, (S.at_ 9 rfl).cell 3, (S.at_ 9 rfl).cell 4, (S.at_ 9 rfl).cell 5, (S.at_ 9 rfl).cell 6, (S.at_ 9 rfl).cell 7, (S.at_ 9 rfl).cell 8⟩
        refine hK _ _ (fun _ => HF) ?_
        clear hK K
        try simp only [Act.put]
        generalize hw : w67.alloc (.cells #[.slice none 0 0, .slice none 0 0, .slice none 0 0, .slice none 0 0] 34) = w68 at *
        clear hw
        have f0 := lk S 0 0 rfl rfl
        have f1 := (S.at_ 0 rfl).free 0
        have f2 := lk S 0 1 rfl rfl
        have f3 := (S.at_ 0 rfl).free 1
        have f4 := lk S 0 2 rfl rfl
        have f5 := (S.at_ 0 rfl).free 2
        have f6 := lk S 0 3 rfl rfl
        have f7 := (S.at_ 0 rfl).free 3
        refine wpAnyL_step (i := 9) (by kernel_rfl) rfl rfl ?_
        intro K hK
        go_simp
        replace S := S.put 0 rfl 0 (.slice Ah0_0 nh0_0 ch0_0)
        replace c := st c S (S.base_le 0 rfl)
        replace S := S.put 0 rfl 1 (.slice Ah0_1 nh0_1 ch0_1)
        replace c := st c S (S.base_le 0 rfl)
        replace S := S.put 0 rfl 2 (.slice Ah0_2 nh0_2 ch0_2)
        replace c := st c S (S.base_le 0 rfl)
        replace S := S.put 0 rfl 3 (.slice Ah0_3 nh0_3 ch0_3)
        replace c := st c S (S.base_le 0 rfl)
        clear HF
        have HF : ((((w68.setCell ⟨w67.heap.size, 0, none⟩ (.slice Ah0_0 nh0_0 ch0_0)).setCell ⟨w67.heap.size, 1, none⟩ (.slice Ah0_1 nh0_1 ch0_1)).setCell ⟨w67.heap.size, 2, none⟩ (.slice Ah0_2 nh0_2 ch0_2)).setCell ⟨w67.heap.size, 3, none⟩ (.slice Ah0_3 nh0_3 ch0_3)).cell? ⟨w.heap.size, 0, none⟩ = some (.slice Aa0_0 na0_0 ca0_0) ∧ ((((w68.setCell ⟨w67.heap.size, 0, none⟩ (.slice Ah0_0 nh0_0 ch0_0)).setCell ⟨w67.heap.size, 1, none⟩ (.slice Ah0_1 nh0_1 ch0_1)).setCell ⟨w67.heap.size, 2, none⟩ (.slice Ah0_2 nh0_2 ch0_2)).setCell ⟨w67.heap.size, 3, none⟩ (.slice Ah0_3 nh0_3 ch0_3)).cell? ⟨w.heap.size, 1, none⟩ = some (.slice Aa0_1 na0_1 ca0_1) ∧ ((((w68.setCell ⟨w67.heap.size, 0, none⟩ (.slice Ah0_0 nh0_0 ch0_0)).setCell ⟨w67.heap.size, 1, none⟩ (.slice Ah0_1 nh0_1 ch0_1)).setCell ⟨w67.heap.size, 2, none⟩ (.slice Ah0_2 nh0_2 ch0_2)).setCell ⟨w67.heap.size, 3, none⟩ (.slice Ah0_3 nh0_3 ch0_3)).cell? ⟨w.heap.size, 2, none⟩ = some (.slice Aa0_2 na0_2 ca0_2) ∧ ((((w68.setCell ⟨w67.heap.size, 0, none⟩ (.slice Ah0_0 nh0_0 ch0_0)).setCell ⟨w67.heap.size, 1, none⟩ (.slice Ah0_1 nh0_1 ch0_1)).setCell ⟨w67.heap.size, 2, none⟩ (.slice Ah0_2 nh0_2 ch0_2)).setCell ⟨w67.heap.size, 3, none⟩ (.slice Ah0_3 nh0_3 ch0_3)).cell? ⟨w.heap.size, 3, none⟩ = some (.slice Aa0_3 na0_3 ca0_3) ∧ ((((w68.setCell ⟨w67.heap.size, 0, none⟩ (.slice Ah0_0 nh0_0 ch0_0)).setCell ⟨w67.heap.size, 1, none⟩ (.slice Ah0_1 nh0_1 ch0_1)).setCell ⟨w67.heap.size, 2, none⟩ (.slice Ah0_2 nh0_2 ch0_2)).setCell ⟨w67.heap.size, 3, none⟩ (.slice Ah0_3 nh0_3 ch0_3)).cell? ⟨w.heap.size + 1, 0, none⟩ = some (.int .i64 xa1_0) ∧ ((((w68.setCell ⟨w67.heap.size, 0, none⟩ (.slice Ah0_0 nh0_0 ch0_0)).setCell ⟨w67.heap.size, 1, none⟩ (.slice Ah0_1 nh0_1 ch0_1)).setCell ⟨w67.heap.size, 2, none⟩ (.slice Ah0_2 nh0_2 ch0_2)).setCell ⟨w67.heap.size, 3, none⟩ (.slice Ah0_3 nh0_3 ch0_3)).cell? ⟨w.heap.size + 1, 1, none⟩ = some (.int .i64 xa1_1) ∧ ((((w68.setCell ⟨w67.heap.size, 0, none⟩ (.slice Ah0_0 nh0_0 ch0_0)).setCell ⟨w67.heap.size, 1, none⟩ (.slice Ah0_1 nh0_1 ch0_1)).setCell ⟨w67.heap.size, 2, none⟩ (.slice Ah0_2 nh0_2 ch0_2)).setCell ⟨w67.heap.size, 3, none⟩ (.slice Ah0_3 nh0_3 ch0_3)).cell? ⟨w.heap.size + 1, 2, none⟩ = some (.int .i64 xa1_2) ∧ ((((w68.setCell ⟨w67.heap.size, 0, none⟩ (.slice Ah0_0 nh0_0 ch0_0)).setCell ⟨w67.heap.size, 1, none⟩ (.slice Ah0_1 nh0_1 ch0_1)).setCell ⟨w67.heap.size, 2, none⟩ (.slice Ah0_2 nh0_2 ch0_2)).setCell ⟨w67.heap.size, 3, none⟩ (.slice Ah0_3 nh0_3 ch0_3)).cell? ⟨w.heap.size + 1, 3, none⟩ = some (.int .i64 xa1_3) ∧ ((((w68.setCell ⟨w67.heap.size, 0, none⟩ (.slice Ah0_0 nh0_0 ch0_0)).setCell ⟨w67.heap.size, 1, none⟩ (.slice Ah0_1 nh0_1 ch0_1)).setCell ⟨w67.heap.size, 2, none⟩ (.slice Ah0_2 nh0_2 ch0_2)).setCell ⟨w67.heap.size, 3, none⟩ (.slice Ah0_3 nh0_3 ch0_3)).cell? ⟨w.heap.size + 1, 4, none⟩ = some (.int .i64 xa1_4) ∧ ((((w68.setCell ⟨w67.heap.size, 0, none⟩ (.slice Ah0_0 nh0_0 ch0_0)).setCell ⟨w67.heap.size, 1, none⟩ (.slice Ah0_1 nh0_1 ch0_1)).setCell ⟨w67.heap.size, 2, none⟩ (.slice Ah0_2 nh0_2 ch0_2)).setCell ⟨w67.heap.size, 3, none⟩ (.slice Ah0_3 nh0_3 ch0_3)).cell? ⟨w.heap.size + 1, 5, none⟩ = some (.int .i64 xa1_5) ∧ ((((w68.setCell ⟨w67.heap.size, 0, none⟩ (.slice Ah0_0 nh0_0 ch0_0)).setCell ⟨w67.heap.size, 1, none⟩ (.slice Ah0_1 nh0_1 ch0_1)).setCell ⟨w67.heap.size, 2, none⟩ (.slice Ah0_2 nh0_2 ch0_2)).setCell ⟨w67.heap.size, 3, none⟩ (.slice Ah0_3 nh0_3 ch0_3)).cell? ⟨w.heap.size + 1, 6, none⟩ = some (.int .i64 xa1_6) ∧ ((((w68.setCell ⟨w67.heap.size, 0, none⟩ (.slice Ah0_0 nh0_0 ch0_0)).setCell ⟨w67.heap.size, 1, none⟩ (.slice Ah0_1 nh0_1 ch0_1)).setCell ⟨w67.heap.size, 2, none⟩ (.slice Ah0_2 nh0_2 ch0_2)).setCell ⟨w67.heap.size, 3, none⟩ (.slice Ah0_3 nh0_3 ch0_3)).cell? ⟨w.heap.size + 1, 7, none⟩ = some (.int .i64 xa1_7) ∧ ((((w68.setCell ⟨w67.heap.size, 0, none⟩ (.slice Ah0_0 nh0_0 ch0_0)).setCell ⟨w67.heap.size, 1, none⟩ (.slice Ah0_1 nh0_1 ch0_1)).setCell ⟨w67.heap.size, 2, none⟩ (.slice Ah0_2 nh0_2 ch0_2)).setCell ⟨w67.heap.size, 3, none⟩ (.slice Ah0_3 nh0_3 ch0_3)).cell? ⟨w.heap.size + 1, 8, none⟩ = some (.int .i64 xa1_8) := ⟨(S.at_ 10 rfl).cell 0, (S.at_ 10 rfl).cell 1, (S.at_ 10 rfl).cell 2, (S.at_ 10 rfl).cell 3, (S.at_ 9 rfl).cell 0, (S.at_ 9 rfl).cell 1, (S.at_ 9 rfl).cell 2, (S.at_ 9 rfl).cell 3, (S.at_ 9 rfl).cell 4, (S.at_ 9 rfl).cell 5, (S.at_ 9 rfl).cell 6, (S.at_ 9 rfl).cell 7, (S.at_ 9 rfl).cell 8⟩
        refine hK _ _ (fun _ => HF) ?_
        clear hK K
        try simp only [Act.put]
        generalize (((w68.setCell ⟨w67.heap.size, 0, none⟩ (.slice Ah0_0 nh0_0 ch0_0)).setCell ⟨w67.heap.size, 1, none⟩ (.slice Ah0_1 nh0_1 ch0_1)).setCell ⟨w67.heap.size, 2, none⟩ (.slice Ah0_2 nh0_2 ch0_2)).setCell ⟨w67.heap.size, 3, none⟩ (.slice Ah0_3 nh0_3 ch0_3) = w69 at *
        clear f0 f1 f2 f3 f4 f5 f6 f7
        refine wpAnyL_step (i := 10) (by kernel_rfl) rfl rfl ?_
        intro K hK
        go_simp
        refine hK _ _ (fun h => nomatch (show true = false from h)) ?_
        clear hK K
        try simp only [Act.put]
        refine wpAnyL_done (by kernel_rfl) ?_ _
        replace S := S.pick 1 rfl
        replace S := S.pick 1 rfl
        replace S := S.sub (.cons_cons _ (.cons_cons _ (.cons _ (.cons_cons _ (.cons_cons _ (.cons _ (.cons _ (.cons_cons _ (.cons_cons _ (List.nil_sublist _))))))))))
        go_wp2_with fail
        go_meet
        exact ⟨_, _, _, _, _, _, _, _, _, _, _, _, _, _, rfl, rfl, S, c⟩
      · intro K hK
        go_simp
        replace S := S.boxAt c.size (w66.heap.size) rfl #[.slice none 0 0, .slice none 0 0, .slice none 0 0, .slice none 0 0] 34
        replace c := al c S
        clear HF
        have HF : (w66.alloc (.cells #[.slice none 0 0, .slice none 0 0, .slice none 0 0, .slice none 0 0] 34)).cell? ⟨w.heap.size, 0, none⟩ = some (.slice Aa0_0 na0_0 ca0_0) ∧ (w66.alloc (.cells #[.slice none 0 0, .slice none 0 0, .slice none 0 0, .slice none 0 0] 34)).cell? ⟨w.heap.size, 1, none⟩ = some (.slice Aa0_1 na0_1 ca0_1) ∧ (w66.alloc (.cells #[.slice none 0 0, .slice none 0 0, .slice none 0 0, .slice none 0 0] 34)).cell? ⟨w.heap.size, 2, none⟩ = some (.slice Aa0_2 na0_2 ca0_2) ∧ (w66.alloc (.cells #[.slice none 0 0, .slice none 0 0, .slice none 0 0, .slice none 0 0] 34)).cell? ⟨w.heap.size, 3, none⟩ = some (.slice Aa0_3 na0_3 ca0_3) ∧ (w66.alloc (.cells #[.slice none 0 0, .slice none 0 0, .slice none 0 0, .slice none 0 0] 34)).cell? ⟨w.heap.size + 1, 0, none⟩ = some (.int .i64 xa1_0) ∧ (w66.alloc (.cells #[.slice none 0 0, .slice none 0 0, .slice none 0 0, .slice none 0 0] 34)).cell? ⟨w.heap.size + 1, 1, none⟩ = some (.int .i64 xa1_1) ∧ (w66.alloc (.cells #[.slice none 0 0, .slice none 0 0, .slice none 0 0, .slice none 0 0] 34)).cell? ⟨w.heap.size + 1, 2, none⟩ = some (.int .i64 xa1_2) ∧ (w66.alloc (.cells #[.slice none 0 0, .slice none 0 0, .slice none 0 0, .slice none 0 0] 34)).cell? ⟨w.heap.size + 1, 3, none⟩ = some (.int .i64 xa1_3) ∧ (w66.alloc (.cells #[.slice none 0 0, .slice none 0 0, .slice none 0 0, .slice none 0 0] 34)).cell? ⟨w.heap.size + 1, 4, none⟩ = some (.int .i64 xa1_4) ∧ (w66.alloc (.cells #[.slice none 0 0, .slice none 0 0, .slice none 0 0, .slice none 0 0] 34)).cell? ⟨w.heap.size + 1, 5, none⟩ = some (.int .i64 xa1_5) ∧ (w66.alloc (.cells #[.slice none 0 0, .slice none 0 0, .slice none 0 0, .slice none 0 0] 34)).cell? ⟨w.heap.size + 1, 6, none⟩ = some (.int .i64 xa1_6) ∧ (w66.alloc (.cells #[.slice none 0 0, .slice none 0 0, .slice none 0 0, .slice none 0 0] 34)).cell? ⟨w.heap.size + 1, 7, none⟩ = some (.int .i64 xa1_7) ∧ (w66.alloc (.cells #[.slice none 0 0, .slice none 0 0, .slice none 0 0, .slice none 0 0] 34)).cell? ⟨w.heap.size + 1, 8, none⟩ = some (.int .i64 xa1_8) := ⟨(S.at_ 9 rfl).cell 0, (S.at_ 9 rfl).cell 1, (S.at_ 9 rfl).cell 2, (S.at_ 9 rfl).cell 3, (S.at_ 8 rfl).cell 0, (S.at_ 8 rfl).cell 1, (S.at_ 8 rfl).cell 2, (S.at_ 8 rfl).cell 3, (S.at_ 8 rfl).cell 4, (S.at_ 8 rfl).cell 5, (S.at_ 8 rfl).cell 6, (S.at_ 8 rfl).cell 7, (S.at_ 8 rfl).cell 8⟩
        refine hK _ _ (fun _ => HF) ?_
        clear hK K
        try simp only [Act.put]
        generalize hw : w66.alloc (.cells #[.slice none 0 0, .slice none 0 0, .slice none 0 0, .slice none 0 0] 34) = w67 at *
        clear hw
        refine wpAnyL_step (i := 4) (by kernel_rfl) rfl rfl ?_
        intro K hK
        go_simp
        refine (IM.out _ _ _ _ _ _ _ _ _ _ _ _ d0 _ _ _ _ _ _ _ _ _ _ ((S.own_ 1 rfl).rd) hz0).mono ?_
        rintro e w68 ⟨Ah0_0, nh0_0, ch0_0, Ah0_1, nh0_1, ch0_1, Ah0_2, nh0_2, ch0_2, Ah0_3, nh0_3, ch0_3, rfl, o, b⟩
        obtain ⟨fp_Oh0, S'⟩ := S.has b o c.size
        replace c := c.trans (b.mono c.size)
        clear S; have S := S'; clear S' o b
        clear HF
        have HF : w68.cell? ⟨w.heap.size, 0, none⟩ = some (.slice Aa0_0 na0_0 ca0_0) ∧ w68.cell? ⟨w.heap.size, 1, none⟩ = some (.slice Aa0_1 na0_1 ca0_1) ∧ w68.cell? ⟨w.heap.size, 2, none⟩ = some (.slice Aa0_2 na0_2 ca0_2) ∧ w68.cell? ⟨w.heap.size, 3, none⟩ = some (.slice Aa0_3 na0_3 ca0_3) ∧ w68.cell? ⟨w.heap.size + 1, 0, none⟩ = some (.int .i64 xa1_0) ∧ w68.cell? ⟨w.heap.size + 1, 1, none⟩ = some (.int .i64 xa1_1) ∧ w68.cell? ⟨w.heap.size + 1, 2, none⟩ = some (.int .i64 xa1_2) ∧ w68.cell? ⟨w.heap.size + 1, 3, none⟩ = some (.int .i64 xa1_3) ∧ w68.cell? ⟨w.heap.size + 1, 4, none⟩ = some (.int .i64 xa1_4) ∧ w68.cell? ⟨w.heap.size + 1, 5, none⟩ = some (.int .i64 xa1_5) ∧ w68.cell? ⟨w.heap.size + 1, 6, none⟩ = some (.int .i64 xa1_6) ∧ w68.cell? ⟨w.heap.size + 1, 7, none⟩ = some (.int .i64 xa1_7) ∧ w68.cell? ⟨w.heap.size + 1, 8, none⟩ = some (.int .i64 xa1_8) := ⟨(S.at_ 10 rfl).cell 0, (S.at_ 10 rfl).cell 1, (S.at_ 10 rfl).cell 2, (S.at_ 10 rfl).cell 3, (S.at_ 9 rfl).cell 0, (S.at_ 9 rfl).cell 1, (S.at_ 9 rfl).cell 2, (S.at_ 9 rfl).cell 3, (S.at_ 9 rfl).cell 4, (S.at_ 9 rfl).cell 5, (S.at_ 9 rfl).cell 6, (S.at_ 9 rfl).cell 7, (S.at_ 9 rfl).cell 8⟩
        refine hK _ _ (fun _ => HF) ?_
        clear hK K
        try simp only [Act.put]
        refine wpAnyL_pure (i := 5) (v := ?_) rfl rfl (by kernel_rfl) (by kernel_rfl) (by kernel_rfl) (fun _ _ _ h => h) HF (Or.inl ⟨by rfl, ?_⟩) ?_
        rotate_left 1
        · (intro v _; go_simp; try with_reducible rfl)
        try simp only [Act.put]
        refine wpAnyL_pure (i := 6) (v := ?_) rfl rfl (by kernel_rfl) (by kernel_rfl) (by kernel_rfl) (fun _ _ _ h => h) HF (Or.inl ⟨by rfl, ?_⟩) ?_
        rotate_left 1
        · (intro v _; go_simp; try with_reducible rfl)
        try simp only [Act.put]
        refine wpAnyL_pure (i := 7) (v := ?_) rfl rfl (by kernel_rfl) (by kernel_rfl) (by kernel_rfl) (fun _ _ _ h => h) HF (Or.inl ⟨by rfl, ?_⟩) ?_
        rotate_left 1
        · (intro v _; go_simp; try with_reducible rfl)
        try simp only [Act.put]
        have f0 := lk S 1 0 rfl rfl
        have f1 := (S.at_ 1 rfl).free 0
        have f2 := lk S 1 1 rfl rfl
        have f3 := (S.at_ 1 rfl).free 1
        have f4 := lk S 1 2 rfl rfl
        have f5 := (S.at_ 1 rfl).free 2
        have f6 := lk S 1 3 rfl rfl
        have f7 := (S.at_ 1 rfl).free 3
        refine wpAnyL_step (i := 9) (by kernel_rfl) rfl rfl ?_
        intro K hK
        go_simp
        replace S := S.put 1 rfl 0 (.slice Ah0_0 nh0_0 ch0_0)
        replace c := st c S (S.base_le 1 rfl)
        replace S := S.put 1 rfl 1 (.slice Ah0_1 nh0_1 ch0_1)
        replace c := st c S (S.base_le 1 rfl)
        replace S := S.put 1 rfl 2 (.slice Ah0_2 nh0_2 ch0_2)
        replace c := st c S (S.base_le 1 rfl)
        replace S := S.put 1 rfl 3 (.slice Ah0_3 nh0_3 ch0_3)
        replace c := st c S (S.base_le 1 rfl)
        clear HF
        have HF : ((((w68.setCell ⟨w66.heap.size, 0, none⟩ (.slice Ah0_0 nh0_0 ch0_0)).setCell ⟨w66.heap.size, 1, none⟩ (.slice Ah0_1 nh0_1 ch0_1)).setCell ⟨w66.heap.size, 2, none⟩ (.slice Ah0_2 nh0_2 ch0_2)).setCell ⟨w66.heap.size, 3, none⟩ (.slice Ah0_3 nh0_3 ch0_3)).cell? ⟨w.heap.size, 0, none⟩ = some (.slice Aa0_0 na0_0 ca0_0) ∧ ((((w68.setCell ⟨w66.heap.size, 0, none⟩ (.slice Ah0_0 nh0_0 ch0_0)).setCell ⟨w66.heap.size, 1, none⟩ (.slice Ah0_1 nh0_1 ch0_1)).setCell ⟨w66.heap.size, 2, none⟩ (.slice Ah0_2 nh0_2 ch0_2)).setCell ⟨w66.heap.size, 3, none⟩ (.slice Ah0_3 nh0_3 ch0_3)).cell? ⟨w.heap.size, 1, none⟩ = some (.slice Aa0_1 na0_1 ca0_1) ∧ ((((w68.setCell ⟨w66.heap.size, 0, none⟩ (.slice Ah0_0 nh0_0 ch0_0)).setCell ⟨w66.heap.size, 1, none⟩ (.slice Ah0_1 nh0_1 ch0_1)).setCell ⟨w66.heap.size, 2, none⟩ (.slice Ah0_2 nh0_2 ch0_2)).setCell ⟨w66.heap.size, 3, none⟩ (.slice Ah0_3 nh0_3 ch0_3)).cell? ⟨w.heap.size, 2, none⟩ = some (.slice Aa0_2 na0_2 ca0_2) ∧ ((((w68.setCell ⟨w66.heap.size, 0, none⟩ (.slice Ah0_0 nh0_0 ch0_0)).setCell ⟨w66.heap.size, 1, none⟩ (.slice Ah0_1 nh0_1 ch0_1)).setCell ⟨w66.heap.size, 2, none⟩ (.slice Ah0_2 nh0_2 ch0_2)).setCell ⟨w66.heap.size, 3, none⟩ (.slice Ah0_3 nh0_3 ch0_3)).cell? ⟨w.heap.size, 3, none⟩ = some (.slice Aa0_3 na0_3 ca0_3) ∧ ((((w68.setCell ⟨w66.heap.size, 0, none⟩ (.slice Ah0_0 nh0_0 ch0_0)).setCell ⟨w66.heap.size, 1, none⟩ (.slice Ah0_1 nh0_1 ch0_1)).setCell ⟨w66.heap.size, 2, none⟩ (.slice Ah0_2 nh0_2 ch0_2)).setCell ⟨w66.heap.size, 3, none⟩ (.slice Ah0_3 nh0_3 ch0_3)).cell? ⟨w.heap.size + 1, 0, none⟩ = some (.int .i64 xa1_0) ∧ ((((w68.setCell ⟨w66.heap.size, 0, none⟩ (.slice Ah0_0 nh0_0 ch0_0)).setCell ⟨w66.heap.size, 1, none⟩ (.slice Ah0_1 nh0_1 ch0_1)).setCell ⟨w66.heap.size, 2, none⟩ (.slice Ah0_2 nh0_2 ch0_2)).setCell ⟨w66.heap.size, 3, none⟩ (.slice Ah0_3 nh0_3 ch0_3)).cell? ⟨w.heap.size + 1, 1, none⟩ = some (.int .i64 xa1_1) ∧ ((((w68.setCell ⟨w66.heap.size, 0, none⟩ (.slice Ah0_0 nh0_0 ch0_0)).setCell ⟨w66.heap.size, 1, none⟩ (.slice Ah0_1 nh0_1 ch0_1)).setCell ⟨w66.heap.size, 2, none⟩ (.slice Ah0_2 nh0_2 ch0_2)).setCell ⟨w66.heap.size, 3, none⟩ (.slice Ah0_3 nh0_3 ch0_3)).cell? ⟨w.heap.size + 1, 2, none⟩ = some (.int .i64 xa1_2) ∧ ((((w68.setCell ⟨w66.heap.size, 0, none⟩ (.slice Ah0_0 nh0_0 ch0_0)).setCell ⟨w66.heap.size, 1, none⟩ (.slice Ah0_1 nh0_1 ch0_1)).setCell ⟨w66.heap.size, 2, none⟩ (.slice Ah0_2 nh0_2 ch0_2)).setCell ⟨w66.heap.size, 3, none⟩ (.slice Ah0_3 nh0_3 ch0_3)).cell? ⟨w.heap.size + 1, 3, none⟩ = some (.int .i64 xa1_3) ∧ ((((w68.setCell ⟨w66.heap.size, 0, none⟩ (.slice Ah0_0 nh0_0 ch0_0)).setCell ⟨w66.heap.size, 1, none⟩ (.slice Ah0_1 nh0_1 ch0_1)).setCell ⟨w66.heap.size, 2, none⟩ (.slice Ah0_2 nh0_2 ch0_2)).setCell ⟨w66.heap.size, 3, none⟩ (.slice Ah0_3 nh0_3 ch0_3)).cell? ⟨w.heap.size + 1, 4, none⟩ = some (.int .i64 xa1_4) ∧ ((((w68.setCell ⟨w66.heap.size, 0, none⟩ (.slice Ah0_0 nh0_0 ch0_0)).setCell ⟨w66.heap.size, 1, none⟩ (.slice Ah0_1 nh0_1 ch0_1)).setCell ⟨w66.heap.size, 2, none⟩ (.slice Ah0_2 nh0_2 ch0_2)).setCell ⟨w66.heap.size, 3, none⟩ (.slice Ah0_3 nh0_3 ch0_3)).cell? ⟨w.heap.size + 1, 5, none⟩ = some (.int .i64 xa1_5) ∧ ((((w68.setCell ⟨w66.heap.size, 0, none⟩ (.slice Ah0_0 nh0_0 ch0_0)).setCell ⟨w66.heap.size, 1, none⟩ (.slice Ah0_1 nh0_1 ch0_1)).setCell ⟨w66.heap.size, 2, none⟩ (.slice Ah0_2 nh0_2 ch0_2)).setCell ⟨w66.heap.size, 3, none⟩ (.slice Ah0_3 nh0_3 ch0_3)).cell? ⟨w.heap.size + 1, 6, none⟩ = some (.int .i64 xa1_6) ∧ ((((w68.setCell ⟨w66.heap.size, 0, none⟩ (.slice Ah0_0 nh0_0 ch0_0)).setCell ⟨w66.heap.size, 1, none⟩ (.slice Ah0_1 nh0_1 ch0_1)).setCell ⟨w66.heap.size, 2, none⟩ (.slice Ah0_2 nh0_2 ch0_2)).setCell ⟨w66.heap.size, 3, none⟩ (.slice Ah0_3 nh0_3 ch0_3)).cell? ⟨w.heap.size + 1, 7, none⟩ = some (.int .i64 xa1_7) ∧ ((((w68.setCell ⟨w66.heap.size, 0, none⟩ (.slice Ah0_0 nh0_0 ch0_0)).setCell ⟨w66.heap.size, 1, none⟩ (.slice Ah0_1 nh0_1 ch0_1)).setCell ⟨w66.heap.size, 2, none⟩ (.slice Ah0_2 nh0_2 ch0_2)).setCell ⟨w66.heap.size, 3, none⟩ (.slice Ah0_3 nh0_3 ch0_3)).cell? ⟨w.heap.size + 1, 8, none⟩ = some (.int .i64 xa1_8) := ⟨(S.at_ 10 rfl).cell 0, (S.at_ 10 rfl).cell 1, (S.at_ 10 rfl).cell 2, (S.at_ 10 rfl).cell 3, (S.at_ 9 rfl).cell 0, (S.at_ 9 rfl).cell 1, (S.at_ 9 rfl).cell 2, (S.at_ 9 rfl).cell 3, (S.at_ 9 rfl).cell 4, (S.at_ 9 rfl).cell 5, (S.at_ 9 rfl).cell 6, (S.at_ 9 rfl).cell 7, (S.at_ 9 rfl).cell 8⟩
        refine hK _ _ (fun _ => HF) ?_
        clear hK K
        try simp only [Act.put]
        generalize (((w68.setCell ⟨w66.heap.size, 0, none⟩ (.slice Ah0_0 nh0_0 ch0_0)).setCell ⟨w66.heap.size, 1, none⟩ (.slice Ah0_1 nh0_1 ch0_1)).setCell ⟨w66.heap.size, 2, none⟩ (.slice Ah0_2 nh0_2 ch0_2)).setCell ⟨w66.heap.size, 3, none⟩ (.slice Ah0_3 nh0_3 ch0_3) = w69 at *
        clear f0 f1 f2 f3 f4 f5 f6 f7
        refine wpAnyL_step (i := 10) (by kernel_rfl) rfl rfl ?_
        intro K hK
        go_simp
        refine hK _ _ (fun h => nomatch (show true = false from h)) ?_
        clear hK K
        try simp only [Act.put]
        refine wpAnyL_done (by kernel_rfl) ?_ _
        replace S := S.pick 0 rfl
        replace S := S.pick 1 rfl
        replace S := S.sub (.cons_cons _ (.cons_cons _ (.cons _ (.cons_cons _ (.cons_cons _ (.cons _ (.cons _ (.cons_cons _ (.cons_cons _ (List.nil_sublist _))))))))))
        go_wp2_with fail
        go_meet
        exact ⟨_, _, _, _, _, _, _, _, _, _, _, _, _, _, rfl, rfl, S, c⟩
    · intro K hK
      go_simp
      replace S := S.boxAt c.size (w65.heap.size) rfl #[.slice none 0 0, .slice none 0 0, .slice none 0 0, .slice none 0 0] 34
      replace c := al c S
      clear HF
      have HF : (w65.alloc (.cells #[.slice none 0 0, .slice none 0 0, .slice none 0 0, .slice none 0 0] 34)).cell? ⟨w.heap.size, 0, none⟩ = some (.slice Aa0_0 na0_0 ca0_0) ∧ (w65.alloc (.cells #[.slice none 0 0, .slice none 0 0, .slice none 0 0, .slice none 0 0] 34)).cell? ⟨w.heap.size, 1, none⟩ = some (.slice Aa0_1 na0_1 ca0_1) ∧ (w65.alloc (.cells #[.slice none 0 0, .slice none 0 0, .slice none 0 0, .slice none 0 0] 34)).cell? ⟨w.heap.size, 2, none⟩ = some (.slice Aa0_2 na0_2 ca0_2) ∧ (w65.alloc (.cells #[.slice none 0 0, .slice none 0 0, .slice none 0 0, .slice none 0 0] 34)).cell? ⟨w.heap.size, 3, none⟩ = some (.slice Aa0_3 na0_3 ca0_3) ∧ (w65.alloc (.cells #[.slice none 0 0, .slice none 0 0, .slice none 0 0, .slice none 0 0] 34)).cell? ⟨w.heap.size + 1, 0, none⟩ = some (.int .i64 xa1_0) ∧ (w65.alloc (.cells #[.slice none 0 0, .slice none 0 0, .slice none 0 0, .slice none 0 0] 34)).cell? ⟨w.heap.size + 1, 1, none⟩ = some (.int .i64 xa1_1) ∧ (w65.alloc (.cells #[.slice none 0 0, .slice none 0 0, .slice none 0 0, .slice none 0 0] 34)).cell? ⟨w.heap.size + 1, 2, none⟩ = some (.int .i64 xa1_2) ∧ (w65.alloc (.cells #[.slice none 0 0, .slice none 0 0, .slice none 0 0, .slice none 0 0] 34)).cell? ⟨w.heap.size + 1, 3, none⟩ = some (.int .i64 xa1_3) ∧ (w65.alloc (.cells #[.slice none 0 0, .slice none 0 0, .slice none 0 0, .slice none 0 0] 34)).cell? ⟨w.heap.size + 1, 4, none⟩ = some (.int .i64 xa1_4) ∧ (w65.alloc (.cells #[.slice none 0 0, .slice none 0 0, .slice none 0 0, .slice none 0 0] 34)).cell? ⟨w.heap.size + 1, 5, none⟩ = some (.int .i64 xa1_5) ∧ (w65.alloc (.cells #[.slice none 0 0, .slice none 0 0, .slice none 0 0, .slice none 0 0] 34)).cell? ⟨w.heap.size + 1, 6, none⟩ = some (.int .i64 xa1_6) ∧ (w65.alloc (.cells #[.slice none 0 0, .slice none 0 0, .slice none 0 0, .slice none 0 0] 34)).cell? ⟨w.heap.size + 1, 7, none⟩ = some (.int .i64 xa1_7) ∧ (w65.alloc (.cells #[.slice none 0 0, .slice none 0 0, .slice none 0 0, .slice none 0 0] 34)).cell? ⟨w.heap.size + 1, 8, none⟩ = some (.int .i64 xa1_8) := ⟨(S.at_ 9 rfl).cell 0, (S.at_ 9 rfl).cell 1, (S.at_ 9 rfl).cell 2, (S.at_ 9 rfl).cell 3, (S.at_ 8 rfl).cell 0, (S.at_ 8 rfl).cell 1, (S.at_ 8 rfl).cell 2, (S.at_ 8 rfl).cell 3, (S.at_ 8 rfl).cell 4, (S.at_ 8 rfl).cell 5, (S.at_ 8 rfl).cell 6, (S.at_ 8 rfl).cell 7, (S.at_ 8 rfl).cell 8⟩
      refine hK _ _ (fun _ => HF) ?_
      clear hK K
      try simp only [Act.put]
      generalize hw : w65.alloc (.cells #[.slice none 0 0, .slice none 0 0, .slice none 0 0, .slice none 0 0] 34) = w66 at *
      clear hw
      refine wpAnyL_step (i := 3) (by kernel_rfl) rfl rfl ?_
      intro K hK
      go_simp
      refine (toEntry_any _ _ _ _ _ _ _ _ _ _).mono ?_
      rintro e w67 ⟨rfl, b⟩
      replace c := c.trans (b.mono c.size)
      replace S := S.keep b
      clear b
      clear HF
      have HF : w67.cell? ⟨w.heap.size, 0, none⟩ = some (.slice Aa0_0 na0_0 ca0_0) ∧ w67.cell? ⟨w.heap.size, 1, none⟩ = some (.slice Aa0_1 na0_1 ca0_1) ∧ w67.cell? ⟨w.heap.size, 2, none⟩ = some (.slice Aa0_2 na0_2 ca0_2) ∧ w67.cell? ⟨w.heap.size, 3, none⟩ = some (.slice Aa0_3 na0_3 ca0_3) ∧ w67.cell? ⟨w.heap.size + 1, 0, none⟩ = some (.int .i64 xa1_0) ∧ w67.cell? ⟨w.heap.size + 1, 1, none⟩ = some (.int .i64 xa1_1) ∧ w67.cell? ⟨w.heap.size + 1, 2, none⟩ = some (.int .i64 xa1_2) ∧ w67.cell? ⟨w.heap.size + 1, 3, none⟩ = some (.int .i64 xa1_3) ∧ w67.cell? ⟨w.heap.size + 1, 4, none⟩ = some (.int .i64 xa1_4) ∧ w67.cell? ⟨w.heap.size + 1, 5, none⟩ = some (.int .i64 xa1_5) ∧ w67.cell? ⟨w.heap.size + 1, 6, none⟩ = some (.int .i64 xa1_6) ∧ w67.cell? ⟨w.heap.size + 1, 7, none⟩ = some (.int .i64 xa1_7) ∧ w67.cell? ⟨w.heap.size + 1, 8, none⟩ = some (.int .i64 xa1_8) := ⟨(S.at_ 9 rfl).cell 0, (S.at_ 9 rfl).cell 1, (S.at_ 9 rfl).cell 2, (S.at_ 9 rfl).cell 3, (S.at_ 8 rfl).cell 0, (S.at_ 8 rfl).cell 1, (S.at_ 8 rfl).cell 2, (S.at_ 8 rfl).cell 3, (S.at_ 8 rfl).cell 4, (S.at_ 8 rfl).cell 5, (S.at_ 8 rfl).cell 6, (S.at_ 8 rfl).cell 7, (S.at_ 8 rfl).cell 8⟩
      refine hK _ _ (fun _ => HF) ?_
      clear hK K
      try simp only [Act.put]
      refine wpAnyL_step (i := 4) (by kernel_rfl) rfl rfl ?_
      intro K hK
      go_simp
      refine (IM.out _ _ _ _ _ _ _ _ _ _ _ _ d0 _ _ _ _ _ _ _ _ _ _ ((S.own_ 1 rfl).rd) hz0).mono ?_
      rintro e w68 ⟨Ah0_0, nh0_0, ch0_0, Ah0_1, nh0_1, ch0_1, Ah0_2, nh0_2, ch0_2, Ah0_3, nh0_3, ch0_3, rfl, o, b⟩
      obtain ⟨fp_Oh0, S'⟩ := S.has b o c.size
      replace c := c.trans (b.mono c.size)
      clear S; have S := S'; clear S' o b
      clear HF
      have HF : w68.cell? ⟨w.heap.size, 0, none⟩ = some (.slice Aa0_0 na0_0 ca0_0) ∧ w68.cell? ⟨w.heap.size, 1, none⟩ = some (.slice Aa0_1 na0_1 ca0_1) ∧ w68.cell? ⟨w.heap.size, 2, none⟩ = some (.slice Aa0_2 na0_2 ca0_2) ∧ w68.cell? ⟨w.heap.size, 3, none⟩ = some (.slice Aa0_3 na0_3 ca0_3) ∧ w68.cell? ⟨w.heap.size + 1, 0, none⟩ = some (.int .i64 xa1_0) ∧ w68.cell? ⟨w.heap.size + 1, 1, none⟩ = some (.int .i64 xa1_1) ∧ w68.cell? ⟨w.heap.size + 1, 2, none⟩ = some (.int .i64 xa1_2) ∧ w68.cell? ⟨w.heap.size + 1, 3, none⟩ = some (.int .i64 xa1_3) ∧ w68.cell? ⟨w.heap.size + 1, 4, none⟩ = some (.int .i64 xa1_4) ∧ w68.cell? ⟨w.heap.size + 1, 5, none⟩ = some (.int .i64 xa1_5) ∧ w68.cell? ⟨w.heap.size + 1, 6, none⟩ = some (.int .i64 xa1_6) ∧ w68.cell? ⟨w.heap.size + 1, 7, none⟩ = some (.int .i64 xa1_7) ∧ w68.cell? ⟨w.heap.size + 1, 8, none⟩ = some (.int .i64 xa1_8) := ⟨(S.at_ 10 rfl).cell 0, (S.at_ 10 rfl).cell 1, (S.at_ 10 rfl).cell 2, (S.at_ 10 rfl).cell 3, (S.at_ 9 rfl).cell 0, (S.at_ 9 rfl).cell 1, (S.at_ 9 rfl).cell 2, (S.at_ 9 rfl).cell 3, (S.at_ 9 rfl).cell 4, (S.at_ 9 rfl).cell 5, (S.at_ 9 rfl).cell 6, (S.at_ 9 rfl).cell 7, (S.at_ 9 rfl).cell 8⟩
      refine hK _ _ (fun _ => HF) ?_
      clear hK K
      try simp only [Act.put]
      refine wpAnyL_pure (i := 5) (v := ?_) rfl rfl (by kernel_rfl) (by kernel_rfl) (by kernel_rfl) (fun _ _ _ h => h) HF (Or.inl ⟨by rfl, ?_⟩) ?_
      rotate_left 1
      · (intro v _; go_simp; try with_reducible rfl)
      try simp only [Act.put]
      refine wpAnyL_pure (i := 6) (v := ?_) rfl rfl (by kernel_rfl) (by kernel_rfl) (by kernel_rfl) (fun _ _ _ h => h) HF (Or.inl ⟨by rfl, ?_⟩) ?_
      rotate_left 1
      · (intro v _; go_simp; try with_reducible rfl)
      try simp only [Act.put]
      refine wpAnyL_pure (i := 7) (v := ?_) rfl rfl (by kernel_rfl) (by kernel_rfl) (by kernel_rfl) (fun _ _ _ h => h) HF (Or.inl ⟨by rfl, ?_⟩) ?_
      rotate_left 1
      · (intro v _; go_simp; try with_reducible rfl)
      try simp only [Act.put]
      have f0 := lk S 1 0 rfl rfl
      have f1 := (S.at_ 1 rfl).free 0
      have f2 := lk S 1 1 rfl rfl
      have f3 := (S.at_ 1 rfl).free 1
      have f4 := lk S 1 2 rfl rfl
      have f5 := (S.at_ 1 rfl).free 2
      have f6 := lk S 1 3 rfl rfl
      have f7 := (S.at_ 1 rfl).free 3
      refine wpAnyL_step (i := 9) (by kernel_rfl) rfl rfl ?_
      intro K hK
      go_simp
      replace S := S.put 1 rfl 0 (.slice Ah0_0 nh0_0 ch0_0)
      replace c := st c S (S.base_le 1 rfl)
      replace S := S.put 1 rfl 1 (.slice Ah0_1 nh0_1 ch0_1)
      replace c := st c S (S.base_le 1 rfl)
      replace S := S.put 1 rfl 2 (.slice Ah0_2 nh0_2 ch0_2)
      replace c := st c S (S.base_le 1 rfl)
      replace S := S.put 1 rfl 3 (.slice Ah0_3 nh0_3 ch0_3)
      replace c := st c S (S.base_le 1 rfl)
      clear HF
      have HF : ((((w68.setCell ⟨w65.heap.size, 0, none⟩ (.slice Ah0_0 nh0_0 ch0_0)).setCell ⟨w65.heap.size, 1, none⟩ (.slice Ah0_1 nh0_1 ch0_1)).setCell ⟨w65.heap.size, 2, none⟩ (.slice Ah0_2 nh0_2 ch0_2)).setCell ⟨w65.heap.size, 3, none⟩ (.slice Ah0_3 nh0_3 ch0_3)).cell? ⟨w.heap.size, 0, none⟩ = some (.slice Aa0_0 na0_0 ca0_0) ∧ ((((w68.setCell ⟨w65.heap.size, 0, none⟩ (.slice Ah0_0 nh0_0 ch0_0)).setCell ⟨w65.heap.size, 1, none⟩ (.slice Ah0_1 nh0_1 ch0_1)).setCell ⟨w65.heap.size, 2, none⟩ (.slice Ah0_2 nh0_2 ch0_2)).setCell ⟨w65.heap.size, 3, none⟩ (.slice Ah0_3 nh0_3 ch0_3)).cell? ⟨w.heap.size, 1, none⟩ = some (.slice Aa0_1 na0_1 ca0_1) ∧ ((((w68.setCell ⟨w65.heap.size, 0, none⟩ (.slice Ah0_0 nh0_0 ch0_0)).setCell ⟨w65.heap.size, 1, none⟩ (.slice Ah0_1 nh0_1 ch0_1)).setCell ⟨w65.heap.size, 2, none⟩ (.slice Ah0_2 nh0_2 ch0_2)).setCell ⟨w65.heap.size, 3, none⟩ (.slice Ah0_3 nh0_3 ch0_3)).cell? ⟨w.heap.size, 2, none⟩ = some (.slice Aa0_2 na0_2 ca0_2) ∧ ((((w68.setCell ⟨w65.heap.size, 0, none⟩ (.slice Ah0_0 nh0_0 ch0_0)).setCell ⟨w65.heap.size, 1, none⟩ (.slice Ah0_1 nh0_1 ch0_1)).setCell ⟨w65.heap.size, 2, none⟩ (.slice Ah0_2 nh0_2 ch0_2)).setCell ⟨w65.heap.size, 3, none⟩ (.slice Ah0_3 nh0_3 ch0_3)).cell? ⟨w.heap.size, 3, none⟩ = some (.slice Aa0_3 na0_3 ca0_3) ∧ ((((w68.setCell ⟨w65.heap.size, 0, none⟩ (.slice Ah0_0 nh0_0 ch0_0)).setCell ⟨w65.heap.size, 1, none⟩ (.slice Ah0_1 nh0_1 ch0_1)).setCell ⟨w65.heap.size, 2, none⟩ (.slice Ah0_2 nh0_2 ch0_2)).setCell ⟨w65.heap.size, 3, none⟩ (.slice Ah0_3 nh0_3 ch0_3)).cell? ⟨w.heap.size + 1, 0, none⟩ = some (.int .i64 xa1_0) ∧ ((((w68.setCell ⟨w65.heap.size, 0, none⟩ (.slice Ah0_0 nh0_0 ch0_0)).setCell ⟨w65.heap.size, 1, none⟩ (.slice Ah0_1 nh0_1 ch0_1)).setCell ⟨w65.heap.size, 2, none⟩ (.slice Ah0_2 nh0_2 ch0_2)).setCell ⟨w65.heap.size, 3, none⟩ (.slice Ah0_3 nh0_3 ch0_3)).cell? ⟨w.heap.size + 1, 1, none⟩ = some (.int .i64 xa1_1) ∧ ((((w68.setCell ⟨w65.heap.size, 0, none⟩ (.slice Ah0_0 nh0_0 ch0_0)).setCell ⟨w65.heap.size, 1, none⟩ (.slice Ah0_1 nh0_1 ch0_1)).setCell ⟨w65.heap.size, 2, none⟩ (.slice Ah0_2 nh0_2 ch0_2)).setCell ⟨w65.heap.size, 3, none⟩ (.slice Ah0_3 nh0_3 ch0_3)).cell? ⟨w.heap.size + 1, 2, none⟩ = some (.int .i64 xa1_2) ∧ ((((w68.setCell ⟨w65.heap.size, 0, none⟩ (.slice Ah0_0 nh0_0 ch0_0)).setCell ⟨w65.heap.size, 1, none⟩ (.slice Ah0_1 nh0_1 ch0_1)).setCell ⟨w65.heap.size, 2, none⟩ (.slice Ah0_2 nh0_2 ch0_2)).setCell ⟨w65.heap.size, 3, none⟩ (.slice Ah0_3 nh0_3 ch0_3)).cell? ⟨w.heap.size + 1, 3, none⟩ = some (.int .i64 xa1_3) ∧ ((((w68.setCell ⟨w65.heap.size, 0, none⟩ (.slice Ah0_0 nh0_0 ch0_0)).setCell ⟨w65.heap.size, 1, none⟩ (.slice Ah0_1 nh0_1 ch0_1)).setCell ⟨w65.heap.size, 2, none⟩ (.slice Ah0_2 nh0_2 ch0_2)).setCell ⟨w65.heap.size, 3, none⟩ (.slice Ah0_3 nh0_3 ch0_3)).cell? ⟨w.heap.size + 1, 4, none⟩ = some (.int .i64 xa1_4) ∧ ((((w68.setCell ⟨w65.heap.size, 0, none⟩ (.slice Ah0_0 nh0_0 ch0_0)).setCell ⟨w65.heap.size, 1, none⟩ (.slice Ah0_1 nh0_1 ch0_1)).setCell ⟨w65.heap.size, 2, none⟩ (.slice Ah0_2 nh0_2 ch0_2)).setCell ⟨w65.heap.size, 3, none⟩ (.slice Ah0_3 nh0_3 ch0_3)).cell? ⟨w.heap.size + 1, 5, none⟩ = some (.int .i64 xa1_5) ∧ ((((w68.setCell ⟨w65.heap.size, 0, none⟩ (.slice Ah0_0 nh0_0 ch0_0)).setCell ⟨w65.heap.size, 1, none⟩ (.slice Ah0_1 nh0_1 ch0_1)).setCell ⟨w65.heap.size, 2, none⟩ (.slice Ah0_2 nh0_2 ch0_2)).setCell ⟨w65.heap.size, 3, none⟩ (.slice Ah0_3 nh0_3 ch0_3)).cell? ⟨w.heap.size + 1, 6, none⟩ = some (.int .i64 xa1_6) ∧ ((((w68.setCell ⟨w65.heap.size, 0, none⟩ (.slice Ah0_0 nh0_0 ch0_0)).setCell ⟨w65.heap.size, 1, none⟩ (.slice Ah0_1 nh0_1 ch0_1)).setCell ⟨w65.heap.size, 2, none⟩ (.slice Ah0_2 nh0_2 ch0_2)).setCell ⟨w65.heap.size, 3, none⟩ (.slice Ah0_3 nh0_3 ch0_3)).cell? ⟨w.heap.size + 1, 7, none⟩ = some (.int .i64 xa1_7) ∧ ((((w68.setCell ⟨w65.heap.size, 0, none⟩ (.slice Ah0_0 nh0_0 ch0_0)).setCell ⟨w65.heap.size, 1, none⟩ (.slice Ah0_1 nh0_1 ch0_1)).setCell ⟨w65.heap.size, 2, none⟩ (.slice Ah0_2 nh0_2 ch0_2)).setCell ⟨w65.heap.size, 3, none⟩ (.slice Ah0_3 nh0_3 ch0_3)).cell? ⟨w.heap.size + 1, 8, none⟩ = some (.int .i64 xa1_8) := ⟨(S.at_ 10 rfl).cell 0, (S.at_ 10 rfl).cell 1, (S.at_ 10 rfl).cell 2, (S.at_ 10 rfl).cell 3, (S.at_ 9 rfl).cell 0, (S.at_ 9 rfl).cell 1, (S.at_ 9 rfl).cell 2, (S.at_ 9 rfl).cell 3, (S.at_ 9 rfl).cell 4, (S.at_ 9 rfl).cell 5, (S.at_ 9 rfl).cell 6, (S.at_ 9 rfl).cell 7, (S.at_ 9 rfl).cell 8⟩
      refine hK _ _ (fun _ => HF) ?_
      clear hK K
      try simp only [Act.put]
      generalize (((w68.setCell ⟨w65.heap.size, 0, none⟩ (.slice Ah0_0 nh0_0 ch0_0)).setCell ⟨w65.heap.size, 1, none⟩ (.slice Ah0_1 nh0_1 ch0_1)).setCell ⟨w65.heap.size, 2, none⟩ (.slice Ah0_2 nh0_2 ch0_2)).setCell ⟨w65.heap.size, 3, none⟩ (.slice Ah0_3 nh0_3 ch0_3) = w69 at *
      clear f0 f1 f2 f3 f4 f5 f6 f7
      refine wpAnyL_step (i := 10) (by kernel_rfl) rfl rfl ?_
      intro K hK
      go_simp
      refine hK _ _ (fun h => nomatch (show true = false from h)) ?_
      clear hK K
      try simp only [Act.put]
      refine wpAnyL_done (by kernel_rfl) ?_ _
      replace S := S.pick 0 rfl
      replace S := S.pick 1 rfl
      replace S := S.sub (.cons_cons _ (.cons_cons _ (.cons _ (.cons_cons _ (.cons_cons _ (.cons _ (.cons _ (.cons_cons _ (.cons_cons _ (List.nil_sublist _))))))))))
      go_wp2_with fail
      go_meet
      exact ⟨_, _, _, _, _, _, _, _, _, _, _, _, _, _, rfl, rfl, S, c⟩
  · intro K hK
    go_simp
    replace S := S.boxAt c.size (w64.heap.size) rfl #[.slice none 0 0, .slice none 0 0, .slice none 0 0, .slice none 0 0] 34
    replace c := al c S
    clear HF
    have HF : (w64.alloc (.cells #[.slice none 0 0, .slice none 0 0, .slice none 0 0, .slice none 0 0] 34)).cell? ⟨w.heap.size, 0, none⟩ = some (.slice Aa0_0 na0_0 ca0_0) ∧ (w64.alloc (.cells #[.slice none 0 0, .slice none 0 0, .slice none 0 0, .slice none 0 0] 34)).cell? ⟨w.heap.size, 1, none⟩ = some (.slice Aa0_1 na0_1 ca0_1) ∧ (w64.alloc (.cells #[.slice none 0 0, .slice none 0 0, .slice none 0 0, .slice none 0 0] 34)).cell? ⟨w.heap.size, 2, none⟩ = some (.slice Aa0_2 na0_2 ca0_2) ∧ (w64.alloc (.cells #[.slice none 0 0, .slice none 0 0, .slice none 0 0, .slice none 0 0] 34)).cell? ⟨w.heap.size, 3, none⟩ = some (.slice Aa0_3 na0_3 ca0_3) ∧ (w64.alloc (.cells #[.slice none 0 0, .slice none 0 0, .slice none 0 0, .slice none 0 0] 34)).cell? ⟨w.heap.size + 1, 0, none⟩ = some (.int .i64 xa1_0) ∧ (w64.alloc (.cells #[.slice none 0 0, .slice none 0 0, .slice none 0 0, .slice none 0 0] 34)).cell? ⟨w.heap.size + 1, 1, none⟩ = some (.int .i64 xa1_1) ∧ (w64.alloc (.cells #[.slice none 0 0, .slice none 0 0, .slice none 0 0, .slice none 0 0] 34)).cell? ⟨w.heap.size + 1, 2, none⟩ = some (.int .i64 xa1_2) ∧ (w64.alloc (.cells #[.slice none 0 0, .slice none 0 0, .slice none 0 0, .slice none 0 0] 34)).cell? ⟨w.heap.size + 1, 3, none⟩ = some (.int .i64 xa1_3) ∧ (w64.alloc (.cells #[.slice none 0 0, .slice none 0 0, .slice none 0 0, .slice none 0 0] 34)).cell? ⟨w.heap.size + 1, 4, none⟩ = some (.int .i64 xa1_4) ∧ (w64.alloc (.cells #[.slice none 0 0, .slice none 0 0, .slice none 0 0, .slice none 0 0] 34)).cell? ⟨w.heap.size + 1, 5, none⟩ = some (.int .i64 xa1_5) ∧ (w64.alloc (.cells #[.slice none 0 0, .slice none 0 0, .slice none 0 0, .slice none 0 0] 34)).cell? ⟨w.heap.size + 1, 6, none⟩ = some (.int .i64 xa1_6) ∧ (w64.alloc (.cells #[.slice none 0 0, .slice none 0 0, .slice none 0 0, .slice none 0 0] 34)).cell? ⟨w.heap.size + 1, 7, none⟩ = some (.int .i64 xa1_7) ∧ (w64.alloc (.cells #[.slice none 0 0, .slice none 0 0, .slice none 0 0, .slice none 0 0] 34)).cell? ⟨w.heap.size + 1, 8, none⟩ = some (.int .i64 xa1_8) := ⟨(S.at_ 8 rfl).cell 0, (S.at_ 8 rfl).cell 1, (S.at_ 8 rfl).cell 2, (S.at_ 8 rfl).cell 3, (S.at_ 7 rfl).cell 0, (S.at_ 7 rfl).cell 1, (S.at_ 7 rfl).cell 2, (S.at_ 7 rfl).cell 3, (S.at_ 7 rfl).cell 4, (S.at_ 7 rfl).cell 5, (S.at_ 7 rfl).cell 6, (S.at_ 7 rfl).cell 7, (S.at_ 7 rfl).cell 8⟩
    refine hK _ _ (fun _ => HF) ?_
    clear hK K
    try simp only [Act.put]
    generalize hw : w64.alloc (.cells #[.slice none 0 0, .slice none 0 0, .slice none 0 0, .slice none 0 0] 34) = w65 at *
    clear hw
    refine wpAnyL_step (i := 1) (by kernel_rfl) rfl rfl ?_
    intro K hK
    go_simp
    refine (toTwo_made _ _ _ _ d0 _ ((h0.keep c).up c.size) hz0).mono ?_
    rintro e w66 ⟨At0_0, nt0_0, ct0_0, At0_1, nt0_1, ct0_1, At0_2, nt0_2, ct0_2, At0_3, nt0_3, ct0_3, rfl, o, b⟩
    obtain ⟨fp_Ot0, S'⟩ := S.has b o c.size
    replace c := c.trans (b.mono c.size)
    clear S; have S := S'; clear S' o b
    clear HF
    have HF : w66.cell? ⟨w.heap.size, 0, none⟩ = some (.slice Aa0_0 na0_0 ca0_0) ∧ w66.cell? ⟨w.heap.size, 1, none⟩ = some (.slice Aa0_1 na0_1 ca0_1) ∧ w66.cell? ⟨w.heap.size, 2, none⟩ = some (.slice Aa0_2 na0_2 ca0_2) ∧ w66.cell? ⟨w.heap.size, 3, none⟩ = some (.slice Aa0_3 na0_3 ca0_3) ∧ w66.cell? ⟨w.heap.size + 1, 0, none⟩ = some (.int .i64 xa1_0) ∧ w66.cell? ⟨w.heap.size + 1, 1, none⟩ = some (.int .i64 xa1_1) ∧ w66.cell? ⟨w.heap.size + 1, 2, none⟩ = some (.int .i64 xa1_2) ∧ w66.cell? ⟨w.heap.size + 1, 3, none⟩ = some (.int .i64 xa1_3) ∧ w66.cell? ⟨w.heap.size + 1, 4, none⟩ = some (.int .i64 xa1_4) ∧ w66.cell? ⟨w.heap.size + 1, 5, none⟩ = some (.int .i64 xa1_5) ∧ w66.cell? ⟨w.heap.size + 1, 6, none⟩ = some (.int .i64 xa1_6) ∧ w66.cell? ⟨w.heap.size + 1, 7, none⟩ = some (.int .i64 xa1_7) ∧ w66.cell? ⟨w.heap.size + 1, 8, none⟩ = some (.int .i64 xa1_8) := ⟨(S.at_ 9 rfl).cell 0, (S.at_ 9 rfl).cell 1, (S.at_ 9 rfl).cell 2, (S.at_ 9 rfl).cell 3, (S.at_ 8 rfl).cell 0, (S.at_ 8 rfl).cell 1, (S.at_ 8 rfl).cell 2, (S.at_ 8 rfl).cell 3, (S.at_ 8 rfl).cell 4, (S.at_ 8 rfl).cell 5, (S.at_ 8 rfl).cell 6, (S.at_ 8 rfl).cell 7, (S.at_ 8 rfl).cell 8⟩
    refine hK _ _ (fun _ => HF) ?_
    clear hK K
    try simp only [Act.put]
    refine wpAnyL_step (i := 3) (by kernel_rfl) rfl rfl ?_
    intro K hK
    go_simp
    refine (toEntry_any _ _ _ _ _ _ _ _ _ _).mono ?_
    rintro e w67 ⟨rfl, b⟩
    replace c := c.trans (b.mono c.size)
    replace S := S.keep b
    clear b
    clear HF
    have HF : w67.cell? ⟨w.heap.size, 0, none⟩ = some (.slice Aa0_0 na0_0 ca0_0) ∧ w67.cell? ⟨w.heap.size, 1, none⟩ = some (.slice Aa0_1 na0_1 ca0_1) ∧ w67.cell? ⟨w.heap.size, 2, none⟩ = some (.slice Aa0_2 na0_2 ca0_2) ∧ w67.cell? ⟨w.heap.size, 3, none⟩ = some (.slice Aa0_3 na0_3 ca0_3) ∧ w67.cell? ⟨w.heap.size + 1, 0, none⟩ = some (.int .i64 xa1_0) ∧ w67.cell? ⟨w.heap.size + 1, 1, none⟩ = some (.int .i64 xa1_1) ∧ w67.cell? ⟨w.heap.size + 1, 2, none⟩ = some (.int .i64 xa1_2) ∧ w67.cell? ⟨w.heap.size + 1, 3, none⟩ = some (.int .i64 xa1_3) ∧ w67.cell? ⟨w.heap.size + 1, 4, none⟩ = some (.int .i64 xa1_4) ∧ w67.cell? ⟨w.heap.size + 1, 5, none⟩ = some (.int .i64 xa1_5) ∧ w67.cell? ⟨w.heap.size + 1, 6, none⟩ = some (.int .i64 xa1_6) ∧ w67.cell? ⟨w.heap.size + 1, 7, none⟩ = some (.int .i64 xa1_7) ∧ w67.cell? ⟨w.heap.size + 1, 8, none⟩ = some (.int .i64 xa1_8) := ⟨(S.at_ 9 rfl).cell 0, (S.at_ 9 rfl).cell 1, (S.at_ 9 rfl).cell 2, (S.at_ 9 rfl).cell 3, (S.at_ 8 rfl).cell 0, (S.at_ 8 rfl).cell 1, (S.at_ 8 rfl).cell 2, (S.at_ 8 rfl).cell 3, (S.at_ 8 rfl).cell 4, (S.at_ 8 rfl).cell 5, (S.at_ 8 rfl).cell 6, (S.at_ 8 rfl).cell 7, (S.at_ 8 rfl).cell 8⟩
    refine hK _ _ (fun _ => HF) ?_
    clear hK K
    try simp only [Act.put]
    refine wpAnyL_step (i := 4) (by kernel_rfl) rfl rfl ?_
    intro K hK
    go_simp
    refine (IM.out _ _ _ _ _ _ _ _ _ _ _ _ d0 _ _ _ _ _ _ _ _ _ _ ((S.own_ 0 rfl).rd) hz0).mono ?_
    rintro e w68 ⟨Ah0_0, nh0_0, ch0_0, Ah0_1, nh0_1, ch0_1, Ah0_2, nh0_2, ch0_2, Ah0_3, nh0_3, ch0_3, rfl, o, b⟩
    obtain ⟨fp_Oh0, S'⟩ := S.has b o c.size
    replace c := c.trans (b.mono c.size)
    clear S; have S := S'; clear S' o b
    clear HF
    have HF : w68.cell? ⟨w.heap.size, 0, none⟩ = some (.slice Aa0_0 na0_0 ca0_0) ∧ w68.cell? ⟨w.heap.size, 1, none⟩ = some (.slice Aa0_1 na0_1 ca0_1) ∧ w68.cell? ⟨w.heap.size, 2, none⟩ = some (.slice Aa0_2 na0_2 ca0_2) ∧ w68.cell? ⟨w.heap.size, 3, none⟩ = some (.slice Aa0_3 na0_3 ca0_3) ∧ w68.cell? ⟨w.heap.size + 1, 0, none⟩ = some (.int .i64 xa1_0) ∧ w68.cell? ⟨w.heap.size + 1, 1, none⟩ = some (.int .i64 xa1_1) ∧ w68.cell? ⟨w.heap.size + 1, 2, none⟩ = some (.int .i64 xa1_2) ∧ w68.cell? ⟨w.heap.size + 1, 3, none⟩ = some (.int .i64 xa1_3) ∧ w68.cell? ⟨w.heap.size + 1, 4, none⟩ = some (.int .i64 xa1_4) ∧ w68.cell? ⟨w.heap.size + 1, 5, none⟩ = some (.int .i64 xa1_5) ∧ w68.cell? ⟨w.heap.size + 1, 6, none⟩ = some (.int .i64 xa1_6) ∧ w68.cell? ⟨w.heap.size + 1, 7, none⟩ = some (.int .i64 xa1_7) ∧ w68.cell? ⟨w.heap.size + 1, 8, none⟩ = some (.int .i64 xa1_8) := ⟨(S.at_ 10 rfl).cell 0, (S.at_ 10 rfl).cell 1, (S.at_ 10 rfl).cell 2, (S.at_ 10 rfl).cell 3, (S.at_ 9 rfl).cell 0, (S.at_ 9 rfl).cell 1, (S.at_ 9 rfl).cell 2, (S.at_ 9 rfl).cell 3, (S.at_ 9 rfl).cell 4, (S.at_ 9 rfl).cell 5, (S.at_ 9 rfl).cell 6, (S.at_ 9 rfl).cell 7, (S.at_ 9 rfl).cell 8⟩
    refine hK _ _ (fun _ => HF) ?_
    clear hK K
    try simp only [Act.put]
    refine wpAnyL_pure (i := 5) (v := ?_) rfl rfl (by kernel_rfl) (by kernel_rfl) (by kernel_rfl) (fun _ _ _ h => h) HF (Or.inl ⟨by rfl, ?_⟩) ?_
    rotate_left 1
    · (intro v _; go_simp; try with_reducible rfl)
    try simp only [Act.put]
    refine wpAnyL_pure (i := 6) (v := ?_) rfl rfl (by kernel_rfl) (by kernel_rfl) (by kernel_rfl) (fun _ _ _ h => h) HF (Or.inl ⟨by rfl, ?_⟩) ?_
    rotate_left 1
    · (intro v _; go_simp; try with_reducible rfl)
    try simp only [Act.put]
    refine wpAnyL_pure (i := 7) (v := ?_) rfl rfl (by kernel_rfl) (by kernel_rfl) (by kernel_rfl) (fun _ _ _ h => h) HF (Or.inl ⟨by rfl, ?_⟩) ?_
    rotate_left 1
    · (intro v _; go_simp; try with_reducible rfl)
    try simp only [Act.put]
    have f0 := lk S 2 0 rfl rfl
    have f1 := (S.at_ 2 rfl).free 0
    have f2 := lk S 2 1 rfl rfl
    have f3 := (S.at_ 2 rfl).free 1
    have f4 := lk S 2 2 rfl rfl
    have f5 := (S.at_ 2 rfl).free 2
    have f6 := lk S 2 3 rfl rfl
    have f7 := (S.at_ 2 rfl).free 3
    refine wpAnyL_step (i := 9) (by kernel_rfl) rfl rfl ?_
    intro K hK
    go_simp
    replace S := S.put 2 rfl 0 (.slice Ah0_0 nh0_0 ch0_0)
    replace c := st c S (S.base_le 2 rfl)
    replace S := S.put 2 rfl 1 (.slice Ah0_1 nh0_1 ch0_1)
    replace c := st c S (S.base_le 2 rfl)
    replace S := S.put 2 rfl 2 (.slice Ah0_2 nh0_2 ch0_2)
    replace c := st c S (S.base_le 2 rfl)
    replace S := S.put 2 rfl 3 (.slice Ah0_3 nh0_3 ch0_3)
    replace c := st c S (S.base_le 2 rfl)
    clear HF
    have HF : ((((w68.setCell ⟨w64.heap.size, 0, none⟩ (.slice Ah0_0 nh0_0 ch0_0)).setCell ⟨w64.heap.size, 1, none⟩ (.slice Ah0_1 nh0_1 ch0_1)).setCell ⟨w64.heap.size, 2, none⟩ (.slice Ah0_2 nh0_2 ch0_2)).setCell ⟨w64.heap.size, 3, none⟩ (.slice Ah0_3 nh0_3 ch0_3)).cell? ⟨w.heap.size, 0, none⟩ = some (.slice Aa0_0 na0_0 ca0_0) ∧ ((((w68.setCell ⟨w64.heap.size, 0, none⟩ (.slice Ah0_0 nh0_0 ch0_0)).setCell ⟨w64.heap.size, 1, none⟩ (.slice Ah0_1 nh0_1 ch0_1)).setCell ⟨w64.heap.size, 2, none⟩ (.slice Ah0_2 nh0_2 ch0_2)).setCell ⟨w64.heap.size, 3, none⟩ (.slice Ah0_3 nh0_3 ch0_3)).cell? ⟨w.heap.size, 1, none⟩ = some (.slice Aa0_1 na0_1 ca0_1) ∧ ((((w68.setCell ⟨w64.heap.size, 0, none⟩ (.slice Ah0_0 nh0_0 ch0_0)).setCell ⟨w64.heap.size, 1, none⟩ (.slice Ah0_1 nh0_1 ch0_1)).setCell ⟨w64.heap.size, 2, none⟩ (.slice Ah0_2 nh0_2 ch0_2)).setCell ⟨w64.heap.size, 3, none⟩ (.slice Ah0_3 nh0_3 ch0_3)).cell? ⟨w.heap.size, 2, none⟩ = some (.slice Aa0_2 na0_2 ca0_2) ∧ ((((w68.setCell ⟨w64.heap.size, 0, none⟩ (.slice Ah0_0 nh0_0 ch0_0)).setCell ⟨w64.heap.size, 1, none⟩ (.slice Ah0_1 nh0_1 ch0_1)).setCell ⟨w64.heap.size, 2, none⟩ (.slice Ah0_2 nh0_2 ch0_2)).setCell ⟨w64.heap.size, 3, none⟩ (.slice Ah0_3 nh0_3 ch0_3)).cell? ⟨w.heap.size, 3, none⟩ = some (.slice Aa0_3 na0_3 ca0_3) ∧ ((((w68.setCell ⟨w64.heap.size, 0, none⟩ (.slice Ah0_0 nh0_0 ch0_0)).setCell ⟨w64.heap.size, 1, none⟩ (.slice Ah0_1 nh0_1 ch0_1)).setCell ⟨w64.heap.size, 2, none⟩ (.slice Ah0_2 nh0_2 ch0_2)).setCell ⟨w64.heap.size, 3, none⟩ (.slice Ah0_3 nh0_3 ch0_3)).cell? ⟨w.heap.size + 1, 0, none⟩ = some (.int .i64 xa1_0) ∧ ((((w68.setCell ⟨w64.heap.size, 0, none⟩ (.slice Ah0_0 nh0_0 ch0_0)).setCell ⟨w64.heap.size, 1, none⟩ (.slice Ah0_1 nh0_1 ch0_1)).setCell ⟨w64.heap.size, 2, none⟩ (.slice Ah0_2 nh0_2 ch0_2)).setCell ⟨w64.heap.size, 3, none⟩ (.slice Ah0_3 nh0_3 ch0_3)).cell? ⟨w.heap.size + 1, 1, none⟩ = some (.int .i64 xa1_1) ∧ ((((w68.setCell ⟨w64.heap.size, 0, none⟩ (.slice Ah0_0 nh0_0 ch0_0)).setCell ⟨w64.heap.size, 1, none⟩ (.slice Ah0_1 nh0_1 ch0_1)).setCell ⟨w64.heap.size, 2, none⟩ (.slice Ah0_2 nh0_2 ch0_2)).setCell ⟨w64.heap.size, 3, none⟩ (.slice Ah0_3 nh0_3 ch0_3)).cell? ⟨w.heap.size + 1, 2, none⟩ = some (.int .i64 xa1_2) ∧ ((((w68.setCell ⟨w64.heap.size, 0, none⟩ (.slice Ah0_0 nh0_0 ch0_0)).setCell ⟨w64.heap.size, 1, none⟩ (.slice Ah0_1 nh0_1 ch0_1)).setCell ⟨w64.heap.size, 2, none⟩ (.slice Ah0_2 nh0_2 ch0_2)).setCell ⟨w64.heap.size, 3, none⟩ (.slice Ah0_3 nh0_3 ch0_3)).cell? ⟨w.heap.size + 1, 3, none⟩ = some (.int .i64 xa1_3) ∧ ((((w68.setCell ⟨w64.heap.size, 0, none⟩ (.slice Ah0_0 nh0_0 ch0_0)).setCell ⟨w64.heap.size, 1, none⟩ (.slice Ah0_1 nh0_1 ch0_1)).setCell ⟨w64.heap.size, 2, none⟩ (.slice Ah0_2 nh0_2 ch0_2)).setCell ⟨w64.heap.size, 3, none⟩ (.slice Ah0_3 nh0_3 ch0_3)).cell? ⟨w.heap.size + 1, 4, none⟩ = some (.int .i64 xa1_4) ∧ ((((w68.setCell ⟨w64.heap.size, 0, none⟩ (.slice Ah0_0 nh0_0 ch0_0)).setCell ⟨w64.heap.size, 1, none⟩ (.slice Ah0_1 nh0_1 ch0_1)).setCell ⟨w64.heap.size, 2, none⟩ (.slice Ah0_2 nh0_2 ch0_2)).setCell ⟨w64.heap.size, 3, none⟩ (.slice Ah0_3 nh0_3 ch0_3)).cell? ⟨w.heap.size + 1, 5, none⟩ = some (.int .i64 xa1_5) ∧ ((((w68.setCell ⟨w64.heap.size, 0, none⟩ (.slice Ah0_0 nh0_0 ch0_0)).setCell ⟨w64.heap.size, 1, none⟩ (.slice Ah0_1 nh0_1 ch0_1)).setCell ⟨w64.heap.size, 2, none⟩ (.slice Ah0_2 nh0_2 ch0_2)).setCell ⟨w64.heap.size, 3, none⟩ (.slice Ah0_3 nh0_3 ch0_3)).cell? ⟨w.heap.size + 1, 6, none⟩ = some (.int .i64 xa1_6) ∧ ((((w68.setCell ⟨w64.heap.size, 0, none⟩ (.slice Ah0_0 nh0_0 ch0_0)).setCell ⟨w64.heap.size, 1, none⟩ (.slice Ah0_1 nh0_1 ch0_1)).setCell ⟨w64.heap.size, 2, none⟩ (.slice Ah0_2 nh0_2 ch0_2)).setCell ⟨w64.heap.size, 3, none⟩ (.slice Ah0_3 nh0_3 ch0_3)).cell? ⟨w.heap.size + 1, 7, none⟩ = some (.int .i64 xa1_7) ∧ ((((w68.setCell ⟨w64.heap.size, 0, none⟩ (.slice Ah0_0 nh0_0 ch0_0)).setCell ⟨w64.heap.size, 1, none⟩ (.slice Ah0_1 nh0_1 ch0_1)).setCell ⟨w64.heap.size, 2, none⟩ (.slice Ah0_2 nh0_2 ch0_2)).setCell ⟨w64.heap.size, 3, none⟩ (.slice Ah0_3 nh0_3 ch0_3)).cell? ⟨w.heap.size + 1, 8, none⟩ = some (.int .i64 xa1_8) := ⟨(S.at_ 10 rfl).cell 0, (S.at_ 10 rfl).cell 1, (S.at_ 10 rfl).cell 2, (S.at_ 10 rfl).cell 3, (S.at_ 9 rfl).cell 0, (S.at_ 9 rfl).cell 1, (S.at_ 9 rfl).cell 2, (S.at_ 9 rfl).cell 3, (S.at_ 9 rfl).cell 4, (S.at_ 9 rfl).cell 5, (S.at_ 9 rfl).cell 6, (S.at_ 9 rfl).cell 7, (S.at_ 9 rfl).cell 8⟩
    refine hK _ _ (fun _ => HF) ?_
    clear hK K
    try simp only [Act.put]
    generalize (((w68.setCell ⟨w64.heap.size, 0, none⟩ (.slice Ah0_0 nh0_0 ch0_0)).setCell ⟨w64.heap.size, 1, none⟩ (.slice Ah0_1 nh0_1 ch0_1)).setCell ⟨w64.heap.size, 2, none⟩ (.slice Ah0_2 nh0_2 ch0_2)).setCell ⟨w64.heap.size, 3, none⟩ (.slice Ah0_3 nh0_3 ch0_3) = w69 at *
    clear f0 f1 f2 f3 f4 f5 f6 f7
    refine wpAnyL_step (i := 10) (by kernel_rfl) rfl rfl ?_
    intro K hK
    go_simp
    refine hK _ _ (fun h => nomatch (show true = false from h)) ?_
    clear hK K
    try simp only [Act.put]
    refine wpAnyL_done (by kernel_rfl) ?_ _
    replace S := S.pick 0 rfl
    replace S := S.pick 2 rfl
    replace S := S.sub (.cons_cons _ (.cons_cons _ (.cons _ (.cons_cons _ (.cons_cons _ (.cons _ (.cons _ (.cons_cons _ (.cons_cons _ (List.nil_sublist _))))))))))
    go_wp2_with fail
    go_meet
    exact ⟨_, _, _, _, _, _, _, _, _, _, _, _, _, _, rfl, rfl, S, c⟩
 obtain ⟨ph0, Ah0_0, nh0_0, ch0_0, Ah0_1, nh0_1, ch0_1, Ah0_2, nh0_2, ch0_2, Ah0_3, nh0_3, ch0_3, fp_h0, rfl, rfl, S, c⟩ := hcut
 clear SH CH f0 f1 f2 f3 f4 f5 f6 f7 f8 f9 f10 f11 f12
 generalize wc = w14 at *
 rw [← HFX0.out] at S
 rw [← HFX1.out]
 have f0 := lk S 0 0 rfl rfl
 have f1 := lk S 0 1 rfl rfl
 have f2 := lk S 0 2 rfl rfl
 have f3 := lk S 0 3 rfl rfl
 have f4 := lk S 4 0 rfl rfl
 have f5 := lk S 4 1 rfl rfl
 have f6 := lk S 4 2 rfl rfl
 have f7 := lk S 4 3 rfl rfl
 go_wp2_with fail
 refine (eqTwo_yes _ _ _ _ _ _ _ _ _ _ fx0 _ ((S.own_ 1 rfl).rd) ((S.own_ 5 rfl).rd) (Nat.le_refl _) (Nat.le_refl _) hfz0).mono ?_
 rintro e w15 ⟨rfl, b⟩
 replace c := c.trans (b.mono c.size)
 replace S := S.keep b
 clear b f0 f1 f2 f3 f4 f5 f6 f7
 have f0 := lk S 2 0 rfl rfl
 have f1 := lk S 2 1 rfl rfl
 have f2 := lk S 2 2 rfl rfl
 have f3 := lk S 2 3 rfl rfl
 go_wp2_with fail
 refine (heldTwo_any _ _ _ _ e0 _ _ ((S.own_ 3 rfl).rd) (Nat.le_refl _) (by omega) (1) (by omega) (by omega) mk_g0).mono ?_
 rintro e w16 ⟨rfl, b⟩
 rw [en_g0]
 have q16 : ¬ (1 + (fx0.n : Int) < 0) := by omega
 replace c := c.trans (b.mono c.size)
 replace S := S.keep b
 clear b f0 f1 f2 f3
 go_wp2
 go_ret
 exact ⟨rfl, c⟩
end Go.Proofs.Ytecihkkagpbkdaa
