/-
  Exact laws, over open contracts: whatever program function meets the model's contract, the law answers true and writes nothing that was there. Made by program (wip/lawgen.py).
-/
import Derived.Test.YtnjfdnjakogpmaaBook
import Derived.Test.YtnjfdnjakogpmaaKA
import Derived.Deep.RegionHeld3
import Derived.Deep.DeepCutAuto
namespace Go.Proofs.Ytnjfdnjakogpmaa
set_option maxRecDepth 100000
open Go.RowKit

set_option maxHeartbeats 12800000 in
theorem lawAppended (f : BookM → EntM → (BookM) × Bool)
    (hf0 : ∀ (d0 : BookM) (e1 : EntM), d0.sz ≤ 1048576 → ((f d0 e1).1).sz ≤ 1048577)
    (hs : ∀ (xa0_0 : Int) (xa0_1 : Int) (Aa0_2 : Option Addr) (na0_2 ca0_2 : Nat) (d0 : BookM) (xa1_0 : Int) (xa1_1 : Int) (xa1_2 : Int) (xa1_3 : Int) (xa1_4 : Int) (xa1_5 : Int) (xa1_6 : Int) (xa1_7 : Int) (xa1_8 : Int) (w : World), Rd w w.heap.size (d0.cells) [.int .i64 xa0_0, .int .i64 xa0_1, .slice Aa0_2 na0_2 ca0_2] → d0.sz ≤ 1048576 → Calls Try.prog 25 #[.agg #[.int .i64 xa0_0, .int .i64 xa0_1, .slice Aa0_2 na0_2 ca0_2], .agg #[.int .i64 xa1_0, .int .i64 xa1_1, .int .i64 xa1_2, .int .i64 xa1_3, .int .i64 xa1_4, .int .i64 xa1_5, .int .i64 xa1_6, .int .i64 xa1_7, .int .i64 xa1_8]] w (fun e w' => ∃ (xr0_0 : Int) (xr0_1 : Int) (Ar0_2 : Option Addr) (nr0_2 cr0_2 : Nat), e = .returned (.tuple #[.agg #[.int .i64 xr0_0, .int .i64 xr0_1, .slice Ar0_2 nr0_2 cr0_2], .bool (f d0 ⟨xa1_0, xa1_1, xa1_2, xa1_3, xa1_4, xa1_5, xa1_6, xa1_7, xa1_8⟩).2]) ∧ Has w' w.heap.size (((f d0 ⟨xa1_0, xa1_1, xa1_2, xa1_3, xa1_4, xa1_5, xa1_6, xa1_7, xa1_8⟩).1).cells) [.int .i64 xr0_0, .int .i64 xr0_1, .slice Ar0_2 nr0_2 cr0_2] ∧ Below w.heap.size w w'))
    (hi : ∀ (xa0_0 : Int) (xa0_1 : Int) (Aa0_2 : Option Addr) (na0_2 ca0_2 : Nat) (d0 : BookM) (xa1_0 : Int) (xa1_1 : Int) (xa1_2 : Int) (xa1_3 : Int) (xa1_4 : Int) (xa1_5 : Int) (xa1_6 : Int) (xa1_7 : Int) (xa1_8 : Int) (w : World), Rd w w.heap.size (d0.cells) [.int .i64 xa0_0, .int .i64 xa0_1, .slice Aa0_2 na0_2 ca0_2] → d0.sz ≤ 1048576 → Calls Try.prog 27 #[.agg #[.int .i64 xa0_0, .int .i64 xa0_1, .slice Aa0_2 na0_2 ca0_2], .agg #[.int .i64 xa1_0, .int .i64 xa1_1, .int .i64 xa1_2, .int .i64 xa1_3, .int .i64 xa1_4, .int .i64 xa1_5, .int .i64 xa1_6, .int .i64 xa1_7, .int .i64 xa1_8]] w (fun e w' => ∃ (xr0_0 : Int) (xr0_1 : Int) (Ar0_2 : Option Addr) (nr0_2 cr0_2 : Nat), e = .returned (.tuple #[.agg #[.int .i64 xr0_0, .int .i64 xr0_1, .slice Ar0_2 nr0_2 cr0_2], .bool (f d0 ⟨xa1_0, xa1_1, xa1_2, xa1_3, xa1_4, xa1_5, xa1_6, xa1_7, xa1_8⟩).2]) ∧ Has w' w.heap.size (((f d0 ⟨xa1_0, xa1_1, xa1_2, xa1_3, xa1_4, xa1_5, xa1_6, xa1_7, xa1_8⟩).1).cells) [.int .i64 xr0_0, .int .i64 xr0_1, .slice Ar0_2 nr0_2 cr0_2] ∧ Below w.heap.size w w'))
    (xa0_0 : Int) (xa0_1 : Int) (Aa0_2 : Option Addr) (na0_2 ca0_2 : Nat) (d0 : BookM) (xa1_0 : Int) (xa1_1 : Int) (xa1_2 : Int) (xa1_3 : Int) (xa1_4 : Int) (xa1_5 : Int) (xa1_6 : Int) (xa1_7 : Int) (xa1_8 : Int) (w : World) (h0 : Rd w w.heap.size (d0.cells) [.int .i64 xa0_0, .int .i64 xa0_1, .slice Aa0_2 na0_2 ca0_2]) :
    Calls Try.prog 7 #[.agg #[.int .i64 xa0_0, .int .i64 xa0_1, .slice Aa0_2 na0_2 ca0_2], .agg #[.int .i64 xa1_0, .int .i64 xa1_1, .int .i64 xa1_2, .int .i64 xa1_3, .int .i64 xa1_4, .int .i64 xa1_5, .int .i64 xa1_6, .int .i64 xa1_7, .int .i64 xa1_8]] w fun e w' => e = .returned (.bool true) ∧ Below w.heap.size w w' := by
  have SP := Lib.hid hs
  have IM := Lib.hid hi
  clear hs hi
  have S := Sep.nil w w.heap.size
  have c := Below.refl w.heap.size w
  replace S := S.box c.size #[.int .i64 xa0_0, .int .i64 xa0_1, .slice Aa0_2 na0_2 ca0_2] 24
  replace c := c.alloc c.size (.cells #[.int .i64 xa0_0, .int .i64 xa0_1, .slice Aa0_2 na0_2 ca0_2] 24)
  replace S := S.boxAt c.size (w.heap.size + 1) (by simp) #[.int .i64 xa1_0, .int .i64 xa1_1, .int .i64 xa1_2, .int .i64 xa1_3, .int .i64 xa1_4, .int .i64 xa1_5, .int .i64 xa1_6, .int .i64 xa1_7, .int .i64 xa1_8] 44
  replace c := c.alloc c.size (.cells #[.int .i64 xa1_0, .int .i64 xa1_1, .int .i64 xa1_2, .int .i64 xa1_3, .int .i64 xa1_4, .int .i64 xa1_5, .int .i64 xa1_6, .int .i64 xa1_7, .int .i64 xa1_8] 44)
  go_enter Try.func7, Try.ntmps7
  go_wp2_with fail
  generalize (w.alloc (.cells #[.int .i64 xa0_0, .int .i64 xa0_1, .slice Aa0_2 na0_2 ca0_2] 24)).alloc (.cells #[.int .i64 xa1_0, .int .i64 xa1_1, .int .i64 xa1_2, .int .i64 xa1_3, .int .i64 xa1_4, .int .i64 xa1_5, .int .i64 xa1_6, .int .i64 xa1_7, .int .i64 xa1_8] 44) = w1 at *
  refine (szBook_any _ _ _ d0 _ _ _ (h0.keep c) c.size (by omega) (by omega)).mono ?_
  rintro e w2 ⟨rfl, b⟩
  replace c := c.trans (b.mono c.size)
  replace S := S.keep b
  clear b
  by_cases hzi0 : ((d0.sz : Nat) : Int) ≤ 1048576
  case neg =>
    rw [left, if_neg hzi0]
    go_wp2
    go_ret
    exact ⟨rfl, c⟩
  rw [left, if_pos hzi0]
  have hz0 : d0.sz ≤ 1048576 := by omega
  have qz0 : ¬ ((1048576 : Int) - (d0.sz : Int) < 0) := by omega
  obtain ⟨fx0, hfx0⟩ : ∃ q, q = (f d0 ⟨xa1_0, xa1_1, xa1_2, xa1_3, xa1_4, xa1_5, xa1_6, xa1_7, xa1_8⟩).1 := ⟨_, rfl⟩
  have hfz0 := hf0 d0 ⟨xa1_0, xa1_1, xa1_2, xa1_3, xa1_4, xa1_5, xa1_6, xa1_7, xa1_8⟩ hz0
  rw [← hfx0] at hfz0
  have HFX0 := Lib.hid hfx0
  clear hfx0
  obtain ⟨fx1, hfx1⟩ : ∃ q, q = (f d0 ⟨xa1_0, xa1_1, xa1_2, xa1_3, xa1_4, xa1_5, xa1_6, xa1_7, xa1_8⟩).2 := ⟨_, rfl⟩
  have HFX1 := Lib.hid hfx1
  clear hfx1
  have f0 : (w2).cell? ⟨w.heap.size, 0, none⟩ = some (.int .i64 xa0_0) := (S.at_ 1 rfl).cell 0
  have f1 : (w2).cell? ⟨w.heap.size, 1, none⟩ = some (.int .i64 xa0_1) := (S.at_ 1 rfl).cell 1
  have f2 : (w2).cell? ⟨w.heap.size, 2, none⟩ = some (.slice Aa0_2 na0_2 ca0_2) := (S.at_ 1 rfl).cell 2
  have f3 : (w2).cell? ⟨w.heap.size + 1, 0, none⟩ = some (.int .i64 xa1_0) := (S.at_ 0 rfl).cell 0
  have f4 : (w2).cell? ⟨w.heap.size + 1, 1, none⟩ = some (.int .i64 xa1_1) := (S.at_ 0 rfl).cell 1
  have f5 : (w2).cell? ⟨w.heap.size + 1, 2, none⟩ = some (.int .i64 xa1_2) := (S.at_ 0 rfl).cell 2
  have f6 : (w2).cell? ⟨w.heap.size + 1, 3, none⟩ = some (.int .i64 xa1_3) := (S.at_ 0 rfl).cell 3
  have f7 : (w2).cell? ⟨w.heap.size + 1, 4, none⟩ = some (.int .i64 xa1_4) := (S.at_ 0 rfl).cell 4
  have f8 : (w2).cell? ⟨w.heap.size + 1, 5, none⟩ = some (.int .i64 xa1_5) := (S.at_ 0 rfl).cell 5
  have f9 : (w2).cell? ⟨w.heap.size + 1, 6, none⟩ = some (.int .i64 xa1_6) := (S.at_ 0 rfl).cell 6
  have f10 : (w2).cell? ⟨w.heap.size + 1, 7, none⟩ = some (.int .i64 xa1_7) := (S.at_ 0 rfl).cell 7
  have f11 : (w2).cell? ⟨w.heap.size + 1, 8, none⟩ = some (.int .i64 xa1_8) := (S.at_ 0 rfl).cell 8
  have SH := Lib.hid S
  have CH := Lib.hid c
  clear S c
  go_wp2_with fail
  go_cut [6, 7] (fun s0 s1 wx => ∃ (pw0 : Nat) (xw0_0 : Int) (xw0_1 : Int) (Aw0_2 : Option Addr) (nw0_2 cw0_2 : Nat) (fp_w0 : List Nat), s0 = .pointer (some ⟨pw0, 0, none⟩) ∧ s1 = .bool ((f d0 ⟨xa1_0, xa1_1, xa1_2, xa1_3, xa1_4, xa1_5, xa1_6, xa1_7, xa1_8⟩).2) ∧ Sep wx w.heap.size [.blk pw0 #[.int .i64 xw0_0, .int .i64 xw0_1, .slice Aw0_2 nw0_2 cw0_2] 29, .own (((f d0 ⟨xa1_0, xa1_1, xa1_2, xa1_3, xa1_4, xa1_5, xa1_6, xa1_7, xa1_8⟩).1).cells) [.int .i64 xw0_0, .int .i64 xw0_1, .slice Aw0_2 nw0_2 cw0_2] fp_w0, .blk (w.heap.size + 1) #[.int .i64 xa1_0, .int .i64 xa1_1, .int .i64 xa1_2, .int .i64 xa1_3, .int .i64 xa1_4, .int .i64 xa1_5, .int .i64 xa1_6, .int .i64 xa1_7, .int .i64 xa1_8] 44, .blk (w.heap.size) #[.int .i64 xa0_0, .int .i64 xa0_1, .slice Aa0_2 na0_2 ca0_2] 24] ∧ Below w.heap.size w wx)
  case first =>
    have S := SH.out
    have c := CH.out
    refine wp_region_L (fun v => v.cell? ⟨w.heap.size, 0, none⟩ = some (.int .i64 xa0_0) ∧ v.cell? ⟨w.heap.size, 1, none⟩ = some (.int .i64 xa0_1) ∧ v.cell? ⟨w.heap.size, 2, none⟩ = some (.slice Aa0_2 na0_2 ca0_2) ∧ v.cell? ⟨w.heap.size + 1, 0, none⟩ = some (.int .i64 xa1_0) ∧ v.cell? ⟨w.heap.size + 1, 1, none⟩ = some (.int .i64 xa1_1) ∧ v.cell? ⟨w.heap.size + 1, 2, none⟩ = some (.int .i64 xa1_2) ∧ v.cell? ⟨w.heap.size + 1, 3, none⟩ = some (.int .i64 xa1_3) ∧ v.cell? ⟨w.heap.size + 1, 4, none⟩ = some (.int .i64 xa1_4) ∧ v.cell? ⟨w.heap.size + 1, 5, none⟩ = some (.int .i64 xa1_5) ∧ v.cell? ⟨w.heap.size + 1, 6, none⟩ = some (.int .i64 xa1_6) ∧ v.cell? ⟨w.heap.size + 1, 7, none⟩ = some (.int .i64 xa1_7) ∧ v.cell? ⟨w.heap.size + 1, 8, none⟩ = some (.int .i64 xa1_8)) 10 (by kernel_rfl) ?_
    clear f0 f1 f2 f3 f4 f5 f6 f7 f8 f9 f10 f11 SH CH
    replace S := S.keep ((Below.refl _ _).drew)
    replace c := c.drew
    generalize w2.drew = w53 at *
    have HF : w53.cell? ⟨w.heap.size, 0, none⟩ = some (.int .i64 xa0_0) ∧ w53.cell? ⟨w.heap.size, 1, none⟩ = some (.int .i64 xa0_1) ∧ w53.cell? ⟨w.heap.size, 2, none⟩ = some (.slice Aa0_2 na0_2 ca0_2) ∧ w53.cell? ⟨w.heap.size + 1, 0, none⟩ = some (.int .i64 xa1_0) ∧ w53.cell? ⟨w.heap.size + 1, 1, none⟩ = some (.int .i64 xa1_1) ∧ w53.cell? ⟨w.heap.size + 1, 2, none⟩ = some (.int .i64 xa1_2) ∧ w53.cell? ⟨w.heap.size + 1, 3, none⟩ = some (.int .i64 xa1_3) ∧ w53.cell? ⟨w.heap.size + 1, 4, none⟩ = some (.int .i64 xa1_4) ∧ w53.cell? ⟨w.heap.size + 1, 5, none⟩ = some (.int .i64 xa1_5) ∧ w53.cell? ⟨w.heap.size + 1, 6, none⟩ = some (.int .i64 xa1_6) ∧ w53.cell? ⟨w.heap.size + 1, 7, none⟩ = some (.int .i64 xa1_7) ∧ w53.cell? ⟨w.heap.size + 1, 8, none⟩ = some (.int .i64 xa1_8) := ⟨(S.at_ 1 rfl).cell 0, (S.at_ 1 rfl).cell 1, (S.at_ 1 rfl).cell 2, (S.at_ 0 rfl).cell 0, (S.at_ 0 rfl).cell 1, (S.at_ 0 rfl).cell 2, (S.at_ 0 rfl).cell 3, (S.at_ 0 rfl).cell 4, (S.at_ 0 rfl).cell 5, (S.at_ 0 rfl).cell 6, (S.at_ 0 rfl).cell 7, (S.at_ 0 rfl).cell 8⟩
    refine wpAnyL_take (i := 0) (v := ?_) rfl rfl (by kernel_rfl) (by kernel_rfl) (by kernel_rfl) (by kernel_rfl) (by kernel_rfl) (fun _ _ _ h => h) HF (Or.inl ⟨by rfl, ?_⟩) ?_
    rotate_left 1
    · (rintro v ⟨a0, a1, a2, a3, a4, a5, a6, a7, a8, a9, a10, a11⟩; go_simp; try with_reducible rfl)
    try simp only [Act.put]
    refine wpAnyL_take (i := 2) (v := ?_) rfl rfl (by kernel_rfl) (by kernel_rfl) (by kernel_rfl) (by kernel_rfl) (by kernel_rfl) (fun _ _ _ h => h) HF (Or.inl ⟨by rfl, ?_⟩) ?_
    rotate_left 1
    · (rintro v ⟨a0, a1, a2, a3, a4, a5, a6, a7, a8, a9, a10, a11⟩; go_simp; try with_reducible rfl)
    try simp only [Act.put]
    refine wpAnyL_two (i := 1) (k := 8) (by kernel_rfl) rfl rfl rfl rfl ?_ ?_
    · intro K hK
      go_simp
      refine (toBook_made _ _ _ d0 _ ((h0.keep c).up c.size) hz0).mono ?_
      rintro e w54 ⟨xs0_0, xs0_1, As0_2, ns0_2, cs0_2, rfl, o, b⟩
      obtain ⟨fp_Os0, S'⟩ := S.has b o c.size
      replace c := c.trans (b.mono c.size)
      clear S; have S := S'; clear S' o b
      clear HF
      have HF : w54.cell? ⟨w.heap.size, 0, none⟩ = some (.int .i64 xa0_0) ∧ w54.cell? ⟨w.heap.size, 1, none⟩ = some (.int .i64 xa0_1) ∧ w54.cell? ⟨w.heap.size, 2, none⟩ = some (.slice Aa0_2 na0_2 ca0_2) ∧ w54.cell? ⟨w.heap.size + 1, 0, none⟩ = some (.int .i64 xa1_0) ∧ w54.cell? ⟨w.heap.size + 1, 1, none⟩ = some (.int .i64 xa1_1) ∧ w54.cell? ⟨w.heap.size + 1, 2, none⟩ = some (.int .i64 xa1_2) ∧ w54.cell? ⟨w.heap.size + 1, 3, none⟩ = some (.int .i64 xa1_3) ∧ w54.cell? ⟨w.heap.size + 1, 4, none⟩ = some (.int .i64 xa1_4) ∧ w54.cell? ⟨w.heap.size + 1, 5, none⟩ = some (.int .i64 xa1_5) ∧ w54.cell? ⟨w.heap.size + 1, 6, none⟩ = some (.int .i64 xa1_6) ∧ w54.cell? ⟨w.heap.size + 1, 7, none⟩ = some (.int .i64 xa1_7) ∧ w54.cell? ⟨w.heap.size + 1, 8, none⟩ = some (.int .i64 xa1_8) := ⟨(S.at_ 2 rfl).cell 0, (S.at_ 2 rfl).cell 1, (S.at_ 2 rfl).cell 2, (S.at_ 1 rfl).cell 0, (S.at_ 1 rfl).cell 1, (S.at_ 1 rfl).cell 2, (S.at_ 1 rfl).cell 3, (S.at_ 1 rfl).cell 4, (S.at_ 1 rfl).cell 5, (S.at_ 1 rfl).cell 6, (S.at_ 1 rfl).cell 7, (S.at_ 1 rfl).cell 8⟩
      refine hK _ _ (fun _ => HF) ?_
      clear hK K
      try simp only [Act.put]
      refine wpAnyL_two (i := 3) (k := 8) (by kernel_rfl) rfl rfl rfl rfl ?_ ?_
      · intro K hK
        go_simp
        refine (toEntry_any _ _ _ _ _ _ _ _ _ _).mono ?_
        rintro e w55 ⟨rfl, b⟩
        replace c := c.trans (b.mono c.size)
        replace S := S.keep b
        clear b
        clear HF
        have HF : w55.cell? ⟨w.heap.size, 0, none⟩ = some (.int .i64 xa0_0) ∧ w55.cell? ⟨w.heap.size, 1, none⟩ = some (.int .i64 xa0_1) ∧ w55.cell? ⟨w.heap.size, 2, none⟩ = some (.slice Aa0_2 na0_2 ca0_2) ∧ w55.cell? ⟨w.heap.size + 1, 0, none⟩ = some (.int .i64 xa1_0) ∧ w55.cell? ⟨w.heap.size + 1, 1, none⟩ = some (.int .i64 xa1_1) ∧ w55.cell? ⟨w.heap.size + 1, 2, none⟩ = some (.int .i64 xa1_2) ∧ w55.cell? ⟨w.heap.size + 1, 3, none⟩ = some (.int .i64 xa1_3) ∧ w55.cell? ⟨w.heap.size + 1, 4, none⟩ = some (.int .i64 xa1_4) ∧ w55.cell? ⟨w.heap.size + 1, 5, none⟩ = some (.int .i64 xa1_5) ∧ w55.cell? ⟨w.heap.size + 1, 6, none⟩ = some (.int .i64 xa1_6) ∧ w55.cell? ⟨w.heap.size + 1, 7, none⟩ = some (.int .i64 xa1_7) ∧ w55.cell? ⟨w.heap.size + 1, 8, none⟩ = some (.int .i64 xa1_8) := ⟨(S.at_ 2 rfl).cell 0, (S.at_ 2 rfl).cell 1, (S.at_ 2 rfl).cell 2, (S.at_ 1 rfl).cell 0, (S.at_ 1 rfl).cell 1, (S.at_ 1 rfl).cell 2, (S.at_ 1 rfl).cell 3, (S.at_ 1 rfl).cell 4, (S.at_ 1 rfl).cell 5, (S.at_ 1 rfl).cell 6, (S.at_ 1 rfl).cell 7, (S.at_ 1 rfl).cell 8⟩
        refine hK _ _ (fun _ => HF) ?_
        clear hK K
        try simp only [Act.put]
        refine wpAnyL_two (i := 4) (k := 8) (by kernel_rfl) rfl rfl rfl rfl ?_ ?_
        · intro K hK
          go_simp
          refine (SP.out _ _ _ _ _ d0 _ _ _ _ _ _ _ _ _ _ ((S.own_ 0 rfl).rd) hz0).mono ?_
          rintro e w56 ⟨xw0_0, xw0_1, Aw0_2, nw0_2, cw0_2, rfl, o, b⟩
          obtain ⟨fp_Ow0, S'⟩ := S.has b o c.size
          replace c := c.trans (b.mono c.size)
          clear S; have S := S'; clear S' o b
          clear HF
          have HF : w56.cell? ⟨w.heap.size, 0, none⟩ = some (.int .i64 xa0_0) ∧ w56.cell? ⟨w.heap.size, 1, none⟩ = some (.int .i64 xa0_1) ∧ w56.cell? ⟨w.heap.size, 2, none⟩ = some (.slice Aa0_2 na0_2 ca0_2) ∧ w56.cell? ⟨w.heap.size + 1, 0, none⟩ = some (.int .i64 xa1_0) ∧ w56.cell? ⟨w.heap.size + 1, 1, none⟩ = some (.int .i64 xa1_1) ∧ w56.cell? ⟨w.heap.size + 1, 2, none⟩ = some (.int .i64 xa1_2) ∧ w56.cell? ⟨w.heap.size + 1, 3, none⟩ = some (.int .i64 xa1_3) ∧ w56.cell? ⟨w.heap.size + 1, 4, none⟩ = some (.int .i64 xa1_4) ∧ w56.cell? ⟨w.heap.size + 1, 5, none⟩ = some (.int .i64 xa1_5) ∧ w56.cell? ⟨w.heap.size + 1, 6, none⟩ = some (.int .i64 xa1_6) ∧ w56.cell? ⟨w.heap.size + 1, 7, none⟩ = some (.int .i64 xa1_7) ∧ w56.cell? ⟨w.heap.size + 1, 8, none⟩ = some (.int .i64 xa1_8) := ⟨(S.at_ 3 rfl).cell 0, (S.at_ 3 rfl).cell 1, (S.at_ 3 rfl).cell 2, (S.at_ 2 rfl).cell 0, (S.at_ 2 rfl).cell 1, (S.at_ 2 rfl).cell 2, (S.at_ 2 rfl).cell 3, (S.at_ 2 rfl).cell 4, (S.at_ 2 rfl).cell 5, (S.at_ 2 rfl).cell 6, (S.at_ 2 rfl).cell 7, (S.at_ 2 rfl).cell 8⟩
          refine hK _ _ (fun _ => HF) ?_
          clear hK K
          try simp only [Act.put]
          refine wpAnyL_pure (i := 5) (v := ?_) rfl rfl (by kernel_rfl) (by kernel_rfl) (by kernel_rfl) (fun _ _ _ h => h) HF (Or.inl ⟨by rfl, ?_⟩) ?_
          rotate_left 1
          · (intro v _; go_simp; try with_reducible rfl)
          try simp only [Act.put]
          refine wpAnyL_pure (i := 6) (v := ?_) rfl rfl (by kernel_rfl) (by kernel_rfl) (by kernel_rfl) (fun _ _ _ h => h) HF (Or.inl ⟨by rfl, ?_⟩) ?_
          rotate_left 1
          · (intro v _; go_simp; try with_reducible rfl)
          try simp only [Act.put]
          refine wpAnyL_pure (i := 7) (v := ?_) rfl rfl (by kernel_rfl) (by kernel_rfl) (by kernel_rfl) (fun _ _ _ h => h) HF (Or.inl ⟨by rfl, ?_⟩) ?_
          rotate_left 1
          · (intro v _; go_simp; try with_reducible rfl)
          try simp only [Act.put]
          refine wpAnyL_step (i := 8) (by kernel_rfl) rfl rfl ?_
          intro K hK
          go_simp
          replace S := S.boxAt c.size (w56.heap.size) rfl #[.int .i64 0, .int .i64 0, .slice none 0 0] 29
          replace c := c.alloc c.size (.cells #[.int .i64 0, .int .i64 0, .slice none 0 0] 29)
          clear HF
          have HF : (w56.alloc (.cells #[.int .i64 0, .int .i64 0, .slice none 0 0] 29)).cell? ⟨w.heap.size, 0, none⟩ = some (.int .i64 xa0_0) ∧ (w56.alloc (.cells #[.int .i64 0, .int .i64 0, .slice none 0 0] 29)).cell? ⟨w.heap.size, 1, none⟩ = some (.int .i64 xa0_1) ∧ (w56.alloc (.cells #[.int .i64 0, .int .i64 0, .slice none 0 0] 29)).cell? ⟨w.heap.size, 2, none⟩ = some (.slice Aa0_2 na0_2 ca0_2) ∧ (w56.alloc (.cells #[.int .i64 0, .int .i64 0, .slice none 0 0] 29)).cell? ⟨w.heap.size + 1, 0, none⟩ = some (.int .i64 xa1_0) ∧ (w56.alloc (.cells #[.int .i64 0, .int .i64 0, .slice none 0 0] 29)).cell? ⟨w.heap.size + 1, 1, none⟩ = some (.int .i64 xa1_1) ∧ (w56.alloc (.cells #[.int .i64 0, .int .i64 0, .slice none 0 0] 29)).cell? ⟨w.heap.size + 1, 2, none⟩ = some (.int .i64 xa1_2) ∧ (w56.alloc (.cells #[.int .i64 0, .int .i64 0, .slice none 0 0] 29)).cell? ⟨w.heap.size + 1, 3, none⟩ = some (.int .i64 xa1_3) ∧ (w56.alloc (.cells #[.int .i64 0, .int .i64 0, .slice none 0 0] 29)).cell? ⟨w.heap.size + 1, 4, none⟩ = some (.int .i64 xa1_4) ∧ (w56.alloc (.cells #[.int .i64 0, .int .i64 0, .slice none 0 0] 29)).cell? ⟨w.heap.size + 1, 5, none⟩ = some (.int .i64 xa1_5) ∧ (w56.alloc (.cells #[.int .i64 0, .int .i64 0, .slice none 0 0] 29)).cell? ⟨w.heap.size + 1, 6, none⟩ = some (.int .i64 xa1_6) ∧ (w56.alloc (.cells #[.int .i64 0, .int .i64 0, .slice none 0 0] 29)).cell? ⟨w.heap.size + 1, 7, none⟩ = some (.int .i64 xa1_7) ∧ (w56.alloc (.cells #[.int .i64 0, .int .i64 0, .slice none 0 0] 29)).cell? ⟨w.heap.size + 1, 8, none⟩ = some (.int .i64 xa1_8) := ⟨(S.at_ 4 rfl).cell 0, (S.at_ 4 rfl).cell 1, (S.at_ 4 rfl).cell 2, (S.at_ 3 rfl).cell 0, (S.at_ 3 rfl).cell 1, (S.at_ 3 rfl).cell 2, (S.at_ 3 rfl).cell 3, (S.at_ 3 rfl).cell 4, (S.at_ 3 rfl).cell 5, (S.at_ 3 rfl).cell 6, (S.at_ 3 rfl).cell 7, (S.at_ 3 rfl).cell 8⟩
          refine hK _ _ (fun _ => HF) ?_
          clear hK K
          try simp only [Act.put]
          generalize hw : w56.alloc (.cells #[.int .i64 0, .int .i64 0, .slice none 0 0] 29) = w57 at *
          clear hw
          have f0 : w57.cell? ⟨w56.heap.size, 0, none⟩ = some (.int .i64 0) := (S.at_ 0 rfl).cell 0
          have f1 := (S.at_ 0 rfl).free 0
          have f2 : w57.cell? ⟨w56.heap.size, 1, none⟩ = some (.int .i64 0) := (S.at_ 0 rfl).cell 1
          have f3 := (S.at_ 0 rfl).free 1
          have f4 : w57.cell? ⟨w56.heap.size, 2, none⟩ = some (.slice none 0 0) := (S.at_ 0 rfl).cell 2
          have f5 := (S.at_ 0 rfl).free 2
          refine wpAnyL_step (i := 9) (by kernel_rfl) rfl rfl ?_
          intro K hK
          go_simp
          replace c := c.setCell (p := ⟨w56.heap.size, 0, none⟩) (S.base_le 0 rfl) (.int .i64 xw0_0)
          replace S := S.put 0 rfl 0 (.int .i64 xw0_0)
          replace c := c.setCell (p := ⟨w56.heap.size, 1, none⟩) (S.base_le 0 rfl) (.int .i64 xw0_1)
          replace S := S.put 0 rfl 1 (.int .i64 xw0_1)
          replace c := c.setCell (p := ⟨w56.heap.size, 2, none⟩) (S.base_le 0 rfl) (.slice Aw0_2 nw0_2 cw0_2)
          replace S := S.put 0 rfl 2 (.slice Aw0_2 nw0_2 cw0_2)
          clear HF
          have HF : (((w57.setCell ⟨w56.heap.size, 0, none⟩ (.int .i64 xw0_0)).setCell ⟨w56.heap.size, 1, none⟩ (.int .i64 xw0_1)).setCell ⟨w56.heap.size, 2, none⟩ (.slice Aw0_2 nw0_2 cw0_2)).cell? ⟨w.heap.size, 0, none⟩ = some (.int .i64 xa0_0) ∧ (((w57.setCell ⟨w56.heap.size, 0, none⟩ (.int .i64 xw0_0)).setCell ⟨w56.heap.size, 1, none⟩ (.int .i64 xw0_1)).setCell ⟨w56.heap.size, 2, none⟩ (.slice Aw0_2 nw0_2 cw0_2)).cell? ⟨w.heap.size, 1, none⟩ = some (.int .i64 xa0_1) ∧ (((w57.setCell ⟨w56.heap.size, 0, none⟩ (.int .i64 xw0_0)).setCell ⟨w56.heap.size, 1, none⟩ (.int .i64 xw0_1)).setCell ⟨w56.heap.size, 2, none⟩ (.slice Aw0_2 nw0_2 cw0_2)).cell? ⟨w.heap.size, 2, none⟩ = some (.slice Aa0_2 na0_2 ca0_2) ∧ (((w57.setCell ⟨w56.heap.size, 0, none⟩ (.int .i64 xw0_0)).setCell ⟨w56.heap.size, 1, none⟩ (.int .i64 xw0_1)).setCell ⟨w56.heap.size, 2, none⟩ (.slice Aw0_2 nw0_2 cw0_2)).cell? ⟨w.heap.size + 1, 0, none⟩ = some (.int .i64 xa1_0) ∧ (((w57.setCell ⟨w56.heap.size, 0, none⟩ (.int .i64 xw0_0)).setCell ⟨w56.heap.size, 1, none⟩ (.int .i64 xw0_1)).setCell ⟨w56.heap.size, 2, none⟩ (.slice Aw0_2 nw0_2 cw0_2)).cell? ⟨w.heap.size + 1, 1, none⟩ = some (.int .i64 xa1_1) ∧ (((w57.setCell ⟨w56.heap.size, 0, none⟩ (.int .i64 xw0_0)).setCell ⟨w56.heap.size, 1, none⟩ (.int .i64 xw0_1)).setCell ⟨w56.heap.size, 2, none⟩ (.slice Aw0_2 nw0_2 cw0_2)).cell? ⟨w.heap.size + 1, 2, none⟩ = some (.int .i64 xa1_2) ∧ (((w57.setCell ⟨w56.heap.size, 0, none⟩ (.int .i64 xw0_0)).setCell ⟨w56.heap.size, 1, none⟩ (.int .i64 xw0_1)).setCell ⟨w56.heap.size, 2, none⟩ (.slice Aw0_2 nw0_2 cw0_2)).cell? ⟨w.heap.size + 1, 3, none⟩ = some (.int .i64 xa1_3) ∧ (((w57.setCell ⟨w56.heap.size, 0, none⟩ (.int .i64 xw0_0)).setCell ⟨w56.heap.size, 1, none⟩ (.int .i64 xw0_1)).setCell ⟨w56.heap.size, 2, none⟩ (.slice Aw0_2 nw0_2 cw0_2)).cell? ⟨w.heap.size + 1, 4, none⟩ = some (.int .i64 xa1_4) ∧ (((w57.setCell ⟨w56.heap.size, 0, none⟩ (.int .i64 xw0_0)).setCell ⟨w56.heap.size, 1, none⟩ (.int .i64 xw0_1)).setCell ⟨w56.heap.size, 2, none⟩ (.slice Aw0_2 nw0_2 cw0_2)).cell? ⟨w.heap.size + 1, 5, none⟩ = some (.int .i64 xa1_5) ∧ (((w57.setCell ⟨w56.heap.size, 0, none⟩ (.int .i64 xw0_0)).setCell ⟨w56.heap.size, 1, none⟩ (.int .i64 xw0_1)).setCell ⟨w56.heap.size, 2, none⟩ (.slice Aw0_2 nw0_2 cw0_2)).cell? ⟨w.heap.size + 1, 6, none⟩ = some (.int .i64 xa1_6) ∧ (((w57.setCell ⟨w56.heap.size, 0, none⟩ (.int .i64 xw0_0)).setCell ⟨w56.heap.size, 1, none⟩ (.int .i64 xw0_1)).setCell ⟨w56.heap.size, 2, none⟩ (.slice Aw0_2 nw0_2 cw0_2)).cell? ⟨w.heap.size + 1, 7, none⟩ = some (.int .i64 xa1_7) ∧ (((w57.setCell ⟨w56.heap.size, 0, none⟩ (.int .i64 xw0_0)).setCell ⟨w56.heap.size, 1, none⟩ (.int .i64 xw0_1)).setCell ⟨w56.heap.size, 2, none⟩ (.slice Aw0_2 nw0_2 cw0_2)).cell? ⟨w.heap.size + 1, 8, none⟩ = some (.int .i64 xa1_8) := ⟨(S.at_ 4 rfl).cell 0, (S.at_ 4 rfl).cell 1, (S.at_ 4 rfl).cell 2, (S.at_ 3 rfl).cell 0, (S.at_ 3 rfl).cell 1, (S.at_ 3 rfl).cell 2, (S.at_ 3 rfl).cell 3, (S.at_ 3 rfl).cell 4, (S.at_ 3 rfl).cell 5, (S.at_ 3 rfl).cell 6, (S.at_ 3 rfl).cell 7, (S.at_ 3 rfl).cell 8⟩
          refine hK _ _ (fun _ => HF) ?_
          clear hK K
          try simp only [Act.put]
          generalize ((w57.setCell ⟨w56.heap.size, 0, none⟩ (.int .i64 xw0_0)).setCell ⟨w56.heap.size, 1, none⟩ (.int .i64 xw0_1)).setCell ⟨w56.heap.size, 2, none⟩ (.slice Aw0_2 nw0_2 cw0_2) = w58 at *
          clear f0 f1 f2 f3 f4 f5
          refine wpAnyL_step (i := 10) (by kernel_rfl) rfl rfl ?_
          intro K hK
          go_simp
          refine hK _ _ (fun h => nomatch (show true = false from h)) ?_
          clear hK K
          try simp only [Act.put]
          refine wpAnyL_done (by kernel_rfl) ?_ _
          replace S := S.pick 1 rfl
          replace S := S.pick 1 rfl
          replace S := S.sub (.cons_cons _ (.cons_cons _ (.cons _ (.cons_cons _ (.cons_cons _ (List.nil_sublist _))))))
          go_wp2_with fail
          go_meet
          exact ⟨_, _, _, _, _, _, _, rfl, rfl, S, c⟩
        · intro K hK
          go_simp
          replace S := S.boxAt c.size (w55.heap.size) rfl #[.int .i64 0, .int .i64 0, .slice none 0 0] 29
          replace c := c.alloc c.size (.cells #[.int .i64 0, .int .i64 0, .slice none 0 0] 29)
          clear HF
          have HF : (w55.alloc (.cells #[.int .i64 0, .int .i64 0, .slice none 0 0] 29)).cell? ⟨w.heap.size, 0, none⟩ = some (.int .i64 xa0_0) ∧ (w55.alloc (.cells #[.int .i64 0, .int .i64 0, .slice none 0 0] 29)).cell? ⟨w.heap.size, 1, none⟩ = some (.int .i64 xa0_1) ∧ (w55.alloc (.cells #[.int .i64 0, .int .i64 0, .slice none 0 0] 29)).cell? ⟨w.heap.size, 2, none⟩ = some (.slice Aa0_2 na0_2 ca0_2) ∧ (w55.alloc (.cells #[.int .i64 0, .int .i64 0, .slice none 0 0] 29)).cell? ⟨w.heap.size + 1, 0, none⟩ = some (.int .i64 xa1_0) ∧ (w55.alloc (.cells #[.int .i64 0, .int .i64 0, .slice none 0 0] 29)).cell? ⟨w.heap.size + 1, 1, none⟩ = some (.int .i64 xa1_1) ∧ (w55.alloc (.cells #[.int .i64 0, .int .i64 0, .slice none 0 0] 29)).cell? ⟨w.heap.size + 1, 2, none⟩ = some (.int .i64 xa1_2) ∧ (w55.alloc (.cells #[.int .i64 0, .int .i64 0, .slice none 0 0] 29)).cell? ⟨w.heap.size + 1, 3, none⟩ = some (.int .i64 xa1_3) ∧ (w55.alloc (.cells #[.int .i64 0, .int .i64 0, .slice none 0 0] 29)).cell? ⟨w.heap.size + 1, 4, none⟩ = some (.int .i64 xa1_4) ∧ (w55.alloc (.cells #[.int .i64 0, .int .i64 0, .slice none 0 0] 29)).cell? ⟨w.heap.size + 1, 5, none⟩ = some (.int .i64 xa1_5) ∧ (w55.alloc (.cells #[.int .i64 0, .int .i64 0, .slice none 0 0] 29)).cell? ⟨w.heap.size + 1, 6, none⟩ = some (.int .i64 xa1_6) ∧ (w55.alloc (.cells #[.int .i64 0, .int .i64 0, .slice none 0 0] 29)).cell? ⟨w.heap.size + 1, 7, none⟩ = some (.int .i64 xa1_7) ∧ (w55.alloc (.cells #[.int .i64 0, .int .i64 0, .slice none 0 0] 29)).cell? ⟨w.heap.size + 1, 8, none⟩ = some (.int .i64 xa1_8) := ⟨(S.at_ 3 rfl).cell 0, (S.at_ 3 rfl).cell 1, (S.at_ 3 rfl).cell 2, (S.at_ 2 rfl).cell 0, (S.at_ 2 rfl).cell 1, (S.at_ 2 rfl).cell 2, (S.at_ 2 rfl).cell 3, (S.at_ 2 rfl).cell 4, (S.at_ 2 rfl).cell 5, (S.at_ 2 rfl).cell 6, (S.at_ 2 rfl).cell 7, (S.at_ 2 rfl).cell 8⟩
          refine hK _ _ (fun _ => HF) ?_
          clear hK K
          try simp only [Act.put]
          generalize hw : w55.alloc (.cells #[.int .i64 0, .int .i64 0, .slice none 0 0] 29) = w56 at *
          clear hw
          refine wpAnyL_step (i := 4) (by kernel_rfl) rfl rfl ?_
          intro K hK
          go_simp
          refine (SP.out _ _ _ _ _ d0 _ _ _ _ _ _ _ _ _ _ ((S.own_ 1 rfl).rd) hz0).mono ?_
          rintro e w57 ⟨xw0_0, xw0_1, Aw0_2, nw0_2, cw0_2, rfl, o, b⟩
          obtain ⟨fp_Ow0, S'⟩ := S.has b o c.size
          replace c := c.trans (b.mono c.size)
          clear S; have S := S'; clear S' o b
          clear HF
          have HF : w57.cell? ⟨w.heap.size, 0, none⟩ = some (.int .i64 xa0_0) ∧ w57.cell? ⟨w.heap.size, 1, none⟩ = some (.int .i64 xa0_1) ∧ w57.cell? ⟨w.heap.size, 2, none⟩ = some (.slice Aa0_2 na0_2 ca0_2) ∧ w57.cell? ⟨w.heap.size + 1, 0, none⟩ = some (.int .i64 xa1_0) ∧ w57.cell? ⟨w.heap.size + 1, 1, none⟩ = some (.int .i64 xa1_1) ∧ w57.cell? ⟨w.heap.size + 1, 2, none⟩ = some (.int .i64 xa1_2) ∧ w57.cell? ⟨w.heap.size + 1, 3, none⟩ = some (.int .i64 xa1_3) ∧ w57.cell? ⟨w.heap.size + 1, 4, none⟩ = some (.int .i64 xa1_4) ∧ w57.cell? ⟨w.heap.size + 1, 5, none⟩ = some (.int .i64 xa1_5) ∧ w57.cell? ⟨w.heap.size + 1, 6, none⟩ = some (.int .i64 xa1_6) ∧ w57.cell? ⟨w.heap.size + 1, 7, none⟩ = some (.int .i64 xa1_7) ∧ w57.cell? ⟨w.heap.size + 1, 8, none⟩ = some (.int .i64 xa1_8) := ⟨(S.at_ 4 rfl).cell 0, (S.at_ 4 rfl).cell 1, (S.at_ 4 rfl).cell 2, (S.at_ 3 rfl).cell 0, (S.at_ 3 rfl).cell 1, (S.at_ 3 rfl).cell 2, (S.at_ 3 rfl).cell 3, (S.at_ 3 rfl).cell 4, (S.at_ 3 rfl).cell 5, (S.at_ 3 rfl).cell 6, (S.at_ 3 rfl).cell 7, (S.at_ 3 rfl).cell 8⟩
          refine hK _ _ (fun _ => HF) ?_
          clear hK K
          try simp only [Act.put]
          refine wpAnyL_pure (i := 5) (v := ?_) rfl rfl (by kernel_rfl) (by kernel_rfl) (by kernel_rfl) (fun _ _ _ h => h) HF (Or.inl ⟨by rfl, ?_⟩) ?_
          rotate_left 1
          · (intro v _; go_simp; try with_reducible rfl)
          try simp only [Act.put]
          refine wpAnyL_pure (i := 6) (v := ?_) rfl rfl (by kernel_rfl) (by kernel_rfl) (by kernel_rfl) (fun _ _ _ h => h) HF (Or.inl ⟨by rfl, ?_⟩) ?_
          rotate_left 1
          · (intro v _; go_simp; try with_reducible rfl)
          try simp only [Act.put]
          refine wpAnyL_pure (i := 7) (v := ?_) rfl rfl (by kernel_rfl) (by kernel_rfl) (by kernel_rfl) (fun _ _ _ h => h) HF (Or.inl ⟨by rfl, ?_⟩) ?_
          rotate_left 1
          · (intro v _; go_simp; try with_reducible rfl)
          try simp only [Act.put]
          have f0 : w57.cell? ⟨w55.heap.size, 0, none⟩ = some (.int .i64 0) := (S.at_ 1 rfl).cell 0
          have f1 := (S.at_ 1 rfl).free 0
          have f2 : w57.cell? ⟨w55.heap.size, 1, none⟩ = some (.int .i64 0) := (S.at_ 1 rfl).cell 1
          have f3 := (S.at_ 1 rfl).free 1
          have f4 : w57.cell? ⟨w55.heap.size, 2, none⟩ = some (.slice none 0 0) := (S.at_ 1 rfl).cell 2
          have f5 := (S.at_ 1 rfl).free 2
          refine wpAnyL_step (i := 9) (by kernel_rfl) rfl rfl ?_
          intro K hK
          go_simp
          replace c := c.setCell (p := ⟨w55.heap.size, 0, none⟩) (S.base_le 1 rfl) (.int .i64 xw0_0)
          replace S := S.put 1 rfl 0 (.int .i64 xw0_0)
          replace c := c.setCell (p := ⟨w55.heap.size, 1, none⟩) (S.base_le 1 rfl) (.int .i64 xw0_1)
          replace S := S.put 1 rfl 1 (.int .i64 xw0_1)
          replace c := c.setCell (p := ⟨w55.heap.size, 2, none⟩) (S.base_le 1 rfl) (.slice Aw0_2 nw0_2 cw0_2)
          replace S := S.put 1 rfl 2 (.slice Aw0_2 nw0_2 cw0_2)
          clear HF
          have HF : (((w57.setCell ⟨w55.heap.size, 0, none⟩ (.int .i64 xw0_0)).setCell ⟨w55.heap.size, 1, none⟩ (.int .i64 xw0_1)).setCell ⟨w55.heap.size, 2, none⟩ (.slice Aw0_2 nw0_2 cw0_2)).cell? ⟨w.heap.size, 0, none⟩ = some (.int .i64 xa0_0) ∧ (((w57.setCell ⟨w55.heap.size, 0, none⟩ (.int .i64 xw0_0)).setCell ⟨w55.heap.size, 1, none⟩ (.int .i64 xw0_1)).setCell ⟨w55.heap.size, 2, none⟩ (.slice Aw0_2 nw0_2 cw0_2)).cell? ⟨w.heap.size, 1, none⟩ = some (.int .i64 xa0_1) ∧ (((w57.setCell ⟨w55.heap.size, 0, none⟩ (.int .i64 xw0_0)).setCell ⟨w55.heap.size, 1, none⟩ (.int .i64 xw0_1)).setCell ⟨w55.heap.size, 2, none⟩ (.slice Aw0_2 nw0_2 cw0_2)).cell? ⟨w.heap.size, 2, none⟩ = some (.slice Aa0_2 na0_2 ca0_2) ∧ (((w57.setCell ⟨w55.heap.size, 0, none⟩ (.int .i64 xw0_0)).setCell ⟨w55.heap.size, 1, none⟩ (.int .i64 xw0_1)).setCell ⟨w55.heap.size, 2, none⟩ (.slice Aw0_2 nw0_2 cw0_2)).cell? ⟨w.heap.size + 1, 0, none⟩ = some (.int .i64 xa1_0) ∧ (((w57.setCell ⟨w55.heap.size, 0, none⟩ (.int .i64 xw0_0)).setCell ⟨w55.heap.size, 1, none⟩ (.int .i64 xw0_1)).setCell ⟨w55.heap.size, 2, none⟩ (.slice Aw0_2 nw0_2 cw0_2)).cell? ⟨w.heap.size + 1, 1, none⟩ = some (.int .i64 xa1_1) ∧ (((w57.setCell ⟨w55.heap.size, 0, none⟩ (.int .i64 xw0_0)).setCell ⟨w55.heap.size, 1, none⟩ (.int .i64 xw0_1)).setCell ⟨w55.heap.size, 2, none⟩ (.slice Aw0_2 nw0_2 cw0_2)).cell? ⟨w.heap.size + 1, 2, none⟩ = some (.int .i64 xa1_2) ∧ (((w57.setCell ⟨w55.heap.size, 0, none⟩ (.int .i64 xw0_0)).setCell ⟨w55.heap.size, 1, none⟩ (.int .i64 xw0_1)).setCell ⟨w55.heap.size, 2, none⟩ (.slice Aw0_2 nw0_2 cw0_2)).cell? ⟨w.heap.size + 1, 3, none⟩ = some (.int .i64 xa1_3) ∧ (((w57.setCell ⟨w55.heap.size, 0, none⟩ (.int .i64 xw0_0)).setCell ⟨w55.heap.size, 1, none⟩ (.int .i64 xw0_1)).setCell ⟨w55.heap.size, 2, none⟩ (.slice Aw0_2 nw0_2 cw0_2)).cell? ⟨w.heap.size + 1, 4, none⟩ = some (.int .i64 xa1_4) ∧ (((w57.setCell ⟨w55.heap.size, 0, none⟩ (.int .i64 xw0_0)).setCell ⟨w55.heap.size, 1, none⟩ (.int .i64 xw0_1)).setCell ⟨w55.heap.size, 2, none⟩ (.slice Aw0_2 nw0_2 cw0_2)).cell? ⟨w.heap.size + 1, 5, none⟩ = some (.int .i64 xa1_5) ∧ (((w57.setCell ⟨w55.heap.size, 0, none⟩ (.int .i64 xw0_0)).setCell ⟨w55.heap.size, 1, none⟩ (.int .i64 xw0_1)).setCell ⟨w55.heap.size, 2, none⟩ (.slice Aw0_2 nw0_2 cw0_2)).cell? ⟨w.heap.size + 1, 6, none⟩ = some (.int .i64 xa1_6) ∧ (((w57.setCell ⟨w55.heap.size, 0, none⟩ (.int .i64 xw0_0)).setCell ⟨w55.heap.size, 1, none⟩ (.int .i64 xw0_1)).setCell ⟨w55.heap.size, 2, none⟩ (.slice Aw0_2 nw0_2 cw0_2)).cell? ⟨w.heap.size + 1, 7, none⟩ = some (.int .i64 xa1_7) ∧ (((w57.setCell ⟨w55.heap.size, 0, none⟩ (.int .i64 xw0_0)).setCell ⟨w55.heap.size, 1, none⟩ (.int .i64 xw0_1)).setCell ⟨w55.heap.size, 2, none⟩ (.slice Aw0_2 nw0_2 cw0_2)).cell? ⟨w.heap.size + 1, 8, none⟩ = some (.int .i64 xa1_8) := ⟨(S.at_ 4 rfl).cell 0, (S.at_ 4 rfl).cell 1, (S.at_ 4 rfl).cell 2, (S.at_ 3 rfl).cell 0, (S.at_ 3 rfl).cell 1, (S.at_ 3 rfl).cell 2, (S.at_ 3 rfl).cell 3, (S.at_ 3 rfl).cell 4, (S.at_ 3 rfl).cell 5, (S.at_ 3 rfl).cell 6, (S.at_ 3 rfl).cell 7, (S.at_ 3 rfl).cell 8⟩
          refine hK _ _ (fun _ => HF) ?_
          clear hK K
          try simp only [Act.put]
          generalize ((w57.setCell ⟨w55.heap.size, 0, none⟩ (.int .i64 xw0_0)).setCell ⟨w55.heap.size, 1, none⟩ (.int .i64 xw0_1)).setCell ⟨w55.heap.size, 2, none⟩ (.slice Aw0_2 nw0_2 cw0_2) = w58 at *
          clear f0 f1 f2 f3 f4 f5
          refine wpAnyL_step (i := 10) (by kernel_rfl) rfl rfl ?_
          intro K hK
          go_simp
          refine hK _ _ (fun h => nomatch (show true = false from h)) ?_
          clear hK K
          try simp only [Act.put]
          refine wpAnyL_done (by kernel_rfl) ?_ _
          replace S := S.pick 0 rfl
          replace S := S.pick 1 rfl
          replace S := S.sub (.cons_cons _ (.cons_cons _ (.cons _ (.cons_cons _ (.cons_cons _ (List.nil_sublist _))))))
          go_wp2_with fail
          go_meet
          exact ⟨_, _, _, _, _, _, _, rfl, rfl, S, c⟩
      · intro K hK
        go_simp
        replace S := S.boxAt c.size (w54.heap.size) rfl #[.int .i64 0, .int .i64 0, .slice none 0 0] 29
        replace c := c.alloc c.size (.cells #[.int .i64 0, .int .i64 0, .slice none 0 0] 29)
        clear HF
        have HF : (w54.alloc (.cells #[.int .i64 0, .int .i64 0, .slice none 0 0] 29)).cell? ⟨w.heap.size, 0, none⟩ = some (.int .i64 xa0_0) ∧ (w54.alloc (.cells #[.int .i64 0, .int .i64 0, .slice none 0 0] 29)).cell? ⟨w.heap.size, 1, none⟩ = some (.int .i64 xa0_1) ∧ (w54.alloc (.cells #[.int .i64 0, .int .i64 0, .slice none 0 0] 29)).cell? ⟨w.heap.size, 2, none⟩ = some (.slice Aa0_2 na0_2 ca0_2) ∧ (w54.alloc (.cells #[.int .i64 0, .int .i64 0, .slice none 0 0] 29)).cell? ⟨w.heap.size + 1, 0, none⟩ = some (.int .i64 xa1_0) ∧ (w54.alloc (.cells #[.int .i64 0, .int .i64 0, .slice none 0 0] 29)).cell? ⟨w.heap.size + 1, 1, none⟩ = some (.int .i64 xa1_1) ∧ (w54.alloc (.cells #[.int .i64 0, .int .i64 0, .slice none 0 0] 29)).cell? ⟨w.heap.size + 1, 2, none⟩ = some (.int .i64 xa1_2) ∧ (w54.alloc (.cells #[.int .i64 0, .int .i64 0, .slice none 0 0] 29)).cell? ⟨w.heap.size + 1, 3, none⟩ = some (.int .i64 xa1_3) ∧ (w54.alloc (.cells #[.int .i64 0, .int .i64 0, .slice none 0 0] 29)).cell? ⟨w.heap.size + 1, 4, none⟩ = some (.int .i64 xa1_4) ∧ (w54.alloc (.cells #[.int .i64 0, .int .i64 0, .slice none 0 0] 29)).cell? ⟨w.heap.size + 1, 5, none⟩ = some (.int .i64 xa1_5) ∧ (w54.alloc (.cells #[.int .i64 0, .int .i64 0, .slice none 0 0] 29)).cell? ⟨w.heap.size + 1, 6, none⟩ = some (.int .i64 xa1_6) ∧ (w54.alloc (.cells #[.int .i64 0, .int .i64 0, .slice none 0 0] 29)).cell? ⟨w.heap.size + 1, 7, none⟩ = some (.int .i64 xa1_7) ∧ (w54.alloc (.cells #[.int .i64 0, .int .i64 0, .slice none 0 0] 29)).cell? ⟨w.heap.size + 1, 8, none⟩ = some (.int .i64 xa1_8) := ⟨(S.at_ 3 rfl).cell 0, (S.at_ 3 rfl).cell 1, (S.at_ 3 rfl).cell 2, (S.at_ 2 rfl).cell 0, (S.at_ 2 rfl).cell 1, (S.at_ 2 rfl).cell 2, (S.at_ 2 rfl).cell 3, (S.at_ 2 rfl).cell 4, (S.at_ 2 rfl).cell 5, (S.at_ 2 rfl).cell 6, (S.at_ 2 rfl).cell 7, (S.at_ 2 rfl).cell 8⟩
        refine hK _ _ (fun _ => HF) ?_
        clear hK K
        try simp only [Act.put]
        generalize hw : w54.alloc (.cells #[.int .i64 0, .int .i64 0, .slice none 0 0] 29) = w55 at *
        clear hw
        refine wpAnyL_step (i := 3) (by kernel_rfl) rfl rfl ?_
        intro K hK
        go_simp
        refine (toEntry_any _ _ _ _ _ _ _ _ _ _).mono ?_
        rintro e w56 ⟨rfl, b⟩
        replace c := c.trans (b.mono c.size)
        replace S := S.keep b
        clear b
        clear HF
        have HF : w56.cell? ⟨w.heap.size, 0, none⟩ = some (.int .i64 xa0_0) ∧ w56.cell? ⟨w.heap.size, 1, none⟩ = some (.int .i64 xa0_1) ∧ w56.cell? ⟨w.heap.size, 2, none⟩ = some (.slice Aa0_2 na0_2 ca0_2) ∧ w56.cell? ⟨w.heap.size + 1, 0, none⟩ = some (.int .i64 xa1_0) ∧ w56.cell? ⟨w.heap.size + 1, 1, none⟩ = some (.int .i64 xa1_1) ∧ w56.cell? ⟨w.heap.size + 1, 2, none⟩ = some (.int .i64 xa1_2) ∧ w56.cell? ⟨w.heap.size + 1, 3, none⟩ = some (.int .i64 xa1_3) ∧ w56.cell? ⟨w.heap.size + 1, 4, none⟩ = some (.int .i64 xa1_4) ∧ w56.cell? ⟨w.heap.size + 1, 5, none⟩ = some (.int .i64 xa1_5) ∧ w56.cell? ⟨w.heap.size + 1, 6, none⟩ = some (.int .i64 xa1_6) ∧ w56.cell? ⟨w.heap.size + 1, 7, none⟩ = some (.int .i64 xa1_7) ∧ w56.cell? ⟨w.heap.size + 1, 8, none⟩ = some (.int .i64 xa1_8) := ⟨(S.at_ 3 rfl).cell 0, (S.at_ 3 rfl).cell 1, (S.at_ 3 rfl).cell 2, (S.at_ 2 rfl).cell 0, (S.at_ 2 rfl).cell 1, (S.at_ 2 rfl).cell 2, (S.at_ 2 rfl).cell 3, (S.at_ 2 rfl).cell 4, (S.at_ 2 rfl).cell 5, (S.at_ 2 rfl).cell 6, (S.at_ 2 rfl).cell 7, (S.at_ 2 rfl).cell 8⟩
        refine hK _ _ (fun _ => HF) ?_
        clear hK K
        try simp only [Act.put]
        refine wpAnyL_step (i := 4) (by kernel_rfl) rfl rfl ?_
        intro K hK
        go_simp
        refine (SP.out _ _ _ _ _ d0 _ _ _ _ _ _ _ _ _ _ ((S.own_ 1 rfl).rd) hz0).mono ?_
        rintro e w57 ⟨xw0_0, xw0_1, Aw0_2, nw0_2, cw0_2, rfl, o, b⟩
        obtain ⟨fp_Ow0, S'⟩ := S.has b o c.size
        replace c := c.trans (b.mono c.size)
        clear S; have S := S'; clear S' o b
        clear HF
        have HF : w57.cell? ⟨w.heap.size, 0, none⟩ = some (.int .i64 xa0_0) ∧ w57.cell? ⟨w.heap.size, 1, none⟩ = some (.int .i64 xa0_1) ∧ w57.cell? ⟨w.heap.size, 2, none⟩ = some (.slice Aa0_2 na0_2 ca0_2) ∧ w57.cell? ⟨w.heap.size + 1, 0, none⟩ = some (.int .i64 xa1_0) ∧ w57.cell? ⟨w.heap.size + 1, 1, none⟩ = some (.int .i64 xa1_1) ∧ w57.cell? ⟨w.heap.size + 1, 2, none⟩ = some (.int .i64 xa1_2) ∧ w57.cell? ⟨w.heap.size + 1, 3, none⟩ = some (.int .i64 xa1_3) ∧ w57.cell? ⟨w.heap.size + 1, 4, none⟩ = some (.int .i64 xa1_4) ∧ w57.cell? ⟨w.heap.size + 1, 5, none⟩ = some (.int .i64 xa1_5) ∧ w57.cell? ⟨w.heap.size + 1, 6, none⟩ = some (.int .i64 xa1_6) ∧ w57.cell? ⟨w.heap.size + 1, 7, none⟩ = some (.int .i64 xa1_7) ∧ w57.cell? ⟨w.heap.size + 1, 8, none⟩ = some (.int .i64 xa1_8) := ⟨(S.at_ 4 rfl).cell 0, (S.at_ 4 rfl).cell 1, (S.at_ 4 rfl).cell 2, (S.at_ 3 rfl).cell 0, (S.at_ 3 rfl).cell 1, (S.at_ 3 rfl).cell 2, (S.at_ 3 rfl).cell 3, (S.at_ 3 rfl).cell 4, (S.at_ 3 rfl).cell 5, (S.at_ 3 rfl).cell 6, (S.at_ 3 rfl).cell 7, (S.at_ 3 rfl).cell 8⟩
        refine hK _ _ (fun _ => HF) ?_
        clear hK K
        try simp only [Act.put]
        refine wpAnyL_pure (i := 5) (v := ?_) rfl rfl (by kernel_rfl) (by kernel_rfl) (by kernel_rfl) (fun _ _ _ h => h) HF (Or.inl ⟨by rfl, ?_⟩) ?_
        rotate_left 1
        · (intro v _; go_simp; try with_reducible rfl)
        try simp only [Act.put]
        refine wpAnyL_pure (i := 6) (v := ?_) rfl rfl (by kernel_rfl) (by kernel_rfl) (by kernel_rfl) (fun _ _ _ h => h) HF (Or.inl ⟨by rfl, ?_⟩) ?_
        rotate_left 1
        · (intro v _; go_simp; try with_reducible rfl)
        try simp only [Act.put]
        refine wpAnyL_pure (i := 7) (v := ?_) rfl rfl (by kernel_rfl) (by kernel_rfl) (by kernel_rfl) (fun _ _ _ h => h) HF (Or.inl ⟨by rfl, ?_⟩) ?_
        rotate_left 1
        · (intro v _; go_simp; try with_reducible rfl)
        try simp only [Act.put]
        have f0 : w57.cell? ⟨w54.heap.size, 0, none⟩ = some (.int .i64 0) := (S.at_ 1 rfl).cell 0
        have f1 := (S.at_ 1 rfl).free 0
        have f2 : w57.cell? ⟨w54.heap.size, 1, none⟩ = some (.int .i64 0) := (S.at_ 1 rfl).cell 1
        have f3 := (S.at_ 1 rfl).free 1
        have f4 : w57.cell? ⟨w54.heap.size, 2, none⟩ = some (.slice none 0 0) := (S.at_ 1 rfl).cell 2
        have f5 := (S.at_ 1 rfl).free 2
        refine wpAnyL_step (i := 9) (by kernel_rfl) rfl rfl ?_
        intro K hK
        go_simp
        replace c := c.setCell (p := ⟨w54.heap.size, 0, none⟩) (S.base_le 1 rfl) (.int .i64 xw0_0)
        replace S := S.put 1 rfl 0 (.int .i64 xw0_0)
        replace c := c.setCell (p := ⟨w54.heap.size, 1, none⟩) (S.base_le 1 rfl) (.int .i64 xw0_1)
        replace S := S.put 1 rfl 1 (.int .i64 xw0_1)
        replace c := c.setCell (p := ⟨w54.heap.size, 2, none⟩) (S.base_le 1 rfl) (.slice Aw0_2 nw0_2 cw0_2)
        replace S := S.put 1 rfl 2 (.slice Aw0_2 nw0_2 cw0_2)
        clear HF
        have HF : (((w57.setCell ⟨w54.heap.size, 0, none⟩ (.int .i64 xw0_0)).setCell ⟨w54.heap.size, 1, none⟩ (.int .i64 xw0_1)).setCell ⟨w54.heap.size, 2, none⟩ (.slice Aw0_2 nw0_2 cw0_2)).cell? ⟨w.heap.size, 0, none⟩ = some (.int .i64 xa0_0) ∧ (((w57.setCell ⟨w54.heap.size, 0, none⟩ (.int .i64 xw0_0)).setCell ⟨w54.heap.size, 1, none⟩ (.int .i64 xw0_1)).setCell ⟨w54.heap.size, 2, none⟩ (.slice Aw0_2 nw0_2 cw0_2)).cell? ⟨w.heap.size, 1, none⟩ = some (.int .i64 xa0_1) ∧ (((w57.setCell ⟨w54.heap.size, 0, none⟩ (.int .i64 xw0_0)).setCell ⟨w54.heap.size, 1, none⟩ (.int .i64 xw0_1)).setCell ⟨w54.heap.size, 2, none⟩ (.slice Aw0_2 nw0_2 cw0_2)).cell? ⟨w.heap.size, 2, none⟩ = some (.slice Aa0_2 na0_2 ca0_2) ∧ (((w57.setCell ⟨w54.heap.size, 0, none⟩ (.int .i64 xw0_0)).setCell ⟨w54.heap.size, 1, none⟩ (.int .i64 xw0_1)).setCell ⟨w54.heap.size, 2, none⟩ (.slice Aw0_2 nw0_2 cw0_2)).cell? ⟨w.heap.size + 1, 0, none⟩ = some (.int .i64 xa1_0) ∧ (((w57.setCell ⟨w54.heap.size, 0, none⟩ (.int .i64 xw0_0)).setCell ⟨w54.heap.size, 1, none⟩ (.int .i64 xw0_1)).setCell ⟨w54.heap.size, 2, none⟩ (.slice Aw0_2 nw0_2 cw0_2)).cell? ⟨w.heap.size + 1, 1, none⟩ = some (.int .i64 xa1_1) ∧ (((w57.setCell ⟨w54.heap.size, 0, none⟩ (.int .i64 xw0_0)).setCell ⟨w54.heap.size, 1, none⟩ (.int .i64 xw0_1)).setCell ⟨w54.heap.size, 2, none⟩ (.slice Aw0_2 nw0_2 cw0_2)).cell? ⟨w.heap.size + 1, 2, none⟩ = some (.int .i64 xa1_2) ∧ (((w57.setCell ⟨w54.heap.size, 0, none⟩ (.int .i64 xw0_0)).setCell ⟨w54.heap.size, 1, none⟩ (.int .i64 xw0_1)).setCell ⟨w54.heap.size, 2, none⟩ (.slice Aw0_2 nw0_2 cw0_2)).cell? ⟨w.heap.size + 1, 3, none⟩ = some (.int .i64 xa1_3) ∧ (((w57.setCell ⟨w54.heap.size, 0, none⟩ (.int .i64 xw0_0)).setCell ⟨w54.heap.size, 1, none⟩ (.int .i64 xw0_1)).setCell ⟨w54.heap.size, 2, none⟩ (.slice Aw0_2 nw0_2 cw0_2)).cell? ⟨w.heap.size + 1, 4, none⟩ = some (.int .i64 xa1_4) ∧ (((w57.setCell ⟨w54.heap.size, 0, none⟩ (.int .i64 xw0_0)).setCell ⟨w54.heap.size, 1, none⟩ (.int .i64 xw0_1)).setCell ⟨w54.heap.size, 2, none⟩ (.slice Aw0_2 nw0_2 cw0_2)).cell? ⟨w.heap.size + 1, 5, none⟩ = some (.int .i64 xa1_5) ∧ (((w57.setCell ⟨w54.heap.size, 0, none⟩ (.int .i64 xw0_0)).setCell ⟨w54.heap.size, 1, none⟩ (.int .i64 xw0_1)).setCell ⟨w54.heap.size, 2, none⟩ (.slice Aw0_2 nw0_2 cw0_2)).cell? ⟨w.heap.size + 1, 6, none⟩ = some (.int .i64 xa1_6) ∧ (((w57.setCell ⟨w54.heap.size, 0, none⟩ (.int .i64 xw0_0)).setCell ⟨w54.heap.size, 1, none⟩ (.int .i64 xw0_1)).setCell ⟨w54.heap.size, 2, none⟩ (.slice Aw0_2 nw0_2 cw0_2)).cell? ⟨w.heap.size + 1, 7, none⟩ = some (.int .i64 xa1_7) ∧ (((w57.setCell ⟨w54.heap.size, 0, none⟩ (.int .i64 xw0_0)).setCell ⟨w54.heap.size, 1, none⟩ (.int .i64 xw0_1)).setCell ⟨w54.heap.size, 2, none⟩ (.slice Aw0_2 nw0_2 cw0_2)).cell? ⟨w.heap.size + 1, 8, none⟩ = some (.int .i64 xa1_8) := ⟨(S.at_ 4 rfl).cell 0, (S.at_ 4 rfl).cell 1, (S.at_ 4 rfl).cell 2, (S.at_ 3 rfl).cell 0, (S.at_ 3 rfl).cell 1, (S.at_ 3 rfl).cell 2, (S.at_ 3 rfl).cell 3, (S.at_ 3 rfl).cell 4, (S.at_ 3 rfl).cell 5, (S.at_ 3 rfl).cell 6, (S.at_ 3 rfl).cell 7, (S.at_ 3 rfl).cell 8⟩
        refine hK _ _ (fun _ => HF) ?_
        clear hK K
        try simp only [Act.put]
        generalize ((w57.setCell ⟨w54.heap.size, 0, none⟩ (.int .i64 xw0_0)).setCell ⟨w54.heap.size, 1, none⟩ (.int .i64 xw0_1)).setCell ⟨w54.heap.size, 2, none⟩ (.slice Aw0_2 nw0_2 cw0_2) = w58 at *
        clear f0 f1 f2 f3 f4 f5
        refine wpAnyL_step (i := 10) (by kernel_rfl) rfl rfl ?_
        intro K hK
        go_simp
        refine hK _ _ (fun h => nomatch (show true = false from h)) ?_
        clear hK K
        try simp only [Act.put]
        refine wpAnyL_done (by kernel_rfl) ?_ _
        replace S := S.pick 0 rfl
        replace S := S.pick 1 rfl
        replace S := S.sub (.cons_cons _ (.cons_cons _ (.cons _ (.cons_cons _ (.cons_cons _ (List.nil_sublist _))))))
        go_wp2_with fail
        go_meet
        exact ⟨_, _, _, _, _, _, _, rfl, rfl, S, c⟩
    · intro K hK
      go_simp
      replace S := S.boxAt c.size (w53.heap.size) rfl #[.int .i64 0, .int .i64 0, .slice none 0 0] 29
      replace c := c.alloc c.size (.cells #[.int .i64 0, .int .i64 0, .slice none 0 0] 29)
      clear HF
      have HF : (w53.alloc (.cells #[.int .i64 0, .int .i64 0, .slice none 0 0] 29)).cell? ⟨w.heap.size, 0, none⟩ = some (.int .i64 xa0_0) ∧ (w53.alloc (.cells #[.int .i64 0, .int .i64 0, .slice none 0 0] 29)).cell? ⟨w.heap.size, 1, none⟩ = some (.int .i64 xa0_1) ∧ (w53.alloc (.cells #[.int .i64 0, .int .i64 0, .slice none 0 0] 29)).cell? ⟨w.heap.size, 2, none⟩ = some (.slice Aa0_2 na0_2 ca0_2) ∧ (w53.alloc (.cells #[.int .i64 0, .int .i64 0, .slice none 0 0] 29)).cell? ⟨w.heap.size + 1, 0, none⟩ = some (.int .i64 xa1_0) ∧ (w53.alloc (.cells #[.int .i64 0, .int .i64 0, .slice none 0 0] 29)).cell? ⟨w.heap.size + 1, 1, none⟩ = some (.int .i64 xa1_1) ∧ (w53.alloc (.cells #[.int .i64 0, .int .i64 0, .slice none 0 0] 29)).cell? ⟨w.heap.size + 1, 2, none⟩ = some (.int .i64 xa1_2) ∧ (w53.alloc (.cells #[.int .i64 0, .int .i64 0, .slice none 0 0] 29)).cell? ⟨w.heap.size + 1, 3, none⟩ = some (.int .i64 xa1_3) ∧ (w53.alloc (.cells #[.int .i64 0, .int .i64 0, .slice none 0 0] 29)).cell? ⟨w.heap.size + 1, 4, none⟩ = some (.int .i64 xa1_4) ∧ (w53.alloc (.cells #[.int .i64 0, .int .i64 0, .slice none 0 0] 29)).cell? ⟨w.heap.size + 1, 5, none⟩ = some (.int .i64 xa1_5) ∧ (w53.alloc (.cells #[.int .i64 0, .int .i64 0, .slice none 0 0] 29)).cell? ⟨w.heap.size + 1, 6, none⟩ = some (.int .i64 xa1_6) ∧ (w53.alloc (.cells #[.int .i64 0, .int .i64 0, .slice none 0 0] 29)).cell? ⟨w.heap.size + 1, 7, none⟩ = some (.int .i64 xa1_7) ∧ (w53.alloc (.cells #[.int .i64 0, .int .i64 0, .slice none 0 0] 29)).cell? ⟨w.heap.size + 1, 8, none⟩ = some (.int .i64 xa1_8) := ⟨(S.at_ 2 rfl).cell 0, (S.at_ 2 rfl).cell 1, (S.at_ 2 rfl).cell 2, (S.at_ 1 rfl).cell 0, (S.at_ 1 rfl).cell 1, (S.at_ 1 rfl).cell 2, (S.at_ 1 rfl).cell 3, (S.at_ 1 rfl).cell 4, (S.at_ 1 rfl).cell 5, (S.at_ 1 rfl).cell 6, (S.at_ 1 rfl).cell 7, (S.at_ 1 rfl).cell 8⟩
      refine hK _ _ (fun _ => HF) ?_
      clear hK K
      try simp only [Act.put]
      generalize hw : w53.alloc (.cells #[.int .i64 0, .int .i64 0, .slice none 0 0] 29) = w54 at *
      clear hw
      refine wpAnyL_step (i := 1) (by kernel_rfl) rfl rfl ?_
      intro K hK
      go_simp
      refine (toBook_made _ _ _ d0 _ ((h0.keep c).up c.size) hz0).mono ?_
      rintro e w55 ⟨xs0_0, xs0_1, As0_2, ns0_2, cs0_2, rfl, o, b⟩
      obtain ⟨fp_Os0, S'⟩ := S.has b o c.size
      replace c := c.trans (b.mono c.size)
      clear S; have S := S'; clear S' o b
      clear HF
      have HF : w55.cell? ⟨w.heap.size, 0, none⟩ = some (.int .i64 xa0_0) ∧ w55.cell? ⟨w.heap.size, 1, none⟩ = some (.int .i64 xa0_1) ∧ w55.cell? ⟨w.heap.size, 2, none⟩ = some (.slice Aa0_2 na0_2 ca0_2) ∧ w55.cell? ⟨w.heap.size + 1, 0, none⟩ = some (.int .i64 xa1_0) ∧ w55.cell? ⟨w.heap.size + 1, 1, none⟩ = some (.int .i64 xa1_1) ∧ w55.cell? ⟨w.heap.size + 1, 2, none⟩ = some (.int .i64 xa1_2) ∧ w55.cell? ⟨w.heap.size + 1, 3, none⟩ = some (.int .i64 xa1_3) ∧ w55.cell? ⟨w.heap.size + 1, 4, none⟩ = some (.int .i64 xa1_4) ∧ w55.cell? ⟨w.heap.size + 1, 5, none⟩ = some (.int .i64 xa1_5) ∧ w55.cell? ⟨w.heap.size + 1, 6, none⟩ = some (.int .i64 xa1_6) ∧ w55.cell? ⟨w.heap.size + 1, 7, none⟩ = some (.int .i64 xa1_7) ∧ w55.cell? ⟨w.heap.size + 1, 8, none⟩ = some (.int .i64 xa1_8) := ⟨(S.at_ 3 rfl).cell 0, (S.at_ 3 rfl).cell 1, (S.at_ 3 rfl).cell 2, (S.at_ 2 rfl).cell 0, (S.at_ 2 rfl).cell 1, (S.at_ 2 rfl).cell 2, (S.at_ 2 rfl).cell 3, (S.at_ 2 rfl).cell 4, (S.at_ 2 rfl).cell 5, (S.at_ 2 rfl).cell 6, (S.at_ 2 rfl).cell 7, (S.at_ 2 rfl).cell 8⟩
      refine hK _ _ (fun _ => HF) ?_
      clear hK K
      try simp only [Act.put]
      refine wpAnyL_step (i := 3) (by kernel_rfl) rfl rfl ?_
      intro K hK
      go_simp
      refine (toEntry_any _ _ _ _ _ _ _ _ _ _).mono ?_
      rintro e w56 ⟨rfl, b⟩
      replace c := c.trans (b.mono c.size)
      replace S := S.keep b
      clear b
      clear HF
      have HF : w56.cell? ⟨w.heap.size, 0, none⟩ = some (.int .i64 xa0_0) ∧ w56.cell? ⟨w.heap.size, 1, none⟩ = some (.int .i64 xa0_1) ∧ w56.cell? ⟨w.heap.size, 2, none⟩ = some (.slice Aa0_2 na0_2 ca0_2) ∧ w56.cell? ⟨w.heap.size + 1, 0, none⟩ = some (.int .i64 xa1_0) ∧ w56.cell? ⟨w.heap.size + 1, 1, none⟩ = some (.int .i64 xa1_1) ∧ w56.cell? ⟨w.heap.size + 1, 2, none⟩ = some (.int .i64 xa1_2) ∧ w56.cell? ⟨w.heap.size + 1, 3, none⟩ = some (.int .i64 xa1_3) ∧ w56.cell? ⟨w.heap.size + 1, 4, none⟩ = some (.int .i64 xa1_4) ∧ w56.cell? ⟨w.heap.size + 1, 5, none⟩ = some (.int .i64 xa1_5) ∧ w56.cell? ⟨w.heap.size + 1, 6, none⟩ = some (.int .i64 xa1_6) ∧ w56.cell? ⟨w.heap.size + 1, 7, none⟩ = some (.int .i64 xa1_7) ∧ w56.cell? ⟨w.heap.size + 1, 8, none⟩ = some (.int .i64 xa1_8) := ⟨(S.at_ 3 rfl).cell 0, (S.at_ 3 rfl).cell 1, (S.at_ 3 rfl).cell 2, (S.at_ 2 rfl).cell 0, (S.at_ 2 rfl).cell 1, (S.at_ 2 rfl).cell 2, (S.at_ 2 rfl).cell 3, (S.at_ 2 rfl).cell 4, (S.at_ 2 rfl).cell 5, (S.at_ 2 rfl).cell 6, (S.at_ 2 rfl).cell 7, (S.at_ 2 rfl).cell 8⟩
      refine hK _ _ (fun _ => HF) ?_
      clear hK K
      try simp only [Act.put]
      refine wpAnyL_step (i := 4) (by kernel_rfl) rfl rfl ?_
      intro K hK
      go_simp
      refine (SP.out _ _ _ _ _ d0 _ _ _ _ _ _ _ _ _ _ ((S.own_ 0 rfl).rd) hz0).mono ?_
      rintro e w57 ⟨xw0_0, xw0_1, Aw0_2, nw0_2, cw0_2, rfl, o, b⟩
      obtain ⟨fp_Ow0, S'⟩ := S.has b o c.size
      replace c := c.trans (b.mono c.size)
      clear S; have S := S'; clear S' o b
      clear HF
      have HF : w57.cell? ⟨w.heap.size, 0, none⟩ = some (.int .i64 xa0_0) ∧ w57.cell? ⟨w.heap.size, 1, none⟩ = some (.int .i64 xa0_1) ∧ w57.cell? ⟨w.heap.size, 2, none⟩ = some (.slice Aa0_2 na0_2 ca0_2) ∧ w57.cell? ⟨w.heap.size + 1, 0, none⟩ = some (.int .i64 xa1_0) ∧ w57.cell? ⟨w.heap.size + 1, 1, none⟩ = some (.int .i64 xa1_1) ∧ w57.cell? ⟨w.heap.size + 1, 2, none⟩ = some (.int .i64 xa1_2) ∧ w57.cell? ⟨w.heap.size + 1, 3, none⟩ = some (.int .i64 xa1_3) ∧ w57.cell? ⟨w.heap.size + 1, 4, none⟩ = some (.int .i64 xa1_4) ∧ w57.cell? ⟨w.heap.size + 1, 5, none⟩ = some (.int .i64 xa1_5) ∧ w57.cell? ⟨w.heap.size + 1, 6, none⟩ = some (.int .i64 xa1_6) ∧ w57.cell? ⟨w.heap.size + 1, 7, none⟩ = some (.int .i64 xa1_7) ∧ w57.cell? ⟨w.heap.size + 1, 8, none⟩ = some (.int .i64 xa1_8) := ⟨(S.at_ 4 rfl).cell 0, (S.at_ 4 rfl).cell 1, (S.at_ 4 rfl).cell 2, (S.at_ 3 rfl).cell 0, (S.at_ 3 rfl).cell 1, (S.at_ 3 rfl).cell 2, (S.at_ 3 rfl).cell 3, (S.at_ 3 rfl).cell 4, (S.at_ 3 rfl).cell 5, (S.at_ 3 rfl).cell 6, (S.at_ 3 rfl).cell 7, (S.at_ 3 rfl).cell 8⟩
      refine hK _ _ (fun _ => HF) ?_
      clear hK K
      try simp only [Act.put]
      refine wpAnyL_pure (i := 5) (v := ?_) rfl rfl (by kernel_rfl) (by kernel_rfl) (by kernel_rfl) (fun _ _ _ h => h) HF (Or.inl ⟨by rfl, ?_⟩) ?_
      rotate_left 1
      · (intro v _; go_simp; try with_reducible rfl)
      try simp only [Act.put]
      refine wpAnyL_pure (i := 6) (v := ?_) rfl rfl (by kernel_rfl) (by kernel_rfl) (by kernel_rfl) (fun _ _ _ h => h) HF (Or.inl ⟨by rfl, ?_⟩) ?_
      rotate_left 1
      · (intro v _; go_simp; try with_reducible rfl)
      try simp only [Act.put]
      refine wpAnyL_pure (i := 7) (v := ?_) rfl rfl (by kernel_rfl) (by kernel_rfl) (by kernel_rfl) (fun _ _ _ h => h) HF (Or.inl ⟨by rfl, ?_⟩) ?_
      rotate_left 1
      · (intro v _; go_simp; try with_reducible rfl)
      try simp only [Act.put]
      have f0 : w57.cell? ⟨w53.heap.size, 0, none⟩ = some (.int .i64 0) := (S.at_ 2 rfl).cell 0
      have f1 := (S.at_ 2 rfl).free 0
      have f2 : w57.cell? ⟨w53.heap.size, 1, none⟩ = some (.int .i64 0) := (S.at_ 2 rfl).cell 1
      have f3 := (S.at_ 2 rfl).free 1
      have f4 : w57.cell? ⟨w53.heap.size, 2, none⟩ = some (.slice none 0 0) := (S.at_ 2 rfl).cell 2
      have f5 := (S.at_ 2 rfl).free 2
      refine wpAnyL_step (i := 9) (by kernel_rfl) rfl rfl ?_
      intro K hK
      go_simp
      replace c := c.setCell (p := ⟨w53.heap.size, 0, none⟩) (S.base_le 2 rfl) (.int .i64 xw0_0)
      replace S := S.put 2 rfl 0 (.int .i64 xw0_0)
      replace c := c.setCell (p := ⟨w53.heap.size, 1, none⟩) (S.base_le 2 rfl) (.int .i64 xw0_1)
      replace S := S.put 2 rfl 1 (.int .i64 xw0_1)
      replace c := c.setCell (p := ⟨w53.heap.size, 2, none⟩) (S.base_le 2 rfl) (.slice Aw0_2 nw0_2 cw0_2)
      replace S := S.put 2 rfl 2 (.slice Aw0_2 nw0_2 cw0_2)
      clear HF
      have HF : (((w57.setCell ⟨w53.heap.size, 0, none⟩ (.int .i64 xw0_0)).setCell ⟨w53.heap.size, 1, none⟩ (.int .i64 xw0_1)).setCell ⟨w53.heap.size, 2, none⟩ (.slice Aw0_2 nw0_2 cw0_2)).cell? ⟨w.heap.size, 0, none⟩ = some (.int .i64 xa0_0) ∧ (((w57.setCell ⟨w53.heap.size, 0, none⟩ (.int .i64 xw0_0)).setCell ⟨w53.heap.size, 1, none⟩ (.int .i64 xw0_1)).setCell ⟨w53.heap.size, 2, none⟩ (.slice Aw0_2 nw0_2 cw0_2)).cell? ⟨w.heap.size, 1, none⟩ = some (.int .i64 xa0_1) ∧ (((w57.setCell ⟨w53.heap.size, 0, none⟩ (.int .i64 xw0_0)).setCell ⟨w53.heap.size, 1, none⟩ (.int .i64 xw0_1)).setCell ⟨w53.heap.size, 2, none⟩ (.slice Aw0_2 nw0_2 cw0_2)).cell? ⟨w.heap.size, 2, none⟩ = some (.slice Aa0_2 na0_2 ca0_2) ∧ (((w57.setCell ⟨w53.heap.size, 0, none⟩ (.int .i64 xw0_0)).setCell ⟨w53.heap.size, 1, none⟩ (.int .i64 xw0_1)).setCell ⟨w53.heap.size, 2, none⟩ (.slice Aw0_2 nw0_2 cw0_2)).cell? ⟨w.heap.size + 1, 0, none⟩ = some (.int .i64 xa1_0) ∧ (((w57.setCell ⟨w53.heap.size, 0, none⟩ (.int .i64 xw0_0)).setCell ⟨w53.heap.size, 1, none⟩ (.int .i64 xw0_1)).setCell ⟨w53.heap.size, 2, none⟩ (.slice Aw0_2 nw0_2 cw0_2)).cell? ⟨w.heap.size + 1, 1, none⟩ = some (.int .i64 xa1_1) ∧ (((w57.setCell ⟨w53.heap.size, 0, none⟩ (.int .i64 xw0_0)).setCell ⟨w53.heap.size, 1, none⟩ (.int .i64 xw0_1)).setCell ⟨w53.heap.size, 2, none⟩ (.slice Aw0_2 nw0_2 cw0_2)).cell? ⟨w.heap.size + 1, 2, none⟩ = some (.int .i64 xa1_2) ∧ (((w57.setCell ⟨w53.heap.size, 0, none⟩ (.int .i64 xw0_0)).setCell ⟨w53.heap.size, 1, none⟩ (.int .i64 xw0_1)).setCell ⟨w53.heap.size, 2, none⟩ (.slice Aw0_2 nw0_2 cw0_2)).cell? ⟨w.heap.size + 1, 3, none⟩ = some (.int .i64 xa1_3) ∧ (((w57.setCell ⟨w53.heap.size, 0, none⟩ (.int .i64 xw0_0)).setCell ⟨w53.heap.size, 1, none⟩ (.int .i64 xw0_1)).setCell ⟨w53.heap.size, 2, none⟩ (.slice Aw0_2 nw0_2 cw0_2)).cell? ⟨w.heap.size + 1, 4, none⟩ = some (.int .i64 xa1_4) ∧ (((w57.setCell ⟨w53.heap.size, 0, none⟩ (.int .i64 xw0_0)).setCell ⟨w53.heap.size, 1, none⟩ (.int .i64 xw0_1)).setCell ⟨w53.heap.size, 2, none⟩ (.slice Aw0_2 nw0_2 cw0_2)).cell? ⟨w.heap.size + 1, 5, none⟩ = some (.int .i64 xa1_5) ∧ (((w57.setCell ⟨w53.heap.size, 0, none⟩ (.int .i64 xw0_0)).setCell ⟨w53.heap.size, 1, none⟩ (.int .i64 xw0_1)).setCell ⟨w53.heap.size, 2, none⟩ (.slice Aw0_2 nw0_2 cw0_2)).cell? ⟨w.heap.size + 1, 6, none⟩ = some (.int .i64 xa1_6) ∧ (((w57.setCell ⟨w53.heap.size, 0, none⟩ (.int .i64 xw0_0)).setCell ⟨w53.heap.size, 1, none⟩ (.int .i64 xw0_1)).setCell ⟨w53.heap.size, 2, none⟩ (.slice Aw0_2 nw0_2 cw0_2)).cell? ⟨w.heap.size + 1, 7, none⟩ = some (.int .i64 xa1_7) ∧ (((w57.setCell ⟨w53.heap.size, 0, none⟩ (.int .i64 xw0_0)).setCell ⟨w53.heap.size, 1, none⟩ (.int .i64 xw0_1)).setCell ⟨w53.heap.size, 2, none⟩ (.slice Aw0_2 nw0_2 cw0_2)).cell? ⟨w.heap.size + 1, 8, none⟩ = some (.int .i64 xa1_8) := ⟨(S.at_ 4 rfl).cell 0, (S.at_ 4 rfl).cell 1, (S.at_ 4 rfl).cell 2, (S.at_ 3 rfl).cell 0, (S.at_ 3 rfl).cell 1, (S.at_ 3 rfl).cell 2, (S.at_ 3 rfl).cell 3, (S.at_ 3 rfl).cell 4, (S.at_ 3 rfl).cell 5, (S.at_ 3 rfl).cell 6, (S.at_ 3 rfl).cell 7, (S.at_ 3 rfl).cell 8⟩
      refine hK _ _ (fun _ => HF) ?_
      clear hK K
      try simp only [Act.put]
      generalize ((w57.setCell ⟨w53.heap.size, 0, none⟩ (.int .i64 xw0_0)).setCell ⟨w53.heap.size, 1, none⟩ (.int .i64 xw0_1)).setCell ⟨w53.heap.size, 2, none⟩ (.slice Aw0_2 nw0_2 cw0_2) = w58 at *
      clear f0 f1 f2 f3 f4 f5
      refine wpAnyL_step (i := 10) (by kernel_rfl) rfl rfl ?_
      intro K hK
      go_simp
      refine hK _ _ (fun h => nomatch (show true = false from h)) ?_
      clear hK K
      try simp only [Act.put]
      refine wpAnyL_done (by kernel_rfl) ?_ _
      replace S := S.pick 0 rfl
      replace S := S.pick 2 rfl
      replace S := S.sub (.cons_cons _ (.cons_cons _ (.cons _ (.cons_cons _ (.cons_cons _ (List.nil_sublist _))))))
      go_wp2_with fail
      go_meet
      exact ⟨_, _, _, _, _, _, _, rfl, rfl, S, c⟩
  obtain ⟨pw0, xw0_0, xw0_1, Aw0_2, nw0_2, cw0_2, fp_w0, rfl, rfl, S, c⟩ := hcut
  clear SH CH f0 f1 f2 f3 f4 f5 f6 f7 f8 f9 f10 f11
  generalize wc = w3 at *
  rw [← HFX0.out] at S
  rw [← HFX1.out]
  have f0 : (w3).cell? ⟨w.heap.size, 0, none⟩ = some (.int .i64 xa0_0) := (S.at_ 3 rfl).cell 0
  have f1 : (w3).cell? ⟨w.heap.size, 1, none⟩ = some (.int .i64 xa0_1) := (S.at_ 3 rfl).cell 1
  have f2 : (w3).cell? ⟨w.heap.size, 2, none⟩ = some (.slice Aa0_2 na0_2 ca0_2) := (S.at_ 3 rfl).cell 2
  go_wp2_with fail
  refine (toBook_made _ _ _ d0 _ ((h0.keep c).up c.size) hz0).mono ?_
  rintro e w4 ⟨xx0_0, xx0_1, Ax0_2, nx0_2, cx0_2, rfl, o, b⟩
  obtain ⟨fp_x0, S'⟩ := S.has b o c.size
  replace c := c.trans (b.mono c.size)
  clear S; have S := S'; clear S' o b f0 f1 f2
  replace S := S.box c.size #[.int .i64 xx0_0, .int .i64 xx0_1, .slice Ax0_2 nx0_2 cx0_2] 29
  replace c := c.alloc c.size (.cells #[.int .i64 xx0_0, .int .i64 xx0_1, .slice Ax0_2 nx0_2 cx0_2] 29)
  go_wp2_with fail
  generalize w4.alloc (.cells #[.int .i64 xx0_0, .int .i64 xx0_1, .slice Ax0_2 nx0_2 cx0_2] 29) = w5 at *
  have SH := Lib.hid S
  have CH := Lib.hid c
  clear S c
  go_cut [9, 10] (fun s0 s1 wx => ∃ (pg0 : Nat) (xg0_0 : Int) (xg0_1 : Int) (Ag0_2 : Option Addr) (ng0_2 cg0_2 : Nat) (fp_g0 : List Nat), s0 = .pointer (some ⟨pg0, 0, none⟩) ∧ s1 = .bool ((f d0 ⟨xa1_0, xa1_1, xa1_2, xa1_3, xa1_4, xa1_5, xa1_6, xa1_7, xa1_8⟩).2) ∧ Sep wx w.heap.size [.blk pg0 #[.int .i64 xg0_0, .int .i64 xg0_1, .slice Ag0_2 ng0_2 cg0_2] 29, .own (((f d0 ⟨xa1_0, xa1_1, xa1_2, xa1_3, xa1_4, xa1_5, xa1_6, xa1_7, xa1_8⟩).1).cells) [.int .i64 xg0_0, .int .i64 xg0_1, .slice Ag0_2 ng0_2 cg0_2] fp_g0, .blk (w4.heap.size) #[.int .i64 xx0_0, .int .i64 xx0_1, .slice Ax0_2 nx0_2 cx0_2] 29, .own (d0.cells) [.int .i64 xx0_0, .int .i64 xx0_1, .slice Ax0_2 nx0_2 cx0_2] fp_x0, .blk (pw0) #[.int .i64 xw0_0, .int .i64 xw0_1, .slice Aw0_2 nw0_2 cw0_2] 29, .own (fx0.cells) [.int .i64 xw0_0, .int .i64 xw0_1, .slice Aw0_2 nw0_2 cw0_2] fp_w0, .blk (w.heap.size + 1) #[.int .i64 xa1_0, .int .i64 xa1_1, .int .i64 xa1_2, .int .i64 xa1_3, .int .i64 xa1_4, .int .i64 xa1_5, .int .i64 xa1_6, .int .i64 xa1_7, .int .i64 xa1_8] 44, .blk (w.heap.size) #[.int .i64 xa0_0, .int .i64 xa0_1, .slice Aa0_2 na0_2 ca0_2] 24] ∧ Below w.heap.size w wx)
  case first =>
    have S := SH.out
    have c := CH.out
    refine wp_region_L (fun v => v.cell? ⟨w4.heap.size, 0, none⟩ = some (.int .i64 xx0_0) ∧ v.cell? ⟨w4.heap.size, 1, none⟩ = some (.int .i64 xx0_1) ∧ v.cell? ⟨w4.heap.size, 2, none⟩ = some (.slice Ax0_2 nx0_2 cx0_2) ∧ v.cell? ⟨w.heap.size + 1, 0, none⟩ = some (.int .i64 xa1_0) ∧ v.cell? ⟨w.heap.size + 1, 1, none⟩ = some (.int .i64 xa1_1) ∧ v.cell? ⟨w.heap.size + 1, 2, none⟩ = some (.int .i64 xa1_2) ∧ v.cell? ⟨w.heap.size + 1, 3, none⟩ = some (.int .i64 xa1_3) ∧ v.cell? ⟨w.heap.size + 1, 4, none⟩ = some (.int .i64 xa1_4) ∧ v.cell? ⟨w.heap.size + 1, 5, none⟩ = some (.int .i64 xa1_5) ∧ v.cell? ⟨w.heap.size + 1, 6, none⟩ = some (.int .i64 xa1_6) ∧ v.cell? ⟨w.heap.size + 1, 7, none⟩ = some (.int .i64 xa1_7) ∧ v.cell? ⟨w.heap.size + 1, 8, none⟩ = some (.int .i64 xa1_8)) 9 (by kernel_rfl) ?_
    clear SH CH
    replace S := S.keep ((Below.refl _ _).drew)
    replace c := c.drew
    generalize w5.drew = w56 at *
    have HF : w56.cell? ⟨w4.heap.size, 0, none⟩ = some (.int .i64 xx0_0) ∧ w56.cell? ⟨w4.heap.size, 1, none⟩ = some (.int .i64 xx0_1) ∧ w56.cell? ⟨w4.heap.size, 2, none⟩ = some (.slice Ax0_2 nx0_2 cx0_2) ∧ w56.cell? ⟨w.heap.size + 1, 0, none⟩ = some (.int .i64 xa1_0) ∧ w56.cell? ⟨w.heap.size + 1, 1, none⟩ = some (.int .i64 xa1_1) ∧ w56.cell? ⟨w.heap.size + 1, 2, none⟩ = some (.int .i64 xa1_2) ∧ w56.cell? ⟨w.heap.size + 1, 3, none⟩ = some (.int .i64 xa1_3) ∧ w56.cell? ⟨w.heap.size + 1, 4, none⟩ = some (.int .i64 xa1_4) ∧ w56.cell? ⟨w.heap.size + 1, 5, none⟩ = some (.int .i64 xa1_5) ∧ w56.cell? ⟨w.heap.size + 1, 6, none⟩ = some (.int .i64 xa1_6) ∧ w56.cell? ⟨w.heap.size + 1, 7, none⟩ = some (.int .i64 xa1_7) ∧ w56.cell? ⟨w.heap.size + 1, 8, none⟩ = some (.int .i64 xa1_8) := ⟨(S.at_ 0 rfl).cell 0, (S.at_ 0 rfl).cell 1, (S.at_ 0 rfl).cell 2, (S.at_ 4 rfl).cell 0, (S.at_ 4 rfl).cell 1, (S.at_ 4 rfl).cell 2, (S.at_ 4 rfl).cell 3, (S.at_ 4 rfl).cell 4, (S.at_ 4 rfl).cell 5, (S.at_ 4 rfl).cell 6, (S.at_ 4 rfl).cell 7, (S.at_ 4 rfl).cell 8⟩
    refine wpAnyL_take (i := 0) (v := ?_) rfl rfl (by kernel_rfl) (by kernel_rfl) (by kernel_rfl) (by kernel_rfl) (by kernel_rfl) (fun _ _ _ h => h) HF (Or.inl ⟨by rfl, ?_⟩) ?_
    rotate_left 1
    · (rintro v ⟨a0, a1, a2, a3, a4, a5, a6, a7, a8, a9, a10, a11⟩; go_simp; try with_reducible rfl)
    try simp only [Act.put]
    refine wpAnyL_take (i := 1) (v := ?_) rfl rfl (by kernel_rfl) (by kernel_rfl) (by kernel_rfl) (by kernel_rfl) (by kernel_rfl) (fun _ _ _ h => h) HF (Or.inl ⟨by rfl, ?_⟩) ?_
    rotate_left 1
    · (rintro v ⟨a0, a1, a2, a3, a4, a5, a6, a7, a8, a9, a10, a11⟩; go_simp; try with_reducible rfl)
    try simp only [Act.put]
    refine wpAnyL_two (i := 2) (k := 7) (by kernel_rfl) rfl rfl rfl rfl ?_ ?_
    · intro K hK
      go_simp
      refine (toEntry_any _ _ _ _ _ _ _ _ _ _).mono ?_
      rintro e w57 ⟨rfl, b⟩
      replace c := c.trans (b.mono c.size)
      replace S := S.keep b
      clear b
      clear HF
      have HF : w57.cell? ⟨w4.heap.size, 0, none⟩ = some (.int .i64 xx0_0) ∧ w57.cell? ⟨w4.heap.size, 1, none⟩ = some (.int .i64 xx0_1) ∧ w57.cell? ⟨w4.heap.size, 2, none⟩ = some (.slice Ax0_2 nx0_2 cx0_2) ∧ w57.cell? ⟨w.heap.size + 1, 0, none⟩ = some (.int .i64 xa1_0) ∧ w57.cell? ⟨w.heap.size + 1, 1, none⟩ = some (.int .i64 xa1_1) ∧ w57.cell? ⟨w.heap.size + 1, 2, none⟩ = some (.int .i64 xa1_2) ∧ w57.cell? ⟨w.heap.size + 1, 3, none⟩ = some (.int .i64 xa1_3) ∧ w57.cell? ⟨w.heap.size + 1, 4, none⟩ = some (.int .i64 xa1_4) ∧ w57.cell? ⟨w.heap.size + 1, 5, none⟩ = some (.int .i64 xa1_5) ∧ w57.cell? ⟨w.heap.size + 1, 6, none⟩ = some (.int .i64 xa1_6) ∧ w57.cell? ⟨w.heap.size + 1, 7, none⟩ = some (.int .i64 xa1_7) ∧ w57.cell? ⟨w.heap.size + 1, 8, none⟩ = some (.int .i64 xa1_8) := ⟨(S.at_ 0 rfl).cell 0, (S.at_ 0 rfl).cell 1, (S.at_ 0 rfl).cell 2, (S.at_ 4 rfl).cell 0, (S.at_ 4 rfl).cell 1, (S.at_ 4 rfl).cell 2, (S.at_ 4 rfl).cell 3, (S.at_ 4 rfl).cell 4, (S.at_ 4 rfl).cell 5, (S.at_ 4 rfl).cell 6, (S.at_ 4 rfl).cell 7, (S.at_ 4 rfl).cell 8⟩
      refine hK _ _ (fun _ => HF) ?_
      clear hK K
      try simp only [Act.put]
      refine wpAnyL_two (i := 3) (k := 7) (by kernel_rfl) rfl rfl rfl rfl ?_ ?_
      · intro K hK
        go_simp
        refine (IM.out _ _ _ _ _ d0 _ _ _ _ _ _ _ _ _ _ ((S.own_ 1 rfl).rd) hz0).mono ?_
        rintro e w58 ⟨xg0_0, xg0_1, Ag0_2, ng0_2, cg0_2, rfl, o, b⟩
        obtain ⟨fp_Og0, S'⟩ := S.has b o c.size
        replace c := c.trans (b.mono c.size)
        clear S; have S := S'; clear S' o b
        clear HF
        have HF : w58.cell? ⟨w4.heap.size, 0, none⟩ = some (.int .i64 xx0_0) ∧ w58.cell? ⟨w4.heap.size, 1, none⟩ = some (.int .i64 xx0_1) ∧ w58.cell? ⟨w4.heap.size, 2, none⟩ = some (.slice Ax0_2 nx0_2 cx0_2) ∧ w58.cell? ⟨w.heap.size + 1, 0, none⟩ = some (.int .i64 xa1_0) ∧ w58.cell? ⟨w.heap.size + 1, 1, none⟩ = some (.int .i64 xa1_1) ∧ w58.cell? ⟨w.heap.size + 1, 2, none⟩ = some (.int .i64 xa1_2) ∧ w58.cell? ⟨w.heap.size + 1, 3, none⟩ = some (.int .i64 xa1_3) ∧ w58.cell? ⟨w.heap.size + 1, 4, none⟩ = some (.int .i64 xa1_4) ∧ w58.cell? ⟨w.heap.size + 1, 5, none⟩ = some (.int .i64 xa1_5) ∧ w58.cell? ⟨w.heap.size + 1, 6, none⟩ = some (.int .i64 xa1_6) ∧ w58.cell? ⟨w.heap.size + 1, 7, none⟩ = some (.int .i64 xa1_7) ∧ w58.cell? ⟨w.heap.size + 1, 8, none⟩ = some (.int .i64 xa1_8) := ⟨(S.at_ 1 rfl).cell 0, (S.at_ 1 rfl).cell 1, (S.at_ 1 rfl).cell 2, (S.at_ 5 rfl).cell 0, (S.at_ 5 rfl).cell 1, (S.at_ 5 rfl).cell 2, (S.at_ 5 rfl).cell 3, (S.at_ 5 rfl).cell 4, (S.at_ 5 rfl).cell 5, (S.at_ 5 rfl).cell 6, (S.at_ 5 rfl).cell 7, (S.at_ 5 rfl).cell 8⟩
        refine hK _ _ (fun _ => HF) ?_
        clear hK K
        try simp only [Act.put]
        refine wpAnyL_pure (i := 4) (v := ?_) rfl rfl (by kernel_rfl) (by kernel_rfl) (by kernel_rfl) (fun _ _ _ h => h) HF (Or.inl ⟨by rfl, ?_⟩) ?_
        rotate_left 1
        · (intro v _; go_simp; try with_reducible rfl)
        try simp only [Act.put]
        refine wpAnyL_pure (i := 5) (v := ?_) rfl rfl (by kernel_rfl) (by kernel_rfl) (by kernel_rfl) (fun _ _ _ h => h) HF (Or.inl ⟨by rfl, ?_⟩) ?_
        rotate_left 1
        · (intro v _; go_simp; try with_reducible rfl)
        try simp only [Act.put]
        refine wpAnyL_pure (i := 6) (v := ?_) rfl rfl (by kernel_rfl) (by kernel_rfl) (by kernel_rfl) (fun _ _ _ h => h) HF (Or.inl ⟨by rfl, ?_⟩) ?_
        rotate_left 1
        · (intro v _; go_simp; try with_reducible rfl)
        try simp only [Act.put]
        refine wpAnyL_step (i := 7) (by kernel_rfl) rfl rfl ?_
        intro K hK
        go_simp
        replace S := S.boxAt c.size (w58.heap.size) rfl #[.int .i64 0, .int .i64 0, .slice none 0 0] 29
        replace c := c.alloc c.size (.cells #[.int .i64 0, .int .i64 0, .slice none 0 0] 29)
        clear HF
        have HF : (w58.alloc (.cells #[.int .i64 0, .int .i64 0, .slice none 0 0] 29)).cell? ⟨w4.heap.size, 0, none⟩ = some (.int .i64 xx0_0) ∧ (w58.alloc (.cells #[.int .i64 0, .int .i64 0, .slice none 0 0] 29)).cell? ⟨w4.heap.size, 1, none⟩ = some (.int .i64 xx0_1) ∧ (w58.alloc (.cells #[.int .i64 0, .int .i64 0, .slice none 0 0] 29)).cell? ⟨w4.heap.size, 2, none⟩ = some (.slice Ax0_2 nx0_2 cx0_2) ∧ (w58.alloc (.cells #[.int .i64 0, .int .i64 0, .slice none 0 0] 29)).cell? ⟨w.heap.size + 1, 0, none⟩ = some (.int .i64 xa1_0) ∧ (w58.alloc (.cells #[.int .i64 0, .int .i64 0, .slice none 0 0] 29)).cell? ⟨w.heap.size + 1, 1, none⟩ = some (.int .i64 xa1_1) ∧ (w58.alloc (.cells #[.int .i64 0, .int .i64 0, .slice none 0 0] 29)).cell? ⟨w.heap.size + 1, 2, none⟩ = some (.int .i64 xa1_2) ∧ (w58.alloc (.cells #[.int .i64 0, .int .i64 0, .slice none 0 0] 29)).cell? ⟨w.heap.size + 1, 3, none⟩ = some (.int .i64 xa1_3) ∧ (w58.alloc (.cells #[.int .i64 0, .int .i64 0, .slice none 0 0] 29)).cell? ⟨w.heap.size + 1, 4, none⟩ = some (.int .i64 xa1_4) ∧ (w58.alloc (.cells #[.int .i64 0, .int .i64 0, .slice none 0 0] 29)).cell? ⟨w.heap.size + 1, 5, none⟩ = some (.int .i64 xa1_5) ∧ (w58.alloc (.cells #[.int .i64 0, .int .i64 0, .slice none 0 0] 29)).cell? ⟨w.heap.size + 1, 6, none⟩ = some (.int .i64 xa1_6) ∧ (w58.alloc (.cells #[.int .i64 0, .int .i64 0, .slice none 0 0] 29)).cell? ⟨w.heap.size + 1, 7, none⟩ = some (.int .i64 xa1_7) ∧ (w58.alloc (.cells #[.int .i64 0, .int .i64 0, .slice none 0 0] 29)).cell? ⟨w.heap.size + 1, 8, none⟩ = some (.int .i64 xa1_8) := ⟨(S.at_ 2 rfl).cell 0, (S.at_ 2 rfl).cell 1, (S.at_ 2 rfl).cell 2, (S.at_ 6 rfl).cell 0, (S.at_ 6 rfl).cell 1, (S.at_ 6 rfl).cell 2, (S.at_ 6 rfl).cell 3, (S.at_ 6 rfl).cell 4, (S.at_ 6 rfl).cell 5, (S.at_ 6 rfl).cell 6, (S.at_ 6 rfl).cell 7, (S.at_ 6 rfl).cell 8⟩
        refine hK _ _ (fun _ => HF) ?_
        clear hK K
        try simp only [Act.put]
        generalize hw : w58.alloc (.cells #[.int .i64 0, .int .i64 0, .slice none 0 0] 29) = w59 at *
        clear hw
        have f0 : w59.cell? ⟨w58.heap.size, 0, none⟩ = some (.int .i64 0) := (S.at_ 0 rfl).cell 0
        have f1 := (S.at_ 0 rfl).free 0
        have f2 : w59.cell? ⟨w58.heap.size, 1, none⟩ = some (.int .i64 0) := (S.at_ 0 rfl).cell 1
        have f3 := (S.at_ 0 rfl).free 1
        have f4 : w59.cell? ⟨w58.heap.size, 2, none⟩ = some (.slice none 0 0) := (S.at_ 0 rfl).cell 2
        have f5 := (S.at_ 0 rfl).free 2
        refine wpAnyL_step (i := 8) (by kernel_rfl) rfl rfl ?_
        intro K hK
        go_simp
        replace c := c.setCell (p := ⟨w58.heap.size, 0, none⟩) (S.base_le 0 rfl) (.int .i64 xg0_0)
        replace S := S.put 0 rfl 0 (.int .i64 xg0_0)
        replace c := c.setCell (p := ⟨w58.heap.size, 1, none⟩) (S.base_le 0 rfl) (.int .i64 xg0_1)
        replace S := S.put 0 rfl 1 (.int .i64 xg0_1)
        replace c := c.setCell (p := ⟨w58.heap.size, 2, none⟩) (S.base_le 0 rfl) (.slice Ag0_2 ng0_2 cg0_2)
        replace S := S.put 0 rfl 2 (.slice Ag0_2 ng0_2 cg0_2)
        clear HF
        have HF : (((w59.setCell ⟨w58.heap.size, 0, none⟩ (.int .i64 xg0_0)).setCell ⟨w58.heap.size, 1, none⟩ (.int .i64 xg0_1)).setCell ⟨w58.heap.size, 2, none⟩ (.slice Ag0_2 ng0_2 cg0_2)).cell? ⟨w4.heap.size, 0, none⟩ = some (.int .i64 xx0_0) ∧ (((w59.setCell ⟨w58.heap.size, 0, none⟩ (.int .i64 xg0_0)).setCell ⟨w58.heap.size, 1, none⟩ (.int .i64 xg0_1)).setCell ⟨w58.heap.size, 2, none⟩ (.slice Ag0_2 ng0_2 cg0_2)).cell? ⟨w4.heap.size, 1, none⟩ = some (.int .i64 xx0_1) ∧ (((w59.setCell ⟨w58.heap.size, 0, none⟩ (.int .i64 xg0_0)).setCell ⟨w58.heap.size, 1, none⟩ (.int .i64 xg0_1)).setCell ⟨w58.heap.size, 2, none⟩ (.slice Ag0_2 ng0_2 cg0_2)).cell? ⟨w4.heap.size, 2, none⟩ = some (.slice Ax0_2 nx0_2 cx0_2) ∧ (((w59.setCell ⟨w58.heap.size, 0, none⟩ (.int .i64 xg0_0)).setCell ⟨w58.heap.size, 1, none⟩ (.int .i64 xg0_1)).setCell ⟨w58.heap.size, 2, none⟩ (.slice Ag0_2 ng0_2 cg0_2)).cell? ⟨w.heap.size + 1, 0, none⟩ = some (.int .i64 xa1_0) ∧ (((w59.setCell ⟨w58.heap.size, 0, none⟩ (.int .i64 xg0_0)).setCell ⟨w58.heap.size, 1, none⟩ (.int .i64 xg0_1)).setCell ⟨w58.heap.size, 2, none⟩ (.slice Ag0_2 ng0_2 cg0_2)).cell? ⟨w.heap.size + 1, 1, none⟩ = some (.int .i64 xa1_1) ∧ (((w59.setCell ⟨w58.heap.size, 0, none⟩ (.int .i64 xg0_0)).setCell ⟨w58.heap.size, 1, none⟩ (.int .i64 xg0_1)).setCell ⟨w58.heap.size, 2, none⟩ (.slice Ag0_2 ng0_2 cg0_2)).cell? ⟨w.heap.size + 1, 2, none⟩ = some (.int .i64 xa1_2) ∧ (((w59.setCell ⟨w58.heap.size, 0, none⟩ (.int .i64 xg0_0)).setCell ⟨w58.heap.size, 1, none⟩ (.int .i64 xg0_1)).setCell ⟨w58.heap.size, 2, none⟩ (.slice Ag0_2 ng0_2 cg0_2)).cell? ⟨w.heap.size + 1, 3, none⟩ = some (.int .i64 xa1_3) ∧ (((w59.setCell ⟨w58.heap.size, 0, none⟩ (.int .i64 xg0_0)).setCell ⟨w58.heap.size, 1, none⟩ (.int .i64 xg0_1)).setCell ⟨w58.heap.size, 2, none⟩ (.slice Ag0_2 ng0_2 cg0_2)).cell? ⟨w.heap.size + 1, 4, none⟩ = some (.int .i64 xa1_4) ∧ (((w59.setCell ⟨w58.heap.size, 0, none⟩ (.int .i64 xg0_0)).setCell ⟨w58.heap.size, 1, none⟩ (.int .i64 xg0_1)).setCell ⟨w58.heap.size, 2, none⟩ (.slice Ag0_2 ng0_2 cg0_2)).cell? ⟨w.heap.size + 1, 5, none⟩ = some (.int .i64 xa1_5) ∧ (((w59.setCell ⟨w58.heap.size, 0, none⟩ (.int .i64 xg0_0)).setCell ⟨w58.heap.size, 1, none⟩ (.int .i64 xg0_1)).setCell ⟨w58.heap.size, 2, none⟩ (.slice Ag0_2 ng0_2 cg0_2)).cell? ⟨w.heap.size + 1, 6, none⟩ = some (.int .i64 xa1_6) ∧ (((w59.setCell ⟨w58.heap.size, 0, none⟩ (.int .i64 xg0_0)).setCell ⟨w58.heap.size, 1, none⟩ (.int .i64 xg0_1)).setCell ⟨w58.heap.size, 2, none⟩ (.slice Ag0_2 ng0_2 cg0_2)).cell? ⟨w.heap.size + 1, 7, none⟩ = some (.int .i64 xa1_7) ∧ (((w59.setCell ⟨w58.heap.size, 0, none⟩ (.int .i64 xg0_0)).setCell ⟨w58.heap.size, 1, none⟩ (.int .i64 xg0_1)).setCell ⟨w58.heap.size, 2, none⟩ (.slice Ag0_2 ng0_2 cg0_2)).cell? ⟨w.heap.size + 1, 8, none⟩ = some (.int .i64 xa1_8) := ⟨(S.at_ 2 rfl).cell 0, (S.at_ 2 rfl).cell 1, (S.at_ 2 rfl).cell 2, (S.at_ 6 rfl).cell 0, (S.at_ 6 rfl).cell 1, (S.at_ 6 rfl).cell 2, (S.at_ 6 rfl).cell 3, (S.at_ 6 rfl).cell 4, (S.at_ 6 rfl).cell 5, (S.at_ 6 rfl).cell 6, (S.at_ 6 rfl).cell 7, (S.at_ 6 rfl).cell 8⟩
        refine hK _ _ (fun _ => HF) ?_
        clear hK K
        try simp only [Act.put]
        generalize ((w59.setCell ⟨w58.heap.size, 0, none⟩ (.int .i64 xg0_0)).setCell ⟨w58.heap.size, 1, none⟩ (.int .i64 xg0_1)).setCell ⟨w58.heap.size, 2, none⟩ (.slice Ag0_2 ng0_2 cg0_2) = w60 at *
        clear f0 f1 f2 f3 f4 f5
        refine wpAnyL_step (i := 9) (by kernel_rfl) rfl rfl ?_
        intro K hK
        go_simp
        refine hK _ _ (fun h => nomatch (show true = false from h)) ?_
        clear hK K
        try simp only [Act.put]
        refine wpAnyL_done (by kernel_rfl) ?_ _
        replace S := S.pick 1 rfl
        replace S := S.pick 1 rfl
        replace S := S.sub (.cons_cons _ (.cons_cons _ (.cons_cons _ (.cons_cons _ (.cons_cons _ (.cons_cons _ (.cons_cons _ (.cons_cons _ (List.nil_sublist _)))))))))
        go_wp2_with fail
        go_meet
        exact ⟨_, _, _, _, _, _, _, rfl, rfl, S, c⟩
      · intro K hK
        go_simp
        replace S := S.boxAt c.size (w57.heap.size) rfl #[.int .i64 0, .int .i64 0, .slice none 0 0] 29
        replace c := c.alloc c.size (.cells #[.int .i64 0, .int .i64 0, .slice none 0 0] 29)
        clear HF
        have HF : (w57.alloc (.cells #[.int .i64 0, .int .i64 0, .slice none 0 0] 29)).cell? ⟨w4.heap.size, 0, none⟩ = some (.int .i64 xx0_0) ∧ (w57.alloc (.cells #[.int .i64 0, .int .i64 0, .slice none 0 0] 29)).cell? ⟨w4.heap.size, 1, none⟩ = some (.int .i64 xx0_1) ∧ (w57.alloc (.cells #[.int .i64 0, .int .i64 0, .slice none 0 0] 29)).cell? ⟨w4.heap.size, 2, none⟩ = some (.slice Ax0_2 nx0_2 cx0_2) ∧ (w57.alloc (.cells #[.int .i64 0, .int .i64 0, .slice none 0 0] 29)).cell? ⟨w.heap.size + 1, 0, none⟩ = some (.int .i64 xa1_0) ∧ (w57.alloc (.cells #[.int .i64 0, .int .i64 0, .slice none 0 0] 29)).cell? ⟨w.heap.size + 1, 1, none⟩ = some (.int .i64 xa1_1) ∧ (w57.alloc (.cells #[.int .i64 0, .int .i64 0, .slice none 0 0] 29)).cell? ⟨w.heap.size + 1, 2, none⟩ = some (.int .i64 xa1_2) ∧ (w57.alloc (.cells #[.int .i64 0, .int .i64 0, .slice none 0 0] 29)).cell? ⟨w.heap.size + 1, 3, none⟩ = some (.int .i64 xa1_3) ∧ (w57.alloc (.cells #[.int .i64 0, .int .i64 0, .slice none 0 0] 29)).cell? ⟨w.heap.size + 1, 4, none⟩ = some (.int .i64 xa1_4) ∧ (w57.alloc (.cells #[.int .i64 0, .int .i64 0, .slice none 0 0] 29)).cell? ⟨w.heap.size + 1, 5, none⟩ = some (.int .i64 xa1_5) ∧ (w57.alloc (.cells #[.int .i64 0, .int .i64 0, .slice none 0 0] 29)).cell? ⟨w.heap.size + 1, 6, none⟩ = some (.int .i64 xa1_6) ∧ (w57.alloc (.cells #[.int .i64 0, .int .i64 0, .slice none 0 0] 29)).cell? ⟨w.heap.size + 1, 7, none⟩ = some (.int .i64 xa1_7) ∧ (w57.alloc (.cells #[.int .i64 0, .int .i64 0, .slice none 0 0] 29)).cell? ⟨w.heap.size + 1, 8, none⟩ = some (.int .i64 xa1_8) := ⟨(S.at_ 1 rfl).cell 0, (S.at_ 1 rfl).cell 1, (S.at_ 1 rfl).cell 2, (S.at_ 5 rfl).cell 0, (S.at_ 5 rfl).cell 1, (S.at_ 5 rfl).cell 2, (S.at_ 5 rfl).cell 3, (S.at_ 5 rfl).cell 4, (S.at_ 5 rfl).cell 5, (S.at_ 5 rfl).cell 6, (S.at_ 5 rfl).cell 7, (S.at_ 5 rfl).cell 8⟩
        refine hK _ _ (fun _ => HF) ?_
        clear hK K
        try simp only [Act.put]
        generalize hw : w57.alloc (.cells #[.int .i64 0, .int .i64 0, .slice none 0 0] 29) = w58 at *
        clear hw
        refine wpAnyL_step (i := 3) (by kernel_rfl) rfl rfl ?_
        intro K hK
        go_simp
        refine (IM.out _ _ _ _ _ d0 _ _ _ _ _ _ _ _ _ _ ((S.own_ 2 rfl).rd) hz0).mono ?_
        rintro e w59 ⟨xg0_0, xg0_1, Ag0_2, ng0_2, cg0_2, rfl, o, b⟩
        obtain ⟨fp_Og0, S'⟩ := S.has b o c.size
        replace c := c.trans (b.mono c.size)
        clear S; have S := S'; clear S' o b
        clear HF
        have HF : w59.cell? ⟨w4.heap.size, 0, none⟩ = some (.int .i64 xx0_0) ∧ w59.cell? ⟨w4.heap.size, 1, none⟩ = some (.int .i64 xx0_1) ∧ w59.cell? ⟨w4.heap.size, 2, none⟩ = some (.slice Ax0_2 nx0_2 cx0_2) ∧ w59.cell? ⟨w.heap.size + 1, 0, none⟩ = some (.int .i64 xa1_0) ∧ w59.cell? ⟨w.heap.size + 1, 1, none⟩ = some (.int .i64 xa1_1) ∧ w59.cell? ⟨w.heap.size + 1, 2, none⟩ = some (.int .i64 xa1_2) ∧ w59.cell? ⟨w.heap.size + 1, 3, none⟩ = some (.int .i64 xa1_3) ∧ w59.cell? ⟨w.heap.size + 1, 4, none⟩ = some (.int .i64 xa1_4) ∧ w59.cell? ⟨w.heap.size + 1, 5, none⟩ = some (.int .i64 xa1_5) ∧ w59.cell? ⟨w.heap.size + 1, 6, none⟩ = some (.int .i64 xa1_6) ∧ w59.cell? ⟨w.heap.size + 1, 7, none⟩ = some (.int .i64 xa1_7) ∧ w59.cell? ⟨w.heap.size + 1, 8, none⟩ = some (.int .i64 xa1_8) := ⟨(S.at_ 2 rfl).cell 0, (S.at_ 2 rfl).cell 1, (S.at_ 2 rfl).cell 2, (S.at_ 6 rfl).cell 0, (S.at_ 6 rfl).cell 1, (S.at_ 6 rfl).cell 2, (S.at_ 6 rfl).cell 3, (S.at_ 6 rfl).cell 4, (S.at_ 6 rfl).cell 5, (S.at_ 6 rfl).cell 6, (S.at_ 6 rfl).cell 7, (S.at_ 6 rfl).cell 8⟩
        refine hK _ _ (fun _ => HF) ?_
        clear hK K
        try simp only [Act.put]
        refine wpAnyL_pure (i := 4) (v := ?_) rfl rfl (by kernel_rfl) (by kernel_rfl) (by kernel_rfl) (fun _ _ _ h => h) HF (Or.inl ⟨by rfl, ?_⟩) ?_
        rotate_left 1
        · (intro v _; go_simp; try with_reducible rfl)
        try simp only [Act.put]
        refine wpAnyL_pure (i := 5) (v := ?_) rfl rfl (by kernel_rfl) (by kernel_rfl) (by kernel_rfl) (fun _ _ _ h => h) HF (Or.inl ⟨by rfl, ?_⟩) ?_
        rotate_left 1
        · (intro v _; go_simp; try with_reducible rfl)
        try simp only [Act.put]
        refine wpAnyL_pure (i := 6) (v := ?_) rfl rfl (by kernel_rfl) (by kernel_rfl) (by kernel_rfl) (fun _ _ _ h => h) HF (Or.inl ⟨by rfl, ?_⟩) ?_
        rotate_left 1
        · (intro v _; go_simp; try with_reducible rfl)
        try simp only [Act.put]
        have f0 : w59.cell? ⟨w57.heap.size, 0, none⟩ = some (.int .i64 0) := (S.at_ 1 rfl).cell 0
        have f1 := (S.at_ 1 rfl).free 0
        have f2 : w59.cell? ⟨w57.heap.size, 1, none⟩ = some (.int .i64 0) := (S.at_ 1 rfl).cell 1
        have f3 := (S.at_ 1 rfl).free 1
        have f4 : w59.cell? ⟨w57.heap.size, 2, none⟩ = some (.slice none 0 0) := (S.at_ 1 rfl).cell 2
        have f5 := (S.at_ 1 rfl).free 2
        refine wpAnyL_step (i := 8) (by kernel_rfl) rfl rfl ?_
        intro K hK
        go_simp
        replace c := c.setCell (p := ⟨w57.heap.size, 0, none⟩) (S.base_le 1 rfl) (.int .i64 xg0_0)
        replace S := S.put 1 rfl 0 (.int .i64 xg0_0)
        replace c := c.setCell (p := ⟨w57.heap.size, 1, none⟩) (S.base_le 1 rfl) (.int .i64 xg0_1)
        replace S := S.put 1 rfl 1 (.int .i64 xg0_1)
        replace c := c.setCell (p := ⟨w57.heap.size, 2, none⟩) (S.base_le 1 rfl) (.slice Ag0_2 ng0_2 cg0_2)
        replace S := S.put 1 rfl 2 (.slice Ag0_2 ng0_2 cg0_2)
        clear HF
        have HF : (((w59.setCell ⟨w57.heap.size, 0, none⟩ (.int .i64 xg0_0)).setCell ⟨w57.heap.size, 1, none⟩ (.int .i64 xg0_1)).setCell ⟨w57.heap.size, 2, none⟩ (.slice Ag0_2 ng0_2 cg0_2)).cell? ⟨w4.heap.size, 0, none⟩ = some (.int .i64 xx0_0) ∧ (((w59.setCell ⟨w57.heap.size, 0, none⟩ (.int .i64 xg0_0)).setCell ⟨w57.heap.size, 1, none⟩ (.int .i64 xg0_1)).setCell ⟨w57.heap.size, 2, none⟩ (.slice Ag0_2 ng0_2 cg0_2)).cell? ⟨w4.heap.size, 1, none⟩ = some (.int .i64 xx0_1) ∧ (((w59.setCell ⟨w57.heap.size, 0, none⟩ (.int .i64 xg0_0)).setCell ⟨w57.heap.size, 1, none⟩ (.int .i64 xg0_1)).setCell ⟨w57.heap.size, 2, none⟩ (.slice Ag0_2 ng0_2 cg0_2)).cell? ⟨w4.heap.size, 2, none⟩ = some (.slice Ax0_2 nx0_2 cx0_2) ∧ (((w59.setCell ⟨w57.heap.size, 0, none⟩ (.int .i64 xg0_0)).setCell ⟨w57.heap.size, 1, none⟩ (.int .i64 xg0_1)).setCell ⟨w57.heap.size, 2, none⟩ (.slice Ag0_2 ng0_2 cg0_2)).cell? ⟨w.heap.size + 1, 0, none⟩ = some (.int .i64 xa1_0) ∧ (((w59.setCell ⟨w57.heap.size, 0, none⟩ (.int .i64 xg0_0)).setCell ⟨w57.heap.size, 1, none⟩ (.int .i64 xg0_1)).setCell ⟨w57.heap.size, 2, none⟩ (.slice Ag0_2 ng0_2 cg0_2)).cell? ⟨w.heap.size + 1, 1, none⟩ = some (.int .i64 xa1_1) ∧ (((w59.setCell ⟨w57.heap.size, 0, none⟩ (.int .i64 xg0_0)).setCell ⟨w57.heap.size, 1, none⟩ (.int .i64 xg0_1)).setCell ⟨w57.heap.size, 2, none⟩ (.slice Ag0_2 ng0_2 cg0_2)).cell? ⟨w.heap.size + 1, 2, none⟩ = some (.int .i64 xa1_2) ∧ (((w59.setCell ⟨w57.heap.size, 0, none⟩ (.int .i64 xg0_0)).setCell ⟨w57.heap.size, 1, none⟩ (.int .i64 xg0_1)).setCell ⟨w57.heap.size, 2, none⟩ (.slice Ag0_2 ng0_2 cg0_2)).cell? ⟨w.heap.size + 1, 3, none⟩ = some (.int .i64 xa1_3) ∧ (((w59.setCell ⟨w57.heap.size, 0, none⟩ (.int .i64 xg0_0)).setCell ⟨w57.heap.size, 1, none⟩ (.int .i64 xg0_1)).setCell ⟨w57.heap.size, 2, none⟩ (.slice Ag0_2 ng0_2 cg0_2)).cell? ⟨w.heap.size + 1, 4, none⟩ = some (.int .i64 xa1_4) ∧ (((w59.setCell ⟨w57.heap.size, 0, none⟩ (.int .i64 xg0_0)).setCell ⟨w57.heap.size, 1, none⟩ (.int .i64 xg0_1)).setCell ⟨w57.heap.size, 2, none⟩ (.slice Ag0_2 ng0_2 cg0_2)).cell? ⟨w.heap.size + 1, 5, none⟩ = some (.int .i64 xa1_5) ∧ (((w59.setCell ⟨w57.heap.size, 0, none⟩ (.int .i64 xg0_0)).setCell ⟨w57.heap.size, 1, none⟩ (.int .i64 xg0_1)).setCell ⟨w57.heap.size, 2, none⟩ (.slice Ag0_2 ng0_2 cg0_2)).cell? ⟨w.heap.size + 1, 6, none⟩ = some (.int .i64 xa1_6) ∧ (((w59.setCell ⟨w57.heap.size, 0, none⟩ (.int .i64 xg0_0)).setCell ⟨w57.heap.size, 1, none⟩ (.int .i64 xg0_1)).setCell ⟨w57.heap.size, 2, none⟩ (.slice Ag0_2 ng0_2 cg0_2)).cell? ⟨w.heap.size + 1, 7, none⟩ = some (.int .i64 xa1_7) ∧ (((w59.setCell ⟨w57.heap.size, 0, none⟩ (.int .i64 xg0_0)).setCell ⟨w57.heap.size, 1, none⟩ (.int .i64 xg0_1)).setCell ⟨w57.heap.size, 2, none⟩ (.slice Ag0_2 ng0_2 cg0_2)).cell? ⟨w.heap.size + 1, 8, none⟩ = some (.int .i64 xa1_8) := ⟨(S.at_ 2 rfl).cell 0, (S.at_ 2 rfl).cell 1, (S.at_ 2 rfl).cell 2, (S.at_ 6 rfl).cell 0, (S.at_ 6 rfl).cell 1, (S.at_ 6 rfl).cell 2, (S.at_ 6 rfl).cell 3, (S.at_ 6 rfl).cell 4, (S.at_ 6 rfl).cell 5, (S.at_ 6 rfl).cell 6, (S.at_ 6 rfl).cell 7, (S.at_ 6 rfl).cell 8⟩
        refine hK _ _ (fun _ => HF) ?_
        clear hK K
        try simp only [Act.put]
        generalize ((w59.setCell ⟨w57.heap.size, 0, none⟩ (.int .i64 xg0_0)).setCell ⟨w57.heap.size, 1, none⟩ (.int .i64 xg0_1)).setCell ⟨w57.heap.size, 2, none⟩ (.slice Ag0_2 ng0_2 cg0_2) = w60 at *
        clear f0 f1 f2 f3 f4 f5
        refine wpAnyL_step (i := 9) (by kernel_rfl) rfl rfl ?_
        intro K hK
        go_simp
        refine hK _ _ (fun h => nomatch (show true = false from h)) ?_
        clear hK K
        try simp only [Act.put]
        refine wpAnyL_done (by kernel_rfl) ?_ _
        replace S := S.pick 0 rfl
        replace S := S.pick 1 rfl
        replace S := S.sub (.cons_cons _ (.cons_cons _ (.cons_cons _ (.cons_cons _ (.cons_cons _ (.cons_cons _ (.cons_cons _ (.cons_cons _ (List.nil_sublist _)))))))))
        go_wp2_with fail
        go_meet
        exact ⟨_, _, _, _, _, _, _, rfl, rfl, S, c⟩
    · intro K hK
      go_simp
      replace S := S.boxAt c.size (w56.heap.size) rfl #[.int .i64 0, .int .i64 0, .slice none 0 0] 29
      replace c := c.alloc c.size (.cells #[.int .i64 0, .int .i64 0, .slice none 0 0] 29)
      clear HF
      have HF : (w56.alloc (.cells #[.int .i64 0, .int .i64 0, .slice none 0 0] 29)).cell? ⟨w4.heap.size, 0, none⟩ = some (.int .i64 xx0_0) ∧ (w56.alloc (.cells #[.int .i64 0, .int .i64 0, .slice none 0 0] 29)).cell? ⟨w4.heap.size, 1, none⟩ = some (.int .i64 xx0_1) ∧ (w56.alloc (.cells #[.int .i64 0, .int .i64 0, .slice none 0 0] 29)).cell? ⟨w4.heap.size, 2, none⟩ = some (.slice Ax0_2 nx0_2 cx0_2) ∧ (w56.alloc (.cells #[.int .i64 0, .int .i64 0, .slice none 0 0] 29)).cell? ⟨w.heap.size + 1, 0, none⟩ = some (.int .i64 xa1_0) ∧ (w56.alloc (.cells #[.int .i64 0, .int .i64 0, .slice none 0 0] 29)).cell? ⟨w.heap.size + 1, 1, none⟩ = some (.int .i64 xa1_1) ∧ (w56.alloc (.cells #[.int .i64 0, .int .i64 0, .slice none 0 0] 29)).cell? ⟨w.heap.size + 1, 2, none⟩ = some (.int .i64 xa1_2) ∧ (w56.alloc (.cells #[.int .i64 0, .int .i64 0, .slice none 0 0] 29)).cell? ⟨w.heap.size + 1, 3, none⟩ = some (.int .i64 xa1_3) ∧ (w56.alloc (.cells #[.int .i64 0, .int .i64 0, .slice none 0 0] 29)).cell? ⟨w.heap.size + 1, 4, none⟩ = some (.int .i64 xa1_4) ∧ (w56.alloc (.cells #[.int .i64 0, .int .i64 0, .slice none 0 0] 29)).cell? ⟨w.heap.size + 1, 5, none⟩ = some (.int .i64 xa1_5) ∧ (w56.alloc (.cells #[.int .i64 0, .int .i64 0, .slice none 0 0] 29)).cell? ⟨w.heap.size + 1, 6, none⟩ = some (.int .i64 xa1_6) ∧ (w56.alloc (.cells #[.int .i64 0, .int .i64 0, .slice none 0 0] 29)).cell? ⟨w.heap.size + 1, 7, none⟩ = some (.int .i64 xa1_7) ∧ (w56.alloc (.cells #[.int .i64 0, .int .i64 0, .slice none 0 0] 29)).cell? ⟨w.heap.size + 1, 8, none⟩ = some (.int .i64 xa1_8) := ⟨(S.at_ 1 rfl).cell 0, (S.at_ 1 rfl).cell 1, (S.at_ 1 rfl).cell 2, (S.at_ 5 rfl).cell 0, (S.at_ 5 rfl).cell 1, (S.at_ 5 rfl).cell 2, (S.at_ 5 rfl).cell 3, (S.at_ 5 rfl).cell 4, (S.at_ 5 rfl).cell 5, (S.at_ 5 rfl).cell 6, (S.at_ 5 rfl).cell 7, (S.at_ 5 rfl).cell 8⟩
      refine hK _ _ (fun _ => HF) ?_
      clear hK K
      try simp only [Act.put]
      generalize hw : w56.alloc (.cells #[.int .i64 0, .int .i64 0, .slice none 0 0] 29) = w57 at *
      clear hw
      refine wpAnyL_step (i := 2) (by kernel_rfl) rfl rfl ?_
      intro K hK
      go_simp
      refine (toEntry_any _ _ _ _ _ _ _ _ _ _).mono ?_
      rintro e w58 ⟨rfl, b⟩
      replace c := c.trans (b.mono c.size)
      replace S := S.keep b
      clear b
      clear HF
      have HF : w58.cell? ⟨w4.heap.size, 0, none⟩ = some (.int .i64 xx0_0) ∧ w58.cell? ⟨w4.heap.size, 1, none⟩ = some (.int .i64 xx0_1) ∧ w58.cell? ⟨w4.heap.size, 2, none⟩ = some (.slice Ax0_2 nx0_2 cx0_2) ∧ w58.cell? ⟨w.heap.size + 1, 0, none⟩ = some (.int .i64 xa1_0) ∧ w58.cell? ⟨w.heap.size + 1, 1, none⟩ = some (.int .i64 xa1_1) ∧ w58.cell? ⟨w.heap.size + 1, 2, none⟩ = some (.int .i64 xa1_2) ∧ w58.cell? ⟨w.heap.size + 1, 3, none⟩ = some (.int .i64 xa1_3) ∧ w58.cell? ⟨w.heap.size + 1, 4, none⟩ = some (.int .i64 xa1_4) ∧ w58.cell? ⟨w.heap.size + 1, 5, none⟩ = some (.int .i64 xa1_5) ∧ w58.cell? ⟨w.heap.size + 1, 6, none⟩ = some (.int .i64 xa1_6) ∧ w58.cell? ⟨w.heap.size + 1, 7, none⟩ = some (.int .i64 xa1_7) ∧ w58.cell? ⟨w.heap.size + 1, 8, none⟩ = some (.int .i64 xa1_8) := ⟨(S.at_ 1 rfl).cell 0, (S.at_ 1 rfl).cell 1, (S.at_ 1 rfl).cell 2, (S.at_ 5 rfl).cell 0, (S.at_ 5 rfl).cell 1, (S.at_ 5 rfl).cell 2, (S.at_ 5 rfl).cell 3, (S.at_ 5 rfl).cell 4, (S.at_ 5 rfl).cell 5, (S.at_ 5 rfl).cell 6, (S.at_ 5 rfl).cell 7, (S.at_ 5 rfl).cell 8⟩
      refine hK _ _ (fun _ => HF) ?_
      clear hK K
      try simp only [Act.put]
      refine wpAnyL_step (i := 3) (by kernel_rfl) rfl rfl ?_
      intro K hK
      go_simp
      refine (IM.out _ _ _ _ _ d0 _ _ _ _ _ _ _ _ _ _ ((S.own_ 2 rfl).rd) hz0).mono ?_
      rintro e w59 ⟨xg0_0, xg0_1, Ag0_2, ng0_2, cg0_2, rfl, o, b⟩
      obtain ⟨fp_Og0, S'⟩ := S.has b o c.size
      replace c := c.trans (b.mono c.size)
      clear S; have S := S'; clear S' o b
      clear HF
      have HF : w59.cell? ⟨w4.heap.size, 0, none⟩ = some (.int .i64 xx0_0) ∧ w59.cell? ⟨w4.heap.size, 1, none⟩ = some (.int .i64 xx0_1) ∧ w59.cell? ⟨w4.heap.size, 2, none⟩ = some (.slice Ax0_2 nx0_2 cx0_2) ∧ w59.cell? ⟨w.heap.size + 1, 0, none⟩ = some (.int .i64 xa1_0) ∧ w59.cell? ⟨w.heap.size + 1, 1, none⟩ = some (.int .i64 xa1_1) ∧ w59.cell? ⟨w.heap.size + 1, 2, none⟩ = some (.int .i64 xa1_2) ∧ w59.cell? ⟨w.heap.size + 1, 3, none⟩ = some (.int .i64 xa1_3) ∧ w59.cell? ⟨w.heap.size + 1, 4, none⟩ = some (.int .i64 xa1_4) ∧ w59.cell? ⟨w.heap.size + 1, 5, none⟩ = some (.int .i64 xa1_5) ∧ w59.cell? ⟨w.heap.size + 1, 6, none⟩ = some (.int .i64 xa1_6) ∧ w59.cell? ⟨w.heap.size + 1, 7, none⟩ = some (.int .i64 xa1_7) ∧ w59.cell? ⟨w.heap.size + 1, 8, none⟩ = some (.int .i64 xa1_8) := ⟨(S.at_ 2 rfl).cell 0, (S.at_ 2 rfl).cell 1, (S.at_ 2 rfl).cell 2, (S.at_ 6 rfl).cell 0, (S.at_ 6 rfl).cell 1, (S.at_ 6 rfl).cell 2, (S.at_ 6 rfl).cell 3, (S.at_ 6 rfl).cell 4, (S.at_ 6 rfl).cell 5, (S.at_ 6 rfl).cell 6, (S.at_ 6 rfl).cell 7, (S.at_ 6 rfl).cell 8⟩
      refine hK _ _ (fun _ => HF) ?_
      clear hK K
      try simp only [Act.put]
      refine wpAnyL_pure (i := 4) (v := ?_) rfl rfl (by kernel_rfl) (by kernel_rfl) (by kernel_rfl) (fun _ _ _ h => h) HF (Or.inl ⟨by rfl, ?_⟩) ?_
      rotate_left 1
      · (intro v _; go_simp; try with_reducible rfl)
      try simp only [Act.put]
      refine wpAnyL_pure (i := 5) (v := ?_) rfl rfl (by kernel_rfl) (by kernel_rfl) (by kernel_rfl) (fun _ _ _ h => h) HF (Or.inl ⟨by rfl, ?_⟩) ?_
      rotate_left 1
      · (intro v _; go_simp; try with_reducible rfl)
      try simp only [Act.put]
      refine wpAnyL_pure (i := 6) (v := ?_) rfl rfl (by kernel_rfl) (by kernel_rfl) (by kernel_rfl) (fun _ _ _ h => h) HF (Or.inl ⟨by rfl, ?_⟩) ?_
      rotate_left 1
      · (intro v _; go_simp; try with_reducible rfl)
      try simp only [Act.put]
      have f0 : w59.cell? ⟨w56.heap.size, 0, none⟩ = some (.int .i64 0) := (S.at_ 1 rfl).cell 0
      have f1 := (S.at_ 1 rfl).free 0
      have f2 : w59.cell? ⟨w56.heap.size, 1, none⟩ = some (.int .i64 0) := (S.at_ 1 rfl).cell 1
      have f3 := (S.at_ 1 rfl).free 1
      have f4 : w59.cell? ⟨w56.heap.size, 2, none⟩ = some (.slice none 0 0) := (S.at_ 1 rfl).cell 2
      have f5 := (S.at_ 1 rfl).free 2
      refine wpAnyL_step (i := 8) (by kernel_rfl) rfl rfl ?_
      intro K hK
      go_simp
      replace c := c.setCell (p := ⟨w56.heap.size, 0, none⟩) (S.base_le 1 rfl) (.int .i64 xg0_0)
      replace S := S.put 1 rfl 0 (.int .i64 xg0_0)
      replace c := c.setCell (p := ⟨w56.heap.size, 1, none⟩) (S.base_le 1 rfl) (.int .i64 xg0_1)
      replace S := S.put 1 rfl 1 (.int .i64 xg0_1)
      replace c := c.setCell (p := ⟨w56.heap.size, 2, none⟩) (S.base_le 1 rfl) (.slice Ag0_2 ng0_2 cg0_2)
      replace S := S.put 1 rfl 2 (.slice Ag0_2 ng0_2 cg0_2)
      clear HF
      have HF : (((w59.setCell ⟨w56.heap.size, 0, none⟩ (.int .i64 xg0_0)).setCell ⟨w56.heap.size, 1, none⟩ (.int .i64 xg0_1)).setCell ⟨w56.heap.size, 2, none⟩ (.slice Ag0_2 ng0_2 cg0_2)).cell? ⟨w4.heap.size, 0, none⟩ = some (.int .i64 xx0_0) ∧ (((w59.setCell ⟨w56.heap.size, 0, none⟩ (.int .i64 xg0_0)).setCell ⟨w56.heap.size, 1, none⟩ (.int .i64 xg0_1)).setCell ⟨w56.heap.size, 2, none⟩ (.slice Ag0_2 ng0_2 cg0_2)).cell? ⟨w4.heap.size, 1, none⟩ = some (.int .i64 xx0_1) ∧ (((w59.setCell ⟨w56.heap.size, 0, none⟩ (.int .i64 xg0_0)).setCell ⟨w56.heap.size, 1, none⟩ (.int .i64 xg0_1)).setCell ⟨w56.heap.size, 2, none⟩ (.slice Ag0_2 ng0_2 cg0_2)).cell? ⟨w4.heap.size, 2, none⟩ = some (.slice Ax0_2 nx0_2 cx0_2) ∧ (((w59.setCell ⟨w56.heap.size, 0, none⟩ (.int .i64 xg0_0)).setCell ⟨w56.heap.size, 1, none⟩ (.int .i64 xg0_1)).setCell ⟨w56.heap.size, 2, none⟩ (.slice Ag0_2 ng0_2 cg0_2)).cell? ⟨w.heap.size + 1, 0, none⟩ = some (.int .i64 xa1_0) ∧ (((w59.setCell ⟨w56.heap.size, 0, none⟩ (.int .i64 xg0_0)).setCell ⟨w56.heap.size, 1, none⟩ (.int .i64 xg0_1)).setCell ⟨w56.heap.size, 2, none⟩ (.slice Ag0_2 ng0_2 cg0_2)).cell? ⟨w.heap.size + 1, 1, none⟩ = some (.int .i64 xa1_1) ∧ (((w59.setCell ⟨w56.heap.size, 0, none⟩ (.int .i64 xg0_0)).setCell ⟨w56.heap.size, 1, none⟩ (.int .i64 xg0_1)).setCell ⟨w56.heap.size, 2, none⟩ (.slice Ag0_2 ng0_2 cg0_2)).cell? ⟨w.heap.size + 1, 2, none⟩ = some (.int .i64 xa1_2) ∧ (((w59.setCell ⟨w56.heap.size, 0, none⟩ (.int .i64 xg0_0)).setCell ⟨w56.heap.size, 1, none⟩ (.int .i64 xg0_1)).setCell ⟨w56.heap.size, 2, none⟩ (.slice Ag0_2 ng0_2 cg0_2)).cell? ⟨w.heap.size + 1, 3, none⟩ = some (.int .i64 xa1_3) ∧ (((w59.setCell ⟨w56.heap.size, 0, none⟩ (.int .i64 xg0_0)).setCell ⟨w56.heap.size, 1, none⟩ (.int .i64 xg0_1)).setCell ⟨w56.heap.size, 2, none⟩ (.slice Ag0_2 ng0_2 cg0_2)).cell? ⟨w.heap.size + 1, 4, none⟩ = some (.int .i64 xa1_4) ∧ (((w59.setCell ⟨w56.heap.size, 0, none⟩ (.int .i64 xg0_0)).setCell ⟨w56.heap.size, 1, none⟩ (.int .i64 xg0_1)).setCell ⟨w56.heap.size, 2, none⟩ (.slice Ag0_2 ng0_2 cg0_2)).cell? ⟨w.heap.size + 1, 5, none⟩ = some (.int .i64 xa1_5) ∧ (((w59.setCell ⟨w56.heap.size, 0, none⟩ (.int .i64 xg0_0)).setCell ⟨w56.heap.size, 1, none⟩ (.int .i64 xg0_1)).setCell ⟨w56.heap.size, 2, none⟩ (.slice Ag0_2 ng0_2 cg0_2)).cell? ⟨w.heap.size + 1, 6, none⟩ = some (.int .i64 xa1_6) ∧ (((w59.setCell ⟨w56.heap.size, 0, none⟩ (.int .i64 xg0_0)).setCell ⟨w56.heap.size, 1, none⟩ (.int .i64 xg0_1)).setCell ⟨w56.heap.size, 2, none⟩ (.slice Ag0_2 ng0_2 cg0_2)).cell? ⟨w.heap.size + 1, 7, none⟩ = some (.int .i64 xa1_7) ∧ (((w59.setCell ⟨w56.heap.size, 0, none⟩ (.int .i64 xg0_0)).setCell ⟨w56.heap.size, 1, none⟩ (.int .i64 xg0_1)).setCell ⟨w56.heap.size, 2, none⟩ (.slice Ag0_2 ng0_2 cg0_2)).cell? ⟨w.heap.size + 1, 8, none⟩ = some (.int .i64 xa1_8) := ⟨(S.at_ 2 rfl).cell 0, (S.at_ 2 rfl).cell 1, (S.at_ 2 rfl).cell 2, (S.at_ 6 rfl).cell 0, (S.at_ 6 rfl).cell 1, (S.at_ 6 rfl).cell 2, (S.at_ 6 rfl).cell 3, (S.at_ 6 rfl).cell 4, (S.at_ 6 rfl).cell 5, (S.at_ 6 rfl).cell 6, (S.at_ 6 rfl).cell 7, (S.at_ 6 rfl).cell 8⟩
      refine hK _ _ (fun _ => HF) ?_
      clear hK K
      try simp only [Act.put]
      generalize ((w59.setCell ⟨w56.heap.size, 0, none⟩ (.int .i64 xg0_0)).setCell ⟨w56.heap.size, 1, none⟩ (.int .i64 xg0_1)).setCell ⟨w56.heap.size, 2, none⟩ (.slice Ag0_2 ng0_2 cg0_2) = w60 at *
      clear f0 f1 f2 f3 f4 f5
      refine wpAnyL_step (i := 9) (by kernel_rfl) rfl rfl ?_
      intro K hK
      go_simp
      refine hK _ _ (fun h => nomatch (show true = false from h)) ?_
      clear hK K
      try simp only [Act.put]
      refine wpAnyL_done (by kernel_rfl) ?_ _
      replace S := S.pick 0 rfl
      replace S := S.pick 1 rfl
      replace S := S.sub (.cons_cons _ (.cons_cons _ (.cons_cons _ (.cons_cons _ (.cons_cons _ (.cons_cons _ (.cons_cons _ (.cons_cons _ (List.nil_sublist _)))))))))
      go_wp2_with fail
      go_meet
      exact ⟨_, _, _, _, _, _, _, rfl, rfl, S, c⟩
  obtain ⟨pg0, xg0_0, xg0_1, Ag0_2, ng0_2, cg0_2, fp_g0, rfl, rfl, S, c⟩ := hcut
  clear SH CH
  generalize wc = w6 at *
  rw [← HFX0.out] at S
  rw [← HFX1.out]
  have f0 : (w6).cell? ⟨pg0, 0, none⟩ = some (.int .i64 xg0_0) := (S.at_ 0 rfl).cell 0
  have f1 : (w6).cell? ⟨pg0, 1, none⟩ = some (.int .i64 xg0_1) := (S.at_ 0 rfl).cell 1
  have f2 : (w6).cell? ⟨pg0, 2, none⟩ = some (.slice Ag0_2 ng0_2 cg0_2) := (S.at_ 0 rfl).cell 2
  have f3 : (w6).cell? ⟨pw0, 0, none⟩ = some (.int .i64 xw0_0) := (S.at_ 4 rfl).cell 0
  have f4 : (w6).cell? ⟨pw0, 1, none⟩ = some (.int .i64 xw0_1) := (S.at_ 4 rfl).cell 1
  have f5 : (w6).cell? ⟨pw0, 2, none⟩ = some (.slice Aw0_2 nw0_2 cw0_2) := (S.at_ 4 rfl).cell 2
  go_wp2_with fail
  refine (eqBook_yes _ _ _ _ _ _ _ _ fx0 _ ((S.own_ 1 rfl).rd) ((S.own_ 5 rfl).rd) (Nat.le_refl _) (Nat.le_refl _) hfz0).mono ?_
  rintro e w7 ⟨rfl, b⟩
  replace c := c.trans (b.mono c.size)
  replace S := S.keep b
  clear b f0 f1 f2 f3 f4 f5
  have f0 : (w7).cell? ⟨w4.heap.size, 0, none⟩ = some (.int .i64 xx0_0) := (S.at_ 2 rfl).cell 0
  have f1 : (w7).cell? ⟨w4.heap.size, 1, none⟩ = some (.int .i64 xx0_1) := (S.at_ 2 rfl).cell 1
  have f2 : (w7).cell? ⟨w4.heap.size, 2, none⟩ = some (.slice Ax0_2 nx0_2 cx0_2) := (S.at_ 2 rfl).cell 2
  have f3 : (w7).cell? ⟨w.heap.size, 0, none⟩ = some (.int .i64 xa0_0) := (S.at_ 7 rfl).cell 0
  have f4 : (w7).cell? ⟨w.heap.size, 1, none⟩ = some (.int .i64 xa0_1) := (S.at_ 7 rfl).cell 1
  have f5 : (w7).cell? ⟨w.heap.size, 2, none⟩ = some (.slice Aa0_2 na0_2 ca0_2) := (S.at_ 7 rfl).cell 2
  have SH := Lib.hid S
  have CH := Lib.hid c
  clear S c
  go_wp2_with fail
  go_region_held3 (fun v => v.cell? ⟨w4.heap.size, 0, none⟩ = some (.int .i64 xx0_0) ∧ v.cell? ⟨w4.heap.size, 1, none⟩ = some (.int .i64 xx0_1) ∧ v.cell? ⟨w4.heap.size, 2, none⟩ = some (.slice Ax0_2 nx0_2 cx0_2) ∧ v.cell? ⟨w.heap.size, 0, none⟩ = some (.int .i64 xa0_0) ∧ v.cell? ⟨w.heap.size, 1, none⟩ = some (.int .i64 xa0_1) ∧ v.cell? ⟨w.heap.size, 2, none⟩ = some (.slice Aa0_2 na0_2 ca0_2)) (go_keep)
    (first
      | (go_at_call 15
         refine (toBook_made _ _ _ d0 _ ((h0.keep CH.out.drew).up CH.out.size) hz0).mono ?_
         rintro e w8 ⟨xz0_0, xz0_1, Az0_2, nz0_2, cz0_2, rfl, o, b⟩
         have S1 := (SH.out.keep ((Below.refl _ _).drew)).keep b
         have g0 : (w8).cell? ⟨w4.heap.size, 0, none⟩ = some (.int .i64 xx0_0) := (S1.at_ 2 rfl).cell 0
         have g1 : (w8).cell? ⟨w4.heap.size, 1, none⟩ = some (.int .i64 xx0_1) := (S1.at_ 2 rfl).cell 1
         have g2 : (w8).cell? ⟨w4.heap.size, 2, none⟩ = some (.slice Ax0_2 nx0_2 cx0_2) := (S1.at_ 2 rfl).cell 2
         have g3 : (w8).cell? ⟨w.heap.size, 0, none⟩ = some (.int .i64 xa0_0) := (S1.at_ 7 rfl).cell 0
         have g4 : (w8).cell? ⟨w.heap.size, 1, none⟩ = some (.int .i64 xa0_1) := (S1.at_ 7 rfl).cell 1
         have g5 : (w8).cell? ⟨w.heap.size, 2, none⟩ = some (.slice Aa0_2 na0_2 ca0_2) := (S1.at_ 7 rfl).cell 2
         have O1 := Lib.hid o
         have B1 := Lib.hid b
         clear S1 o b)
      | (go_at_call 17
         refine (eqBook_yes _ _ _ _ _ _ _ _ d0 _ ((((SH.out.keep ((Below.refl _ _).drew)).keep B1.out).own_ 3 rfl).rd) (O1.out.rd) (Nat.le_refl _) (Nat.le_refl _) (by omega)).mono ?_
         rintro e w9 ⟨rfl, b⟩
         have S3 := ((SH.out.keep ((Below.refl _ _).drew)).keep B1.out).keep b
         have r0 : (w9).cell? ⟨w4.heap.size, 0, none⟩ = some (.int .i64 xx0_0) := (S3.at_ 2 rfl).cell 0
         have r1 : (w9).cell? ⟨w4.heap.size, 1, none⟩ = some (.int .i64 xx0_1) := (S3.at_ 2 rfl).cell 1
         have r2 : (w9).cell? ⟨w4.heap.size, 2, none⟩ = some (.slice Ax0_2 nx0_2 cx0_2) := (S3.at_ 2 rfl).cell 2
         have r3 : (w9).cell? ⟨w.heap.size, 0, none⟩ = some (.int .i64 xa0_0) := (S3.at_ 7 rfl).cell 0
         have r4 : (w9).cell? ⟨w.heap.size, 1, none⟩ = some (.int .i64 xa0_1) := (S3.at_ 7 rfl).cell 1
         have r5 : (w9).cell? ⟨w.heap.size, 2, none⟩ = some (.slice Aa0_2 na0_2 ca0_2) := (S3.at_ 7 rfl).cell 2
         have S2 := Lib.hid S3
         have C2 := Lib.hid ((CH.out.drew.trans (B1.out.mono CH.out.size)).trans (b.mono (CH.out.drew.trans (B1.out.mono CH.out.size)).size))
         clear b S3))
  have S := S2.out
  have c := C2.out
  clear SH CH S2 C2 O1 B1 f0 g0 r0 f1 g1 r1 f2 g2 r2 f3 g3 r3 f4 g4 r4 f5 g5 r5
  have f0 : (w9).cell? ⟨w4.heap.size, 0, none⟩ = some (.int .i64 xx0_0) := (S.at_ 2 rfl).cell 0
  have f1 : (w9).cell? ⟨w4.heap.size, 1, none⟩ = some (.int .i64 xx0_1) := (S.at_ 2 rfl).cell 1
  have f2 : (w9).cell? ⟨w4.heap.size, 2, none⟩ = some (.slice Ax0_2 nx0_2 cx0_2) := (S.at_ 2 rfl).cell 2
  go_wp2_with fail
  refine (markBook_any _ _ _ d0 _ _ (S.own_ 3 rfl) (S.nodup_own 3 rfl) (by omega) (1) (by omega) (by omega)).mono ?_
  rintro e w10 ⟨m0, rfl, o, t, mk_x0, en_x0, es_x0⟩
  have b := S.below 3 rfl t c.size
  have S' := S.mark 3 rfl t o
  replace c := c.trans b
  clear S; have S := S'; clear S' o t b f0 f1 f2
  have nb0 : d0.n ≤ 9437193 := by
    first | omega | exact book_n_le _ (by omega)
  have qk : ¬ (1 + (d0.n : Int) < 0) := by omega
  have f0 : (w10).cell? ⟨pg0, 0, none⟩ = some (.int .i64 xg0_0) := (S.at_ 0 rfl).cell 0
  have f1 : (w10).cell? ⟨pg0, 1, none⟩ = some (.int .i64 xg0_1) := (S.at_ 0 rfl).cell 1
  have f2 : (w10).cell? ⟨pg0, 2, none⟩ = some (.slice Ag0_2 ng0_2 cg0_2) := (S.at_ 0 rfl).cell 2
  have f3 : (w10).cell? ⟨pw0, 0, none⟩ = some (.int .i64 xw0_0) := (S.at_ 4 rfl).cell 0
  have f4 : (w10).cell? ⟨pw0, 1, none⟩ = some (.int .i64 xw0_1) := (S.at_ 4 rfl).cell 1
  have f5 : (w10).cell? ⟨pw0, 2, none⟩ = some (.slice Aw0_2 nw0_2 cw0_2) := (S.at_ 4 rfl).cell 2
  go_wp2_with fail
  refine (eqBook_yes _ _ _ _ _ _ _ _ fx0 _ ((S.own_ 1 rfl).rd) ((S.own_ 5 rfl).rd) (Nat.le_refl _) (Nat.le_refl _) hfz0).mono ?_
  rintro e w11 ⟨rfl, b⟩
  replace c := c.trans (b.mono c.size)
  replace S := S.keep b
  clear b f0 f1 f2 f3 f4 f5
  have nr0 : fx0.n ≤ 9437193 := by
    first | omega | exact book_n_le _ (by omega)
  have f0 : (w11).cell? ⟨pg0, 0, none⟩ = some (.int .i64 xg0_0) := (S.at_ 0 rfl).cell 0
  have f1 : (w11).cell? ⟨pg0, 1, none⟩ = some (.int .i64 xg0_1) := (S.at_ 0 rfl).cell 1
  have f2 : (w11).cell? ⟨pg0, 2, none⟩ = some (.slice Ag0_2 ng0_2 cg0_2) := (S.at_ 0 rfl).cell 2
  go_wp2_with fail
  refine (markBook_any _ _ _ fx0 _ _ (S.own_ 1 rfl) (S.nodup_own 1 rfl) hfz0 (1) (by omega) (by omega)).mono ?_
  rintro e w12 ⟨e0, rfl, o, t, mk_g0, en_g0, es_g0⟩
  have b := S.below 1 rfl t c.size
  have S' := S.mark 1 rfl t o
  replace c := c.trans b
  clear S; have S := S'; clear S' o t b f0 f1 f2
  have f0 : (w12).cell? ⟨pg0, 0, none⟩ = some (.int .i64 xg0_0) := (S.at_ 0 rfl).cell 0
  have f1 : (w12).cell? ⟨pg0, 1, none⟩ = some (.int .i64 xg0_1) := (S.at_ 0 rfl).cell 1
  have f2 : (w12).cell? ⟨pg0, 2, none⟩ = some (.slice Ag0_2 ng0_2 cg0_2) := (S.at_ 0 rfl).cell 2
  go_wp2_with fail
  refine (heldBook_any _ _ _ e0 _ _ ((S.own_ 1 rfl).rd) (Nat.le_refl _) (by omega) (1) (by omega) (by omega) mk_g0).mono ?_
  rintro e w13 ⟨rfl, b⟩
  rw [en_g0]
  have q13 : ¬ (1 + (fx0.n : Int) < 0) := by omega
  replace c := c.trans (b.mono c.size)
  replace S := S.keep b
  clear b f0 f1 f2
  have f0 : (w13).cell? ⟨w.heap.size, 0, none⟩ = some (.int .i64 xa0_0) := (S.at_ 7 rfl).cell 0
  have f1 : (w13).cell? ⟨w.heap.size, 1, none⟩ = some (.int .i64 xa0_1) := (S.at_ 7 rfl).cell 1
  have f2 : (w13).cell? ⟨w.heap.size, 2, none⟩ = some (.slice Aa0_2 na0_2 ca0_2) := (S.at_ 7 rfl).cell 2
  have f3 : (w13).cell? ⟨w.heap.size + 1, 0, none⟩ = some (.int .i64 xa1_0) := (S.at_ 6 rfl).cell 0
  have f4 : (w13).cell? ⟨w.heap.size + 1, 1, none⟩ = some (.int .i64 xa1_1) := (S.at_ 6 rfl).cell 1
  have f5 : (w13).cell? ⟨w.heap.size + 1, 2, none⟩ = some (.int .i64 xa1_2) := (S.at_ 6 rfl).cell 2
  have f6 : (w13).cell? ⟨w.heap.size + 1, 3, none⟩ = some (.int .i64 xa1_3) := (S.at_ 6 rfl).cell 3
  have f7 : (w13).cell? ⟨w.heap.size + 1, 4, none⟩ = some (.int .i64 xa1_4) := (S.at_ 6 rfl).cell 4
  have f8 : (w13).cell? ⟨w.heap.size + 1, 5, none⟩ = some (.int .i64 xa1_5) := (S.at_ 6 rfl).cell 5
  have f9 : (w13).cell? ⟨w.heap.size + 1, 6, none⟩ = some (.int .i64 xa1_6) := (S.at_ 6 rfl).cell 6
  have f10 : (w13).cell? ⟨w.heap.size + 1, 7, none⟩ = some (.int .i64 xa1_7) := (S.at_ 6 rfl).cell 7
  have f11 : (w13).cell? ⟨w.heap.size + 1, 8, none⟩ = some (.int .i64 xa1_8) := (S.at_ 6 rfl).cell 8
  have SH := Lib.hid S
  have CH := Lib.hid c
  clear S c
  go_wp2_with fail
  go_cut [14, 15] (fun s0 s1 wx => ∃ (ph0 : Nat) (xh0_0 : Int) (xh0_1 : Int) (Ah0_2 : Option Addr) (nh0_2 ch0_2 : Nat) (fp_h0 : List Nat), s0 = .pointer (some ⟨ph0, 0, none⟩) ∧ s1 = .bool ((f d0 ⟨xa1_0, xa1_1, xa1_2, xa1_3, xa1_4, xa1_5, xa1_6, xa1_7, xa1_8⟩).2) ∧ Sep wx w.heap.size [.blk ph0 #[.int .i64 xh0_0, .int .i64 xh0_1, .slice Ah0_2 nh0_2 ch0_2] 29, .own (((f d0 ⟨xa1_0, xa1_1, xa1_2, xa1_3, xa1_4, xa1_5, xa1_6, xa1_7, xa1_8⟩).1).cells) [.int .i64 xh0_0, .int .i64 xh0_1, .slice Ah0_2 nh0_2 ch0_2] fp_h0, .blk (pg0) #[.int .i64 xg0_0, .int .i64 xg0_1, .slice Ag0_2 ng0_2 cg0_2] 29, .own (e0.cells) [.int .i64 xg0_0, .int .i64 xg0_1, .slice Ag0_2 ng0_2 cg0_2] fp_g0, .blk (pw0) #[.int .i64 xw0_0, .int .i64 xw0_1, .slice Aw0_2 nw0_2 cw0_2] 29, .own (fx0.cells) [.int .i64 xw0_0, .int .i64 xw0_1, .slice Aw0_2 nw0_2 cw0_2] fp_w0] ∧ Below w.heap.size w wx)
  case first =>
    have S := SH.out
    have c := CH.out
    refine wp_region_L (fun v => v.cell? ⟨w.heap.size, 0, none⟩ = some (.int .i64 xa0_0) ∧ v.cell? ⟨w.heap.size, 1, none⟩ = some (.int .i64 xa0_1) ∧ v.cell? ⟨w.heap.size, 2, none⟩ = some (.slice Aa0_2 na0_2 ca0_2) ∧ v.cell? ⟨w.heap.size + 1, 0, none⟩ = some (.int .i64 xa1_0) ∧ v.cell? ⟨w.heap.size + 1, 1, none⟩ = some (.int .i64 xa1_1) ∧ v.cell? ⟨w.heap.size + 1, 2, none⟩ = some (.int .i64 xa1_2) ∧ v.cell? ⟨w.heap.size + 1, 3, none⟩ = some (.int .i64 xa1_3) ∧ v.cell? ⟨w.heap.size + 1, 4, none⟩ = some (.int .i64 xa1_4) ∧ v.cell? ⟨w.heap.size + 1, 5, none⟩ = some (.int .i64 xa1_5) ∧ v.cell? ⟨w.heap.size + 1, 6, none⟩ = some (.int .i64 xa1_6) ∧ v.cell? ⟨w.heap.size + 1, 7, none⟩ = some (.int .i64 xa1_7) ∧ v.cell? ⟨w.heap.size + 1, 8, none⟩ = some (.int .i64 xa1_8)) 10 (by kernel_rfl) ?_
    clear f0 f1 f2 f3 f4 f5 f6 f7 f8 f9 f10 f11 SH CH
    replace S := S.keep ((Below.refl _ _).drew)
    replace c := c.drew
    generalize w13.drew = w64 at *
    have HF : w64.cell? ⟨w.heap.size, 0, none⟩ = some (.int .i64 xa0_0) ∧ w64.cell? ⟨w.heap.size, 1, none⟩ = some (.int .i64 xa0_1) ∧ w64.cell? ⟨w.heap.size, 2, none⟩ = some (.slice Aa0_2 na0_2 ca0_2) ∧ w64.cell? ⟨w.heap.size + 1, 0, none⟩ = some (.int .i64 xa1_0) ∧ w64.cell? ⟨w.heap.size + 1, 1, none⟩ = some (.int .i64 xa1_1) ∧ w64.cell? ⟨w.heap.size + 1, 2, none⟩ = some (.int .i64 xa1_2) ∧ w64.cell? ⟨w.heap.size + 1, 3, none⟩ = some (.int .i64 xa1_3) ∧ w64.cell? ⟨w.heap.size + 1, 4, none⟩ = some (.int .i64 xa1_4) ∧ w64.cell? ⟨w.heap.size + 1, 5, none⟩ = some (.int .i64 xa1_5) ∧ w64.cell? ⟨w.heap.size + 1, 6, none⟩ = some (.int .i64 xa1_6) ∧ w64.cell? ⟨w.heap.size + 1, 7, none⟩ = some (.int .i64 xa1_7) ∧ w64.cell? ⟨w.heap.size + 1, 8, none⟩ = some (.int .i64 xa1_8) := ⟨(S.at_ 7 rfl).cell 0, (S.at_ 7 rfl).cell 1, (S.at_ 7 rfl).cell 2, (S.at_ 6 rfl).cell 0, (S.at_ 6 rfl).cell 1, (S.at_ 6 rfl).cell 2, (S.at_ 6 rfl).cell 3, (S.at_ 6 rfl).cell 4, (S.at_ 6 rfl).cell 5, (S.at_ 6 rfl).cell 6, (S.at_ 6 rfl).cell 7, (S.at_ 6 rfl).cell 8⟩
    refine wpAnyL_take (i := 0) (v := ?_) rfl rfl (by kernel_rfl) (by kernel_rfl) (by kernel_rfl) (by kernel_rfl) (by kernel_rfl) (fun _ _ _ h => h) HF (Or.inl ⟨by rfl, ?_⟩) ?_
    rotate_left 1
    · (rintro v ⟨a0, a1, a2, a3, a4, a5, a6, a7, a8, a9, a10, a11⟩; go_simp; try with_reducible rfl)
    try simp only [Act.put]
    refine wpAnyL_take (i := 2) (v := ?_) rfl rfl (by kernel_rfl) (by kernel_rfl) (by kernel_rfl) (by kernel_rfl) (by kernel_rfl) (fun _ _ _ h => h) HF (Or.inl ⟨by rfl, ?_⟩) ?_
    rotate_left 1
    · (rintro v ⟨a0, a1, a2, a3, a4, a5, a6, a7, a8, a9, a10, a11⟩; go_simp; try with_reducible rfl)
    try simp only [Act.put]
    refine wpAnyL_two (i := 1) (k := 8) (by kernel_rfl) rfl rfl rfl rfl ?_ ?_
    · intro K hK
      go_simp
      refine (toBook_made _ _ _ d0 _ ((h0.keep c).up c.size) hz0).mono ?_
      rintro e w65 ⟨xt0_0, xt0_1, At0_2, nt0_2, ct0_2, rfl, o, b⟩
      obtain ⟨fp_Ot0, S'⟩ := S.has b o c.size
      replace c := c.trans (b.mono c.size)
      clear S; have S := S'; clear S' o b
      clear HF
      have HF : w65.cell? ⟨w.heap.size, 0, none⟩ = some (.int .i64 xa0_0) ∧ w65.cell? ⟨w.heap.size, 1, none⟩ = some (.int .i64 xa0_1) ∧ w65.cell? ⟨w.heap.size, 2, none⟩ = some (.slice Aa0_2 na0_2 ca0_2) ∧ w65.cell? ⟨w.heap.size + 1, 0, none⟩ = some (.int .i64 xa1_0) ∧ w65.cell? ⟨w.heap.size + 1, 1, none⟩ = some (.int .i64 xa1_1) ∧ w65.cell? ⟨w.heap.size + 1, 2, none⟩ = some (.int .i64 xa1_2) ∧ w65.cell? ⟨w.heap.size + 1, 3, none⟩ = some (.int .i64 xa1_3) ∧ w65.cell? ⟨w.heap.size + 1, 4, none⟩ = some (.int .i64 xa1_4) ∧ w65.cell? ⟨w.heap.size + 1, 5, none⟩ = some (.int .i64 xa1_5) ∧ w65.cell? ⟨w.heap.size + 1, 6, none⟩ = some (.int .i64 xa1_6) ∧ w65.cell? ⟨w.heap.size + 1, 7, none⟩ = some (.int .i64 xa1_7) ∧ w65.cell? ⟨w.heap.size + 1, 8, none⟩ = some (.int .i64 xa1_8) := ⟨(S.at_ 8 rfl).cell 0, (S.at_ 8 rfl).cell 1, (S.at_ 8 rfl).cell 2, (S.at_ 7 rfl).cell 0, (S.at_ 7 rfl).cell 1, (S.at_ 7 rfl).cell 2, (S.at_ 7 rfl).cell 3, (S.at_ 7 rfl).cell 4, (S.at_ 7 rfl).cell 5, (S.at_ 7 rfl).cell 6, (S.at_ 7 rfl).cell 7, (S.at_ 7 rfl).cell 8⟩
      refine hK _ _ (fun _ => HF) ?_
      clear hK K
      try simp only [Act.put]
      refine wpAnyL_two (i := 3) (k := 8) (by kernel_rfl) rfl rfl rfl rfl ?_ ?_
      · intro K hK
        go_simp
        refine (toEntry_any _ _ _ _ _ _ _ _ _ _).mono ?_
        rintro e w66 ⟨rfl, b⟩
        replace c := c.trans (b.mono c.size)
        replace S := S.keep b
        clear b
        clear HF
        have HF : w66.cell? ⟨w.heap.size, 0, none⟩ = some (.int .i64 xa0_0) ∧ w66.cell? ⟨w.heap.size, 1, none⟩ = some (.int .i64 xa0_1) ∧ w66.cell? ⟨w.heap.size, 2, none⟩ = some (.slice Aa0_2 na0_2 ca0_2) ∧ w66.cell? ⟨w.heap.size + 1, 0, none⟩ = some (.int .i64 xa1_0) ∧ w66.cell? ⟨w.heap.size + 1, 1, none⟩ = some (.int .i64 xa1_1) ∧ w66.cell? ⟨w.heap.size + 1, 2, none⟩ = some (.int .i64 xa1_2) ∧ w66.cell? ⟨w.heap.size + 1, 3, none⟩ = some (.int .i64 xa1_3) ∧ w66.cell? ⟨w.heap.size + 1, 4, none⟩ = some (.int .i64 xa1_4) ∧ w66.cell? ⟨w.heap.size + 1, 5, none⟩ = some (.int .i64 xa1_5) ∧ w66.cell? ⟨w.heap.size + 1, 6, none⟩ = some (.int .i64 xa1_6) ∧ w66.cell? ⟨w.heap.size + 1, 7, none⟩ = some (.int .i64 xa1_7) ∧ w66.cell? ⟨w.heap.size + 1, 8, none⟩ = some (.int .i64 xa1_8) := ⟨(S.at_ 8 rfl).cell 0, (S.at_ 8 rfl).cell 1, (S.at_ 8 rfl).cell 2, (S.at_ 7 rfl).cell 0, (S.at_ 7 rfl).cell 1, (S.at_ 7 rfl).cell 2, (S.at_ 7 rfl).cell 3, (S.at_ 7 rfl).cell 4, (S.at_ 7 rfl).cell 5, (S.at_ 7 rfl).cell 6, (S.at_ 7 rfl).cell 7, (S.at_ 7 rfl).cell 8⟩
        refine hK _ _ (fun _ => HF) ?_
        clear hK K
        try simp only [Act.put]
        refine wpAnyL_two (i := 4) (k := 8) (by kernel_rfl) rfl rfl rfl rfl ?_ ?_
        · intro K hK
          go_simp
          refine (IM.out _ _ _ _ _ d0 _ _ _ _ _ _ _ _ _ _ ((S.own_ 0 rfl).rd) hz0).mono ?_
          rintro e w67 ⟨xh0_0, xh0_1, Ah0_2, nh0_2, ch0_2, rfl, o, b⟩
          obtain ⟨fp_Oh0, S'⟩ := S.has b o c.size
          replace c := c.trans (b.mono c.size)
          clear S; have S := S'; clear S' o b
          clear HF
          have HF : w67.cell? ⟨w.heap.size, 0, none⟩ = some (.int .i64 xa0_0) ∧ w67.cell? ⟨w.heap.size, 1, none⟩ = some (.int .i64 xa0_1) ∧ w67.cell? ⟨w.heap.size, 2, none⟩ = some (.slice Aa0_2 na0_2 ca0_2) ∧ w67.cell? ⟨w.heap.size + 1, 0, none⟩ = some (.int .i64 xa1_0) ∧ w67.cell? ⟨w.heap.size + 1, 1, none⟩ = some (.int .i64 xa1_1) ∧ w67.cell? ⟨w.heap.size + 1, 2, none⟩ = some (.int .i64 xa1_2) ∧ w67.cell? ⟨w.heap.size + 1, 3, none⟩ = some (.int .i64 xa1_3) ∧ w67.cell? ⟨w.heap.size + 1, 4, none⟩ = some (.int .i64 xa1_4) ∧ w67.cell? ⟨w.heap.size + 1, 5, none⟩ = some (.int .i64 xa1_5) ∧ w67.cell? ⟨w.heap.size + 1, 6, none⟩ = some (.int .i64 xa1_6) ∧ w67.cell? ⟨w.heap.size + 1, 7, none⟩ = some (.int .i64 xa1_7) ∧ w67.cell? ⟨w.heap.size + 1, 8, none⟩ = some (.int .i64 xa1_8) := ⟨(S.at_ 9 rfl).cell 0, (S.at_ 9 rfl).cell 1, (S.at_ 9 rfl).cell 2, (S.at_ 8 rfl).cell 0, (S.at_ 8 rfl).cell 1, (S.at_ 8 rfl).cell 2, (S.at_ 8 rfl).cell 3, (S.at_ 8 rfl).cell 4, (S.at_ 8 rfl).cell 5, (S.at_ 8 rfl).cell 6, (S.at_ 8 rfl).cell 7, (S.at_ 8 rfl).cell 8⟩
          refine hK _ _ (fun _ => HF) ?_
          clear hK K
          try simp only [Act.put]
          refine wpAnyL_pure (i := 5) (v := ?_) rfl rfl (by kernel_rfl) (by kernel_rfl) (by kernel_rfl) (fun _ _ _ h => h) HF (Or.inl ⟨by rfl, ?_⟩) ?_
          rotate_left 1
          · (intro v _; go_simp; try with_reducible rfl)
          try simp only [Act.put]
          refine wpAnyL_pure (i := 6) (v := ?_) rfl rfl (by kernel_rfl) (by kernel_rfl) (by kernel_rfl) (fun _ _ _ h => h) HF (Or.inl ⟨by rfl, ?_⟩) ?_
          rotate_left 1
          · (intro v _; go_simp; try with_reducible rfl)
          try simp only [Act.put]
          refine wpAnyL_pure (i := 7) (v := ?_) rfl rfl (by kernel_rfl) (by kernel_rfl) (by kernel_rfl) (fun _ _ _ h => h) HF (Or.inl ⟨by rfl, ?_⟩) ?_
          rotate_left 1
          · (intro v _; go_simp; try with_reducible rfl)
          try simp only [Act.put]
          refine wpAnyL_step (i := 8) (by kernel_rfl) rfl rfl ?_
          intro K hK
          go_simp
          replace S := S.boxAt c.size (w67.heap.size) rfl #[.int .i64 0, .int .i64 0, .slice none 0 0] 29
          replace c := c.alloc c.size (.cells #[.int .i64 0, .int .i64 0, .slice none 0 0] 29)
          clear HF
          have HF : (w67.alloc (.cells #[.int .i64 0, .int .i64 0, .slice none 0 0] 29)).cell? ⟨w.heap.size, 0, none⟩ = some (.int .i64 xa0_0) ∧ (w67.alloc (.cells #[.int .i64 0, .int .i64 0, .slice none 0 0] 29)).cell? ⟨w.heap.size, 1, none⟩ = some (.int .i64 xa0_1) ∧ (w67.alloc (.cells #[.int .i64 0, .int .i64 0, .slice none 0 0] 29)).cell? ⟨w.heap.size, 2, none⟩ = some (.slice Aa0_2 na0_2 ca0_2) ∧ (w67.alloc (.cells #[.int .i64 0, .int .i64 0, .slice none 0 0] 29)).cell? ⟨w.heap.size + 1, 0, none⟩ = some (.int .i64 xa1_0) ∧ (w67.alloc (.cells #[.int .i64 0, .int .i64 0, .slice none 0 0] 29)).cell? ⟨w.heap.size + 1, 1, none⟩ = some (.int .i64 xa1_1) ∧ (w67.alloc (.cells #[.int .i64 0, .int .i64 0, .slice none 0 0] 29)).cell? ⟨w.heap.size + 1, 2, none⟩ = some (.int .i64 xa1_2) ∧ (w67.alloc (.cells #[.int .i64 0, .int .i64 0, .slice none 0 0] 29)).cell? ⟨w.heap.size + 1, 3, none⟩ = some (.int .i64 xa1_3) ∧ (w67.alloc (.cells #[.int .i64 0, .int .i64 0, .slice none 0 0] 29)).cell? ⟨w.heap.size + 1, 4, none⟩ = some (.int .i64 xa1_4) ∧ (w67.alloc (.cells #[.int .i64 0, .int .i64 0, .slice none 0 0] 29)).cell? ⟨w.heap.size + 1, 5, none⟩ = some (.int .i64 xa1_5) ∧ (w67.alloc (.cells #[.int .i64 0, .int .i64 0, .slice none 0 0] 29)).cell? ⟨w.heap.size + 1, 6, none⟩ = some (.int .i64 xa1_6) ∧ (w67.alloc (.cells #[.int .i64 0, .int .i64 0, .slice none 0 0] 29)).cell? ⟨w.heap.size + 1, 7, none⟩ = some (.int .i64 xa1_7) ∧ (w67.alloc (.cells #[.int .i64 0, .int .i64 0, .slice none 0 0] 29)).cell? ⟨w.heap.size + 1, 8, none⟩ = some (.int .i64 xa1_8) := ⟨(S.at_ 10 rfl).cell 0, (S.at_ 10 rfl).cell 1, (S.at_ 10 rfl).cell 2, (S.at_ 9 rfl).cell 0, (S.at_ 9 rfl).cell 1, (S.at_ 9 rfl).cell 2, (S.at_ 9 rfl).cell 3, (S.at_ 9 rfl).cell 4, (S.at_ 9 rfl).cell 5, (S.at_ 9 rfl).cell 6, (S.at_ 9 rfl).cell 7, (S.at_ 9 rfl).cell 8⟩
          refine hK _ _ (fun _ => HF) ?_
          clear hK K
          try simp only [Act.put]
          generalize hw : w67.alloc (.cells #[.int .i64 0, .int .i64 0, .slice none 0 0] 29) = w68 at *
          clear hw
          have f0 : w68.cell? ⟨w67.heap.size, 0, none⟩ = some (.int .i64 0) := (S.at_ 0 rfl).cell 0
          have f1 := (S.at_ 0 rfl).free 0
          have f2 : w68.cell? ⟨w67.heap.size, 1, none⟩ = some (.int .i64 0) := (S.at_ 0 rfl).cell 1
          have f3 := (S.at_ 0 rfl).free 1
          have f4 : w68.cell? ⟨w67.heap.size, 2, none⟩ = some (.slice none 0 0) := (S.at_ 0 rfl).cell 2
          have f5 := (S.at_ 0 rfl).free 2
          refine wpAnyL_step (i := 9) (by kernel_rfl) rfl rfl ?_
          intro K hK
          go_simp
          replace c := c.setCell (p := ⟨w67.heap.size, 0, none⟩) (S.base_le 0 rfl) (.int .i64 xh0_0)
          replace S := S.put 0 rfl 0 (.int .i64 xh0_0)
          replace c := c.setCell (p := ⟨w67.heap.size, 1, none⟩) (S.base_le 0 rfl) (.int .i64 xh0_1)
          replace S := S.put 0 rfl 1 (.int .i64 xh0_1)
          replace c := c.setCell (p := ⟨w67.heap.size, 2, none⟩) (S.base_le 0 rfl) (.slice Ah0_2 nh0_2 ch0_2)
          replace S := S.put 0 rfl 2 (.slice Ah0_2 nh0_2 ch0_2)
          clear HF
          have HF : (((w68.setCell ⟨w67.heap.size, 0, none⟩ (.int .i64 xh0_0)).setCell ⟨w67.heap.size, 1, none⟩ (.int .i64 xh0_1)).setCell ⟨w67.heap.size, 2, none⟩ (.slice Ah0_2 nh0_2 ch0_2)).cell? ⟨w.heap.size, 0, none⟩ = some (.int .i64 xa0_0) ∧ (((w68.setCell ⟨w67.heap.size, 0, none⟩ (.int .i64 xh0_0)).setCell ⟨w67.heap.size, 1, none⟩ (.int .i64 xh0_1)).setCell ⟨w67.heap.size, 2, none⟩ (.slice Ah0_2 nh0_2 ch0_2)).cell? ⟨w.heap.size, 1, none⟩ = some (.int .i64 xa0_1) ∧ (((w68.setCell ⟨w67.heap.size, 0, none⟩ (.int .i64 xh0_0)).setCell ⟨w67.heap.size, 1, none⟩ (.int .i64 xh0_1)).setCell ⟨w67.heap.size, 2, none⟩ (.slice Ah0_2 nh0_2 ch0_2)).cell? ⟨w.heap.size, 2, none⟩ = some (.slice Aa0_2 na0_2 ca0_2) ∧ (((w68.setCell ⟨w67.heap.size, 0, none⟩ (.int .i64 xh0_0)).setCell ⟨w67.heap.size, 1, none⟩ (.int .i64 xh0_1)).setCell ⟨w67.heap.size, 2, none⟩ (.slice Ah0_2 nh0_2 ch0_2)).cell? ⟨w.heap.size + 1, 0, none⟩ = some (.int .i64 xa1_0) ∧ (((w68.setCell ⟨w67.heap.size, 0, none⟩ (.int .i64 xh0_0)).setCell ⟨w67.heap.size, 1, none⟩ (.int .i64 xh0_1)).setCell ⟨w67.heap.size, 2, none⟩ (.slice Ah0_2 nh0_2 ch0_2)).cell? ⟨w.heap.size + 1, 1, none⟩ = some (.int .i64 xa1_1) ∧ (((w68.setCell ⟨w67.heap.size, 0, none⟩ (.int .i64 xh0_0)).setCell ⟨w67.heap.size, 1, none⟩ (.int .i64 xh0_1)).setCell ⟨w67.heap.size, 2, none⟩ (.slice Ah0_2 nh0_2 ch0_2)).cell? ⟨w.heap.size + 1, 2, none⟩ = some (.int .i64 xa1_2) ∧ (((w68.setCell ⟨w67.heap.size, 0, none⟩ (.int .i64 xh0_0)).setCell ⟨w67.heap.size, 1, none⟩ (.int .i64 xh0_1)).setCell ⟨w67.heap.size, 2, none⟩ (.slice Ah0_2 nh0_2 ch0_2)).cell? ⟨w.heap.size + 1, 3, none⟩ = some (.int .i64 xa1_3) ∧ (((w68.setCell ⟨w67.heap.size, 0, none⟩ (.int .i64 xh0_0)).setCell ⟨w67.heap.size, 1, none⟩ (.int .i64 xh0_1)).setCell ⟨w67.heap.size, 2, none⟩ (.slice Ah0_2 nh0_2 ch0_2)).cell? ⟨w.heap.size + 1, 4, none⟩ = some (.int .i64 xa1_4) ∧ (((w68.setCell ⟨w67.heap.size, 0, none⟩ (.int .i64 xh0_0)).setCell ⟨w67.heap.size, 1, none⟩ (.int .i64 xh0_1)).setCell ⟨w67.heap.size, 2, none⟩ (.slice Ah0_2 nh0_2 ch0_2)).cell? ⟨w.heap.size + 1, 5, none⟩ = some (.int .i64 xa1_5) ∧ (((w68.setCell ⟨w67.heap.size, 0, none⟩ (.int .i64 xh0_0)).setCell ⟨w67.heap.size, 1, none⟩ (.int .i64 xh0_1)).setCell ⟨w67.heap.size, 2, none⟩ (.slice Ah0_2 nh0_2 ch0_2)).cell? ⟨w.heap.size + 1, 6, none⟩ = some (.int .i64 xa1_6) ∧ (((w68.setCell ⟨w67.heap.size, 0, none⟩ (.int .i64 xh0_0)).setCell ⟨w67.heap.size, 1, none⟩ (.int .i64 xh0_1)).setCell ⟨w67.heap.size, 2, none⟩ (.slice Ah0_2 nh0_2 ch0_2)).cell? ⟨w.heap.size + 1, 7, none⟩ = some (.int .i64 xa1_7) ∧ (((w68.setCell ⟨w67.heap.size, 0, none⟩ (.int .i64 xh0_0)).setCell ⟨w67.heap.size, 1, none⟩ (.int .i64 xh0_1)).setCell ⟨w67.heap.size, 2, none⟩ (.slice Ah0_2 nh0_2 ch0_2)).cell? ⟨w.heap.size + 1, 8, none⟩ = some (.int .i64 xa1_8) := ⟨(S.at_ 10 rfl).cell 0, (S.at_ 10 rfl).cell 1, (S.at_ 10 rfl).cell 2, (S.at_ 9 rfl).cell 0, (S.at_ 9 rfl).cell 1, (S.at_ 9 rfl).cell 2, (S.at_ 9 rfl).cell 3, (S.at_ 9 rfl).cell 4, (S.at_ 9 rfl).cell 5, (S.at_ 9 rfl).cell 6, (S.at_ 9 rfl).cell 7, (S.at_ 9 rfl).cell 8⟩
          refine hK _ _ (fun _ => HF) ?_
          clear hK K
          try simp only [Act.put]
          generalize ((w68.setCell ⟨w67.heap.size, 0, none⟩ (.int .i64 xh0_0)).setCell ⟨w67.heap.size, 1, none⟩ (.int .i64 xh0_1)).setCell ⟨w67.heap.size, 2, none⟩ (.slice Ah0_2 nh0_2 ch0_2) = w69 at *
          clear f0 f1 f2 f3 f4 f5
          refine wpAnyL_step (i := 10) (by kernel_rfl) rfl rfl ?_
          intro K hK
          go_simp
          refine hK _ _ (fun h => nomatch (show true = false from h)) ?_
          clear hK K
          try simp only [Act.put]
          refine wpAnyL_done (by kernel_rfl) ?_ _
          replace S := S.pick 1 rfl
          replace S := S.pick 1 rfl
          replace S := S.sub (.cons_cons _ (.cons_cons _ (.cons _ (.cons_cons _ (.cons_cons _ (.cons _ (.cons _ (.cons_cons _ (.cons_cons _ (List.nil_sublist _))))))))))
          go_wp2_with fail
          go_meet
          exact ⟨_, _, _, _, _, _, _, rfl, rfl, S, c⟩
        · intro K hK
          go_simp
          replace S := S.boxAt c.size (w66.heap.size) rfl #[.int .i64 0, .int .i64 0, .slice none 0 0] 29
          replace c := c.alloc c.size (.cells #[.int .i64 0, .int .i64 0, .slice none 0 0] 29)
          clear HF
          have HF : (w66.alloc (.cells #[.int .i64 0, .int .i64 0, .slice none 0 0] 29)).cell? ⟨w.heap.size, 0, none⟩ = some (.int .i64 xa0_0) ∧ (w66.alloc (.cells #[.int .i64 0, .int .i64 0, .slice none 0 0] 29)).cell? ⟨w.heap.size, 1, none⟩ = some (.int .i64 xa0_1) ∧ (w66.alloc (.cells #[.int .i64 0, .int .i64 0, .slice none 0 0] 29)).cell? ⟨w.heap.size, 2, none⟩ = some (.slice Aa0_2 na0_2 ca0_2) ∧ (w66.alloc (.cells #[.int .i64 0, .int .i64 0, .slice none 0 0] 29)).cell? ⟨w.heap.size + 1, 0, none⟩ = some (.int .i64 xa1_0) ∧ (w66.alloc (.cells #[.int .i64 0, .int .i64 0, .slice none 0 0] 29)).cell? ⟨w.heap.size + 1, 1, none⟩ = some (.int .i64 xa1_1) ∧ (w66.alloc (.cells #[.int .i64 0, .int .i64 0, .slice none 0 0] 29)).cell? ⟨w.heap.size + 1, 2, none⟩ = some (.int .i64 xa1_2) ∧ (w66.alloc (.cells #[.int .i64 0, .int .i64 0, .slice none 0 0] 29)).cell? ⟨w.heap.size + 1, 3, none⟩ = some (.int .i64 xa1_3) ∧ (w66.alloc (.cells #[.int .i64 0, .int .i64 0, .slice none 0 0] 29)).cell? ⟨w.heap.size + 1, 4, none⟩ = some (.int .i64 xa1_4) ∧ (w66.alloc (.cells #[.int .i64 0, .int .i64 0, .slice none 0 0] 29)).cell? ⟨w.heap.size + 1, 5, none⟩ = some (.int .i64 xa1_5) ∧ (w66.alloc (.cells #[.int .i64 0, .int .i64 0, .slice none 0 0] 29)).cell? ⟨w.heap.size + 1, 6, none⟩ = some (.int .i64 xa1_6) ∧ (w66.alloc (.cells #[.int .i64 0, .int .i64 0, .slice none 0 0] 29)).cell? ⟨w.heap.size + 1, 7, none⟩ = some (.int .i64 xa1_7) ∧ (w66.alloc (.cells #[.int .i64 0, .int .i64 0, .slice none 0 0] 29)).cell? ⟨w.heap.size + 1, 8, none⟩ = some (.int .i64 xa1_8) := ⟨(S.at_ 9 rfl).cell 0, (S.at_ 9 rfl).cell 1, (S.at_ 9 rfl).cell 2, (S.at_ 8 rfl).cell 0, (S.at_ 8 rfl).cell 1, (S.at_ 8 rfl).cell 2, (S.at_ 8 rfl).cell 3, (S.at_ 8 rfl).cell 4, (S.at_ 8 rfl).cell 5, (S.at_ 8 rfl).cell 6, (S.at_ 8 rfl).cell 7, (S.at_ 8 rfl).cell 8⟩
          refine hK _ _ (fun _ => HF) ?_
          clear hK K
          try simp only [Act.put]
          generalize hw : w66.alloc (.cells #[.int .i64 0, .int .i64 0, .slice none 0 0] 29) = w67 at *
          clear hw
          refine wpAnyL_step (i := 4) (by kernel_rfl) rfl rfl ?_
          intro K hK
          go_simp
          refine (IM.out _ _ _ _ _ d0 _ _ _ _ _ _ _ _ _ _ ((S.own_ 1 rfl).rd) hz0).mono ?_
          rintro e w68 ⟨xh0_0, xh0_1, Ah0_2, nh0_2, ch0_2, rfl, o, b⟩
          obtain ⟨fp_Oh0, S'⟩ := S.has b o c.size
          replace c := c.trans (b.mono c.size)
          clear S; have S := S'; clear S' o b
          clear HF
          have HF : w68.cell? ⟨w.heap.size, 0, none⟩ = some (.int .i64 xa0_0) ∧ w68.cell? ⟨w.heap.size, 1, none⟩ = some (.int .i64 xa0_1) ∧ w68.cell? ⟨w.heap.size, 2, none⟩ = some (.slice Aa0_2 na0_2 ca0_2) ∧ w68.cell? ⟨w.heap.size + 1, 0, none⟩ = some (.int .i64 xa1_0) ∧ w68.cell? ⟨w.heap.size + 1, 1, none⟩ = some (.int .i64 xa1_1) ∧ w68.cell? ⟨w.heap.size + 1, 2, none⟩ = some (.int .i64 xa1_2) ∧ w68.cell? ⟨w.heap.size + 1, 3, none⟩ = some (.int .i64 xa1_3) ∧ w68.cell? ⟨w.heap.size + 1, 4, none⟩ = some (.int .i64 xa1_4) ∧ w68.cell? ⟨w.heap.size + 1, 5, none⟩ = some (.int .i64 xa1_5) ∧ w68.cell? ⟨w.heap.size + 1, 6, none⟩ = some (.int .i64 xa1_6) ∧ w68.cell? ⟨w.heap.size + 1, 7, none⟩ = some (.int .i64 xa1_7) ∧ w68.cell? ⟨w.heap.size + 1, 8, none⟩ = some (.int .i64 xa1_8) := ⟨(S.at_ 10 rfl).cell 0, (S.at_ 10 rfl).cell 1, (S.at_ 10 rfl).cell 2, (S.at_ 9 rfl).cell 0, (S.at_ 9 rfl).cell 1, (S.at_ 9 rfl).cell 2, (S.at_ 9 rfl).cell 3, (S.at_ 9 rfl).cell 4, (S.at_ 9 rfl).cell 5, (S.at_ 9 rfl).cell 6, (S.at_ 9 rfl).cell 7, (S.at_ 9 rfl).cell 8⟩
          refine hK _ _ (fun _ => HF) ?_
          clear hK K
          try simp only [Act.put]
          refine wpAnyL_pure (i := 5) (v := ?_) rfl rfl (by kernel_rfl) (by kernel_rfl) (by kernel_rfl) (fun _ _ _ h => h) HF (Or.inl ⟨by rfl, ?_⟩) ?_
          rotate_left 1
          · (intro v _; go_simp; try with_reducible rfl)
          try simp only [Act.put]
          refine wpAnyL_pure (i := 6) (v := ?_) rfl rfl (by kernel_rfl) (by kernel_rfl) (by kernel_rfl) (fun _ _ _ h => h) HF (Or.inl ⟨by rfl, ?_⟩) ?_
          rotate_left 1
          · (intro v _; go_simp; try with_reducible rfl)
          try simp only [Act.put]
          refine wpAnyL_pure (i := 7) (v := ?_) rfl rfl (by kernel_rfl) (by kernel_rfl) (by kernel_rfl) (fun _ _ _ h => h) HF (Or.inl ⟨by rfl, ?_⟩) ?_
          rotate_left 1
          · (intro v _; go_simp; try with_reducible rfl)
          try simp only [Act.put]
          have f0 : w68.cell? ⟨w66.heap.size, 0, none⟩ = some (.int .i64 0) := (S.at_ 1 rfl).cell 0
          have f1 := (S.at_ 1 rfl).free 0
          have f2 : w68.cell? ⟨w66.heap.size, 1, none⟩ = some (.int .i64 0) := (S.at_ 1 rfl).cell 1
          have f3 := (S.at_ 1 rfl).free 1
          have f4 : w68.cell? ⟨w66.heap.size, 2, none⟩ = some (.slice none 0 0) := (S.at_ 1 rfl).cell 2
          have f5 := (S.at_ 1 rfl).free 2
          refine wpAnyL_step (i := 9) (by kernel_rfl) rfl rfl ?_
          intro K hK
          go_simp
          replace c := c.setCell (p := ⟨w66.heap.size, 0, none⟩) (S.base_le 1 rfl) (.int .i64 xh0_0)
          replace S := S.put 1 rfl 0 (.int .i64 xh0_0)
          replace c := c.setCell (p := ⟨w66.heap.size, 1, none⟩) (S.base_le 1 rfl) (.int .i64 xh0_1)
          replace S := S.put 1 rfl 1 (.int .i64 xh0_1)
          replace c := c.setCell (p := ⟨w66.heap.size, 2, none⟩) (S.base_le 1 rfl) (.slice Ah0_2 nh0_2 ch0_2)
          replace S := S.put 1 rfl 2 (.slice Ah0_2 nh0_2 ch0_2)
          clear HF
          have HF : (((w68.setCell ⟨w66.heap.size, 0, none⟩ (.int .i64 xh0_0)).setCell ⟨w66.heap.size, 1, none⟩ (.int .i64 xh0_1)).setCell ⟨w66.heap.size, 2, none⟩ (.slice Ah0_2 nh0_2 ch0_2)).cell? ⟨w.heap.size, 0, none⟩ = some (.int .i64 xa0_0) ∧ (((w68.setCell ⟨w66.heap.size, 0, none⟩ (.int .i64 xh0_0)).setCell ⟨w66.heap.size, 1, none⟩ (.int .i64 xh0_1)).setCell ⟨w66.heap.size, 2, none⟩ (.slice Ah0_2 nh0_2 ch0_2)).cell? ⟨w.heap.size, 1, none⟩ = some (.int .i64 xa0_1) ∧ (((w68.setCell ⟨w66.heap.size, 0, none⟩ (.int .i64 xh0_0)).setCell ⟨w66.heap.size, 1, none⟩ (.int .i64 xh0_1)).setCell ⟨w66.heap.size, 2, none⟩ (.slice Ah0_2 nh0_2 ch0_2)).cell? ⟨w.heap.size, 2, none⟩ = some (.slice Aa0_2 na0_2 ca0_2) ∧ (((w68.setCell ⟨w66.heap.size, 0, none⟩ (.int .i64 xh0_0)).setCell ⟨w66.heap.size, 1, none⟩ (.int .i64 xh0_1)).setCell ⟨w66.heap.size, 2, none⟩ (.slice Ah0_2 nh0_2 ch0_2)).cell? ⟨w.heap.size + 1, 0, none⟩ = some (.int .i64 xa1_0) ∧ (((w68.setCell ⟨w66.heap.size, 0, none⟩ (.int .i64 xh0_0)).setCell ⟨w66.heap.size, 1, none⟩ (.int .i64 xh0_1)).setCell ⟨w66.heap.size, 2, none⟩ (.slice Ah0_2 nh0_2 ch0_2)).cell? ⟨w.heap.size + 1, 1, none⟩ = some (.int .i64 xa1_1) ∧ (((w68.setCell ⟨w66.heap.size, 0, none⟩ (.int .i64 xh0_0)).setCell ⟨w66.heap.size, 1, none⟩ (.int .i64 xh0_1)).setCell ⟨w66.heap.size, 2, none⟩ (.slice Ah0_2 nh0_2 ch0_2)).cell? ⟨w.heap.size + 1, 2, none⟩ = some (.int .i64 xa1_2) ∧ (((w68.setCell ⟨w66.heap.size, 0, none⟩ (.int .i64 xh0_0)).setCell ⟨w66.heap.size, 1, none⟩ (.int .i64 xh0_1)).setCell ⟨w66.heap.size, 2, none⟩ (.slice Ah0_2 nh0_2 ch0_2)).cell? ⟨w.heap.size + 1, 3, none⟩ = some (.int .i64 xa1_3) ∧ (((w68.setCell ⟨w66.heap.size, 0, none⟩ (.int .i64 xh0_0)).setCell ⟨w66.heap.size, 1, none⟩ (.int .i64 xh0_1)).setCell ⟨w66.heap.size, 2, none⟩ (.slice Ah0_2 nh0_2 ch0_2)).cell? ⟨w.heap.size + 1, 4, none⟩ = some (.int .i64 xa1_4) ∧ (((w68.setCell ⟨w66.heap.size, 0, none⟩ (.int .i64 xh0_0)).setCell ⟨w66.heap.size, 1, none⟩ (.int .i64 xh0_1)).setCell ⟨w66.heap.size, 2, none⟩ (.slice Ah0_2 nh0_2 ch0_2)).cell? ⟨w.heap.size + 1, 5, none⟩ = some (.int .i64 xa1_5) ∧ (((w68.setCell ⟨w66.heap.size, 0, none⟩ (.int .i64 xh0_0)).setCell ⟨w66.heap.size, 1, none⟩ (.int .i64 xh0_1)).setCell ⟨w66.heap.size, 2, none⟩ (.slice Ah0_2 nh0_2 ch0_2)).cell? ⟨w.heap.size + 1, 6, none⟩ = some (.int .i64 xa1_6) ∧ (((w68.setCell ⟨w66.heap.size, 0, none⟩ (.int .i64 xh0_0)).setCell ⟨w66.heap.size, 1, none⟩ (.int .i64 xh0_1)).setCell ⟨w66.heap.size, 2, none⟩ (.slice Ah0_2 nh0_2 ch0_2)).cell? ⟨w.heap.size + 1, 7, none⟩ = some (.int .i64 xa1_7) ∧ (((w68.setCell ⟨w66.heap.size, 0, none⟩ (.int .i64 xh0_0)).setCell ⟨w66.heap.size, 1, none⟩ (.int .i64 xh0_1)).setCell ⟨w66.heap.size, 2, none⟩ (.slice Ah0_2 nh0_2 ch0_2)).cell? ⟨w.heap.size + 1, 8, none⟩ = some (.int .i64 xa1_8) := ⟨(S.at_ 10 rfl).cell 0, (S.at_ 10 rfl).cell 1, (S.at_ 10 rfl).cell 2, (S.at_ 9 rfl).cell 0, (S.at_ 9 rfl).cell 1, (S.at_ 9 rfl).cell 2, (S.at_ 9 rfl).cell 3, (S.at_ 9 rfl).cell 4, (S.at_ 9 rfl).cell 5, (S.at_ 9 rfl).cell 6, (S.at_ 9 rfl).cell 7, (S.at_ 9 rfl).cell 8⟩
          refine hK _ _ (fun _ => HF) ?_
          clear hK K
          try simp only [Act.put]
          generalize ((w68.setCell ⟨w66.heap.size, 0, none⟩ (.int .i64 xh0_0)).setCell ⟨w66.heap.size, 1, none⟩ (.int .i64 xh0_1)).setCell ⟨w66.heap.size, 2, none⟩ (.slice Ah0_2 nh0_2 ch0_2) = w69 at *
          clear f0 f1 f2 f3 f4 f5
          refine wpAnyL_step (i := 10) (by kernel_rfl) rfl rfl ?_
          intro K hK
          go_simp
          refine hK _ _ (fun h => nomatch (show true = false from h)) ?_
          clear hK K
          try simp only [Act.put]
          refine wpAnyL_done (by kernel_rfl) ?_ _
          replace S := S.pick 0 rfl
          replace S := S.pick 1 rfl
          replace S := S.sub (.cons_cons _ (.cons_cons _ (.cons _ (.cons_cons _ (.cons_cons _ (.cons _ (.cons _ (.cons_cons _ (.cons_cons _ (List.nil_sublist _))))))))))
          go_wp2_with fail
          go_meet
          exact ⟨_, _, _, _, _, _, _, rfl, rfl, S, c⟩
      · intro K hK
        go_simp
        replace S := S.boxAt c.size (w65.heap.size) rfl #[.int .i64 0, .int .i64 0, .slice none 0 0] 29
        replace c := c.alloc c.size (.cells #[.int .i64 0, .int .i64 0, .slice none 0 0] 29)
        clear HF
        have HF : (w65.alloc (.cells #[.int .i64 0, .int .i64 0, .slice none 0 0] 29)).cell? ⟨w.heap.size, 0, none⟩ = some (.int .i64 xa0_0) ∧ (w65.alloc (.cells #[.int .i64 0, .int .i64 0, .slice none 0 0] 29)).cell? ⟨w.heap.size, 1, none⟩ = some (.int .i64 xa0_1) ∧ (w65.alloc (.cells #[.int .i64 0, .int .i64 0, .slice none 0 0] 29)).cell? ⟨w.heap.size, 2, none⟩ = some (.slice Aa0_2 na0_2 ca0_2) ∧ (w65.alloc (.cells #[.int .i64 0, .int .i64 0, .slice none 0 0] 29)).cell? ⟨w.heap.size + 1, 0, none⟩ = some (.int .i64 xa1_0) ∧ (w65.alloc (.cells #[.int .i64 0, .int .i64 0, .slice none 0 0] 29)).cell? ⟨w.heap.size + 1, 1, none⟩ = some (.int .i64 xa1_1) ∧ (w65.alloc (.cells #[.int .i64 0, .int .i64 0, .slice none 0 0] 29)).cell? ⟨w.heap.size + 1, 2, none⟩ = some (.int .i64 xa1_2) ∧ (w65.alloc (.cells #[.int .i64 0, .int .i64 0, .slice none 0 0] 29)).cell? ⟨w.heap.size + 1, 3, none⟩ = some (.int .i64 xa1_3) ∧ (w65.alloc (.cells #[.int .i64 0, .int .i64 0, .slice none 0 0] 29)).cell? ⟨w.heap.size + 1, 4, none⟩ = some (.int .i64 xa1_4) ∧ (w65.alloc (.cells #[.int .i64 0, .int .i64 0, .slice none 0 0] 29)).cell? ⟨w.heap.size + 1, 5, none⟩ = some (.int .i64 xa1_5) ∧ (w65.alloc (.cells #[.int .i64 0, .int .i64 0, .slice none 0 0] 29)).cell? ⟨w.heap.size + 1, 6, none⟩ = some (.int .i64 xa1_6) ∧ (w65.alloc (.cells #[.int .i64 0, .int .i64 0, .slice none 0 0] 29)).cell? ⟨w.heap.size + 1, 7, none⟩ = some (.int .i64 xa1_7) ∧ (w65.alloc (.cells #[.int .i64 0, .int .i64 0, .slice none 0 0] 29)).cell? ⟨w.heap.size + 1, 8, none⟩ = some (.int .i64 xa1_8) := ⟨(S.at_ 9 rfl).cell 0, (S.at_ 9 rfl).cell 1, (S.at_ 9 rfl).cell 2, (S.at_ 8 rfl).cell 0, (S.at_ 8 rfl).cell 1, (S.at_ 8 rfl).cell 2, (S.at_ 8 rfl).cell 3, (S.at_ 8 rfl).cell 4, (S.at_ 8 rfl).cell 5, (S.at_ 8 rfl).cell 6, (S.at_ 8 rfl).cell 7, (S.at_ 8 rfl).cell 8⟩
        refine hK _ _ (fun _ => HF) ?_
        clear hK K
        try simp only [Act.put]
        generalize hw : w65.alloc (.cells #[.int .i64 0, .int .i64 0, .slice none 0 0] 29) = w66 at *
        clear hw
        refine wpAnyL_step (i := 3) (by kernel_rfl) rfl rfl ?_
        intro K hK
        go_simp
        refine (toEntry_any _ _ _ _ _ _ _ _ _ _).mono ?_
        rintro e w67 ⟨rfl, b⟩
        replace c := c.trans (b.mono c.size)
        replace S := S.keep b
        clear b
        clear HF
        have HF : w67.cell? ⟨w.heap.size, 0, none⟩ = some (.int .i64 xa0_0) ∧ w67.cell? ⟨w.heap.size, 1, none⟩ = some (.int .i64 xa0_1) ∧ w67.cell? ⟨w.heap.size, 2, none⟩ = some (.slice Aa0_2 na0_2 ca0_2) ∧ w67.cell? ⟨w.heap.size + 1, 0, none⟩ = some (.int .i64 xa1_0) ∧ w67.cell? ⟨w.heap.size + 1, 1, none⟩ = some (.int .i64 xa1_1) ∧ w67.cell? ⟨w.heap.size + 1, 2, none⟩ = some (.int .i64 xa1_2) ∧ w67.cell? ⟨w.heap.size + 1, 3, none⟩ = some (.int .i64 xa1_3) ∧ w67.cell? ⟨w.heap.size + 1, 4, none⟩ = some (.int .i64 xa1_4) ∧ w67.cell? ⟨w.heap.size + 1, 5, none⟩ = some (.int .i64 xa1_5) ∧ w67.cell? ⟨w.heap.size + 1, 6, none⟩ = some (.int .i64 xa1_6) ∧ w67.cell? ⟨w.heap.size + 1, 7, none⟩ = some (.int .i64 xa1_7) ∧ w67.cell? ⟨w.heap.size + 1, 8, none⟩ = some (.int .i64 xa1_8) := ⟨(S.at_ 9 rfl).cell 0, (S.at_ 9 rfl).cell 1, (S.at_ 9 rfl).cell 2, (S.at_ 8 rfl).cell 0, (S.at_ 8 rfl).cell 1, (S.at_ 8 rfl).cell 2, (S.at_ 8 rfl).cell 3, (S.at_ 8 rfl).cell 4, (S.at_ 8 rfl).cell 5, (S.at_ 8 rfl).cell 6, (S.at_ 8 rfl).cell 7, (S.at_ 8 rfl).cell 8⟩
        refine hK _ _ (fun _ => HF) ?_
        clear hK K
        try simp only [Act.put]
        refine wpAnyL_step (i := 4) (by kernel_rfl) rfl rfl ?_
        intro K hK
        go_simp
        refine (IM.out _ _ _ _ _ d0 _ _ _ _ _ _ _ _ _ _ ((S.own_ 1 rfl).rd) hz0).mono ?_
        rintro e w68 ⟨xh0_0, xh0_1, Ah0_2, nh0_2, ch0_2, rfl, o, b⟩
        obtain ⟨fp_Oh0, S'⟩ := S.has b o c.size
        replace c := c.trans (b.mono c.size)
        clear S; have S := S'; clear S' o b
        clear HF
        have HF : w68.cell? ⟨w.heap.size, 0, none⟩ = some (.int .i64 xa0_0) ∧ w68.cell? ⟨w.heap.size, 1, none⟩ = some (.int .i64 xa0_1) ∧ w68.cell? ⟨w.heap.size, 2, none⟩ = some (.slice Aa0_2 na0_2 ca0_2) ∧ w68.cell? ⟨w.heap.size + 1, 0, none⟩ = some (.int .i64 xa1_0) ∧ w68.cell? ⟨w.heap.size + 1, 1, none⟩ = some (.int .i64 xa1_1) ∧ w68.cell? ⟨w.heap.size + 1, 2, none⟩ = some (.int .i64 xa1_2) ∧ w68.cell? ⟨w.heap.size + 1, 3, none⟩ = some (.int .i64 xa1_3) ∧ w68.cell? ⟨w.heap.size + 1, 4, none⟩ = some (.int .i64 xa1_4) ∧ w68.cell? ⟨w.heap.size + 1, 5, none⟩ = some (.int .i64 xa1_5) ∧ w68.cell? ⟨w.heap.size + 1, 6, none⟩ = some (.int .i64 xa1_6) ∧ w68.cell? ⟨w.heap.size + 1, 7, none⟩ = some (.int .i64 xa1_7) ∧ w68.cell? ⟨w.heap.size + 1, 8, none⟩ = some (.int .i64 xa1_8) := ⟨(S.at_ 10 rfl).cell 0, (S.at_ 10 rfl).cell 1, (S.at_ 10 rfl).cell 2, (S.at_ 9 rfl).cell 0, (S.at_ 9 rfl).cell 1, (S.at_ 9 rfl).cell 2, (S.at_ 9 rfl).cell 3, (S.at_ 9 rfl).cell 4, (S.at_ 9 rfl).cell 5, (S.at_ 9 rfl).cell 6, (S.at_ 9 rfl).cell 7, (S.at_ 9 rfl).cell 8⟩
        refine hK _ _ (fun _ => HF) ?_
        clear hK K
        try simp only [Act.put]
        refine wpAnyL_pure (i := 5) (v := ?_) rfl rfl (by kernel_rfl) (by kernel_rfl) (by kernel_rfl) (fun _ _ _ h => h) HF (Or.inl ⟨by rfl, ?_⟩) ?_
        rotate_left 1
        · (intro v _; go_simp; try with_reducible rfl)
        try simp only [Act.put]
        refine wpAnyL_pure (i := 6) (v := ?_) rfl rfl (by kernel_rfl) (by kernel_rfl) (by kernel_rfl) (fun _ _ _ h => h) HF (Or.inl ⟨by rfl, ?_⟩) ?_
        rotate_left 1
        · (intro v _; go_simp; try with_reducible rfl)
        try simp only [Act.put]
        refine wpAnyL_pure (i := 7) (v := ?_) rfl rfl (by kernel_rfl) (by kernel_rfl) (by kernel_rfl) (fun _ _ _ h => h) HF (Or.inl ⟨by rfl, ?_⟩) ?_
        rotate_left 1
        · (intro v _; go_simp; try with_reducible rfl)
        try simp only [Act.put]
        have f0 : w68.cell? ⟨w65.heap.size, 0, none⟩ = some (.int .i64 0) := (S.at_ 1 rfl).cell 0
        have f1 := (S.at_ 1 rfl).free 0
        have f2 : w68.cell? ⟨w65.heap.size, 1, none⟩ = some (.int .i64 0) := (S.at_ 1 rfl).cell 1
        have f3 := (S.at_ 1 rfl).free 1
        have f4 : w68.cell? ⟨w65.heap.size, 2, none⟩ = some (.slice none 0 0) := (S.at_ 1 rfl).cell 2
        have f5 := (S.at_ 1 rfl).free 2
        refine wpAnyL_step (i := 9) (by kernel_rfl) rfl rfl ?_
        intro K hK
        go_simp
        replace c := c.setCell (p := ⟨w65.heap.size, 0, none⟩) (S.base_le 1 rfl) (.int .i64 xh0_0)
        replace S := S.put 1 rfl 0 (.int .i64 xh0_0)
        replace c := c.setCell (p := ⟨w65.heap.size, 1, none⟩) (S.base_le 1 rfl) (.int .i64 xh0_1)
        replace S := S.put 1 rfl 1 (.int .i64 xh0_1)
        replace c := c.setCell (p := ⟨w65.heap.size, 2, none⟩) (S.base_le 1 rfl) (.slice Ah0_2 nh0_2 ch0_2)
        replace S := S.put 1 rfl 2 (.slice Ah0_2 nh0_2 ch0_2)
        clear HF
        have HF : (((w68.setCell ⟨w65.heap.size, 0, none⟩ (.int .i64 xh0_0)).setCell ⟨w65.heap.size, 1, none⟩ (.int .i64 xh0_1)).setCell ⟨w65.heap.size, 2, none⟩ (.slice Ah0_2 nh0_2 ch0_2)).cell? ⟨w.heap.size, 0, none⟩ = some (.int .i64 xa0_0) ∧ (((w68.setCell ⟨w65.heap.size, 0, none⟩ (.int .i64 xh0_0)).setCell ⟨w65.heap.size, 1, none⟩ (.int .i64 xh0_1)).setCell ⟨w65.heap.size, 2, none⟩ (.slice Ah0_2 nh0_2 ch0_2)).cell? ⟨w.heap.size, 1, none⟩ = some (.int .i64 xa0_1) ∧ (((w68.setCell ⟨w65.heap.size, 0, none⟩ (.int .i64 xh0_0)).setCell ⟨w65.heap.size, 1, none⟩ (.int .i64 xh0_1)).setCell ⟨w65.heap.size, 2, none⟩ (.slice Ah0_2 nh0_2 ch0_2)).cell? ⟨w.heap.size, 2, none⟩ = some (.slice Aa0_2 na0_2 ca0_2) ∧ (((w68.setCell ⟨w65.heap.size, 0, none⟩ (.int .i64 xh0_0)).setCell ⟨w65.heap.size, 1, none⟩ (.int .i64 xh0_1)).setCell ⟨w65.heap.size, 2, none⟩ (.slice Ah0_2 nh0_2 ch0_2)).cell? ⟨w.heap.size + 1, 0, none⟩ = some (.int .i64 xa1_0) ∧ (((w68.setCell ⟨w65.heap.size, 0, none⟩ (.int .i64 xh0_0)).setCell ⟨w65.heap.size, 1, none⟩ (.int .i64 xh0_1)).setCell ⟨w65.heap.size, 2, none⟩ (.slice Ah0_2 nh0_2 ch0_2)).cell? ⟨w.heap.size + 1, 1, none⟩ = some (.int .i64 xa1_1) ∧ (((w68.setCell ⟨w65.heap.size, 0, none⟩ (.int .i64 xh0_0)).setCell ⟨w65.heap.size, 1, none⟩ (.int .i64 xh0_1)).setCell ⟨w65.heap.size, 2, none⟩ (.slice Ah0_2 nh0_2 ch0_2)).cell? ⟨w.heap.size + 1, 2, none⟩ = some (.int .i64 xa1_2) ∧ (((w68.setCell ⟨w65.heap.size, 0, none⟩ (.int .i64 xh0_0)).setCell ⟨w65.heap.size, 1, none⟩ (.int .i64 xh0_1)).setCell ⟨w65.heap.size, 2, none⟩ (.slice Ah0_2 nh0_2 ch0_2)).cell? ⟨w.heap.size + 1, 3, none⟩ = some (.int .i64 xa1_3) ∧ (((w68.setCell ⟨w65.heap.size, 0, none⟩ (.int .i64 xh0_0)).setCell ⟨w65.heap.size, 1, none⟩ (.int .i64 xh0_1)).setCell ⟨w65.heap.size, 2, none⟩ (.slice Ah0_2 nh0_2 ch0_2)).cell? ⟨w.heap.size + 1, 4, none⟩ = some (.int .i64 xa1_4) ∧ (((w68.setCell ⟨w65.heap.size, 0, none⟩ (.int .i64 xh0_0)).setCell ⟨w65.heap.size, 1, none⟩ (.int .i64 xh0_1)).setCell ⟨w65.heap.size, 2, none⟩ (.slice Ah0_2 nh0_2 ch0_2)).cell? ⟨w.heap.size + 1, 5, none⟩ = some (.int .i64 xa1_5) ∧ (((w68.setCell ⟨w65.heap.size, 0, none⟩ (.int .i64 xh0_0)).setCell ⟨w65.heap.size, 1, none⟩ (.int .i64 xh0_1)).setCell ⟨w65.heap.size, 2, none⟩ (.slice Ah0_2 nh0_2 ch0_2)).cell? ⟨w.heap.size + 1, 6, none⟩ = some (.int .i64 xa1_6) ∧ (((w68.setCell ⟨w65.heap.size, 0, none⟩ (.int .i64 xh0_0)).setCell ⟨w65.heap.size, 1, none⟩ (.int .i64 xh0_1)).setCell ⟨w65.heap.size, 2, none⟩ (.slice Ah0_2 nh0_2 ch0_2)).cell? ⟨w.heap.size + 1, 7, none⟩ = some (.int .i64 xa1_7) ∧ (((w68.setCell ⟨w65.heap.size, 0, none⟩ (.int .i64 xh0_0)).setCell ⟨w65.heap.size, 1, none⟩ (.int .i64 xh0_1)).setCell ⟨w65.heap.size, 2, none⟩ (.slice Ah0_2 nh0_2 ch0_2)).cell? ⟨w.heap.size + 1, 8, none⟩ = some (.int .i64 xa1_8) := ⟨(S.at_ 10 rfl).cell 0, (S.at_ 10 rfl).cell 1, (S.at_ 10 rfl).cell 2, (S.at_ 9 rfl).cell 0, (S.at_ 9 rfl).cell 1, (S.at_ 9 rfl).cell 2, (S.at_ 9 rfl).cell 3, (S.at_ 9 rfl).cell 4, (S.at_ 9 rfl).cell 5, (S.at_ 9 rfl).cell 6, (S.at_ 9 rfl).cell 7, (S.at_ 9 rfl).cell 8⟩
        refine hK _ _ (fun _ => HF) ?_
        clear hK K
        try simp only [Act.put]
        generalize ((w68.setCell ⟨w65.heap.size, 0, none⟩ (.int .i64 xh0_0)).setCell ⟨w65.heap.size, 1, none⟩ (.int .i64 xh0_1)).setCell ⟨w65.heap.size, 2, none⟩ (.slice Ah0_2 nh0_2 ch0_2) = w69 at *
        clear f0 f1 f2 f3 f4 f5
        refine wpAnyL_step (i := 10) (by kernel_rfl) rfl rfl ?_
        intro K hK
        go_simp
        refine hK _ _ (fun h => nomatch (show true = false from h)) ?_
        clear hK K
        try simp only [Act.put]
        refine wpAnyL_done (by kernel_rfl) ?_ _
        replace S := S.pick 0 rfl
        replace S := S.pick 1 rfl
        replace S := S.sub (.cons_cons _ (.cons_cons _ (.cons _ (.cons_cons _ (.cons_cons _ (.cons _ (.cons _ (.cons_cons _ (.cons_cons _ (List.nil_sublist _))))))))))
        go_wp2_with fail
        go_meet
        exact ⟨_, _, _, _, _, _, _, rfl, rfl, S, c⟩
    · intro K hK
      go_simp
      replace S := S.boxAt c.size (w64.heap.size) rfl #[.int .i64 0, .int .i64 0, .slice none 0 0] 29
      replace c := c.alloc c.size (.cells #[.int .i64 0, .int .i64 0, .slice none 0 0] 29)
      clear HF
      have HF : (w64.alloc (.cells #[.int .i64 0, .int .i64 0, .slice none 0 0] 29)).cell? ⟨w.heap.size, 0, none⟩ = some (.int .i64 xa0_0) ∧ (w64.alloc (.cells #[.int .i64 0, .int .i64 0, .slice none 0 0] 29)).cell? ⟨w.heap.size, 1, none⟩ = some (.int .i64 xa0_1) ∧ (w64.alloc (.cells #[.int .i64 0, .int .i64 0, .slice none 0 0] 29)).cell? ⟨w.heap.size, 2, none⟩ = some (.slice Aa0_2 na0_2 ca0_2) ∧ (w64.alloc (.cells #[.int .i64 0, .int .i64 0, .slice none 0 0] 29)).cell? ⟨w.heap.size + 1, 0, none⟩ = some (.int .i64 xa1_0) ∧ (w64.alloc (.cells #[.int .i64 0, .int .i64 0, .slice none 0 0] 29)).cell? ⟨w.heap.size + 1, 1, none⟩ = some (.int .i64 xa1_1) ∧ (w64.alloc (.cells #[.int .i64 0, .int .i64 0, .slice none 0 0] 29)).cell? ⟨w.heap.size + 1, 2, none⟩ = some (.int .i64 xa1_2) ∧ (w64.alloc (.cells #[.int .i64 0, .int .i64 0, .slice none 0 0] 29)).cell? ⟨w.heap.size + 1, 3, none⟩ = some (.int .i64 xa1_3) ∧ (w64.alloc (.cells #[.int .i64 0, .int .i64 0, .slice none 0 0] 29)).cell? ⟨w.heap.size + 1, 4, none⟩ = some (.int .i64 xa1_4) ∧ (w64.alloc (.cells #[.int .i64 0, .int .i64 0, .slice none 0 0] 29)).cell? ⟨w.heap.size + 1, 5, none⟩ = some (.int .i64 xa1_5) ∧ (w64.alloc (.cells #[.int .i64 0, .int .i64 0, .slice none 0 0] 29)).cell? ⟨w.heap.size + 1, 6, none⟩ = some (.int .i64 xa1_6) ∧ (w64.alloc (.cells #[.int .i64 0, .int .i64 0, .slice none 0 0] 29)).cell? ⟨w.heap.size + 1, 7, none⟩ = some (.int .i64 xa1_7) ∧ (w64.alloc (.cells #[.int .i64 0, .int .i64 0, .slice none 0 0] 29)).cell? ⟨w.heap.size + 1, 8, none⟩ = some (.int .i64 xa1_8) := ⟨(S.at_ 8 rfl).cell 0, (S.at_ 8 rfl).cell 1, (S.at_ 8 rfl).cell 2, (S.at_ 7 rfl).cell 0, (S.at_ 7 rfl).cell 1, (S.at_ 7 rfl).cell 2, (S.at_ 7 rfl).cell 3, (S.at_ 7 rfl).cell 4, (S.at_ 7 rfl).cell 5, (S.at_ 7 rfl).cell 6, (S.at_ 7 rfl).cell 7, (S.at_ 7 rfl).cell 8⟩
      refine hK _ _ (fun _ => HF) ?_
      clear hK K
      try simp only [Act.put]
      generalize hw : w64.alloc (.cells #[.int .i64 0, .int .i64 0, .slice none 0 0] 29) = w65 at *
      clear hw
      refine wpAnyL_step (i := 1) (by kernel_rfl) rfl rfl ?_
      intro K hK
      go_simp
      refine (toBook_made _ _ _ d0 _ ((h0.keep c).up c.size) hz0).mono ?_
      rintro e w66 ⟨xt0_0, xt0_1, At0_2, nt0_2, ct0_2, rfl, o, b⟩
      obtain ⟨fp_Ot0, S'⟩ := S.has b o c.size
      replace c := c.trans (b.mono c.size)
      clear S; have S := S'; clear S' o b
      clear HF
      have HF : w66.cell? ⟨w.heap.size, 0, none⟩ = some (.int .i64 xa0_0) ∧ w66.cell? ⟨w.heap.size, 1, none⟩ = some (.int .i64 xa0_1) ∧ w66.cell? ⟨w.heap.size, 2, none⟩ = some (.slice Aa0_2 na0_2 ca0_2) ∧ w66.cell? ⟨w.heap.size + 1, 0, none⟩ = some (.int .i64 xa1_0) ∧ w66.cell? ⟨w.heap.size + 1, 1, none⟩ = some (.int .i64 xa1_1) ∧ w66.cell? ⟨w.heap.size + 1, 2, none⟩ = some (.int .i64 xa1_2) ∧ w66.cell? ⟨w.heap.size + 1, 3, none⟩ = some (.int .i64 xa1_3) ∧ w66.cell? ⟨w.heap.size + 1, 4, none⟩ = some (.int .i64 xa1_4) ∧ w66.cell? ⟨w.heap.size + 1, 5, none⟩ = some (.int .i64 xa1_5) ∧ w66.cell? ⟨w.heap.size + 1, 6, none⟩ = some (.int .i64 xa1_6) ∧ w66.cell? ⟨w.heap.size + 1, 7, none⟩ = some (.int .i64 xa1_7) ∧ w66.cell? ⟨w.heap.size + 1, 8, none⟩ = some (.int .i64 xa1_8) := ⟨(S.at_ 9 rfl).cell 0, (S.at_ 9 rfl).cell 1, (S.at_ 9 rfl).cell 2, (S.at_ 8 rfl).cell 0, (S.at_ 8 rfl).cell 1, (S.at_ 8 rfl).cell 2, (S.at_ 8 rfl).cell 3, (S.at_ 8 rfl).cell 4, (S.at_ 8 rfl).cell 5, (S.at_ 8 rfl).cell 6, (S.at_ 8 rfl).cell 7, (S.at_ 8 rfl).cell 8⟩
      refine hK _ _ (fun _ => HF) ?_
      clear hK K
      try simp only [Act.put]
      refine wpAnyL_step (i := 3) (by kernel_rfl) rfl rfl ?_
      intro K hK
      go_simp
      refine (toEntry_any _ _ _ _ _ _ _ _ _ _).mono ?_
      rintro e w67 ⟨rfl, b⟩
      replace c := c.trans (b.mono c.size)
      replace S := S.keep b
      clear b
      clear HF
      have HF : w67.cell? ⟨w.heap.size, 0, none⟩ = some (.int .i64 xa0_0) ∧ w67.cell? ⟨w.heap.size, 1, none⟩ = some (.int .i64 xa0_1) ∧ w67.cell? ⟨w.heap.size, 2, none⟩ = some (.slice Aa0_2 na0_2 ca0_2) ∧ w67.cell? ⟨w.heap.size + 1, 0, none⟩ = some (.int .i64 xa1_0) ∧ w67.cell? ⟨w.heap.size + 1, 1, none⟩ = some (.int .i64 xa1_1) ∧ w67.cell? ⟨w.heap.size + 1, 2, none⟩ = some (.int .i64 xa1_2) ∧ w67.cell? ⟨w.heap.size + 1, 3, none⟩ = some (.int .i64 xa1_3) ∧ w67.cell? ⟨w.heap.size + 1, 4, none⟩ = some (.int .i64 xa1_4) ∧ w67.cell? ⟨w.heap.size + 1, 5, none⟩ = some (.int .i64 xa1_5) ∧ w67.cell? ⟨w.heap.size + 1, 6, none⟩ = some (.int .i64 xa1_6) ∧ w67.cell? ⟨w.heap.size + 1, 7, none⟩ = some (.int .i64 xa1_7) ∧ w67.cell? ⟨w.heap.size + 1, 8, none⟩ = some (.int .i64 xa1_8) := ⟨(S.at_ 9 rfl).cell 0, (S.at_ 9 rfl).cell 1, (S.at_ 9 rfl).cell 2, (S.at_ 8 rfl).cell 0, (S.at_ 8 rfl).cell 1, (S.at_ 8 rfl).cell 2, (S.at_ 8 rfl).cell 3, (S.at_ 8 rfl).cell 4, (S.at_ 8 rfl).cell 5, (S.at_ 8 rfl).cell 6, (S.at_ 8 rfl).cell 7, (S.at_ 8 rfl).cell 8⟩
      refine hK _ _ (fun _ => HF) ?_
      clear hK K
      try simp only [Act.put]
      refine wpAnyL_step (i := 4) (by kernel_rfl) rfl rfl ?_
      intro K hK
      go_simp
      refine (IM.out _ _ _ _ _ d0 _ _ _ _ _ _ _ _ _ _ ((S.own_ 0 rfl).rd) hz0).mono ?_
      rintro e w68 ⟨xh0_0, xh0_1, Ah0_2, nh0_2, ch0_2, rfl, o, b⟩
      obtain ⟨fp_Oh0, S'⟩ := S.has b o c.size
      replace c := c.trans (b.mono c.size)
      clear S; have S := S'; clear S' o b
      clear HF
      have HF : w68.cell? ⟨w.heap.size, 0, none⟩ = some (.int .i64 xa0_0) ∧ w68.cell? ⟨w.heap.size, 1, none⟩ = some (.int .i64 xa0_1) ∧ w68.cell? ⟨w.heap.size, 2, none⟩ = some (.slice Aa0_2 na0_2 ca0_2) ∧ w68.cell? ⟨w.heap.size + 1, 0, none⟩ = some (.int .i64 xa1_0) ∧ w68.cell? ⟨w.heap.size + 1, 1, none⟩ = some (.int .i64 xa1_1) ∧ w68.cell? ⟨w.heap.size + 1, 2, none⟩ = some (.int .i64 xa1_2) ∧ w68.cell? ⟨w.heap.size + 1, 3, none⟩ = some (.int .i64 xa1_3) ∧ w68.cell? ⟨w.heap.size + 1, 4, none⟩ = some (.int .i64 xa1_4) ∧ w68.cell? ⟨w.heap.size + 1, 5, none⟩ = some (.int .i64 xa1_5) ∧ w68.cell? ⟨w.heap.size + 1, 6, none⟩ = some (.int .i64 xa1_6) ∧ w68.cell? ⟨w.heap.size + 1, 7, none⟩ = some (.int .i64 xa1_7) ∧ w68.cell? ⟨w.heap.size + 1, 8, none⟩ = some (.int .i64 xa1_8) := ⟨(S.at_ 10 rfl).cell 0, (S.at_ 10 rfl).cell 1, (S.at_ 10 rfl).cell 2, (S.at_ 9 rfl).cell 0, (S.at_ 9 rfl).cell 1, (S.at_ 9 rfl).cell 2, (S.at_ 9 rfl).cell 3, (S.at_ 9 rfl).cell 4, (S.at_ 9 rfl).cell 5, (S.at_ 9 rfl).cell 6, (S.at_ 9 rfl).cell 7, (S.at_ 9 rfl).cell 8⟩
      refine hK _ _ (fun _ => HF) ?_
      clear hK K
      try simp only [Act.put]
      refine wpAnyL_pure (i := 5) (v := ?_) rfl rfl (by kernel_rfl) (by kernel_rfl) (by kernel_rfl) (fun _ _ _ h => h) HF (Or.inl ⟨by rfl, ?_⟩) ?_
      rotate_left 1
      · (intro v _; go_simp; try with_reducible rfl)
      try simp only [Act.put]
      refine wpAnyL_pure (i := 6) (v := ?_) rfl rfl (by kernel_rfl) (by kernel_rfl) (by kernel_rfl) (fun _ _ _ h => h) HF (Or.inl ⟨by rfl, ?_⟩) ?_
      rotate_left 1
      · (intro v _; go_simp; try with_reducible rfl)
      try simp only [Act.put]
      refine wpAnyL_pure (i := 7) (v := ?_) rfl rfl (by kernel_rfl) (by kernel_rfl) (by kernel_rfl) (fun _ _ _ h => h) HF (Or.inl ⟨by rfl, ?_⟩) ?_
      rotate_left 1
      · (intro v _; go_simp; try with_reducible rfl)
      try simp only [Act.put]
      have f0 : w68.cell? ⟨w64.heap.size, 0, none⟩ = some (.int .i64 0) := (S.at_ 2 rfl).cell 0
      have f1 := (S.at_ 2 rfl).free 0
      have f2 : w68.cell? ⟨w64.heap.size, 1, none⟩ = some (.int .i64 0) := (S.at_ 2 rfl).cell 1
      have f3 := (S.at_ 2 rfl).free 1
      have f4 : w68.cell? ⟨w64.heap.size, 2, none⟩ = some (.slice none 0 0) := (S.at_ 2 rfl).cell 2
      have f5 := (S.at_ 2 rfl).free 2
      refine wpAnyL_step (i := 9) (by kernel_rfl) rfl rfl ?_
      intro K hK
      go_simp
      replace c := c.setCell (p := ⟨w64.heap.size, 0, none⟩) (S.base_le 2 rfl) (.int .i64 xh0_0)
      replace S := S.put 2 rfl 0 (.int .i64 xh0_0)
      replace c := c.setCell (p := ⟨w64.heap.size, 1, none⟩) (S.base_le 2 rfl) (.int .i64 xh0_1)
      replace S := S.put 2 rfl 1 (.int .i64 xh0_1)
      replace c := c.setCell (p := ⟨w64.heap.size, 2, none⟩) (S.base_le 2 rfl) (.slice Ah0_2 nh0_2 ch0_2)
      replace S := S.put 2 rfl 2 (.slice Ah0_2 nh0_2 ch0_2)
      clear HF
      have HF : (((w68.setCell ⟨w64.heap.size, 0, none⟩ (.int .i64 xh0_0)).setCell ⟨w64.heap.size, 1, none⟩ (.int .i64 xh0_1)).setCell ⟨w64.heap.size, 2, none⟩ (.slice Ah0_2 nh0_2 ch0_2)).cell? ⟨w.heap.size, 0, none⟩ = some (.int .i64 xa0_0) ∧ (((w68.setCell ⟨w64.heap.size, 0, none⟩ (.int .i64 xh0_0)).setCell ⟨w64.heap.size, 1, none⟩ (.int .i64 xh0_1)).setCell ⟨w64.heap.size, 2, none⟩ (.slice Ah0_2 nh0_2 ch0_2)).cell? ⟨w.heap.size, 1, none⟩ = some (.int .i64 xa0_1) ∧ (((w68.setCell ⟨w64.heap.size, 0, none⟩ (.int .i64 xh0_0)).setCell ⟨w64.heap.size, 1, none⟩ (.int .i64 xh0_1)).setCell ⟨w64.heap.size, 2, none⟩ (.slice Ah0_2 nh0_2 ch0_2)).cell? ⟨w.heap.size, 2, none⟩ = some (.slice Aa0_2 na0_2 ca0_2) ∧ (((w68.setCell ⟨w64.heap.size, 0, none⟩ (.int .i64 xh0_0)).setCell ⟨w64.heap.size, 1, none⟩ (.int .i64 xh0_1)).setCell ⟨w64.heap.size, 2, none⟩ (.slice Ah0_2 nh0_2 ch0_2)).cell? ⟨w.heap.size + 1, 0, none⟩ = some (.int .i64 xa1_0) ∧ (((w68.setCell ⟨w64.heap.size, 0, none⟩ (.int .i64 xh0_0)).setCell ⟨w64.heap.size, 1, none⟩ (.int .i64 xh0_1)).setCell ⟨w64.heap.size, 2, none⟩ (.slice Ah0_2 nh0_2 ch0_2)).cell? ⟨w.heap.size + 1, 1, none⟩ = some (.int .i64 xa1_1) ∧ (((w68.setCell ⟨w64.heap.size, 0, none⟩ (.int .i64 xh0_0)).setCell ⟨w64.heap.size, 1, none⟩ (.int .i64 xh0_1)).setCell ⟨w64.heap.size, 2, none⟩ (.slice Ah0_2 nh0_2 ch0_2)).cell? ⟨w.heap.size + 1, 2, none⟩ = some (.int .i64 xa1_2) ∧ (((w68.setCell ⟨w64.heap.size, 0, none⟩ (.int .i64 xh0_0)).setCell ⟨w64.heap.size, 1, none⟩ (.int .i64 xh0_1)).setCell ⟨w64.heap.size, 2, none⟩ (.slice Ah0_2 nh0_2 ch0_2)).cell? ⟨w.heap.size + 1, 3, none⟩ = some (.int .i64 xa1_3) ∧ (((w68.setCell ⟨w64.heap.size, 0, none⟩ (.int .i64 xh0_0)).setCell ⟨w64.heap.size, 1, none⟩ (.int .i64 xh0_1)).setCell ⟨w64.heap.size, 2, none⟩ (.slice Ah0_2 nh0_2 ch0_2)).cell? ⟨w.heap.size + 1, 4, none⟩ = some (.int .i64 xa1_4) ∧ (((w68.setCell ⟨w64.heap.size, 0, none⟩ (.int .i64 xh0_0)).setCell ⟨w64.heap.size, 1, none⟩ (.int .i64 xh0_1)).setCell ⟨w64.heap.size, 2, none⟩ (.slice Ah0_2 nh0_2 ch0_2)).cell? ⟨w.heap.size + 1, 5, none⟩ = some (.int .i64 xa1_5) ∧ (((w68.setCell ⟨w64.heap.size, 0, none⟩ (.int .i64 xh0_0)).setCell ⟨w64.heap.size, 1, none⟩ (.int .i64 xh0_1)).setCell ⟨w64.heap.size, 2, none⟩ (.slice Ah0_2 nh0_2 ch0_2)).cell? ⟨w.heap.size + 1, 6, none⟩ = some (.int .i64 xa1_6) ∧ (((w68.setCell ⟨w64.heap.size, 0, none⟩ (.int .i64 xh0_0)).setCell ⟨w64.heap.size, 1, none⟩ (.int .i64 xh0_1)).setCell ⟨w64.heap.size, 2, none⟩ (.slice Ah0_2 nh0_2 ch0_2)).cell? ⟨w.heap.size + 1, 7, none⟩ = some (.int .i64 xa1_7) ∧ (((w68.setCell ⟨w64.heap.size, 0, none⟩ (.int .i64 xh0_0)).setCell ⟨w64.heap.size, 1, none⟩ (.int .i64 xh0_1)).setCell ⟨w64.heap.size, 2, none⟩ (.slice Ah0_2 nh0_2 ch0_2)).cell? ⟨w.heap.size + 1, 8, none⟩ = some (.int .i64 xa1_8) := ⟨(S.at_ 10 rfl).cell 0, (S.at_ 10 rfl).cell 1, (S.at_ 10 rfl).cell 2, (S.at_ 9 rfl).cell 0, (S.at_ 9 rfl).cell 1, (S.at_ 9 rfl).cell 2, (S.at_ 9 rfl).cell 3, (S.at_ 9 rfl).cell 4, (S.at_ 9 rfl).cell 5, (S.at_ 9 rfl).cell 6, (S.at_ 9 rfl).cell 7, (S.at_ 9 rfl).cell 8⟩
      refine hK _ _ (fun _ => HF) ?_
      clear hK K
      try simp only [Act.put]
      generalize ((w68.setCell ⟨w64.heap.size, 0, none⟩ (.int .i64 xh0_0)).setCell ⟨w64.heap.size, 1, none⟩ (.int .i64 xh0_1)).setCell ⟨w64.heap.size, 2, none⟩ (.slice Ah0_2 nh0_2 ch0_2) = w69 at *
      clear f0 f1 f2 f3 f4 f5
      refine wpAnyL_step (i := 10) (by kernel_rfl) rfl rfl ?_
      intro K hK
      go_simp
      refine hK _ _ (fun h => nomatch (show true = false from h)) ?_
      clear hK K
      try simp only [Act.put]
      refine wpAnyL_done (by kernel_rfl) ?_ _
      replace S := S.pick 0 rfl
      replace S := S.pick 2 rfl
      replace S := S.sub (.cons_cons _ (.cons_cons _ (.cons _ (.cons_cons _ (.cons_cons _ (.cons _ (.cons _ (.cons_cons _ (.cons_cons _ (List.nil_sublist _))))))))))
      go_wp2_with fail
      go_meet
      exact ⟨_, _, _, _, _, _, _, rfl, rfl, S, c⟩
  obtain ⟨ph0, xh0_0, xh0_1, Ah0_2, nh0_2, ch0_2, fp_h0, rfl, rfl, S, c⟩ := hcut
  clear SH CH f0 f1 f2 f3 f4 f5 f6 f7 f8 f9 f10 f11
  generalize wc = w14 at *
  rw [← HFX0.out] at S
  rw [← HFX1.out]
  have f0 : (w14).cell? ⟨ph0, 0, none⟩ = some (.int .i64 xh0_0) := (S.at_ 0 rfl).cell 0
  have f1 : (w14).cell? ⟨ph0, 1, none⟩ = some (.int .i64 xh0_1) := (S.at_ 0 rfl).cell 1
  have f2 : (w14).cell? ⟨ph0, 2, none⟩ = some (.slice Ah0_2 nh0_2 ch0_2) := (S.at_ 0 rfl).cell 2
  have f3 : (w14).cell? ⟨pw0, 0, none⟩ = some (.int .i64 xw0_0) := (S.at_ 4 rfl).cell 0
  have f4 : (w14).cell? ⟨pw0, 1, none⟩ = some (.int .i64 xw0_1) := (S.at_ 4 rfl).cell 1
  have f5 : (w14).cell? ⟨pw0, 2, none⟩ = some (.slice Aw0_2 nw0_2 cw0_2) := (S.at_ 4 rfl).cell 2
  go_wp2_with fail
  refine (eqBook_yes _ _ _ _ _ _ _ _ fx0 _ ((S.own_ 1 rfl).rd) ((S.own_ 5 rfl).rd) (Nat.le_refl _) (Nat.le_refl _) hfz0).mono ?_
  rintro e w15 ⟨rfl, b⟩
  replace c := c.trans (b.mono c.size)
  replace S := S.keep b
  clear b f0 f1 f2 f3 f4 f5
  have f0 : (w15).cell? ⟨pg0, 0, none⟩ = some (.int .i64 xg0_0) := (S.at_ 2 rfl).cell 0
  have f1 : (w15).cell? ⟨pg0, 1, none⟩ = some (.int .i64 xg0_1) := (S.at_ 2 rfl).cell 1
  have f2 : (w15).cell? ⟨pg0, 2, none⟩ = some (.slice Ag0_2 ng0_2 cg0_2) := (S.at_ 2 rfl).cell 2
  go_wp2_with fail
  refine (heldBook_any _ _ _ e0 _ _ ((S.own_ 3 rfl).rd) (Nat.le_refl _) (by omega) (1) (by omega) (by omega) mk_g0).mono ?_
  rintro e w16 ⟨rfl, b⟩
  rw [en_g0]
  have q16 : ¬ (1 + (fx0.n : Int) < 0) := by omega
  replace c := c.trans (b.mono c.size)
  replace S := S.keep b
  clear b f0 f1 f2
  go_wp2
  go_ret
  exact ⟨rfl, c⟩

end Go.Proofs.Ytnjfdnjakogpmaa
