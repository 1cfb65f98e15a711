/- Parts of my texts: LogZLogOk LawHeldIn. -/
import Derived.Test.YthjjdelpdiipdaaGreatDoorMX36
import Derived.Test.YthjjdelpdiipdaaGreatDoorMX47
namespace Go.Proofs.YthjjdelpdiipdaaGreatDoor
set_option maxRecDepth 100000
set_option linter.unusedVariables false
open Go.RowKit
theorem sLogOk_at (Aa0_0 : Option Addr) (na0_0 ca0_0 : Nat) (Aa0_1 : Option Addr) (na0_1 ca0_1 : Nat) (Aa0_2 : Option Addr) (na0_2 ca0_2 : Nat) (Aa0_3 : Option Addr) (na0_3 ca0_3 : Nat) (xa0_4 : Int) (xa0_5 : Int) (xa0_6 : Int) (Aa0_7 : Option Addr) (na0_7 ca0_7 : Nat) (xa0_8 : Int) (xa0_9 : Int) (xa0_10 : Int) (Aa0_11 : Option Addr) (na0_11 ca0_11 : Nat) (ya0_12 : Bool) (xa0_13 : Int) (xa0_14 : Int) (Aa0_15 : Option Addr) (na0_15 ca0_15 : Nat) (Aa0_16 : Option Addr) (na0_16 ca0_16 : Nat) (xa0_17 : Int) (Aa0_18 : Option Addr) (na0_18 ca0_18 : Nat) (d0 : LogM) (w : World) (h : Rd w w.heap.size (d0.cells) [.slice Aa0_0 na0_0 ca0_0, .slice Aa0_1 na0_1 ca0_1, .slice Aa0_2 na0_2 ca0_2, .slice Aa0_3 na0_3 ca0_3, .int .i64 xa0_4, .int .i64 xa0_5, .int .i64 xa0_6, .slice Aa0_7 na0_7 ca0_7, .int .i64 xa0_8, .int .i64 xa0_9, .int .i64 xa0_10, .slice Aa0_11 na0_11 ca0_11, .bool ya0_12, .int .i64 xa0_13, .int .i64 xa0_14, .slice Aa0_15 na0_15 ca0_15, .slice Aa0_16 na0_16 ca0_16, .int .i64 xa0_17, .slice Aa0_18 na0_18 ca0_18]) (hs : d0.sz ≤ 1048576) : Calls Tryz.prog 7 #[.agg #[.slice Aa0_0 na0_0 ca0_0, .slice Aa0_1 na0_1 ca0_1, .slice Aa0_2 na0_2 ca0_2, .slice Aa0_3 na0_3 ca0_3, .int .i64 xa0_4, .int .i64 xa0_5, .int .i64 xa0_6, .slice Aa0_7 na0_7 ca0_7, .int .i64 xa0_8, .int .i64 xa0_9, .int .i64 xa0_10, .slice Aa0_11 na0_11 ca0_11, .bool ya0_12, .int .i64 xa0_13, .int .i64 xa0_14, .slice Aa0_15 na0_15 ca0_15, .slice Aa0_16 na0_16 ca0_16, .int .i64 xa0_17, .slice Aa0_18 na0_18 ca0_18]] w (fun e w' => e = .returned (.bool (logB d0)) ∧ Below w.heap.size w w') :=
 sLogOk_any _ _ _ _ _ _ _ _ _ _ _ _ _ _ _ _ _ _ _ d0 w h hs
theorem iLogOk_at (old : Value) (Aa0_0 : Option Addr) (na0_0 ca0_0 : Nat) (Aa0_1 : Option Addr) (na0_1 ca0_1 : Nat) (Aa0_2 : Option Addr) (na0_2 ca0_2 : Nat) (Aa0_3 : Option Addr) (na0_3 ca0_3 : Nat) (xa0_4 : Int) (xa0_5 : Int) (xa0_6 : Int) (Aa0_7 : Option Addr) (na0_7 ca0_7 : Nat) (xa0_8 : Int) (xa0_9 : Int) (xa0_10 : Int) (Aa0_11 : Option Addr) (na0_11 ca0_11 : Nat) (ya0_12 : Bool) (xa0_13 : Int) (xa0_14 : Int) (Aa0_15 : Option Addr) (na0_15 ca0_15 : Nat) (Aa0_16 : Option Addr) (na0_16 ca0_16 : Nat) (xa0_17 : Int) (Aa0_18 : Option Addr) (na0_18 ca0_18 : Nat) (d0 : LogM) (w : World) (h : Rd w w.heap.size (d0.cells) [.slice Aa0_0 na0_0 ca0_0, .slice Aa0_1 na0_1 ca0_1, .slice Aa0_2 na0_2 ca0_2, .slice Aa0_3 na0_3 ca0_3, .int .i64 xa0_4, .int .i64 xa0_5, .int .i64 xa0_6, .slice Aa0_7 na0_7 ca0_7, .int .i64 xa0_8, .int .i64 xa0_9, .int .i64 xa0_10, .slice Aa0_11 na0_11 ca0_11, .bool ya0_12, .int .i64 xa0_13, .int .i64 xa0_14, .slice Aa0_15 na0_15 ca0_15, .slice Aa0_16 na0_16 ca0_16, .int .i64 xa0_17, .slice Aa0_18 na0_18 ca0_18]) (hs : d0.sz ≤ 1048576) (hv : VarIs 0 old w) : Calls Tryz.prog 9 #[.agg #[.slice Aa0_0 na0_0 ca0_0, .slice Aa0_1 na0_1 ca0_1, .slice Aa0_2 na0_2 ca0_2, .slice Aa0_3 na0_3 ca0_3, .int .i64 xa0_4, .int .i64 xa0_5, .int .i64 xa0_6, .slice Aa0_7 na0_7 ca0_7, .int .i64 xa0_8, .int .i64 xa0_9, .int .i64 xa0_10, .slice Aa0_11 na0_11 ca0_11, .bool ya0_12, .int .i64 xa0_13, .int .i64 xa0_14, .slice Aa0_15 na0_15 ca0_15, .slice Aa0_16 na0_16 ca0_16, .int .i64 xa0_17, .slice Aa0_18 na0_18 ca0_18]] w (fun e w' => e = .returned (.bool (logB d0)) ∧ Below w.heap.size w w') :=
 iLogOk_any _ _ _ _ _ _ _ _ _ _ _ _ _ _ _ _ _ _ _ d0 w h hs old hv
set_option maxHeartbeats 12800000 in
theorem lawHeldIn (V : World → Prop) (hVB : ∀ w w', V w → Below w.heap.size w w' → V w')
    (f : LogM → (List EntM))
    (hf0 : ∀ (d0 : LogM), d0.sz ≤ 1048576 → (entSz ((f d0))) ≤ 1048577)
    (hs : ∀ (Aa0_0 : Option Addr) (na0_0 ca0_0 : Nat) (Aa0_1 : Option Addr) (na0_1 ca0_1 : Nat) (Aa0_2 : Option Addr) (na0_2 ca0_2 : Nat) (Aa0_3 : Option Addr) (na0_3 ca0_3 : Nat) (xa0_4 : Int) (xa0_5 : Int) (xa0_6 : Int) (Aa0_7 : Option Addr) (na0_7 ca0_7 : Nat) (xa0_8 : Int) (xa0_9 : Int) (xa0_10 : Int) (Aa0_11 : Option Addr) (na0_11 ca0_11 : Nat) (ya0_12 : Bool) (xa0_13 : Int) (xa0_14 : Int) (Aa0_15 : Option Addr) (na0_15 ca0_15 : Nat) (Aa0_16 : Option Addr) (na0_16 ca0_16 : Nat) (xa0_17 : Int) (Aa0_18 : Option Addr) (na0_18 ca0_18 : Nat) (d0 : LogM) (w : World), Rd w w.heap.size (d0.cells) [.slice Aa0_0 na0_0 ca0_0, .slice Aa0_1 na0_1 ca0_1, .slice Aa0_2 na0_2 ca0_2, .slice Aa0_3 na0_3 ca0_3, .int .i64 xa0_4, .int .i64 xa0_5, .int .i64 xa0_6, .slice Aa0_7 na0_7 ca0_7, .int .i64 xa0_8, .int .i64 xa0_9, .int .i64 xa0_10, .slice Aa0_11 na0_11 ca0_11, .bool ya0_12, .int .i64 xa0_13, .int .i64 xa0_14, .slice Aa0_15 na0_15 ca0_15, .slice Aa0_16 na0_16 ca0_16, .int .i64 xa0_17, .slice Aa0_18 na0_18 ca0_18] → d0.sz ≤ 1048576 → Calls Tryz.prog 11 #[.agg #[.slice Aa0_0 na0_0 ca0_0, .slice Aa0_1 na0_1 ca0_1, .slice Aa0_2 na0_2 ca0_2, .slice Aa0_3 na0_3 ca0_3, .int .i64 xa0_4, .int .i64 xa0_5, .int .i64 xa0_6, .slice Aa0_7 na0_7 ca0_7, .int .i64 xa0_8, .int .i64 xa0_9, .int .i64 xa0_10, .slice Aa0_11 na0_11 ca0_11, .bool ya0_12, .int .i64 xa0_13, .int .i64 xa0_14, .slice Aa0_15 na0_15 ca0_15, .slice Aa0_16 na0_16 ca0_16, .int .i64 xa0_17, .slice Aa0_18 na0_18 ca0_18]] w (fun e w' => ∃ (Ar0_0 : Option Addr) (nr0_0 cr0_0 : Nat), e = .returned (.slice Ar0_0 nr0_0 cr0_0) ∧ Has w' w.heap.size ([entD ((f d0))]) [.slice Ar0_0 nr0_0 cr0_0] ∧ Below w.heap.size w w'))
    (hi : ∀ (Aa0_0 : Option Addr) (na0_0 ca0_0 : Nat) (Aa0_1 : Option Addr) (na0_1 ca0_1 : Nat) (Aa0_2 : Option Addr) (na0_2 ca0_2 : Nat) (Aa0_3 : Option Addr) (na0_3 ca0_3 : Nat) (xa0_4 : Int) (xa0_5 : Int) (xa0_6 : Int) (Aa0_7 : Option Addr) (na0_7 ca0_7 : Nat) (xa0_8 : Int) (xa0_9 : Int) (xa0_10 : Int) (Aa0_11 : Option Addr) (na0_11 ca0_11 : Nat) (ya0_12 : Bool) (xa0_13 : Int) (xa0_14 : Int) (Aa0_15 : Option Addr) (na0_15 ca0_15 : Nat) (Aa0_16 : Option Addr) (na0_16 ca0_16 : Nat) (xa0_17 : Int) (Aa0_18 : Option Addr) (na0_18 ca0_18 : Nat) (d0 : LogM) (w : World), Rd w w.heap.size (d0.cells) [.slice Aa0_0 na0_0 ca0_0, .slice Aa0_1 na0_1 ca0_1, .slice Aa0_2 na0_2 ca0_2, .slice Aa0_3 na0_3 ca0_3, .int .i64 xa0_4, .int .i64 xa0_5, .int .i64 xa0_6, .slice Aa0_7 na0_7 ca0_7, .int .i64 xa0_8, .int .i64 xa0_9, .int .i64 xa0_10, .slice Aa0_11 na0_11 ca0_11, .bool ya0_12, .int .i64 xa0_13, .int .i64 xa0_14, .slice Aa0_15 na0_15 ca0_15, .slice Aa0_16 na0_16 ca0_16, .int .i64 xa0_17, .slice Aa0_18 na0_18 ca0_18] → d0.sz ≤ 1048576 → V w → Calls Tryz.prog 12 #[.agg #[.slice Aa0_0 na0_0 ca0_0, .slice Aa0_1 na0_1 ca0_1, .slice Aa0_2 na0_2 ca0_2, .slice Aa0_3 na0_3 ca0_3, .int .i64 xa0_4, .int .i64 xa0_5, .int .i64 xa0_6, .slice Aa0_7 na0_7 ca0_7, .int .i64 xa0_8, .int .i64 xa0_9, .int .i64 xa0_10, .slice Aa0_11 na0_11 ca0_11, .bool ya0_12, .int .i64 xa0_13, .int .i64 xa0_14, .slice Aa0_15 na0_15 ca0_15, .slice Aa0_16 na0_16 ca0_16, .int .i64 xa0_17, .slice Aa0_18 na0_18 ca0_18]] w (fun e w' => ∃ (Ar0_0 : Option Addr) (nr0_0 cr0_0 : Nat), e = .returned (.slice Ar0_0 nr0_0 cr0_0) ∧ Has w' w.heap.size ([entD ((f d0))]) [.slice Ar0_0 nr0_0 cr0_0] ∧ Below w.heap.size w w'))
    (Aa0_0 : Option Addr) (na0_0 ca0_0 : Nat) (Aa0_1 : Option Addr) (na0_1 ca0_1 : Nat) (Aa0_2 : Option Addr) (na0_2 ca0_2 : Nat) (Aa0_3 : Option Addr) (na0_3 ca0_3 : Nat) (xa0_4 : Int) (xa0_5 : Int) (xa0_6 : Int) (Aa0_7 : Option Addr) (na0_7 ca0_7 : Nat) (xa0_8 : Int) (xa0_9 : Int) (xa0_10 : Int) (Aa0_11 : Option Addr) (na0_11 ca0_11 : Nat) (ya0_12 : Bool) (xa0_13 : Int) (xa0_14 : Int) (Aa0_15 : Option Addr) (na0_15 ca0_15 : Nat) (Aa0_16 : Option Addr) (na0_16 ca0_16 : Nat) (xa0_17 : Int) (Aa0_18 : Option Addr) (na0_18 ca0_18 : Nat) (d0 : LogM) (w : World) (h0 : Rd w w.heap.size (d0.cells) [.slice Aa0_0 na0_0 ca0_0, .slice Aa0_1 na0_1 ca0_1, .slice Aa0_2 na0_2 ca0_2, .slice Aa0_3 na0_3 ca0_3, .int .i64 xa0_4, .int .i64 xa0_5, .int .i64 xa0_6, .slice Aa0_7 na0_7 ca0_7, .int .i64 xa0_8, .int .i64 xa0_9, .int .i64 xa0_10, .slice Aa0_11 na0_11 ca0_11, .bool ya0_12, .int .i64 xa0_13, .int .i64 xa0_14, .slice Aa0_15 na0_15 ca0_15, .slice Aa0_16 na0_16 ca0_16, .int .i64 xa0_17, .slice Aa0_18 na0_18 ca0_18]) (hv0 : V w) :
    Calls Tryz.prog 4 #[.agg #[.slice Aa0_0 na0_0 ca0_0, .slice Aa0_1 na0_1 ca0_1, .slice Aa0_2 na0_2 ca0_2, .slice Aa0_3 na0_3 ca0_3, .int .i64 xa0_4, .int .i64 xa0_5, .int .i64 xa0_6, .slice Aa0_7 na0_7 ca0_7, .int .i64 xa0_8, .int .i64 xa0_9, .int .i64 xa0_10, .slice Aa0_11 na0_11 ca0_11, .bool ya0_12, .int .i64 xa0_13, .int .i64 xa0_14, .slice Aa0_15 na0_15 ca0_15, .slice Aa0_16 na0_16 ca0_16, .int .i64 xa0_17, .slice Aa0_18 na0_18 ca0_18]] w fun e w' => e = .returned (.bool true) ∧ Below w.heap.size w w' := by
 have SP := jd hs
 have IM := jd hi
 clear hs hi
 have S := Sep.nil w w.heap.size
 have c := Below.refl w.heap.size w
 replace S := S.box c.size #[.slice Aa0_0 na0_0 ca0_0, .slice Aa0_1 na0_1 ca0_1, .slice Aa0_2 na0_2 ca0_2, .slice Aa0_3 na0_3 ca0_3, .int .i64 xa0_4, .int .i64 xa0_5, .int .i64 xa0_6, .slice Aa0_7 na0_7 ca0_7, .int .i64 xa0_8, .int .i64 xa0_9, .int .i64 xa0_10, .slice Aa0_11 na0_11 ca0_11, .bool ya0_12, .int .i64 xa0_13, .int .i64 xa0_14, .slice Aa0_15 na0_15 ca0_15, .slice Aa0_16 na0_16 ca0_16, .int .i64 xa0_17, .slice Aa0_18 na0_18 ca0_18] 36
 replace c := al c S
 go_enter Tryz.func4, Tryz.ntmps4
 have hb_a0 := S.at_ 0 rfl
 go_wp2_with (first | (refine wpList_load_box rfl 36 _ (by rfl) (w.heap.size) (by rfl) _ _ hb_a0 _ Tryz.underlying36 (by rfl) (by kernel_rfl) ?_))
 generalize w.alloc (.cells #[.slice Aa0_0 na0_0 ca0_0, .slice Aa0_1 na0_1 ca0_1, .slice Aa0_2 na0_2 ca0_2, .slice Aa0_3 na0_3 ca0_3, .int .i64 xa0_4, .int .i64 xa0_5, .int .i64 xa0_6, .slice Aa0_7 na0_7 ca0_7, .int .i64 xa0_8, .int .i64 xa0_9, .int .i64 xa0_10, .slice Aa0_11 na0_11 ca0_11, .bool ya0_12, .int .i64 xa0_13, .int .i64 xa0_14, .slice Aa0_15 na0_15 ca0_15, .slice Aa0_16 na0_16 ca0_16, .int .i64 xa0_17, .slice Aa0_18 na0_18 ca0_18] 36) = w1 at *
 refine (szLogNode_any _ _ _ _ _ _ _ _ _ _ _ _ _ _ _ _ _ _ _ d0 _ _ _ (h0.keep c) c.size (by omega) (by omega)).mono ?_
 rintro e w2 ⟨rfl, b⟩
 replace c := c.trans (b.mono c.size)
 replace S := S.keep b
 clear b hb_a0
 by_cases hzi0 : ((d0.sz : Nat) : Int) ≤ 1048576
 case neg =>
  rw [left, if_neg hzi0]
  go_wp2
  go_ret
  exact ⟨rfl, c⟩
 rw [left, if_pos hzi0]
 have hz0 : d0.sz ≤ 1048576 := by omega
 have qz0 : ¬ ((1048576 : Int) - (d0.sz : Int) < 0) := by omega
 obtain ⟨fx0, hfx0⟩ : ∃ q, q = (f d0) := ⟨_, rfl⟩
 have hfz0 := hf0 d0 hz0
 rw [← hfx0] at hfz0
 have HFX0 := jd hfx0
 clear hfx0
 have hb_a0 := S.at_ 0 rfl
 go_wp2_with (first | (refine wpList_load_box rfl 36 _ (by rfl) (w.heap.size) (by rfl) _ _ hb_a0 _ Tryz.underlying36 (by rfl) (by kernel_rfl) ?_))
 refine (toLogNode_made _ _ _ _ _ _ _ _ _ _ _ _ _ _ _ _ _ _ _ d0 _ ((h0.keep c).up c.size) hz0).mono ?_
 rintro e w3 ⟨As0_0, ns0_0, cs0_0, As0_1, ns0_1, cs0_1, As0_2, ns0_2, cs0_2, As0_3, ns0_3, cs0_3, xs0_4, xs0_5, xs0_6, As0_7, ns0_7, cs0_7, xs0_8, xs0_9, xs0_10, As0_11, ns0_11, cs0_11, ys0_12, xs0_13, xs0_14, As0_15, ns0_15, cs0_15, As0_16, ns0_16, cs0_16, xs0_17, As0_18, ns0_18, cs0_18, rfl, o, b⟩
 obtain ⟨fp_s0, S'⟩ := S.has b o c.size
 replace c := c.trans (b.mono c.size)
 clear S; have S := S'; clear S' o b hb_a0
 go_wp2_with fail
 refine (SP.out _ _ _ _ _ _ _ _ _ _ _ _ _ _ _ _ _ _ _ _ _ _ _ _ _ _ _ _ _ _ _ _ _ _ _ _ _ d0 _ ((S.own_ 0 rfl).rd) hz0).mono ?_
 rintro e w4 ⟨Aw0_0, nw0_0, cw0_0, rfl, o, b⟩
 obtain ⟨fp_w0, S'⟩ := S.has b o c.size
 replace c := c.trans (b.mono c.size)
 clear S; have S := S'; clear S' o b
 rw [← HFX0.out] at S
 have hb_a0 := S.at_ 2 rfl
 go_wp2_with (first | (refine wpList_load_box rfl 36 _ (by rfl) (w.heap.size) (by rfl) _ _ hb_a0 _ Tryz.underlying36 (by rfl) (by kernel_rfl) ?_))
 refine (toLogNode_made _ _ _ _ _ _ _ _ _ _ _ _ _ _ _ _ _ _ _ d0 _ ((h0.keep c).up c.size) hz0).mono ?_
 rintro e w5 ⟨Ax0_0, nx0_0, cx0_0, Ax0_1, nx0_1, cx0_1, Ax0_2, nx0_2, cx0_2, Ax0_3, nx0_3, cx0_3, xx0_4, xx0_5, xx0_6, Ax0_7, nx0_7, cx0_7, xx0_8, xx0_9, xx0_10, Ax0_11, nx0_11, cx0_11, yx0_12, xx0_13, xx0_14, Ax0_15, nx0_15, cx0_15, Ax0_16, nx0_16, cx0_16, xx0_17, Ax0_18, nx0_18, cx0_18, rfl, o, b⟩
 obtain ⟨fp_x0, S'⟩ := S.has b o c.size
 replace c := c.trans (b.mono c.size)
 clear S; have S := S'; clear S' o b hb_a0
 replace S := S.box c.size #[.slice Ax0_0 nx0_0 cx0_0, .slice Ax0_1 nx0_1 cx0_1, .slice Ax0_2 nx0_2 cx0_2, .slice Ax0_3 nx0_3 cx0_3, .int .i64 xx0_4, .int .i64 xx0_5, .int .i64 xx0_6, .slice Ax0_7 nx0_7 cx0_7, .int .i64 xx0_8, .int .i64 xx0_9, .int .i64 xx0_10, .slice Ax0_11 nx0_11 cx0_11, .bool yx0_12, .int .i64 xx0_13, .int .i64 xx0_14, .slice Ax0_15 nx0_15 cx0_15, .slice Ax0_16 nx0_16 cx0_16, .int .i64 xx0_17, .slice Ax0_18 nx0_18 cx0_18] 52
 replace c := al c S
 have hb_x0 := S.at_ 0 rfl
 go_wp2_with (first | (refine wpList_store_box rfl 52 _ _ (by rfl) (w5.heap.size) #[.slice Ax0_0 nx0_0 cx0_0, .slice Ax0_1 nx0_1 cx0_1, .slice Ax0_2 nx0_2 cx0_2, .slice Ax0_3 nx0_3 cx0_3, .int .i64 xx0_4, .int .i64 xx0_5, .int .i64 xx0_6, .slice Ax0_7 nx0_7 cx0_7, .int .i64 xx0_8, .int .i64 xx0_9, .int .i64 xx0_10, .slice Ax0_11 nx0_11 cx0_11, .bool yx0_12, .int .i64 xx0_13, .int .i64 xx0_14, .slice Ax0_15 nx0_15 cx0_15, .slice Ax0_16 nx0_16 cx0_16, .int .i64 xx0_17, .slice Ax0_18 nx0_18 cx0_18] (by rfl) (by rfl) 52 #[.slice none 0 0, .slice none 0 0, .slice none 0 0, .slice none 0 0, .int .i64 0, .int .i64 0, .int .i64 0, .slice none 0 0, .int .i64 0, .int .i64 0, .int .i64 0, .slice none 0 0, .bool false, .int .i64 0, .int .i64 0, .slice none 0 0, .slice none 0 0, .int .i64 0, .slice none 0 0] (Blk.new _ _ _) (by kernel_rfl) rfl (all_oneCell_toArray (cs := [.slice Ax0_0 nx0_0 cx0_0, .slice Ax0_1 nx0_1 cx0_1, .slice Ax0_2 nx0_2 cx0_2, .slice Ax0_3 nx0_3 cx0_3, .int .i64 xx0_4, .int .i64 xx0_5, .int .i64 xx0_6, .slice Ax0_7 nx0_7 cx0_7, .int .i64 xx0_8, .int .i64 xx0_9, .int .i64 xx0_10, .slice Ax0_11 nx0_11 cx0_11, .bool yx0_12, .int .i64 xx0_13, .int .i64 xx0_14, .slice Ax0_15 nx0_15 cx0_15, .slice Ax0_16 nx0_16 cx0_16, .int .i64 xx0_17, .slice Ax0_18 nx0_18 cx0_18]) (by simp [Value.oneCell'])) ?_; rw [setRow_alloc_new]) | (refine wpList_load_box rfl 52 _ (by rfl) (w5.heap.size) (by rfl) _ _ hb_x0 _ Tryz.underlying52 (by rfl) (by kernel_rfl) ?_))
 generalize w5.alloc (.cells #[.slice Ax0_0 nx0_0 cx0_0, .slice Ax0_1 nx0_1 cx0_1, .slice Ax0_2 nx0_2 cx0_2, .slice Ax0_3 nx0_3 cx0_3, .int .i64 xx0_4, .int .i64 xx0_5, .int .i64 xx0_6, .slice Ax0_7 nx0_7 cx0_7, .int .i64 xx0_8, .int .i64 xx0_9, .int .i64 xx0_10, .slice Ax0_11 nx0_11 cx0_11, .bool yx0_12, .int .i64 xx0_13, .int .i64 xx0_14, .slice Ax0_15 nx0_15 cx0_15, .slice Ax0_16 nx0_16 cx0_16, .int .i64 xx0_17, .slice Ax0_18 nx0_18 cx0_18] 52) = w6 at *
 refine (IM.out _ _ _ _ _ _ _ _ _ _ _ _ _ _ _ _ _ _ _ _ _ _ _ _ _ _ _ _ _ _ _ _ _ _ _ _ _ d0 _ ((S.own_ 1 rfl).rd) hz0 (hVB _ _ hv0 c)).mono ?_
 rintro e w7 ⟨Ag0_0, ng0_0, cg0_0, rfl, o, b⟩
 obtain ⟨fp_g0, S'⟩ := S.has b o c.size
 replace c := c.trans (b.mono c.size)
 clear S; have S := S'; clear S' o b hb_x0
 rw [← HFX0.out] at S
 go_wp2_with fail
 refine (eqEntryS_yes _ _ _ _ _ _ _ _ fx0 _ ((S.own_ 0 rfl).rd) ((S.own_ 3 rfl).rd) (Nat.le_refl _) (Nat.le_refl _) hfz0).mono ?_
 rintro e w8 ⟨rfl, b⟩
 replace c := c.trans (b.mono c.size)
 replace S := S.keep b
 clear b
 go_wp2_with fail
 refine wp_region_L (fun v => Blk v (w5.heap.size) #[.slice Ax0_0 nx0_0 cx0_0, .slice Ax0_1 nx0_1 cx0_1, .slice Ax0_2 nx0_2 cx0_2, .slice Ax0_3 nx0_3 cx0_3, .int .i64 xx0_4, .int .i64 xx0_5, .int .i64 xx0_6, .slice Ax0_7 nx0_7 cx0_7, .int .i64 xx0_8, .int .i64 xx0_9, .int .i64 xx0_10, .slice Ax0_11 nx0_11 cx0_11, .bool yx0_12, .int .i64 xx0_13, .int .i64 xx0_14, .slice Ax0_15 nx0_15 cx0_15, .slice Ax0_16 nx0_16 cx0_16, .int .i64 xx0_17, .slice Ax0_18 nx0_18 cx0_18] 52 ∧ Blk v (w.heap.size) #[.slice Aa0_0 na0_0 ca0_0, .slice Aa0_1 na0_1 ca0_1, .slice Aa0_2 na0_2 ca0_2, .slice Aa0_3 na0_3 ca0_3, .int .i64 xa0_4, .int .i64 xa0_5, .int .i64 xa0_6, .slice Aa0_7 na0_7 ca0_7, .int .i64 xa0_8, .int .i64 xa0_9, .int .i64 xa0_10, .slice Aa0_11 na0_11 ca0_11, .bool ya0_12, .int .i64 xa0_13, .int .i64 xa0_14, .slice Aa0_15 na0_15 ca0_15, .slice Aa0_16 na0_16 ca0_16, .int .i64 xa0_17, .slice Aa0_18 na0_18 ca0_18] 36) 4 (by kernel_rfl) ?_
 replace S := S.keep ((Below.refl _ _).drew)
 replace c := c.drew
 generalize w8.drew = w59 at *
 have HF : Blk w59 (w5.heap.size) #[.slice Ax0_0 nx0_0 cx0_0, .slice Ax0_1 nx0_1 cx0_1, .slice Ax0_2 nx0_2 cx0_2, .slice Ax0_3 nx0_3 cx0_3, .int .i64 xx0_4, .int .i64 xx0_5, .int .i64 xx0_6, .slice Ax0_7 nx0_7 cx0_7, .int .i64 xx0_8, .int .i64 xx0_9, .int .i64 xx0_10, .slice Ax0_11 nx0_11 cx0_11, .bool yx0_12, .int .i64 xx0_13, .int .i64 xx0_14, .slice Ax0_15 nx0_15 cx0_15, .slice Ax0_16 nx0_16 cx0_16, .int .i64 xx0_17, .slice Ax0_18 nx0_18 cx0_18] 52 ∧ Blk w59 (w.heap.size) #[.slice Aa0_0 na0_0 ca0_0, .slice Aa0_1 na0_1 ca0_1, .slice Aa0_2 na0_2 ca0_2, .slice Aa0_3 na0_3 ca0_3, .int .i64 xa0_4, .int .i64 xa0_5, .int .i64 xa0_6, .slice Aa0_7 na0_7 ca0_7, .int .i64 xa0_8, .int .i64 xa0_9, .int .i64 xa0_10, .slice Aa0_11 na0_11 ca0_11, .bool ya0_12, .int .i64 xa0_13, .int .i64 xa0_14, .slice Aa0_15 na0_15 ca0_15, .slice Aa0_16 na0_16 ca0_16, .int .i64 xa0_17, .slice Aa0_18 na0_18 ca0_18] 36 := ⟨S.at_ 1 rfl, S.at_ 5 rfl⟩
 refine wpAnyL_takeT [3] (i := 0) (v := .agg #[.slice Ax0_0 nx0_0 cx0_0, .slice Ax0_1 nx0_1 cx0_1, .slice Ax0_2 nx0_2 cx0_2, .slice Ax0_3 nx0_3 cx0_3, .int .i64 xx0_4, .int .i64 xx0_5, .int .i64 xx0_6, .slice Ax0_7 nx0_7 cx0_7, .int .i64 xx0_8, .int .i64 xx0_9, .int .i64 xx0_10, .slice Ax0_11 nx0_11 cx0_11, .bool yx0_12, .int .i64 xx0_13, .int .i64 xx0_14, .slice Ax0_15 nx0_15 cx0_15, .slice Ax0_16 nx0_16 cx0_16, .int .i64 xx0_17, .slice Ax0_18 nx0_18 cx0_18]) rfl rfl (by kernel_rfl) (by kernel_rfl) (by kernel_rfl) (by kernel_rfl) (by kernel_rfl) (fun _ _ _ h => h) HF (yieldsIf_load_box (by kernel_rfl) 52 _ (by rfl) (w5.heap.size) (by rfl) _ _ (fun _ h => h.1) _ Tryz.underlying52 (by rfl) (by kernel_rfl)) ?_
 try simp only [Act.put]
 refine wpAnyL_takeT [3, 2] (i := 1) (v := .agg #[.slice Aa0_0 na0_0 ca0_0, .slice Aa0_1 na0_1 ca0_1, .slice Aa0_2 na0_2 ca0_2, .slice Aa0_3 na0_3 ca0_3, .int .i64 xa0_4, .int .i64 xa0_5, .int .i64 xa0_6, .slice Aa0_7 na0_7 ca0_7, .int .i64 xa0_8, .int .i64 xa0_9, .int .i64 xa0_10, .slice Aa0_11 na0_11 ca0_11, .bool ya0_12, .int .i64 xa0_13, .int .i64 xa0_14, .slice Aa0_15 na0_15 ca0_15, .slice Aa0_16 na0_16 ca0_16, .int .i64 xa0_17, .slice Aa0_18 na0_18 ca0_18]) rfl rfl (by kernel_rfl) (by kernel_rfl) (by kernel_rfl) (by kernel_rfl) (by kernel_rfl) (fun _ _ _ h => h) HF (yieldsIf_load_box (by kernel_rfl) 36 _ (by rfl) (w.heap.size) (by rfl) _ _ (fun _ h => h.2) _ Tryz.underlying36 (by rfl) (by kernel_rfl)) ?_
 try simp only [Act.put]
 refine wpAnyL_step (i := 2) (by kernel_rfl) rfl rfl ?_
 intro K hK
 go_simp
 refine (toLogNode_made _ _ _ _ _ _ _ _ _ _ _ _ _ _ _ _ _ _ _ d0 _ ((h0.keep c).up c.size) hz0).mono ?_
 rintro e w60 ⟨Az0_0, nz0_0, cz0_0, Az0_1, nz0_1, cz0_1, Az0_2, nz0_2, cz0_2, Az0_3, nz0_3, cz0_3, xz0_4, xz0_5, xz0_6, Az0_7, nz0_7, cz0_7, xz0_8, xz0_9, xz0_10, Az0_11, nz0_11, cz0_11, yz0_12, xz0_13, xz0_14, Az0_15, nz0_15, cz0_15, Az0_16, nz0_16, cz0_16, xz0_17, Az0_18, nz0_18, cz0_18, rfl, o, b⟩
 obtain ⟨fp_Oz0, S'⟩ := S.has b o c.size
 replace c := c.trans (b.mono c.size)
 clear S; have S := S'; clear S' o b
 clear HF
 have HF : Blk w60 (w5.heap.size) #[.slice Ax0_0 nx0_0 cx0_0, .slice Ax0_1 nx0_1 cx0_1, .slice Ax0_2 nx0_2 cx0_2, .slice Ax0_3 nx0_3 cx0_3, .int .i64 xx0_4, .int .i64 xx0_5, .int .i64 xx0_6, .slice Ax0_7 nx0_7 cx0_7, .int .i64 xx0_8, .int .i64 xx0_9, .int .i64 xx0_10, .slice Ax0_11 nx0_11 cx0_11, .bool yx0_12, .int .i64 xx0_13, .int .i64 xx0_14, .slice Ax0_15 nx0_15 cx0_15, .slice Ax0_16 nx0_16 cx0_16, .int .i64 xx0_17, .slice Ax0_18 nx0_18 cx0_18] 52 ∧ Blk w60 (w.heap.size) #[.slice Aa0_0 na0_0 ca0_0, .slice Aa0_1 na0_1 ca0_1, .slice Aa0_2 na0_2 ca0_2, .slice Aa0_3 na0_3 ca0_3, .int .i64 xa0_4, .int .i64 xa0_5, .int .i64 xa0_6, .slice Aa0_7 na0_7 ca0_7, .int .i64 xa0_8, .int .i64 xa0_9, .int .i64 xa0_10, .slice Aa0_11 na0_11 ca0_11, .bool ya0_12, .int .i64 xa0_13, .int .i64 xa0_14, .slice Aa0_15 na0_15 ca0_15, .slice Aa0_16 na0_16 ca0_16, .int .i64 xa0_17, .slice Aa0_18 na0_18 ca0_18] 36 := ⟨S.at_ 2 rfl, S.at_ 6 rfl⟩
 refine hK _ _ (fun _ => HF) ?_
 clear hK K
 try simp only [Act.put]
 refine wpAnyL_step (i := 3) (by kernel_rfl) rfl rfl ?_
 intro K hK
 go_simp
 refine (eqLogNode_yes _ _ _ _ _ _ _ _ _ _ _ _ _ _ _ _ _ _ _ _ _ _ _ _ _ _ _ _ _ _ _ _ _ _ _ _ _ _ _ _ d0 _ (S.own_ 3 rfl).rd (S.own_ 0 rfl).rd (Nat.le_refl _) (Nat.le_refl _) (by omega)).mono ?_
 rintro e w61 ⟨rfl, b⟩
 replace c := c.trans (b.mono c.size)
 replace S := S.keep b
 clear b
 clear HF
 have HF : Blk w61 (w5.heap.size) #[.slice Ax0_0 nx0_0 cx0_0, .slice Ax0_1 nx0_1 cx0_1, .slice Ax0_2 nx0_2 cx0_2, .slice Ax0_3 nx0_3 cx0_3, .int .i64 xx0_4, .int .i64 xx0_5, .int .i64 xx0_6, .slice Ax0_7 nx0_7 cx0_7, .int .i64 xx0_8, .int .i64 xx0_9, .int .i64 xx0_10, .slice Ax0_11 nx0_11 cx0_11, .bool yx0_12, .int .i64 xx0_13, .int .i64 xx0_14, .slice Ax0_15 nx0_15 cx0_15, .slice Ax0_16 nx0_16 cx0_16, .int .i64 xx0_17, .slice Ax0_18 nx0_18 cx0_18] 52 ∧ Blk w61 (w.heap.size) #[.slice Aa0_0 na0_0 ca0_0, .slice Aa0_1 na0_1 ca0_1, .slice Aa0_2 na0_2 ca0_2, .slice Aa0_3 na0_3 ca0_3, .int .i64 xa0_4, .int .i64 xa0_5, .int .i64 xa0_6, .slice Aa0_7 na0_7 ca0_7, .int .i64 xa0_8, .int .i64 xa0_9, .int .i64 xa0_10, .slice Aa0_11 na0_11 ca0_11, .bool ya0_12, .int .i64 xa0_13, .int .i64 xa0_14, .slice Aa0_15 na0_15 ca0_15, .slice Aa0_16 na0_16 ca0_16, .int .i64 xa0_17, .slice Aa0_18 na0_18 ca0_18] 36 := ⟨S.at_ 2 rfl, S.at_ 6 rfl⟩
 refine hK _ _ (fun _ => HF) ?_
 clear hK K
 try simp only [Act.put]
 refine wpAnyL_step (i := 4) (by kernel_rfl) rfl rfl ?_
 intro K hK
 go_simp
 refine hK _ _ (fun h => nomatch (show true = false from h)) ?_
 clear hK K
 try simp only [Act.put]
 refine wpAnyL_done (by kernel_rfl) ?_ _
 clear HF
 generalize w61 = w9 at *
 have hb_x0 := S.at_ 2 rfl
 go_wp2_with (first | (refine wpList_load_box rfl 52 _ (by rfl) (w5.heap.size) (by rfl) _ _ hb_x0 _ Tryz.underlying52 (by rfl) (by kernel_rfl) ?_))
 refine (markLogNode_any _ _ _ _ _ _ _ _ _ _ _ _ _ _ _ _ _ _ _ d0 _ _ (S.own_ 3 rfl) (S.nodup_own 3 rfl) (by omega) (1) (by omega) (by omega)).mono ?_
 rintro e w10 ⟨m0, rfl, o, t, mk_x0, en_x0, es_x0⟩
 have b := S.below 3 rfl t c.size
 have S' := S.mark 3 rfl t o
 replace c := c.trans b
 clear S; have S := S'; clear S' o t b hb_x0
 have nb0 : d0.n ≤ 9437193 := by
  first | omega | exact log_n_le _ (by omega)
 have qk : ¬ (1 + (d0.n : Int) < 0) := by omega
 go_wp2_with fail
 refine (eqEntryS_yes _ _ _ _ _ _ _ _ fx0 _ ((S.own_ 1 rfl).rd) ((S.own_ 4 rfl).rd) (Nat.le_refl _) (Nat.le_refl _) hfz0).mono ?_
 rintro e w11 ⟨rfl, b⟩
 replace c := c.trans (b.mono c.size)
 replace S := S.keep b
 clear b
 have nr0 : (entN fx0) ≤ 9437193 := by
  first | omega | exact entN_b _ (by omega)
 go_wp2_with fail
 refine (markEntryS_any _ _ _ fx0 _ _ (S.own_ 1 rfl) (S.nodup_own 1 rfl) hfz0 (1) (by omega) (by omega)).mono ?_
 rintro e w12 ⟨e0, rfl, o, t, mk_g0, en_g0, es_g0⟩
 have b := S.below 1 rfl t c.size
 have S' := S.mark 1 rfl t o
 replace c := c.trans b
 clear S; have S := S'; clear S' o t b
 go_wp2_with fail
 refine (heldEntryS_any _ _ _ e0 _ _ ((S.own_ 1 rfl).rd) (Nat.le_refl _) (by omega) (1) (by omega) (by omega) mk_g0).mono ?_
 rintro e w13 ⟨rfl, b⟩
 rw [en_g0]
 have q13 : ¬ (1 + ((entN fx0) : Int) < 0) := by omega
 replace c := c.trans (b.mono c.size)
 replace S := S.keep b
 clear b
 have hb_a0 := S.at_ 6 rfl
 go_wp2_with (first | (refine wpList_load_box rfl 36 _ (by rfl) (w.heap.size) (by rfl) _ _ hb_a0 _ Tryz.underlying36 (by rfl) (by kernel_rfl) ?_))
 refine (toLogNode_made _ _ _ _ _ _ _ _ _ _ _ _ _ _ _ _ _ _ _ d0 _ ((h0.keep c).up c.size) hz0).mono ?_
 rintro e w14 ⟨At0_0, nt0_0, ct0_0, At0_1, nt0_1, ct0_1, At0_2, nt0_2, ct0_2, At0_3, nt0_3, ct0_3, xt0_4, xt0_5, xt0_6, At0_7, nt0_7, ct0_7, xt0_8, xt0_9, xt0_10, At0_11, nt0_11, ct0_11, yt0_12, xt0_13, xt0_14, At0_15, nt0_15, ct0_15, At0_16, nt0_16, ct0_16, xt0_17, At0_18, nt0_18, ct0_18, rfl, o, b⟩
 obtain ⟨fp_t0, S'⟩ := S.has b o c.size
 replace c := c.trans (b.mono c.size)
 clear S; have S := S'; clear S' o b hb_a0
 go_wp2_with fail
 refine (IM.out _ _ _ _ _ _ _ _ _ _ _ _ _ _ _ _ _ _ _ _ _ _ _ _ _ _ _ _ _ _ _ _ _ _ _ _ _ d0 _ ((S.own_ 0 rfl).rd) hz0 (hVB _ _ hv0 c)).mono ?_
 rintro e w15 ⟨Ah0_0, nh0_0, ch0_0, rfl, o, b⟩
 obtain ⟨fp_h0, S'⟩ := S.has b o c.size
 replace c := c.trans (b.mono c.size)
 clear S; have S := S'; clear S' o b
 rw [← HFX0.out] at S
 go_wp2_with fail
 refine (eqEntryS_yes _ _ _ _ _ _ _ _ fx0 _ ((S.own_ 0 rfl).rd) ((S.own_ 6 rfl).rd) (Nat.le_refl _) (Nat.le_refl _) hfz0).mono ?_
 rintro e w16 ⟨rfl, b⟩
 replace c := c.trans (b.mono c.size)
 replace S := S.keep b
 clear b
 go_wp2_with fail
 refine (heldEntryS_any _ _ _ e0 _ _ ((S.own_ 3 rfl).rd) (Nat.le_refl _) (by omega) (1) (by omega) (by omega) mk_g0).mono ?_
 rintro e w17 ⟨rfl, b⟩
 rw [en_g0]
 have q17 : ¬ (1 + ((entN fx0) : Int) < 0) := by omega
 replace c := c.trans (b.mono c.size)
 replace S := S.keep b
 clear b
 go_wp2
 go_ret
 exact ⟨rfl, c⟩
end Go.Proofs.YthjjdelpdiipdaaGreatDoor
