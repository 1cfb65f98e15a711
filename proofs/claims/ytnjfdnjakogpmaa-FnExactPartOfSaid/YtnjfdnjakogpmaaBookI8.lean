/-
  Chapter 8: the entry at an index, of the program (by program, wip/gen/genbooki8.py).
-/
import Derived.Test.YtnjfdnjakogpmaaBookI5
import Derived.RegionTactic
import Derived.BigQuiet
import Derived.Laws.EntriesVeiled
namespace Go.Proofs.Ytnjfdnjakogpmaa
set_option maxRecDepth 100000
open Go.RowKit
attribute [local go_sem] Oper.semAt_some

/-- Pieces and a word on what has come. -/
def SepG (w : World) (M : Nat) (P : List EntM → Prop) (its : List EntM → List Item) (pre : List EntM) (W : World) : Prop := P pre ∧ Sep W w.heap.size (its pre) ∧ Below w.heap.size w W ∧ M ≤ W.heap.size
theorem sepG_own {w : World} {M : Nat} {P : List EntM → Prop} {its : List EntM → List Item} {B : Nat} (hB : w.heap.size ≤ B) : OwnFrom B (SepG w M P its) := fun _ _ _ _ hs hg hr =>
  ⟨hs.1, hs.2.1.turned hg fun r e => (hr r e).2, hs.2.2.1.grown hg hs.2.2.1.size fun k e => Nat.le_trans hB (hr k e).1, Nat.le_trans hs.2.2.2 hg.size⟩
theorem SepG.more {w W : World} {M : Nat} {P : List EntM → Prop} {its : List EntM → List Item} {pre : List EntM} (h : SepG w M P its pre W) (o : Obj) : SepG w M P its pre (W.alloc o) :=
  ⟨h.1, h.2.1.keep ((Below.refl _ _).alloc (Nat.le_refl _) _), h.2.2.1.alloc h.2.2.1.size _, Nat.le_trans h.2.2.2 (by simp)⟩
/-- The round has left by 'return', with the entry that had come last. -/
def LeftG (w : World) (M : Nat) (its : EntM → List Item) (c : Code) (pre : List EntM) (W : World) : Prop := c = .ret ∧ ∃ x : EntM, SepG w M (fun pre => pre = [x]) (fun _ => its x) pre W
theorem leftG_own {w : World} {M : Nat} {its : EntM → List Item} {B : Nat} (hB : w.heap.size ≤ B) (c : Code) : OwnFrom B (LeftG w M its c) := fun s W W' row hs hg hr => by
  obtain ⟨h1, x, h2⟩ := hs
  exact ⟨h1, x, sepG_own hB s W W' row h2 hg hr⟩
theorem postM_ret0 {F : Fence} {n : Nat} {P : Program} {fn : Func} {R : Ending → World → Prop} {a : Act} {w : World} {v : Value} (hd : a.defers = []) (hr : (results fn a.tmps).run P w = .ok v w) (hR : R (.returned v) w) : bodyPostM F n P fn R .ret a w := by
  show LeavesInM F n P fn a.tmps R a.defers .returning w
  rw [hd]
  exact ⟨v, hr, hR⟩
theorem postM_ret1 {F : Fence} {n : Nat} {P : Program} {fn : Func} {R : Ending → World → Prop} {a : Act} {w : World} {v : Value} {D : Nat} (hd : a.defers = [{ target := .collected D, args := #[] }]) (hK : w.heap[D]? = some (.deferred (some [])))
    (hr : (results fn a.tmps).run P (w.putObj D (.deferred none)) = .ok v (w.putObj D (.deferred none))) (hR : R (.returned v) (w.putObj D (.deferred none))) : bodyPostM F n P fn R .ret a w := by
  show LeavesInM F n P fn a.tmps R a.defers .returning w
  rw [hd]
  exact ⟨by simp, .inl ⟨_, _, rfl, run_takeDeferred hK, v, hr, hR⟩⟩
/-- The book's entries from one index to another, as the loop's contract asks for them. -/
theorem iter_at {w : World} (x0 x1 a z : Int) (A : Option Addr) (n cc B : Nat) (l : List EntM) (bb bf bl : Nat) (h0 : Blk w bb #[.int .i64 x0, .int .i64 x1, .slice A n cc] 29) (h1 : Blk w bf #[.int .i64 a] 2) (h2 : Blk w bl #[.int .i64 z] 2)
    (hr : Rd w B [entD l] [.slice A n cc]) (hB : B ≤ w.heap.size) (hn : n ≤ 1048577) :
    SeqStopsK Fence.wide 2 Try.prog 68 #[.pointer (some ⟨bb, 0, none⟩), .pointer (some ⟨bf, 0, none⟩), .pointer (some ⟨bl, 0, none⟩)] encE (Below w.heap.size) (fun ys => ys = selE l a z) (fun pre => pre <+: selE l a z ∧ pre ≠ []) (selE l a z).length w :=
  iIter_stops bb bf bl B x0 x1 a z A n cc l (Below w.heap.size) (fun _ _ h => ⟨h.mono hB, h.block bb h0.lt, h.block bf h1.lt, h.block bl h2.lt⟩) w h0 h1 h2 hr hn hB
set_option maxHeartbeats 12800000 in
theorem iEntAt_any (x0 x1 : Int) (A : Option Addr) (n cc B : Nat) (l : List EntM) (i : Int) (w : World) (h : Rd w B [entD l] [.slice A n cc]) (hB : B ≤ w.heap.size) (hs : entSz l ≤ 1048577) :
    Calls Try.prog 23 #[.agg #[.int .i64 x0, .int .i64 x1, .slice A n cc], .int .i64 i] w fun e w' => e = .returned (.tuple #[.agg #[.int .i64 (atM ⟨x0, x1, l⟩ i).1.idx, .int .i64 (atM ⟨x0, x1, l⟩ i).1.tm, .int .i64 (atM ⟨x0, x1, l⟩ i).1.cl, .int .i64 (atM ⟨x0, x1, l⟩ i).1.sq, .int .i64 (atM ⟨x0, x1, l⟩ i).1.kd, .int .i64 (atM ⟨x0, x1, l⟩ i).1.oa, .int .i64 (atM ⟨x0, x1, l⟩ i).1.ob, .int .i64 (atM ⟨x0, x1, l⟩ i).1.oc, .int .i64 (atM ⟨x0, x1, l⟩ i).1.od], .bool (atM ⟨x0, x1, l⟩ i).2]) ∧ Below w.heap.size w w' := by
  have HH := Lib.hid h
  obtain ⟨_, _, _, e, hl, _, hcm, hel⟩ := h.ents
  injection e with e1 e2 e3
  subst e1 e2 e3
  have hn : n ≤ 1048577 := by unfold entSz at hs; omega
  have HL := Lib.hid hl
  clear hel hcm h
  have S := Sep.nil w w.heap.size
  have c := Below.refl w.heap.size w
  replace S := S.boxAt c.size (w.heap.size) rfl #[.int .i64 x0, .int .i64 x1, .slice A n cc] 29
  replace c := c.alloc c.size (.cells #[.int .i64 x0, .int .i64 x1, .slice A n cc] 29)
  replace S := S.boxAt c.size (w.heap.size + 1) (by simp) #[.int .i64 0, .int .i64 0, .int .i64 0, .int .i64 0, .int .i64 0, .int .i64 0, .int .i64 0, .int .i64 0, .int .i64 0] 37
  replace c := c.alloc c.size (.cells #[.int .i64 0, .int .i64 0, .int .i64 0, .int .i64 0, .int .i64 0, .int .i64 0, .int .i64 0, .int .i64 0, .int .i64 0] 37)
  replace S := S.boxAt c.size (w.heap.size + 1 + 1) (by simp) #[.bool false] 4
  replace c := c.alloc c.size (.cells #[.bool false] 4)
  refine (callsIn_wide (n := 3)).1 ?_
  refine callsIn_of_wp_marks Try.func23 rfl trivial ?_ rfl
  refine wpIn_wide.2 ?_
  simp only [Try.ntmps23, List.size_toArray, List.length_cons, List.length_nil, Nat.reduceAdd, Nat.reduceSub, Array.replicate_succ, Array.replicate_zero, List.push_toArray, List.append_toArray, List.nil_append, List.cons_append]
  have f0 : (((w.alloc (.cells #[.int .i64 x0, .int .i64 x1, .slice A n cc] 29)).alloc (.cells #[.int .i64 0, .int .i64 0, .int .i64 0, .int .i64 0, .int .i64 0, .int .i64 0, .int .i64 0, .int .i64 0, .int .i64 0] 37)).alloc (.cells #[.bool false] 4)).cell? ⟨w.heap.size, 0, none⟩ = some (.int .i64 x0) := (S.at_ 2 rfl).cell 0
  have f1 : (((w.alloc (.cells #[.int .i64 x0, .int .i64 x1, .slice A n cc] 29)).alloc (.cells #[.int .i64 0, .int .i64 0, .int .i64 0, .int .i64 0, .int .i64 0, .int .i64 0, .int .i64 0, .int .i64 0, .int .i64 0] 37)).alloc (.cells #[.bool false] 4)).cell? ⟨w.heap.size, 1, none⟩ = some (.int .i64 x1) := (S.at_ 2 rfl).cell 1
  have f2 : (((w.alloc (.cells #[.int .i64 x0, .int .i64 x1, .slice A n cc] 29)).alloc (.cells #[.int .i64 0, .int .i64 0, .int .i64 0, .int .i64 0, .int .i64 0, .int .i64 0, .int .i64 0, .int .i64 0, .int .i64 0] 37)).alloc (.cells #[.bool false] 4)).cell? ⟨w.heap.size, 2, none⟩ = some (.slice A n cc) := (S.at_ 2 rfl).cell 2
  go_wp2_with fail
  generalize ((w.alloc (.cells #[.int .i64 x0, .int .i64 x1, .slice A n cc] 29)).alloc (.cells #[.int .i64 0, .int .i64 0, .int .i64 0, .int .i64 0, .int .i64 0, .int .i64 0, .int .i64 0, .int .i64 0, .int .i64 0] 37)).alloc (.cells #[.bool false] 4) = w1 at *
  refine (iBookOk_any x0 x1 A n cc B l _ (HH.out.keep (c.mono hB)) (Nat.le_trans hB c.size) hs).mono ?_
  rintro e w2 ⟨rfl, b2⟩
  replace c := c.trans (b2.mono c.size)
  replace S := S.keep b2
  clear b2 f0 f1 f2
  cases hok : bookB ⟨x0, x1, l⟩
  case false =>
    have HV := Lib.hid (show atM ⟨x0, x1, l⟩ i = (ent0, false) by unfold atM; rw [hok]; rfl)
    have f3 : w2.cell? ⟨w.heap.size + 1, 0, none⟩ = some (.int .i64 0) := (S.at_ 1 rfl).cell 0
    have f4 := (S.at_ 1 rfl).free 0
    have f5 : w2.cell? ⟨w.heap.size + 1, 1, none⟩ = some (.int .i64 0) := (S.at_ 1 rfl).cell 1
    have f6 := (S.at_ 1 rfl).free 1
    have f7 : w2.cell? ⟨w.heap.size + 1, 2, none⟩ = some (.int .i64 0) := (S.at_ 1 rfl).cell 2
    have f8 := (S.at_ 1 rfl).free 2
    have f9 : w2.cell? ⟨w.heap.size + 1, 3, none⟩ = some (.int .i64 0) := (S.at_ 1 rfl).cell 3
    have f10 := (S.at_ 1 rfl).free 3
    have f11 : w2.cell? ⟨w.heap.size + 1, 4, none⟩ = some (.int .i64 0) := (S.at_ 1 rfl).cell 4
    have f12 := (S.at_ 1 rfl).free 4
    have f13 : w2.cell? ⟨w.heap.size + 1, 5, none⟩ = some (.int .i64 0) := (S.at_ 1 rfl).cell 5
    have f14 := (S.at_ 1 rfl).free 5
    have f15 : w2.cell? ⟨w.heap.size + 1, 6, none⟩ = some (.int .i64 0) := (S.at_ 1 rfl).cell 6
    have f16 := (S.at_ 1 rfl).free 6
    have f17 : w2.cell? ⟨w.heap.size + 1, 7, none⟩ = some (.int .i64 0) := (S.at_ 1 rfl).cell 7
    have f18 := (S.at_ 1 rfl).free 7
    have f19 : w2.cell? ⟨w.heap.size + 1, 8, none⟩ = some (.int .i64 0) := (S.at_ 1 rfl).cell 8
    have f20 := (S.at_ 1 rfl).free 8
    have f21 : w2.cell? ⟨w.heap.size + 1 + 1, 0, none⟩ = some (.bool false) := (S.at_ 0 rfl).cell 0
    have f22 := (S.at_ 0 rfl).free 0
    replace S := S.put 1 rfl 0 (.int .i64 0)
    replace c := c.setCell (p := ⟨w.heap.size + 1, 0, none⟩) (by show w.heap.size ≤ w.heap.size + 1; omega) (.int .i64 0)
    replace S := S.put 1 rfl 1 (.int .i64 0)
    replace c := c.setCell (p := ⟨w.heap.size + 1, 1, none⟩) (by show w.heap.size ≤ w.heap.size + 1; omega) (.int .i64 0)
    replace S := S.put 1 rfl 2 (.int .i64 0)
    replace c := c.setCell (p := ⟨w.heap.size + 1, 2, none⟩) (by show w.heap.size ≤ w.heap.size + 1; omega) (.int .i64 0)
    replace S := S.put 1 rfl 3 (.int .i64 0)
    replace c := c.setCell (p := ⟨w.heap.size + 1, 3, none⟩) (by show w.heap.size ≤ w.heap.size + 1; omega) (.int .i64 0)
    replace S := S.put 1 rfl 4 (.int .i64 0)
    replace c := c.setCell (p := ⟨w.heap.size + 1, 4, none⟩) (by show w.heap.size ≤ w.heap.size + 1; omega) (.int .i64 0)
    replace S := S.put 1 rfl 5 (.int .i64 0)
    replace c := c.setCell (p := ⟨w.heap.size + 1, 5, none⟩) (by show w.heap.size ≤ w.heap.size + 1; omega) (.int .i64 0)
    replace S := S.put 1 rfl 6 (.int .i64 0)
    replace c := c.setCell (p := ⟨w.heap.size + 1, 6, none⟩) (by show w.heap.size ≤ w.heap.size + 1; omega) (.int .i64 0)
    replace S := S.put 1 rfl 7 (.int .i64 0)
    replace c := c.setCell (p := ⟨w.heap.size + 1, 7, none⟩) (by show w.heap.size ≤ w.heap.size + 1; omega) (.int .i64 0)
    replace S := S.put 1 rfl 8 (.int .i64 0)
    replace c := c.setCell (p := ⟨w.heap.size + 1, 8, none⟩) (by show w.heap.size ≤ w.heap.size + 1; omega) (.int .i64 0)
    replace S := S.put 0 rfl 0 (.bool false)
    replace c := c.setCell (p := ⟨w.heap.size + 1 + 1, 0, none⟩) (by show w.heap.size ≤ w.heap.size + 1 + 1; omega) (.bool false)
    have rr_r0 := Lib.hid ((S.at_ 1 rfl).cell 0)
    have rr_r1 := Lib.hid ((S.at_ 1 rfl).cell 1)
    have rr_r2 := Lib.hid ((S.at_ 1 rfl).cell 2)
    have rr_r3 := Lib.hid ((S.at_ 1 rfl).cell 3)
    have rr_r4 := Lib.hid ((S.at_ 1 rfl).cell 4)
    have rr_r5 := Lib.hid ((S.at_ 1 rfl).cell 5)
    have rr_r6 := Lib.hid ((S.at_ 1 rfl).cell 6)
    have rr_r7 := Lib.hid ((S.at_ 1 rfl).cell 7)
    have rr_r8 := Lib.hid ((S.at_ 1 rfl).cell 8)
    have rr_q0 := Lib.hid ((S.at_ 0 rfl).cell 0)
    have CC := Lib.hid c
    clear S c
    clear hok
    go_wp2
    exact postM_ret0 (v := .tuple #[.agg #[.int .i64 0, .int .i64 0, .int .i64 0, .int .i64 0, .int .i64 0, .int .i64 0, .int .i64 0, .int .i64 0, .int .i64 0], .bool false]) rfl (by simp [results, Try.results23, go_sem, rr_r0.out, rr_r1.out, rr_r2.out, rr_r3.out, rr_r4.out, rr_r5.out, rr_r6.out, rr_r7.out, rr_r8.out, rr_q0.out]) ⟨by rw [HV.out]; rfl, CC.out⟩
  case true =>
    have HOK := Lib.hid hok
    have HI1 := Lib.hid (show inB i (x0 + 1) (lastB ⟨x0, x1, l⟩) = true → selE l i i = [l.getD (i - x0 - 1).toNat ent0] ∧ atM ⟨x0, x1, l⟩ i = (l.getD (i - x0 - 1).toNat ent0, true) from fun h9 => ⟨sel_one (b := ⟨x0, x1, l⟩) hok h9, by unfold atM; rw [if_pos hok, if_pos h9]⟩)
    have HI0 := Lib.hid (show inB i (x0 + 1) (lastB ⟨x0, x1, l⟩) = false → selE l i i = [] ∧ atM ⟨x0, x1, l⟩ i = (ent0, false) from fun h9 => ⟨sel_none (b := ⟨x0, x1, l⟩) hok h9, by unfold atM; rw [if_pos hok, h9]; rfl⟩)
    clear hok hl
    have f3 : w2.cell? ⟨w.heap.size, 0, none⟩ = some (.int .i64 x0) := (S.at_ 2 rfl).cell 0
    have f4 : w2.cell? ⟨w.heap.size, 1, none⟩ = some (.int .i64 x1) := (S.at_ 2 rfl).cell 1
    have f5 : w2.cell? ⟨w.heap.size, 2, none⟩ = some (.slice A n cc) := (S.at_ 2 rfl).cell 2
    go_wp2_with fail
    refine (iEntriesIn_at x0 x1 A n cc i i _).mono ?_
    rintro e w3 ⟨rfl, k0, k1, k2, b2⟩
    replace c := c.trans (b2.mono c.size)
    replace S := S.keep b2
    clear b2 f3 f4 f5
    have K0 := Lib.hid k0
    have K1 := Lib.hid k1
    have K2 := Lib.hid k2
    clear k0 k1 k2
    have S0 := Lib.hid S
    have C0 := Lib.hid c
    have hsz : w.heap.size ≤ w3.heap.size := c.size
    go_wp2_with fail
    refine (wpIn_wide (n := 3)).1 ?_
    refine wpIn_rangeFunc_ownH rfl (by decide) (gf := 68) (lb := #[.pointer (some ⟨w2.heap.size, 0, none⟩), .pointer (some ⟨w2.heap.size + 1, 0, none⟩), .pointer (some ⟨w2.heap.size + 1 + 1, 0, none⟩)]) rfl trivial (enters_of Try.func68 (by kernel_rfl) rfl) (iter_at x0 x1 i i A n cc B l _ _ _ K0.out K1.out K2.out (HH.out.keep (C0.out.mono hB)) (Nat.le_trans hB hsz) hn) belowK_t (belowK_b (Nat.le_refl _)) (Below.refl _ _) (fun _ => rfl)
      (SepG w w3.heap.size (fun pre => pre = []) (fun _ => [.blk (w.heap.size + 1 + 1) #[.bool false] 4, .blk (w.heap.size + 1) #[.int .i64 0, .int .i64 0, .int .i64 0, .int .i64 0, .int .i64 0, .int .i64 0, .int .i64 0, .int .i64 0, .int .i64 0] 37, .blk w.heap.size #[.int .i64 x0, .int .i64 x1, .slice A n cc] 29]))
      (LeftG w w3.heap.size (fun x => [.blk (w.heap.size + 1 + 1) #[.bool true] 4, .blk (w.heap.size + 1) #[.int .i64 x.idx, .int .i64 x.tm, .int .i64 x.cl, .int .i64 x.sq, .int .i64 x.kd, .int .i64 x.oa, .int .i64 x.ob, .int .i64 x.oc, .int .i64 x.od] 37, .blk w.heap.size #[.int .i64 x0, .int .i64 x1, .slice A n cc] 29]))
      (sepG_own hsz)
      (leftG_own hsz)
      ⟨rfl, S0.out, C0.out, Nat.le_refl _⟩
      (fun x a' W => ∃ Bx, Blk W Bx #[.int .i64 x.idx, .int .i64 x.tm, .int .i64 x.cl, .int .i64 x.sq, .int .i64 x.kd, .int .i64 x.oa, .int .i64 x.ob, .int .i64 x.oc, .int .i64 x.od] 37 ∧ a' = { tmps := #[.agg #[.int .i64 x0, .int .i64 x1, .slice A n cc], .int .i64 i, .pointer (some ⟨w.heap.size, 0, none⟩), undef, .pointer (some ⟨w.heap.size + 1, 0, none⟩), .pointer (some ⟨w.heap.size + 1 + 1, 0, none⟩), .pointer (some ⟨Bx, 0, none⟩), .agg #[.int .i64 x0, .int .i64 x1, .slice A n cc], .bool true, .bool false, undef, .agg #[.int .i64 x0, .int .i64 x1, .slice A n cc], .int .i64 i, .int .i64 i, .func (.func 68) #[] #[.pointer (some ⟨w2.heap.size, 0, none⟩), .pointer (some ⟨w2.heap.size + 1, 0, none⟩), .pointer (some ⟨w2.heap.size + 1 + 1, 0, none⟩)], .agg #[.int .i64 x.idx, .int .i64 x.tm, .int .i64 x.cl, .int .i64 x.sq, .int .i64 x.kd, .int .i64 x.oa, .int .i64 x.ob, .int .i64 x.oc, .int .i64 x.od], undef, undef], defers := [] })
      ?hAx ?assign ?body ?done ?stop
    case hAx =>
      rintro x a' s W W' row ⟨Bx, h1, h2⟩ hg hr
      exact ⟨Bx, ownFrom_blk (β := Unit) _ _ _ _ () W W' row h1 hg hr, h2⟩
    case assign =>
      rintro l pre x W K hI hK
      simp only [encE]
      gi_wp2
      exact hK _ _ ((KeepsOthers.alloc _ _).from _) ((Below.refl _ W).alloc hI.2.2.2 _) (hI.more _) ⟨W.heap.size, Blk.new _ _ _, rfl⟩
    case body =>
      rintro l pre x a' W hl _ ⟨rfl, S, c, hM⟩ ⟨Bx, hBx, rfl⟩ hlt
      obtain ⟨e0, e1, e2, e3, e4, e5, e6, e7, e8⟩ := x
      simp only at hBx
      clear S0 C0 K0 K1 K2
      have X0 : W.cell? ⟨Bx, 0, none⟩ = some (.int .i64 e0) := hBx.cell 0
      have X1 : W.cell? ⟨Bx, 1, none⟩ = some (.int .i64 e1) := hBx.cell 1
      have X2 : W.cell? ⟨Bx, 2, none⟩ = some (.int .i64 e2) := hBx.cell 2
      have X3 : W.cell? ⟨Bx, 3, none⟩ = some (.int .i64 e3) := hBx.cell 3
      have X4 : W.cell? ⟨Bx, 4, none⟩ = some (.int .i64 e4) := hBx.cell 4
      have X5 : W.cell? ⟨Bx, 5, none⟩ = some (.int .i64 e5) := hBx.cell 5
      have X6 : W.cell? ⟨Bx, 6, none⟩ = some (.int .i64 e6) := hBx.cell 6
      have X7 : W.cell? ⟨Bx, 7, none⟩ = some (.int .i64 e7) := hBx.cell 7
      have X8 : W.cell? ⟨Bx, 8, none⟩ = some (.int .i64 e8) := hBx.cell 8
      have f0 : W.cell? ⟨w.heap.size + 1, 0, none⟩ = some (.int .i64 0) := (S.at_ 1 rfl).cell 0
      have f1 := (S.at_ 1 rfl).free 0
      have f2 : W.cell? ⟨w.heap.size + 1, 1, none⟩ = some (.int .i64 0) := (S.at_ 1 rfl).cell 1
      have f3 := (S.at_ 1 rfl).free 1
      have f4 : W.cell? ⟨w.heap.size + 1, 2, none⟩ = some (.int .i64 0) := (S.at_ 1 rfl).cell 2
      have f5 := (S.at_ 1 rfl).free 2
      have f6 : W.cell? ⟨w.heap.size + 1, 3, none⟩ = some (.int .i64 0) := (S.at_ 1 rfl).cell 3
      have f7 := (S.at_ 1 rfl).free 3
      have f8 : W.cell? ⟨w.heap.size + 1, 4, none⟩ = some (.int .i64 0) := (S.at_ 1 rfl).cell 4
      have f9 := (S.at_ 1 rfl).free 4
      have f10 : W.cell? ⟨w.heap.size + 1, 5, none⟩ = some (.int .i64 0) := (S.at_ 1 rfl).cell 5
      have f11 := (S.at_ 1 rfl).free 5
      have f12 : W.cell? ⟨w.heap.size + 1, 6, none⟩ = some (.int .i64 0) := (S.at_ 1 rfl).cell 6
      have f13 := (S.at_ 1 rfl).free 6
      have f14 : W.cell? ⟨w.heap.size + 1, 7, none⟩ = some (.int .i64 0) := (S.at_ 1 rfl).cell 7
      have f15 := (S.at_ 1 rfl).free 7
      have f16 : W.cell? ⟨w.heap.size + 1, 8, none⟩ = some (.int .i64 0) := (S.at_ 1 rfl).cell 8
      have f17 := (S.at_ 1 rfl).free 8
      have f18 : W.cell? ⟨w.heap.size + 1 + 1, 0, none⟩ = some (.bool false) := (S.at_ 0 rfl).cell 0
      have f19 := (S.at_ 0 rfl).free 0
      have K := KeepsOthers.refl W
      replace K := K.trans (KeepsOthers.setCell _ ⟨w.heap.size + 1, 0, none⟩ (.int .i64 e0))
      replace S := S.put 1 rfl 0 (.int .i64 e0)
      replace c := c.setCell (p := ⟨w.heap.size + 1, 0, none⟩) (by show w.heap.size ≤ w.heap.size + 1; omega) (.int .i64 e0)
      replace K := K.trans (KeepsOthers.setCell _ ⟨w.heap.size + 1, 1, none⟩ (.int .i64 e1))
      replace S := S.put 1 rfl 1 (.int .i64 e1)
      replace c := c.setCell (p := ⟨w.heap.size + 1, 1, none⟩) (by show w.heap.size ≤ w.heap.size + 1; omega) (.int .i64 e1)
      replace K := K.trans (KeepsOthers.setCell _ ⟨w.heap.size + 1, 2, none⟩ (.int .i64 e2))
      replace S := S.put 1 rfl 2 (.int .i64 e2)
      replace c := c.setCell (p := ⟨w.heap.size + 1, 2, none⟩) (by show w.heap.size ≤ w.heap.size + 1; omega) (.int .i64 e2)
      replace K := K.trans (KeepsOthers.setCell _ ⟨w.heap.size + 1, 3, none⟩ (.int .i64 e3))
      replace S := S.put 1 rfl 3 (.int .i64 e3)
      replace c := c.setCell (p := ⟨w.heap.size + 1, 3, none⟩) (by show w.heap.size ≤ w.heap.size + 1; omega) (.int .i64 e3)
      replace K := K.trans (KeepsOthers.setCell _ ⟨w.heap.size + 1, 4, none⟩ (.int .i64 e4))
      replace S := S.put 1 rfl 4 (.int .i64 e4)
      replace c := c.setCell (p := ⟨w.heap.size + 1, 4, none⟩) (by show w.heap.size ≤ w.heap.size + 1; omega) (.int .i64 e4)
      replace K := K.trans (KeepsOthers.setCell _ ⟨w.heap.size + 1, 5, none⟩ (.int .i64 e5))
      replace S := S.put 1 rfl 5 (.int .i64 e5)
      replace c := c.setCell (p := ⟨w.heap.size + 1, 5, none⟩) (by show w.heap.size ≤ w.heap.size + 1; omega) (.int .i64 e5)
      replace K := K.trans (KeepsOthers.setCell _ ⟨w.heap.size + 1, 6, none⟩ (.int .i64 e6))
      replace S := S.put 1 rfl 6 (.int .i64 e6)
      replace c := c.setCell (p := ⟨w.heap.size + 1, 6, none⟩) (by show w.heap.size ≤ w.heap.size + 1; omega) (.int .i64 e6)
      replace K := K.trans (KeepsOthers.setCell _ ⟨w.heap.size + 1, 7, none⟩ (.int .i64 e7))
      replace S := S.put 1 rfl 7 (.int .i64 e7)
      replace c := c.setCell (p := ⟨w.heap.size + 1, 7, none⟩) (by show w.heap.size ≤ w.heap.size + 1; omega) (.int .i64 e7)
      replace K := K.trans (KeepsOthers.setCell _ ⟨w.heap.size + 1, 8, none⟩ (.int .i64 e8))
      replace S := S.put 1 rfl 8 (.int .i64 e8)
      replace c := c.setCell (p := ⟨w.heap.size + 1, 8, none⟩) (by show w.heap.size ≤ w.heap.size + 1; omega) (.int .i64 e8)
      replace K := K.trans (KeepsOthers.setCell _ ⟨w.heap.size + 1 + 1, 0, none⟩ (.bool true))
      replace S := S.put 0 rfl 0 (.bool true)
      replace c := c.setCell (p := ⟨w.heap.size + 1 + 1, 0, none⟩) (by show w.heap.size ≤ w.heap.size + 1 + 1; omega) (.bool true)
      have HS := Lib.hid S
      have HC := Lib.hid c
      have HK := Lib.hid K
      clear S c K hBx hlt
      gi_wp2
      exact ⟨HK.out.from _, rfl, ⟨e0, e1, e2, e3, e4, e5, e6, e7, e8⟩, rfl, HS.out, HC.out, Nat.le_trans hM HK.out.size⟩
    case done =>
      rintro D ys W hD rfl ⟨he, S, c, hM⟩ hK
      have HV := Lib.hid (show atM ⟨x0, x1, l⟩ i = (ent0, false) by
        cases hin : inB i (x0 + 1) (lastB ⟨x0, x1, l⟩)
        · exact (HI0.out hin).2
        · have h9 := (HI1.out hin).1; rw [he] at h9; cases h9)
      clear S0 C0 K0 K1 K2 he
      have f0 : W.cell? ⟨w.heap.size + 1, 0, none⟩ = some (.int .i64 0) := (S.at_ 1 rfl).cell 0
      have f1 := (S.at_ 1 rfl).free 0
      have f2 : W.cell? ⟨w.heap.size + 1, 1, none⟩ = some (.int .i64 0) := (S.at_ 1 rfl).cell 1
      have f3 := (S.at_ 1 rfl).free 1
      have f4 : W.cell? ⟨w.heap.size + 1, 2, none⟩ = some (.int .i64 0) := (S.at_ 1 rfl).cell 2
      have f5 := (S.at_ 1 rfl).free 2
      have f6 : W.cell? ⟨w.heap.size + 1, 3, none⟩ = some (.int .i64 0) := (S.at_ 1 rfl).cell 3
      have f7 := (S.at_ 1 rfl).free 3
      have f8 : W.cell? ⟨w.heap.size + 1, 4, none⟩ = some (.int .i64 0) := (S.at_ 1 rfl).cell 4
      have f9 := (S.at_ 1 rfl).free 4
      have f10 : W.cell? ⟨w.heap.size + 1, 5, none⟩ = some (.int .i64 0) := (S.at_ 1 rfl).cell 5
      have f11 := (S.at_ 1 rfl).free 5
      have f12 : W.cell? ⟨w.heap.size + 1, 6, none⟩ = some (.int .i64 0) := (S.at_ 1 rfl).cell 6
      have f13 := (S.at_ 1 rfl).free 6
      have f14 : W.cell? ⟨w.heap.size + 1, 7, none⟩ = some (.int .i64 0) := (S.at_ 1 rfl).cell 7
      have f15 := (S.at_ 1 rfl).free 7
      have f16 : W.cell? ⟨w.heap.size + 1, 8, none⟩ = some (.int .i64 0) := (S.at_ 1 rfl).cell 8
      have f17 := (S.at_ 1 rfl).free 8
      have f18 : W.cell? ⟨w.heap.size + 1 + 1, 0, none⟩ = some (.bool false) := (S.at_ 0 rfl).cell 0
      have f19 := (S.at_ 0 rfl).free 0
      replace hK := (KeepsOthers.setCell _ ⟨w.heap.size + 1, 0, none⟩ (.int .i64 0)).same D _ hK rfl
      replace S := S.put 1 rfl 0 (.int .i64 0)
      replace c := c.setCell (p := ⟨w.heap.size + 1, 0, none⟩) (by show w.heap.size ≤ w.heap.size + 1; omega) (.int .i64 0)
      replace hK := (KeepsOthers.setCell _ ⟨w.heap.size + 1, 1, none⟩ (.int .i64 0)).same D _ hK rfl
      replace S := S.put 1 rfl 1 (.int .i64 0)
      replace c := c.setCell (p := ⟨w.heap.size + 1, 1, none⟩) (by show w.heap.size ≤ w.heap.size + 1; omega) (.int .i64 0)
      replace hK := (KeepsOthers.setCell _ ⟨w.heap.size + 1, 2, none⟩ (.int .i64 0)).same D _ hK rfl
      replace S := S.put 1 rfl 2 (.int .i64 0)
      replace c := c.setCell (p := ⟨w.heap.size + 1, 2, none⟩) (by show w.heap.size ≤ w.heap.size + 1; omega) (.int .i64 0)
      replace hK := (KeepsOthers.setCell _ ⟨w.heap.size + 1, 3, none⟩ (.int .i64 0)).same D _ hK rfl
      replace S := S.put 1 rfl 3 (.int .i64 0)
      replace c := c.setCell (p := ⟨w.heap.size + 1, 3, none⟩) (by show w.heap.size ≤ w.heap.size + 1; omega) (.int .i64 0)
      replace hK := (KeepsOthers.setCell _ ⟨w.heap.size + 1, 4, none⟩ (.int .i64 0)).same D _ hK rfl
      replace S := S.put 1 rfl 4 (.int .i64 0)
      replace c := c.setCell (p := ⟨w.heap.size + 1, 4, none⟩) (by show w.heap.size ≤ w.heap.size + 1; omega) (.int .i64 0)
      replace hK := (KeepsOthers.setCell _ ⟨w.heap.size + 1, 5, none⟩ (.int .i64 0)).same D _ hK rfl
      replace S := S.put 1 rfl 5 (.int .i64 0)
      replace c := c.setCell (p := ⟨w.heap.size + 1, 5, none⟩) (by show w.heap.size ≤ w.heap.size + 1; omega) (.int .i64 0)
      replace hK := (KeepsOthers.setCell _ ⟨w.heap.size + 1, 6, none⟩ (.int .i64 0)).same D _ hK rfl
      replace S := S.put 1 rfl 6 (.int .i64 0)
      replace c := c.setCell (p := ⟨w.heap.size + 1, 6, none⟩) (by show w.heap.size ≤ w.heap.size + 1; omega) (.int .i64 0)
      replace hK := (KeepsOthers.setCell _ ⟨w.heap.size + 1, 7, none⟩ (.int .i64 0)).same D _ hK rfl
      replace S := S.put 1 rfl 7 (.int .i64 0)
      replace c := c.setCell (p := ⟨w.heap.size + 1, 7, none⟩) (by show w.heap.size ≤ w.heap.size + 1; omega) (.int .i64 0)
      replace hK := (KeepsOthers.setCell _ ⟨w.heap.size + 1, 8, none⟩ (.int .i64 0)).same D _ hK rfl
      replace S := S.put 1 rfl 8 (.int .i64 0)
      replace c := c.setCell (p := ⟨w.heap.size + 1, 8, none⟩) (by show w.heap.size ≤ w.heap.size + 1; omega) (.int .i64 0)
      replace hK := (KeepsOthers.setCell _ ⟨w.heap.size + 1 + 1, 0, none⟩ (.bool false)).same D _ hK rfl
      replace S := S.put 0 rfl 0 (.bool false)
      replace c := c.setCell (p := ⟨w.heap.size + 1 + 1, 0, none⟩) (by show w.heap.size ≤ w.heap.size + 1 + 1; omega) (.bool false)
      have S1 := S.putObj (.deferred none) hK rfl
      have rr_r0 := Lib.hid ((S1.at_ 1 rfl).cell 0)
      have rr_r1 := Lib.hid ((S1.at_ 1 rfl).cell 1)
      have rr_r2 := Lib.hid ((S1.at_ 1 rfl).cell 2)
      have rr_r3 := Lib.hid ((S1.at_ 1 rfl).cell 3)
      have rr_r4 := Lib.hid ((S1.at_ 1 rfl).cell 4)
      have rr_r5 := Lib.hid ((S1.at_ 1 rfl).cell 5)
      have rr_r6 := Lib.hid ((S1.at_ 1 rfl).cell 6)
      have rr_r7 := Lib.hid ((S1.at_ 1 rfl).cell 7)
      have rr_r8 := Lib.hid ((S1.at_ 1 rfl).cell 8)
      have rr_q0 := Lib.hid ((S1.at_ 0 rfl).cell 0)
      have HK := Lib.hid hK
      have CC := Lib.hid (below_shut c (Nat.le_trans hsz hD) hK)
      clear S S1 c hK
      go_wp2
      exact postM_ret1 (v := .tuple #[.agg #[.int .i64 0, .int .i64 0, .int .i64 0, .int .i64 0, .int .i64 0, .int .i64 0, .int .i64 0, .int .i64 0, .int .i64 0], .bool false]) rfl HK.out (by simp [results, Try.results23, go_sem, rr_r0.out, rr_r1.out, rr_r2.out, rr_r3.out, rr_r4.out, rr_r5.out, rr_r6.out, rr_r7.out, rr_r8.out, rr_q0.out]) ⟨by rw [HV.out]; rfl, CC.out⟩
    case stop =>
      rintro D c' pre W hD ⟨hp, _⟩ ⟨rfl, x, he, S, c, hM⟩ hK
      have he : pre = [x] := he
      subst he
      have HV := Lib.hid (show atM ⟨x0, x1, l⟩ i = (x, true) by
        cases hin : inB i (x0 + 1) (lastB ⟨x0, x1, l⟩)
        · rw [(HI0.out hin).1] at hp; simp at hp
        · rw [(HI1.out hin).1] at hp
          rw [(HI1.out hin).2]
          obtain ⟨t9, ht9⟩ := hp
          rw [(List.cons.inj ht9).1])
      clear S0 C0 K0 K1 K2 hp
      obtain ⟨e0, e1, e2, e3, e4, e5, e6, e7, e8⟩ := x
      simp only at S
      have S1 := S.putObj (.deferred none) hK rfl
      have rr_r0 := Lib.hid ((S1.at_ 1 rfl).cell 0)
      have rr_r1 := Lib.hid ((S1.at_ 1 rfl).cell 1)
      have rr_r2 := Lib.hid ((S1.at_ 1 rfl).cell 2)
      have rr_r3 := Lib.hid ((S1.at_ 1 rfl).cell 3)
      have rr_r4 := Lib.hid ((S1.at_ 1 rfl).cell 4)
      have rr_r5 := Lib.hid ((S1.at_ 1 rfl).cell 5)
      have rr_r6 := Lib.hid ((S1.at_ 1 rfl).cell 6)
      have rr_r7 := Lib.hid ((S1.at_ 1 rfl).cell 7)
      have rr_r8 := Lib.hid ((S1.at_ 1 rfl).cell 8)
      have rr_q0 := Lib.hid ((S1.at_ 0 rfl).cell 0)
      have HK := Lib.hid hK
      have CC := Lib.hid (below_shut c (Nat.le_trans hsz hD) hK)
      clear S S1 c hK
      gi_wp2
      exact postM_ret1 (v := .tuple #[.agg #[.int .i64 e0, .int .i64 e1, .int .i64 e2, .int .i64 e3, .int .i64 e4, .int .i64 e5, .int .i64 e6, .int .i64 e7, .int .i64 e8], .bool true]) rfl HK.out (by simp [results, Try.results23, go_sem, rr_r0.out, rr_r1.out, rr_r2.out, rr_r3.out, rr_r4.out, rr_r5.out, rr_r6.out, rr_r7.out, rr_r8.out, rr_q0.out]) ⟨by rw [HV.out], CC.out⟩

end Go.Proofs.Ytnjfdnjakogpmaa
