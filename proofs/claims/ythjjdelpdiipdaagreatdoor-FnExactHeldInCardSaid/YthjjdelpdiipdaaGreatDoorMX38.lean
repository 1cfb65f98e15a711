/- Parts of my texts: LogI1 BookI2. -/
import Derived.Test.YthjjdelpdiipdaaGreatDoorMX37
namespace Go.Proofs.YthjjdelpdiipdaaGreatDoor
set_option maxRecDepth 100000
set_option linter.unusedVariables false
open Go.RowKit
set_option maxHeartbeats 6400000 in
theorem iSameHead_any (x0 x1 x2 y0 y1 y2 : Int) (A A2 : Option Addr) (n cc n2 c2 B B2 : Nat) (l r : List MarkM) (w : World) (h : Rd w B [mrkD l] [.slice A n cc]) (h2 : Rd w B2 [mrkD r] [.slice A2 n2 c2]) (hB : B ≤ w.heap.size) (hB2 : B2 ≤ w.heap.size) (hs : mrkSz l ≤ 1048577) (hs2 : mrkSz r ≤ 1048577) :
    Calls Tryz.prog 126 #[.agg #[.int .i64 x0, .int .i64 x1, .int .i64 x2, .slice A n cc], .agg #[.int .i64 y0, .int .i64 y1, .int .i64 y2, .slice A2 n2 c2]] w fun e w' => e = .returned (.bool (sameHd ⟨x0, x1, x2, l⟩ ⟨y0, y1, y2, r⟩)) ∧ Below w.heap.size w w' := by
 have HH := jd h
 have H2 := jd h2
 clear h h2
 have HV := jd (show sameHd ⟨x0, x1, x2, l⟩ ⟨y0, y1, y2, r⟩ = (decide (x0 = y0) && (decide (x1 = y1) && (decide (x2 = y2) && sameMs l r))) from rfl)
 have S := Sep.nil w w.heap.size
 have c := Below.refl w.heap.size w
 replace S := S.boxAt c.size (w.heap.size) rfl #[.int .i64 x0, .int .i64 x1, .int .i64 x2, .slice A n cc] 46
 replace c := al c S
 replace S := S.boxAt c.size (w.heap.size + 1) (by simp) #[.int .i64 y0, .int .i64 y1, .int .i64 y2, .slice A2 n2 c2] 46
 replace c := al c S
 have C := jd c
 by_cases q0 : x0 = y0
 case neg =>
  have e0 : (x0 == y0) = false := by simpa using q0
  have HW := jd (show false = sameHd ⟨x0, x1, x2, l⟩ ⟨y0, y1, y2, r⟩ by rw [HV.out]; simp [q0])
  clear S c q0
  go_enter Tryz.func126, Tryz.ntmps126
  go_wp2
  go_ret
  exact ⟨ret_bool HW.out, C.out⟩
 have e0 : (x0 == y0) = true := by simpa using q0
 by_cases q1 : x1 = y1
 case neg =>
  have e1 : (x1 == y1) = false := by simpa using q1
  have HW := jd (show false = sameHd ⟨x0, x1, x2, l⟩ ⟨y0, y1, y2, r⟩ by rw [HV.out]; simp [q0, q1])
  clear S c q0 q1
  go_enter Tryz.func126, Tryz.ntmps126
  go_wp2
  go_ret
  exact ⟨ret_bool HW.out, C.out⟩
 have e1 : (x1 == y1) = true := by simpa using q1
 by_cases q2 : x2 = y2
 case neg =>
  have e2 : (x2 == y2) = false := by simpa using q2
  have HW := jd (show false = sameHd ⟨x0, x1, x2, l⟩ ⟨y0, y1, y2, r⟩ by rw [HV.out]; simp [q0, q1, q2])
  clear S c q0 q1 q2
  go_enter Tryz.func126, Tryz.ntmps126
  go_wp2
  go_ret
  exact ⟨ret_bool HW.out, C.out⟩
 have e2 : (x2 == y2) = true := by simpa using q2
 have HW := jd (show sameMs l r = sameHd ⟨x0, x1, x2, l⟩ ⟨y0, y1, y2, r⟩ by rw [HV.out, decide_eq_true q0, decide_eq_true q1, decide_eq_true q2, Bool.true_and, Bool.true_and, Bool.true_and])
 clear q0 q1 q2
 go_enter Tryz.func126, Tryz.ntmps126
 have f0 := lk S 1 0 rfl rfl
 have f1 := lk S 1 1 rfl rfl
 have f2 := lk S 1 2 rfl rfl
 have f3 := lk S 1 3 rfl rfl
 have f4 := lk S 0 0 rfl rfl
 have f5 := lk S 0 1 rfl rfl
 have f6 := lk S 0 2 rfl rfl
 have f7 := lk S 0 3 rfl rfl
 go_wp2_with fail
 generalize (w.alloc (.cells #[.int .i64 x0, .int .i64 x1, .int .i64 x2, .slice A n cc] 46)).alloc (.cells #[.int .i64 y0, .int .i64 y1, .int .i64 y2, .slice A2 n2 c2] 46) = w1 at *
 refine (iSameSeen_any A A2 n cc n2 c2 B B2 l r _ (HH.out.keep (c.mono hB)) (H2.out.keep (c.mono hB2)) (Nat.le_trans hB c.size) (Nat.le_trans hB2 c.size) hs hs2).mono ?_
 rintro e w2 ⟨rfl, b2⟩
 replace c := c.trans (b2.mono c.size)
 replace S := S.keep b2
 clear b2 f0 f1 f2 f3 f4 f5 f6 f7
 have CC := jd c
 clear S c
 go_wp2
 go_ret
 exact ⟨ret_bool HW.out, CC.out⟩
set_option maxHeartbeats 6400000 in
theorem iCanForget_any (v0 v1 v2 v3 v4 v6 v7 v8 v9 v10 v11 v12 v13 v14 v15 v16 v18 : Value) (b d i : Int) (w : World) : Calls Tryz.prog 127 #[.agg #[v0, v1, v2, v3, v4, .int .i64 b, v6, v7, v8, v9, v10, v11, v12, v13, v14, v15, v16, .int .i64 d, v18], .int .i64 i] w fun e w' => e = .returned (.bool (inB i (b + 1) d)) ∧ Below w.heap.size w w' := by
 have S := Sep.nil w w.heap.size
 have c := Below.refl w.heap.size w
 replace S := S.boxAt c.size (w.heap.size) rfl #[v0, v1, v2, v3, v4, .int .i64 b, v6, v7, v8, v9, v10, v11, v12, v13, v14, v15, v16, .int .i64 d, v18] 52
 replace c := al c S
 have C := jd c
 have f0 := lk S 0 5 rfl rfl
 have f1 := lk S 0 17 rfl rfl
 by_cases q0 : i > b
 case neg =>
  have e0 : decide (i > b) = false := decide_eq_false q0
  have e1 : decide (b < i) = false := decide_eq_false q0
  have HW := jd (show false = inB i (b + 1) d from (Bool.eq_false_iff.2 fun h9 => by have := ((inB_iff _ _ _).1 h9).1; omega).symm)
  clear S c q0
  go_enter Tryz.func127, Tryz.ntmps127
  go_wp2
  go_ret
  exact ⟨ret_bool HW.out, C.out⟩
 have e0 : decide (i > b) = true := decide_eq_true q0
 have e1 : decide (b < i) = true := decide_eq_true q0
 have HW := jd (show decide (i ≤ d) = inB i (b + 1) d by unfold inB; rw [decide_eq_true (show b + 1 ≤ i by omega), Bool.true_and])
 clear S c q0
 go_enter Tryz.func127, Tryz.ntmps127
 go_wp2
 go_ret
 exact ⟨ret_bool HW.out, C.out⟩
end Go.Proofs.YthjjdelpdiipdaaGreatDoor
namespace Go.Proofs.YthjjdelpdiipdaaGreatDoor
set_option maxRecDepth 100000
set_option linter.unusedVariables false
open Go.RowKit
attribute [local go_sem] Oper.semAt_some
theorem ownFrom_blk {β : Type} (B Bx : Nat) (cs : Array Value) (t : TypeId) : OwnFrom B (fun (_ : β) W => Blk W Bx cs t) := fun _ W W' row hs hg hr =>
 (hg.block Bx hs.lt (fun e => by
  obtain ⟨_, o, ho, hc⟩ := hr Bx e.symm
  rw [show W.heap[Bx]? = _ from hs] at ho
  injection ho with ho
  rw [← ho] at hc
  cases hc)).trans hs
theorem below_shut {w W : World} {D : Nat} (c : Below w.heap.size w W) (hD : w.heap.size ≤ D) (hK : W.heap[D]? = some (.deferred (some []))) : Below w.heap.size w (W.putObj D (.deferred none)) :=
 c.trans (belowK_b (w := w) (Nat.le_refl _) W D _ _ hD hK rfl rfl)
def CollG (w : World) (fix : List Item) (b : Nat) (pre : List EntM) (W : World) : Prop := ∃ (G : Option Addr) (m gc : Nat) (fp : List Nat), m = pre.length ∧ Sep W w.heap.size (.own [entD pre] [.slice G m gc] fp :: .blk b #[.slice G m gc] 47 :: fix) ∧ Below w.heap.size w W
theorem collG_own {w : World} {fix : List Item} {b B : Nat} (hB : w.heap.size ≤ B) : OwnFrom B (CollG w fix b) := fun _ _ _ _ hs hg hr => by
 obtain ⟨G, m, gc, fp, h1, h2, h3⟩ := hs
 exact ⟨G, m, gc, fp, h1, h2.turned hg fun r e => (hr r e).2, h3.grown hg h3.size fun k e => Nat.le_trans hB (hr k e).1⟩
theorem CollG.more {w W : World} {fix : List Item} {b : Nat} {pre : List EntM} (h : CollG w fix b pre W) (o : Obj) : CollG w fix b pre (W.alloc o) := by
 obtain ⟨G, m, gc, fp, h1, h2, h3⟩ := h
 exact ⟨G, m, gc, fp, h1, h2.keep ((Below.refl _ _).alloc (Nat.le_refl _) _), h3.alloc h3.size _⟩
set_option maxHeartbeats 6400000 in
theorem iAppendSeq_any (gf : Nat) (lb : Array Value) (xs : List EntM) (Sp : List EntM → Prop) (eg : ∀ args w, (callFunc gf args).run Tryz.prog w = .ok (.enter gf args) w) (w : World) (hlen : xs.length ≤ 1048576)
    (hseq : SeqStopsK Fence.wide 2 Tryz.prog gf lb encE (Below w.heap.size) (fun ys => ys = xs) Sp xs.length w) :
    Calls Tryz.prog 132 #[.slice none 0 0, .func (.func gf) #[] lb] w (MadeEntryS w xs) := by
 refine (callsIn_wide (n := 3)).1 ?_
 refine callsIn_of_wp_marks Tryz.func132 rfl trivial ?_ rfl
 simp only [Tryz.ntmps132, List.size_toArray, List.length_cons, List.length_nil, Nat.reduceAdd, Nat.reduceSub, Array.replicate_succ, Array.replicate_zero, List.push_toArray, List.append_toArray, List.nil_append, List.cons_append]
 gi_wp2
 have S := Sep.nil w w.heap.size
 have c := Below.refl w.heap.size w
 replace S := S.boxAt c.size (w.heap.size) rfl #[.slice none 0 0] 47
 replace c := al c S
 replace S := S.own0 (ds := [entD []]) (vs := [.slice none 0 0]) (ow_nil_ents _)
 refine wpIn_rangeFunc_ownH rfl (by decide) (gf := gf) (lb := lb) rfl trivial eg hseq belowK_t (belowK_b (by simp)) c (fun _ => rfl)
  (CollG w [] w.heap.size)
  (fun _ _ _ => False)
  (collG_own c.size)
  (fun _ _ _ _ _ hs _ _ => hs)
  ⟨none, 0, 0, [], rfl, S, c⟩
  (fun x a' W => ∃ Bx, Blk W Bx #[.int .i64 x.idx, .int .i64 x.tm, .int .i64 x.cl, .int .i64 x.sq, .int .i64 x.kd, .int .i64 x.oa, .int .i64 x.ob, .int .i64 x.oc, .int .i64 x.od] 98 ∧ a' = { tmps := #[.slice none 0 0, .func (.func gf) #[] lb, .pointer (some ⟨w.heap.size, 0, none⟩), undef, .slice none 0 0, .pointer (some ⟨Bx, 0, none⟩), .func (.func gf) #[] lb, .agg #[.int .i64 x.idx, .int .i64 x.tm, .int .i64 x.cl, .int .i64 x.sq, .int .i64 x.kd, .int .i64 x.oa, .int .i64 x.ob, .int .i64 x.oc, .int .i64 x.od], undef, undef, undef, undef, undef], defers := [] })
  ?hAx ?assign ?body ?done ?stop
 case hAx =>
  rintro x a' s W W' row ⟨Bx, h1, h2⟩ hg hr
  exact ⟨Bx, ownFrom_blk (β := Unit) _ _ _ _ () W W' row h1 hg hr, h2⟩
 case assign =>
  rintro l pre x W K hI hK
  simp only [encE]
  gi_wp2
  exact hK _ _ ((KeepsOthers.alloc _ _).from _) ((Below.refl _ W).alloc (by obtain ⟨_, _, _, _, _, _, c⟩ := hI; exact c.size) _) (hI.more _) ⟨W.heap.size, Blk.new _ _ _, rfl⟩
 case body =>
  rintro l pre x a' W hl _ ⟨G, m, gc, fp, hg, S, cI⟩ ⟨Bx, hBx, rfl⟩ hlt
  have hm : m ≤ 1048577 := by
   have hg' : m = pre.length := hg
   omega
  obtain ⟨e0, e1, e2, e3, e4, e5, e6, e7, e8⟩ := x
  simp only at hBx S
  have HG := jd hg
  have X0 := (hBx.cell 0)
  have X1 := (hBx.cell 1)
  have X2 := (hBx.cell 2)
  have X3 := (hBx.cell 3)
  have X4 := (hBx.cell 4)
  have X5 := (hBx.cell 5)
  have X6 := (hBx.cell 6)
  have X7 := (hBx.cell 7)
  have X8 := (hBx.cell 8)
  simp only [List.getElem?_toArray, List.getElem?_cons_zero, List.getElem?_cons_succ] at X0 X1 X2 X3 X4 X5 X6 X7 X8
  have f0 := lk S 1 0 rfl rfl
  have S1 := S.boxAt cI.size (W.heap.size) rfl #[.int .i64 e0, .int .i64 e1, .int .i64 e2, .int .i64 e3, .int .i64 e4, .int .i64 e5, .int .i64 e6, .int .i64 e7, .int .i64 e8] 98
  have c1 := cI.alloc cI.size (.cells #[.int .i64 e0, .int .i64 e1, .int .i64 e2, .int .i64 e3, .int .i64 e4, .int .i64 e5, .int .i64 e6, .int .i64 e7, .int .i64 e8] 98)
  have K1 := jd (KeepsOthers.alloc W (.cells #[.int .i64 e0, .int .i64 e1, .int .i64 e2, .int .i64 e3, .int .i64 e4, .int .i64 e5, .int .i64 e6, .int .i64 e7, .int .i64 e8] 98))
  have Q1 := jd ((Below.refl w.heap.size W).alloc cI.size (.cells #[.int .i64 e0, .int .i64 e1, .int .i64 e2, .int .i64 e3, .int .i64 e4, .int .i64 e5, .int .i64 e6, .int .i64 e7, .int .i64 e8] 98))
  have HC : ∀ i, i < 9 → (W.alloc (.cells #[.int .i64 e0, .int .i64 e1, .int .i64 e2, .int .i64 e3, .int .i64 e4, .int .i64 e5, .int .i64 e6, .int .i64 e7, .int .i64 e8] 98)).cell? ⟨W.heap.size, i, none⟩ = [Value.int .i64 e0, Value.int .i64 e1, Value.int .i64 e2, Value.int .i64 e3, Value.int .i64 e4, Value.int .i64 e5, Value.int .i64 e6, Value.int .i64 e7, Value.int .i64 e8][i]? := fun i hi => by
   have h1 := (S1.at_ 0 rfl).cell i
   rw [h1]
   simp
  replace S1 := (S1.tail).own0 (ds := entC (⟨e0, e1, e2, e3, e4, e5, e6, e7, e8⟩ : EntM)) (vs := [.int .i64 e0, .int .i64 e1, .int .i64 e2, .int .i64 e3, .int .i64 e4, .int .i64 e5, .int .i64 e6, .int .i64 e7, .int .i64 e8]) (.int (.int (.int (.int (.int (.int (.int (.int (.int .nil)))))))))
  replace S1 := S1.swap
  clear hBx S c hg
  gi_wp2_with (first
   | (gi_at_builtin
      refine wpListIn_append_elem (l := pre) (y := (⟨e0, e1, e2, e3, e4, e5, e6, e7, e8⟩ : EntM)) rfl (.tmp 8) (.tmp 10) (by rfl) Tryz.underlying47 infoEntry (by rfl) (by decide) entC_len (by rfl) (S1.own_ 0 rfl) (S1.nodup_own 0 rfl) (by rfl) HC (S1.own_ 1 rfl) (S1.nodup_own 1 rfl) S1.apart (by omega) (by omega) ?_
      intro A3 c3 w3 fp3 o3 n3 s3 t3
      have S3 := S1.merge t3 o3 n3 s3 c1.size
      have g0 := (S3.at_ 1 rfl).cell 0
      have g1 := (S3.at_ 1 rfl).free 0))
  have HS := jd (S3.put 1 rfl 0 (.slice A3 (m + 1) c3))
  have HK := jd ((K1.out.trans (keeps_own t3 (S1.own_ 0 rfl))).trans (KeepsOthers.setCell w3 ⟨w.heap.size, 0, none⟩ (.slice A3 (m + 1) c3)))
  have HQ := jd ((Q1.out.trans (S1.below 0 rfl t3 c1.size)).setCell (p := ⟨w.heap.size, 0, none⟩) (Nat.le_refl _) (.slice A3 (m + 1) c3))
  exact ⟨HK.out.from _, HQ.out, A3, m + 1, c3, fp3, by rw [HG.out, List.length_append, List.length_singleton], HS.out, cI.trans HQ.out⟩
 case done =>
  rintro D ys W hD rfl ⟨G, m, gc, fp, hg, S, cI⟩ hK
  have f0 := lk S 1 0 rfl rfl
  have HS := jd (S.putObj (.deferred none) hK rfl).first
  have HC := jd (below_shut cI (Nat.le_trans (by simp) hD) hK)
  have HK := jd hK
  have HG := jd hg
  clear S cI hK hg
  gi_wp2
  refine ⟨by simp, .inl ⟨_, _, rfl, run_takeDeferred HK.out, ?_⟩⟩
  exact ⟨_, results_tmp rfl _ _ _, G, m, gc, rfl, HS.out, HC.out⟩
 case stop =>
  rintro D c pre W _ _ h _
  exact h.elim
end Go.Proofs.YthjjdelpdiipdaaGreatDoor
