/- Parts of my texts: MarkI6. -/
import Derived.Test.YthjjdelpdiipdaaGreatDoorMX34
namespace Go.Proofs.YthjjdelpdiipdaaGreatDoor
set_option maxRecDepth 100000
set_option linter.unusedVariables false
open Go.RowKit
attribute [local go_sem] Oper.semAt_some
section
variable {F : Fence} {nn : Nat} {w : World} {ops : Array Oper} {rest : List Oper} {o : Oper} {a : Act} {Q : Exit → Act → World → Prop}
theorem wpListIn_range_tab (hg : o.guard = none) (m : Operand) (t e : TypeId) (hop : o.op = Op.range t m) (ht : Tryz.prog.underlying t = some (.map 2 e)) {b : Nat} {l : List MarkM}
    (hm : a.eval m = .map (some b)) (h : Tab w b l)
    (hK : ∀ w' cnt, TabR w' b w.heap.size l l cnt → w.grownBy w' none → w'.heap.size = w.heap.size + 1 → wpListIn F nn Tryz.prog ops Q rest (a.put o.dst (.pointer (some ⟨w.heap.size, 0, none⟩))) w') :
    wpListIn F nn Tryz.prog ops Q (o :: rest) a w := by
 refine wpListIn_plain hg fun K' hK' => ?_
 obtain ⟨w', hrun, ⟨cnt, r1⟩, r2, r3⟩ := h.range ht
 unfold Oper.wpIn
 refine ⟨by simp [Oper.about, hop], ?_⟩
 rw [Oper.semAt_plain F _ _ (by rw [hop]; intro c hc'; cases hc')]
 simp [execOp, hop, hm, hrun, Result.andThen]
 exact hK' _ _ (hK w' cnt r1 r2 r3)
theorem wpListIn_next_tab (hg : o.guard = none) (it : Operand) (hop : o.op = Op.next it false) {b r cnt : Nat} {l left : List MarkM}
    (hit : a.eval it = .pointer (some ⟨r, 0, none⟩)) (h : TabR w b r l left cnt)
    (hDone : left = [] → wpListIn F nn Tryz.prog ops Q rest (a.put o.dst (.tuple #[.bool false])) w)
    (hMore : ∀ (m : MarkM) (w' : World) (cnt' : Nat), m ∈ left → TabR w' b r l (delT left m.mi) cnt' → cnt' < cnt → w.grownBy w' (some r) → w'.heap.size = w.heap.size →
     (Instr.entry (.pointer (some ⟨r, 0, none⟩))).run Tryz.prog w' = .ok (.tuple #[.int .i64 m.mi, mrkV m]) w' → wpListIn F nn Tryz.prog ops Q rest (a.put o.dst (.tuple #[.bool true, .int .i64 m.mi, mrkV m])) w') :
    wpListIn F nn Tryz.prog ops Q (o :: rest) a w := by
 refine wpListIn_plain hg fun K' hK' => ?_
 unfold Oper.wpIn
 refine ⟨by simp [Oper.about, hop], ?_⟩
 rw [Oper.semAt_plain F _ _ (by rw [hop]; intro c hc'; cases hc')]
 rcases h.next o.type with ⟨h0, hrun⟩ | ⟨m, hm, w', cnt', hrun, r1, r2, r3, r4, r5⟩
 · simp [execOp, hop, hit, hrun, Result.andThen]
   exact hK' _ _ (hDone h0)
 · simp [execOp, hop, hit, hrun, Result.andThen]
   exact hK' _ _ (hMore m w' cnt' hm r1 r2 r3 r4 r5)
end
def encMV (x : MarkM) : Array Value := #[.agg #[.int .i64 x.mc, .int .i64 x.ms, .int .i64 x.mi]]
theorem perm_del {l : List MarkM} (h : Apart l) {m : MarkM} (hm : m ∈ l) : (m :: delT l m.mi).Perm l := by
 induction l with
 | nil => cases hm
 | cons a t ih =>
  obtain ⟨h1, h2⟩ := List.pairwise_cons.1 h
  by_cases e : a.mi = m.mi
  · have : a = m := apart_eq h (by simp) hm e
    subst this
    unfold delT
    rw [List.filter_cons, if_neg (by simp), List.filter_eq_self.2 fun q hq => by simpa using fun h9 : q.mi = a.mi => h1 q hq h9.symm]
  · have hm' : m ∈ t := by
      rcases List.mem_cons.1 hm with rfl | h9
      · exact absurd rfl e
      · exact h9
    unfold delT
    rw [List.filter_cons, if_pos (by simpa using e)]
    exact (List.Perm.swap _ _ _).trans (List.Perm.cons _ (ih h2 hm'))
theorem TabR.apart {w : World} {b r cnt : Nat} {l rest : List MarkM} (h : TabR w b r l rest cnt) : Apart rest := by obtain ⟨_, _, _, _, _, _, h5, _⟩ := h; exact h5
theorem KeepsOthers.walks {W W' : World} (h : KeepsOthers W W') : KeepsWalks W W' := ⟨h.size, fun k o hk hw => h.same k o hk (Obj.not_cells_of_walk hw)⟩
set_option maxHeartbeats 6400000 in
theorem iVals_in (l0 Bm b : Nat) (l : List MarkM) (J Jx : List MarkM → World → Prop) (B9 : Nat) (hJ : AbidesFrom B9 J)
    (hY : ∀ pre x W1, J pre W1 → pre.length < l.length → YieldAt Fence.wide (2 - 1) Tryz.prog l0 (encMV x) W1 fun e W' => (e = .returned (.bool true) ∧ J (pre ++ [x]) W' ∧ KeepsWalks W1 W') ∨ (e = .returned (.bool false) ∧ Jx (pre ++ [x]) W'))
    (W : World) (hB9 : B9 = W.heap.size) (hm : W.cell? ⟨Bm, 0, none⟩ = some (.map (some b))) (ht : Tab W b l) (hj0 : J [] W) :
    CallsIn Fence.wide 2 Tryz.prog 177 #[.func (.yield l0) #[] #[], .pointer (some ⟨Bm, 0, none⟩)] W fun e W' => (∃ v, e = .returned v) ∧
     ((∃ xs, xs.Perm l ∧ J xs W') ∨ (∃ pre : List MarkM, True ∧ Jx pre W')) := by
 refine callsIn_of_wp Tryz.func177 rfl trivial ?_ rfl
 simp only [Tryz.ntmps177, List.size_toArray, List.length_cons, List.length_nil, Nat.reduceAdd, Nat.reduceSub, Array.replicate_succ, Array.replicate_zero, List.push_toArray, List.append_toArray, List.nil_append, List.cons_append]
 gi_wp2_with (first
  | (gi_at_range
     refine wpListIn_range_tab rfl (.tmp 5) 156 114 rfl Tryz.underlying156 (by rfl) ht ?_
     intro w0 cnt0 hrg0 hg0 hs0)
  | gi_in)
 go_frame
 have HJ0 := jd (hJ [] W w0 none hj0 hg0 (fun r e => by cases e))
 have HR0 := jd hrg0
 clear hrg0 hg0 hs0 hm
 gi_loopw [] (fun wr => ∃ (rest : List MarkM) (cnt : Nat) (pre : List MarkM), TabR wr b W.heap.size l rest cnt ∧ (pre ++ rest).Perm l ∧ J pre wr)
  (fun wr => wr.rangeLeft b W.heap.size)
 case atStart => exact ⟨l, cnt0, [], HR0.out, by simp, HJ0.out⟩
 case round =>
  obtain ⟨rest, cnt, pre, hrg, hp, hJs⟩ := hrel
  clear HJ0 HR0
  have HP := jd hp
  have HJ := jd hJs
  have HR := jd hrg
  clear hp hJs hrg
  gi_wp2_with (first
   | (gi_at_next
      refine wpListIn_next_tab rfl (.tmp 6) rfl (by rfl) HR.out ?_ ?_)
   | gi_in)
  · intro he
    have HV := jd (show pre.Perm l by have := HP.out; rwa [he, List.append_nil] at this)
    clear he
    gi_wp2
    go_end0
    exact ⟨⟨_, rfl⟩, .inl ⟨pre, HV.out, HJ.out⟩⟩
  · intro m w2 cnt2 hm2 r2 hlt hg2 hs2 hen
    have HR2 := jd r2
    have HLT := jd hlt
    have HP2 := jd (show ((pre ++ [m]) ++ delT rest m.mi).Perm l by
     rw [List.append_assoc]
     exact (List.Perm.append_left pre (perm_del HR.out.apart hm2)).trans HP.out)
    have HN := jd (show pre.length < l.length by
     have h1 := HP2.out.length_eq
     rw [List.length_append, List.length_append, List.length_singleton] at h1
     omega)
    have HJ2 := hJ pre wr w2 (some W.heap.size) HJ.out hg2 (fun r e => by cases e; exact ⟨by omega, HR.out.walk⟩)
    clear hm2 r2 hlt hg2 hs2
    obtain ⟨x0, x1, x2⟩ := m
    unfold mrkV at hen
    simp only at hen HR2 HP2
    have HJ3 := jd (hJ pre w2 (w2.alloc (.cells #[.int .i64 x0, .int .i64 x1, .int .i64 x2] 114)) none HJ2 (World.grownBy_alloc w2 _ none) (fun r e => by cases e))
    have HR3 := jd (HR2.out.alloc (.cells #[.int .i64 x0, .int .i64 x1, .int .i64 x2] 114))
    obtain ⟨fn, tmps, assign, body, hy, hRR⟩ := hY pre ⟨x0, x1, x2⟩ _ HJ3.out HN.out
    simp only [encMV] at hy
    have HRR := jd hRR
    clear hRR HJ2
    gi_wp2
    refine HRR.out.mono ?_
    rintro e W3 (⟨rfl, hJ3, hk3⟩ | ⟨rfl, hJx3⟩)
    · have G3 := jd hJ3
      have R3 := jd (HR3.out.walks hk3)
      clear hJ3 hk3
      gi_wp2
      go_roundw
      case rel => exact ⟨_, cnt2, _, R3.out, HP2.out, G3.out⟩
      case measure => rw [R3.out.left_eq, HR.out.left_eq]; exact HLT.out
    · have G3 := jd hJx3
      clear hJx3
      gi_wp2
      refine bodyPost_ret (results_none rfl _ _ _) rfl ?_
      exact ⟨⟨_, rfl⟩, .inr ⟨_, trivial, G3.out⟩⟩
theorem iVals_stops (Bm b : Nat) (l : List MarkM) (w : World) (hb : Bm < w.heap.size) (hm : w.cell? ⟨Bm, 0, none⟩ = some (.map (some b))) (ht : Tab w b l) :
    SeqStopsK Fence.wide 2 Tryz.prog 177 #[.pointer (some ⟨Bm, 0, none⟩)] encMV KeepsWalks (fun ys => ys.Perm l) (fun _ => True) l.length w :=
 fun l0 J Jx W hW hJ _ hY hj0 => iVals_in l0 Bm b l J Jx W.heap.size hJ hY W rfl ((hW.cell (p := ⟨Bm, 0, none⟩) hb).trans hm) (ht.keep hW ht.lt) hj0
theorem ow_nil_mrks (w : World) : Ow w [mrkD []] [.slice none 0 0] [] := Ow.row (n := 0) (us := []) (fp1 := []) (fp2 := []) (World.ownsRow_nil w 0 _ _) .nil .nil
def CollM (w : World) (fix : List Item) (b : Nat) (pre : List MarkM) (W : World) : Prop := ∃ (G : Option Addr) (m gc : Nat) (fp : List Nat), m = pre.length ∧ Sep W w.heap.size (.own [mrkD pre] [.slice G m gc] fp :: .blk b #[.slice G m gc] 44 :: fix) ∧ Below w.heap.size w W
theorem collM_own {w : World} {fix : List Item} {b B : Nat} (hB : w.heap.size ≤ B) : OwnFrom B (CollM w fix b) := fun _ _ _ _ hs hg hr => by
 obtain ⟨G, m, gc, fp, h1, h2, h3⟩ := hs
 exact ⟨G, m, gc, fp, h1, h2.turned hg fun r e => (hr r e).2, h3.grown hg h3.size fun k e => Nat.le_trans hB (hr k e).1⟩
theorem CollM.more {w W : World} {fix : List Item} {b : Nat} {pre : List MarkM} (h : CollM w fix b pre W) (o : Obj) : CollM w fix b pre (W.alloc o) := by
 obtain ⟨G, m, gc, fp, h1, h2, h3⟩ := h
 exact ⟨G, m, gc, fp, h1, h2.keep ((Below.refl _ _).alloc (Nat.le_refl _) _), h3.alloc h3.size _⟩
theorem ownFrom_blkM {β : Type} (B Bx : Nat) (cs : Array Value) (t : TypeId) : OwnFrom B (fun (_ : β) W => Blk W Bx cs t) := fun _ W W' row hs hg hr =>
 (hg.block Bx hs.lt (fun e => by
  obtain ⟨_, o, ho, hc⟩ := hr Bx e.symm
  rw [show W.heap[Bx]? = _ from hs] at ho
  injection ho with ho
  rw [← ho] at hc
  cases hc)).trans hs
theorem below_shutM {w W : World} {D : Nat} (c : Below w.heap.size w W) (hD : w.heap.size ≤ D) (hK : W.heap[D]? = some (.deferred (some []))) : Below w.heap.size w (W.putObj D (.deferred none)) :=
 c.trans (belowK_b (w := w) (Nat.le_refl _) W D _ _ hD hK rfl rfl)
set_option maxHeartbeats 6400000 in
theorem iAppendSeqM_any (gf : Nat) (lb : Array Value) (l : List MarkM) (Sp : List MarkM → Prop) (eg : ∀ args w, (callFunc gf args).run Tryz.prog w = .ok (.enter gf args) w) (w : World) (hlen : l.length ≤ 1048576)
    (hseq : SeqStopsK Fence.wide 2 Tryz.prog gf lb encMV KeepsWalks (fun ys => ys.Perm l) Sp l.length w) :
    Calls Tryz.prog 184 #[.slice none 0 0, .func (.func gf) #[] lb] w fun e w' => ∃ ys, ys.Perm l ∧ MadeMarkS w ys e w' := by
 refine (callsIn_wide (n := 3)).1 ?_
 refine callsIn_of_wp_marks Tryz.func184 rfl trivial ?_ rfl
 simp only [Tryz.ntmps184, List.size_toArray, List.length_cons, List.length_nil, Nat.reduceAdd, Nat.reduceSub, Array.replicate_succ, Array.replicate_zero, List.push_toArray, List.append_toArray, List.nil_append, List.cons_append]
 gi_wp2
 have S := Sep.nil w w.heap.size
 have c := Below.refl w.heap.size w
 replace S := S.boxAt c.size (w.heap.size) rfl #[.slice none 0 0] 44
 replace c := al c S
 replace S := S.own0 (ds := [mrkD []]) (vs := [.slice none 0 0]) (ow_nil_mrks _)
 refine wpIn_rangeFunc_ownH rfl (by decide) (gf := gf) (lb := lb) rfl trivial eg hseq walksK_t walksK_b c (fun _ => rfl)
  (CollM w [] w.heap.size)
  (fun _ _ _ => False)
  (collM_own c.size)
  (fun _ _ _ _ _ hs _ _ => hs)
  ⟨none, 0, 0, [], rfl, S, c⟩
  (fun x a' W => ∃ Bx, Blk W Bx #[.int .i64 x.mc, .int .i64 x.ms, .int .i64 x.mi] 114 ∧ a' = { tmps := #[.slice none 0 0, .func (.func gf) #[] lb, .pointer (some ⟨w.heap.size, 0, none⟩), undef, .slice none 0 0, .pointer (some ⟨Bx, 0, none⟩), .func (.func gf) #[] lb, .agg #[.int .i64 x.mc, .int .i64 x.ms, .int .i64 x.mi], undef, undef, undef, undef, undef], defers := [] })
  ?hAx ?assign ?body ?done ?stop
 case hAx =>
  rintro x a' s W W' row ⟨Bx, h1, h2⟩ hg hr
  exact ⟨Bx, ownFrom_blkM (β := Unit) _ _ _ _ () W W' row h1 hg hr, h2⟩
 case assign =>
  rintro l1 pre x W K hI hK
  simp only [encMV]
  gi_wp2
  exact hK _ _ ((KeepsOthers.alloc _ _).from _) (KeepsOthers.walks (KeepsOthers.alloc _ _)) (hI.more _) ⟨W.heap.size, Blk.new _ _ _, rfl⟩
 case body =>
  rintro l1 pre x a' W hl _ ⟨G, m, gc, fp, hg, S, cI⟩ ⟨Bx, hBx, rfl⟩ hlt
  have hm : m ≤ 1048577 := by
   have hg' : m = pre.length := hg
   omega
  obtain ⟨e0, e1, e2⟩ := x
  simp only at hBx S
  have HG := jd hg
  have X0 := (hBx.cell 0)
  have X1 := (hBx.cell 1)
  have X2 := (hBx.cell 2)
  simp only [List.getElem?_toArray, List.getElem?_cons_zero, List.getElem?_cons_succ] at X0 X1 X2
  have f0 := lk S 1 0 rfl rfl
  have S1 := S.boxAt cI.size (W.heap.size) rfl #[.int .i64 e0, .int .i64 e1, .int .i64 e2] 114
  have c1 := cI.alloc cI.size (.cells #[.int .i64 e0, .int .i64 e1, .int .i64 e2] 114)
  have K1 := jd (KeepsOthers.alloc W (.cells #[.int .i64 e0, .int .i64 e1, .int .i64 e2] 114))
  have Q1 := jd ((Below.refl w.heap.size W).alloc cI.size (.cells #[.int .i64 e0, .int .i64 e1, .int .i64 e2] 114))
  have HC : ∀ i, i < 3 → (W.alloc (.cells #[.int .i64 e0, .int .i64 e1, .int .i64 e2] 114)).cell? ⟨W.heap.size, i, none⟩ = [Value.int .i64 e0, Value.int .i64 e1, Value.int .i64 e2][i]? := fun i hi => by
   have h1 := (S1.at_ 0 rfl).cell i
   rw [h1]
   simp
  replace S1 := (S1.tail).own0 (ds := mrkC (⟨e0, e1, e2⟩ : MarkM)) (vs := [.int .i64 e0, .int .i64 e1, .int .i64 e2]) (.int (.int (.int .nil)))
  replace S1 := S1.swap
  clear hBx S c hg
  gi_wp2_with (first
   | (gi_at_builtin
      refine wpListIn_append_elem (l := pre) (y := (⟨e0, e1, e2⟩ : MarkM)) rfl (.tmp 8) (.tmp 10) (by rfl) Tryz.underlying44 infoMark (by rfl) (by decide) mrkC_len (by rfl) (S1.own_ 0 rfl) (S1.nodup_own 0 rfl) (by rfl) HC (S1.own_ 1 rfl) (S1.nodup_own 1 rfl) S1.apart (by omega) (by omega) ?_
      intro A3 c3 w3 fp3 o3 n3 s3 t3
      have S3 := S1.merge t3 o3 n3 s3 c1.size
      have g0 := (S3.at_ 1 rfl).cell 0
      have g1 := (S3.at_ 1 rfl).free 0))
  have HS := jd (S3.put 1 rfl 0 (.slice A3 (m + 1) c3))
  have HK := jd ((K1.out.trans (keeps_own t3 (S1.own_ 0 rfl))).trans (KeepsOthers.setCell w3 ⟨w.heap.size, 0, none⟩ (.slice A3 (m + 1) c3)))
  have HQ := jd ((Q1.out.trans (S1.below 0 rfl t3 c1.size)).setCell (p := ⟨w.heap.size, 0, none⟩) (Nat.le_refl _) (.slice A3 (m + 1) c3))
  exact ⟨HK.out.from _, KeepsOthers.walks HK.out, A3, m + 1, c3, fp3, by rw [HG.out, List.length_append, List.length_singleton], HS.out, cI.trans HQ.out⟩
 case done =>
  rintro D ys W hD hys ⟨G, m, gc, fp, hg, S, cI⟩ hK
  have f0 := lk S 1 0 rfl rfl
  have HS := jd (S.putObj (.deferred none) hK rfl).first
  have HC := jd (below_shutM cI (Nat.le_trans (by simp) hD) hK)
  have HK := jd hK
  have HG := jd hg
  have HY := jd hys
  clear S cI hK hg hys
  gi_wp2
  refine ⟨by simp, .inl ⟨_, _, rfl, run_takeDeferred HK.out, ?_⟩⟩
  exact ⟨_, results_tmp rfl _ _ _, ys, HY.out, G, m, gc, rfl, HS.out, HC.out⟩
 case stop =>
  rintro D c pre W _ _ h _
  exact h.elim
theorem iCollectM_any (gf : Nat) (lb : Array Value) (l : List MarkM) (Sp : List MarkM → Prop) (eg : ∀ args w, (callFunc gf args).run Tryz.prog w = .ok (.enter gf args) w) (w : World) (hlen : l.length ≤ 1048576)
    (hseq : SeqStopsK Fence.wide 2 Tryz.prog gf lb encMV KeepsWalks (fun ys => ys.Perm l) Sp l.length w) :
    Calls Tryz.prog 175 #[.func (.func gf) #[] lb] w fun e w' => ∃ ys, ys.Perm l ∧ MadeMarkS w ys e w' := by
 have hc := iAppendSeqM_any gf lb l Sp eg w hlen hseq
 clear hseq
 go_enter Tryz.func175, Tryz.ntmps175
 go_wp2_with fail
 refine hc.mono ?_
 rintro e w2 ⟨ys, hp, A, n, c, rfl, hh, hb⟩
 have HH := jd hh
 have HB := jd hb
 have HP := jd hp
 clear hh hb hp hc
 go_wp2
 go_ret
 exact ⟨ys, HP.out, A, n, c, rfl, HH.out, HB.out⟩
theorem iInsert_none (p : Option Addr) (cap : Nat) (fv : Value) (w : World) : Calls Tryz.prog 188 #[.slice p 0 cap, .int .i64 0, .int .i64 0, fv] w fun e w' => e = .returned (.tuple #[]) ∧ w' = w := by
 go_enter Tryz.func188, Tryz.ntmps188
 go_wp2
 refine wp_loop_rounds 1 ?_
 rw [rounds_succ]
 go_wp2
 go_end0
 exact ⟨rfl, rfl⟩
theorem iPdq_none (p : Option Addr) (cap : Nat) (lim : Int) (fv : Value) (w : World) : Calls Tryz.prog 185 #[.slice p 0 cap, .int .i64 0, .int .i64 0, .int .i64 lim, fv] w fun e w' => e = .returned (.tuple #[]) ∧ w' = w := by
 have hi := iInsert_none p cap fv
 go_enter Tryz.func185, Tryz.ntmps185
 go_wp2
 refine wp_loop_rounds 1 ?_
 rw [rounds_succ]
 go_wp2_with (first | (go_at_call 188; refine (hi _).mono ?_; rintro e w' ⟨rfl, rfl⟩))
 (try simp only [Exit.inBlock, Exit.then]); refine bodyPost_ret (results_none rfl _ _ _) rfl ?_
 exact ⟨rfl, rfl⟩
theorem iSortFunc_none (p : Option Addr) (cap : Nat) (fv : Value) (w : World) : Calls Tryz.prog 176 #[.slice p 0 cap, fv] w fun e w' => e = .returned (.tuple #[]) ∧ w' = w := by
 have hp := fun lim W => iPdq_none p cap lim fv W
 have hl := fun W => bits_len 0 W (by decide)
 go_enter Tryz.func176, Tryz.ntmps176
 go_wp2_with (first | (go_at_call 186; refine (hl _).mono ?_; rintro e w' ⟨⟨q, rfl⟩, rfl⟩) | (go_at_call 185; refine (hp _ _).mono ?_; rintro e w' ⟨rfl, rfl⟩))
 go_end0
 exact ⟨rfl, rfl⟩
theorem iSortAny {base n cap : Nat} {A : Option Addr} {l ys : List MarkM} (w : World) (hB : base ≤ w.heap.size) (h : Has w base [mrkD ys] [.slice A n cap]) (hp : ys.Perm l) (hok : seenB l = true) :
    Calls Tryz.prog 176 #[.slice A n cap, .func (.func 161) #[] #[]] w fun e w' => e = .returned (.tuple #[]) ∧ Has w' base [mrkD l] [.slice A n cap] ∧ Below base w w' := by
 obtain ⟨A', n', c', e, hl, _, _, hel⟩ := h.rd.mrks
 injection e with e1 e2 e3
 subst e1 e2 e3
 rcases Nat.eq_zero_or_pos n with h0 | h0
 · subst h0
   have hy : ys = [] := List.length_eq_zero_iff.1 hl
   subst hy
   have hll : l = [] := List.Perm.nil_eq hp |>.symm
   subst hll
   refine (iSortFunc_none A cap _ w).mono ?_
   rintro e w' ⟨rfl, rfl⟩
   exact ⟨rfl, h, Below.refl _ _⟩
 · obtain ⟨fp, ho, hn, hge⟩ := h
   obtain ⟨us, fp1, h1, _, _⟩ := Ow.lst (k := 3) mrkC_len (by decide) ho
   rcases h1.2 with ⟨h2, _⟩ | ⟨g, cp, cur, hv, _⟩
   · injection h2 with _ h2 _
     omega
   · injection hv with a1 a2 a3
     subst a1
     exact iSortFunc_any w ⟨fp, ho, hn, hge⟩ hp hok
set_option maxHeartbeats 3200000 in
theorem iMarks_any (b : Nat) (l : List MarkM) (w : World) (h : Tab w b l) (hok : seenB l = true) : Calls Tryz.prog 123 #[.map (some b)] w (MadeMarkS w l) := by
 have H := jd h
 have HO := jd hok
 have hbl := h.lt
 have eg : ∀ args w, (callFunc 177 args).run Tryz.prog w = .ok (.enter 177 args) w := enters_of Tryz.func177 (by kernel_rfl) rfl
 have hv : Calls Tryz.prog 160 #[.map (some b)] w fun e w' => e = .returned (.func (.func 177) #[] #[.pointer (some ⟨w.heap.size, 0, none⟩)]) ∧ w' = w.alloc (.cells #[.map (some b)] 156) := by
  go_enter Tryz.func160, Tryz.ntmps160
  go_wp2
  go_ret
  exact ⟨rfl, rfl⟩
 have c1 := jd ((Below.refl w.heap.size w).alloc (Nat.le_refl _) (.cells #[.map (some b)] 156))
 have hsq := iVals_stops w.heap.size b l (w.alloc (.cells #[.map (some b)] 156)) (by simp) ((Blk.new w #[.map (some b)] 156).cell 0) (h.keep c1.out hbl)
 have hcl := iCollectM_any _ _ l _ eg (w.alloc (.cells #[.map (some b)] 156)) (Nat.le_trans (seen_len hok) (by decide)) hsq
 clear h hsq hok
 have hsf : Calls Tryz.prog 159 #[.func (.func 177) #[] #[.pointer (some ⟨w.heap.size, 0, none⟩)], .func (.func 161) #[] #[]] (w.alloc (.cells #[.map (some b)] 156)) (fun e w' => MadeMarkS w l e w') := by
  go_enter Tryz.func159, Tryz.ntmps159
  go_wp2_with fail
  refine hcl.mono ?_
  rintro e w2 ⟨ys, hp, A, n, c, rfl, hh, hb⟩
  have HB := jd (c1.out.trans (hb.mono c1.out.size))
  have HH := jd (hh.up c1.out.size)
  have hs := iSortAny w2 HB.out.size HH.out hp HO.out
  clear hh hb hp hcl
  go_wp2_with fail
  refine hs.mono ?_
  rintro e w3 ⟨rfl, h3, b3⟩
  have H3 := jd h3
  have B3 := jd (HB.out.trans b3)
  clear h3 b3 hs
  go_wp2
  go_ret
  exact ⟨A, n, c, rfl, H3.out, B3.out⟩
 clear hcl
 go_enter Tryz.func123, Tryz.ntmps123
 go_wp2_with fail
 refine hv.mono ?_
 rintro e w2 ⟨rfl, rfl⟩
 go_wp2_with fail
 refine hsf.mono ?_
 rintro e w3 ⟨A, n, c, rfl, h3, b3⟩
 have H3 := jd h3
 have B3 := jd b3
 clear h3 b3 hsf hv
 go_wp2
 go_ret
 exact ⟨A, n, c, rfl, H3.out, B3.out⟩
end Go.Proofs.YthjjdelpdiipdaaGreatDoor
