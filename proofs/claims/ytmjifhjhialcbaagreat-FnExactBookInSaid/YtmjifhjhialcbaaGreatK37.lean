/- Parts of my texts: BookI1 BookI2 BookJ. -/
import Derived.Test.YtmjifhjhialcbaaGreatK25
namespace Go.Proofs.YtmjifhjhialcbaaGreat
set_option maxRecDepth 100000
set_option linter.unusedVariables false
open Go.RowKit
attribute [local go_sem] Oper.semAt_some
def encE (e : EntM) : Array Value := #[.agg #[.int .i64 e.idx, .int .i64 e.tm, .int .i64 e.cl, .int .i64 e.sq, .int .i64 e.kd, .int .i64 e.oa, .int .i64 e.ob, .int .i64 e.oc, .int .i64 e.od]]
def inE (a z : Int) (e : EntM) : Bool := decide (a ≤ e.idx) && decide (e.idx ≤ z)
def selN (l : List EntM) (a z : Int) (j : Nat) : List EntM := (l.take j).filter (inE a z)
def selE (l : List EntM) (a z : Int) : List EntM := l.filter (inE a z)
theorem selN_yes {l : List EntM} {a z : Int} {j : Nat} (hj : j < l.length) (h : inE a z l[j] = true) : selN l a z (j + 1) = selN l a z j ++ [l[j]] := by
 unfold selN
 rw [List.take_succ_eq_append_getElem hj, List.filter_append]
 simp [h]
theorem selN_no {l : List EntM} {a z : Int} {j : Nat} (hj : j < l.length) (h : inE a z l[j] = false) : selN l a z (j + 1) = selN l a z j := by
 unfold selN
 rw [List.take_succ_eq_append_getElem hj, List.filter_append]
 simp [h]
theorem selN_all {l : List EntM} {a z : Int} : selN l a z l.length = selE l a z := by
 unfold selN selE
 rw [List.take_length]
theorem selN_pre (l : List EntM) (a z : Int) (j : Nat) : selN l a z j <+: selE l a z := by
 unfold selN selE
 exact (List.take_prefix j l).filter _
theorem selN_lt {l : List EntM} {a z : Int} {j : Nat} (hj : j < l.length) (h : inE a z l[j] = true) : (selN l a z j).length < (selE l a z).length := by
 have h1 := (selN_pre l a z (j + 1)).length_le
 rw [selN_yes hj h, List.length_append, List.length_singleton] at h1
 omega
theorem iEntriesIn_any (x0 x1 : Int) (A : Option Addr) (n cc : Nat) (a z : Int) (w : World) :
    Calls Tryz.prog 260 #[.agg #[.int .i64 x0, .int .i64 x1, .slice A n cc], .int .i64 a, .int .i64 z] w fun e w' => e = .returned (.func (.func 267) #[] #[.pointer (some ⟨w.heap.size, 0, none⟩), .pointer (some ⟨w.heap.size + 1, 0, none⟩), .pointer (some ⟨w.heap.size + 1 + 1, 0, none⟩)]) ∧ w' = ((w.alloc (.cells #[.int .i64 x0, .int .i64 x1, .slice A n cc] 47)).alloc (.cells #[.int .i64 a] 2)).alloc (.cells #[.int .i64 z] 2) := by
 go_enter Tryz.func260, Tryz.ntmps260
 go_wp2
 go_ret
 exact ⟨rfl, rfl⟩
set_option maxHeartbeats 6400000 in
theorem iIter_in (l0 bb bf bl n₀ : Nat) (x0 x1 a z : Int) (A : Option Addr) (n cc : Nat) (es : List EntM) (Kp : World → World → Prop)
    (hKp : ∀ W W', Kp W W' → Below n₀ W W' ∧ W'.heap[bb]? = W.heap[bb]? ∧ W'.heap[bf]? = W.heap[bf]? ∧ W'.heap[bl]? = W.heap[bl]?)
    (J Jx : List EntM → World → Prop) (B9 : Nat) (hJ : AbidesFrom B9 J)
    (hY : ∀ pre x W1, J pre W1 → pre.length < (selE es a z).length → YieldAt Fence.wide (2 - 1) Tryz.prog l0 (encE x) W1 fun e W' => (e = .returned (.bool true) ∧ J (pre ++ [x]) W' ∧ Kp W1 W') ∨ (e = .returned (.bool false) ∧ Jx (pre ++ [x]) W'))
    (W : World) (h0 : Blk W bb #[.int .i64 x0, .int .i64 x1, .slice A n cc] 47) (h1 : Blk W bf #[.int .i64 a] 2) (h2 : Blk W bl #[.int .i64 z] 2)
    (hr : Rd W n₀ [entD es] [.slice A n cc]) (hn : n ≤ 1048577) (hB : n₀ ≤ W.heap.size) (hj0 : J [] W) :
    CallsIn Fence.wide 2 Tryz.prog 267 #[.func (.yield l0) #[] #[], .pointer (some ⟨bb, 0, none⟩), .pointer (some ⟨bf, 0, none⟩), .pointer (some ⟨bl, 0, none⟩)] W fun e W' => (∃ v, e = .returned v) ∧
     ((∃ xs, xs = selE es a z ∧ J xs W') ∨ (∃ pre, (pre <+: selE es a z ∧ pre ≠ []) ∧ Jx pre W')) := by
 refine callsIn_of_wp Tryz.func267 rfl trivial ?_ rfl
 simp only [Tryz.ntmps267, List.size_toArray, List.length_cons, List.length_nil, Nat.reduceAdd, Nat.reduceSub, Array.replicate_succ, Array.replicate_zero, List.push_toArray, List.append_toArray, List.nil_append, List.cons_append]
 have k0 : W.cell? ⟨bb, 2, none⟩ = some (.slice A n cc) := h0.cell 2
 gi_wp2
 gi_loopw [10] (fun i wr => ∃ j : Nat, j ≤ n ∧ i = .int .i64 (j : Int) ∧ J (selN es a z j) wr ∧ Blk wr bf #[.int .i64 a] 2 ∧ Blk wr bl #[.int .i64 z] 2 ∧ Rd wr n₀ [entD es] [.slice A n cc] ∧ n₀ ≤ wr.heap.size) (fun i _ => n - (intOf i).toNat)
 case atStart => exact ⟨0, Nat.zero_le _, rfl, hj0, h1, h2, hr, hB⟩
 case round =>
  obtain ⟨j, hj, rfl, hJs, b1, b2, hrd, hB2⟩ := hrel
  obtain ⟨_, _, _, e, hl, _, _, hel⟩ := hrd.ents
  injection e with e1 e2 e3
  subst e1 e2 e3
  have HJ := jd hJs
  have HR := jd hrd
  have B1 := jd b1
  have B2 := jd b2
  have HB := jd hB2
  have HL := jd hl
  clear h0 h1 h2 hr k0 hj0 hJs hrd hB hB2
  by_cases hlt : j < n
  case neg =>
   obtain rfl : j = n := by omega
   have HV := jd (show selN es a z j = selE es a z by rw [← HL.out, selN_all])
   clear b1 b2 hel hl
   gi_wp2
   go_end0
   exact ⟨⟨_, rfl⟩, .inl ⟨_, HV.out, HJ.out⟩⟩
  case pos =>
   obtain ⟨b, off, rfl, hb, hc⟩ := hel (by omega)
   have hjl : j < es.length := by have := HL.out; omega
   obtain ⟨hc0, hc1, hc2, hc3, hc4, hc5, hc6, hc7, hc8⟩ := hc j hjl
   obtain ⟨x, hx⟩ : ∃ x, x = es[j] := ⟨_, rfl⟩
   rw [← hx] at hc0 hc1 hc2 hc3 hc4 hc5 hc6 hc7 hc8
   have HY1 := jd (show inE a z x = true → selN es a z (j + 1) = selN es a z j ++ [x] from fun h => by rw [hx] at h ⊢; exact selN_yes hjl h)
   have HY0 := jd (show inE a z x = false → selN es a z (j + 1) = selN es a z j from fun h => by rw [hx] at h; exact selN_no hjl h)
   have HLT := jd (show inE a z x = true → (selN es a z j).length < (selE es a z).length from fun h => by rw [hx] at h; exact selN_lt hjl h)
   have HPR := jd (selN_pre es a z (j + 1))
   clear hx hc hel hl hjl
   obtain ⟨e0, e1, e2, e3, e4, e5, e6, e7, e8⟩ := x
   simp only at hc0 hc1 hc2 hc3 hc4 hc5 hc6 hc7 hc8
   have f0 : (wr.alloc (.cells #[.int .i64 e0, .int .i64 e1, .int .i64 e2, .int .i64 e3, .int .i64 e4, .int .i64 e5, .int .i64 e6, .int .i64 e7, .int .i64 e8] 87)).cell? ⟨bf, 0, none⟩ = some (.int .i64 a) := (b1.alloc _).cell 0
   have f1 : (wr.alloc (.cells #[.int .i64 e0, .int .i64 e1, .int .i64 e2, .int .i64 e3, .int .i64 e4, .int .i64 e5, .int .i64 e6, .int .i64 e7, .int .i64 e8] 87)).cell? ⟨bl, 0, none⟩ = some (.int .i64 z) := (b2.alloc _).cell 0
   have g1 := jd (b1.alloc (.cells #[.int .i64 e0, .int .i64 e1, .int .i64 e2, .int .i64 e3, .int .i64 e4, .int .i64 e5, .int .i64 e6, .int .i64 e7, .int .i64 e8] 87))
   have g2 := jd (b2.alloc (.cells #[.int .i64 e0, .int .i64 e1, .int .i64 e2, .int .i64 e3, .int .i64 e4, .int .i64 e5, .int .i64 e6, .int .i64 e7, .int .i64 e8] 87))
   have gr := jd (HR.out.keep ((Below.refl n₀ wr).alloc HB.out (.cells #[.int .i64 e0, .int .i64 e1, .int .i64 e2, .int .i64 e3, .int .i64 e4, .int .i64 e5, .int .i64 e6, .int .i64 e7, .int .i64 e8] 87)))
   have gB := jd (show n₀ ≤ (wr.alloc (.cells #[.int .i64 e0, .int .i64 e1, .int .i64 e2, .int .i64 e3, .int .i64 e4, .int .i64 e5, .int .i64 e6, .int .i64 e7, .int .i64 e8] 87)).heap.size by have := HB.out; simp; omega)
   have gJ := jd (hJ _ _ _ none HJ.out (World.grownBy_alloc wr (.cells #[.int .i64 e0, .int .i64 e1, .int .i64 e2, .int .i64 e3, .int .i64 e4, .int .i64 e5, .int .i64 e6, .int .i64 e7, .int .i64 e8] 87) none) (fun r e => by cases e))
   have HIN := jd (show inE a z ⟨e0, e1, e2, e3, e4, e5, e6, e7, e8⟩ = (decide (a ≤ e0) && decide (e0 ≤ z)) from rfl)
   clear b1 b2
   by_cases d1 : a ≤ e0
   case neg =>
    have d1' : e0 < a := by omega
    have HN := jd (HY0.out (by rw [HIN.out, decide_eq_false d1]; rfl))
    gi_wp2
    refine ⟨fun _ h => (by cases h), ?_⟩
    gi_wp2
    go_roundw
    case rel => exact ⟨j + 1, by omega, by go_num, by rw [HN.out]; exact gJ.out, g1.out, g2.out, gr.out, gB.out⟩
    case measure => simp [intOf]; omega
   case pos =>
    by_cases d2 : e0 ≤ z
    case neg =>
     have d2' : z < e0 := by omega
     have HN := jd (HY0.out (by rw [HIN.out, decide_eq_false d2, Bool.and_false]))
     gi_wp2
     refine ⟨fun _ h => (by cases h), ?_⟩
     gi_wp2
     go_roundw
     case rel => exact ⟨j + 1, by omega, by go_num, by rw [HN.out]; exact gJ.out, g1.out, g2.out, gr.out, gB.out⟩
     case measure => simp [intOf]; omega
    case pos =>
     have HIN1 := jd (show inE a z ⟨e0, e1, e2, e3, e4, e5, e6, e7, e8⟩ = true by rw [HIN.out, decide_eq_true d1, decide_eq_true d2]; rfl)
     have HN := jd (HY1.out HIN1.out)
     obtain ⟨fn, tmps, assign, body, hy, hR⟩ := hY _ ⟨e0, e1, e2, e3, e4, e5, e6, e7, e8⟩ _ gJ.out (HLT.out HIN1.out)
     simp only [encE] at hy
     have HRR := jd hR
     clear hR
     gi_wp2
     refine HRR.out.mono ?_
     rintro e W3 (⟨rfl, hJ3, hk3⟩ | ⟨rfl, hJx3⟩)
     · obtain ⟨q0, _, q1, q2⟩ := hKp _ _ hk3
       have G1 := jd (show Blk W3 bf #[.int .i64 a] 2 from q1.trans g1.out)
       have G2 := jd (show Blk W3 bl #[.int .i64 z] 2 from q2.trans g2.out)
       have GR := jd (gr.out.keep q0)
       have GB := jd (Nat.le_trans gB.out q0.size)
       have G3 := jd hJ3
       clear q0 q1 q2 hk3 hJ3 g1 g2 gr gB gJ HJ HR B1 B2
       gi_wp2
       go_roundw
       case rel => exact ⟨j + 1, by omega, by go_num, by rw [HN.out]; exact G3.out, G1.out, G2.out, GR.out, GB.out⟩
       case measure => simp [intOf]; omega
     · have G3 := jd hJx3
       clear hJx3
       gi_wp2
       refine bodyPost_ret (results_none rfl _ _ _) rfl ?_
       exact ⟨⟨_, rfl⟩, .inr ⟨_, ⟨by rw [← HN.out]; exact HPR.out, by simp⟩, G3.out⟩⟩
theorem iIter_stops (bb bf bl n₀ : Nat) (x0 x1 a z : Int) (A : Option Addr) (n cc : Nat) (es : List EntM) (Kp : World → World → Prop)
    (hKp : ∀ W W', Kp W W' → Below n₀ W W' ∧ W'.heap[bb]? = W.heap[bb]? ∧ W'.heap[bf]? = W.heap[bf]? ∧ W'.heap[bl]? = W.heap[bl]?)
    (w : World) (h0 : Blk w bb #[.int .i64 x0, .int .i64 x1, .slice A n cc] 47) (h1 : Blk w bf #[.int .i64 a] 2) (h2 : Blk w bl #[.int .i64 z] 2)
    (hr : Rd w n₀ [entD es] [.slice A n cc]) (hn : n ≤ 1048577) (hB : n₀ ≤ w.heap.size) :
    SeqStopsK Fence.wide 2 Tryz.prog 267 #[.pointer (some ⟨bb, 0, none⟩), .pointer (some ⟨bf, 0, none⟩), .pointer (some ⟨bl, 0, none⟩)] encE Kp (fun ys => ys = selE es a z) (fun pre => pre <+: selE es a z ∧ pre ≠ []) (selE es a z).length w :=
 fun l J Jx W hW hJ _ hY hj0 =>
  iIter_in l bb bf bl n₀ x0 x1 a z A n cc es Kp hKp J Jx W.heap.size hJ hY W (h0.keep hW h0.lt) (h1.keep hW h1.lt) (h2.keep hW h2.lt) (hr.keep (hW.mono hB)) hn (Nat.le_trans hB hW.size) hj0
end Go.Proofs.YtmjifhjhialcbaaGreat
namespace Go.Proofs.YtmjifhjhialcbaaGreat
set_option maxRecDepth 100000
set_option linter.unusedVariables false
open Go.RowKit
attribute [local go_sem] Oper.semAt_some
theorem ownFrom_blk {β : Type} (B Bx : Nat) (cs : Array Value) (t : TypeId) : OwnFrom B (fun (_ : β) W => Blk W Bx cs t) := fun _ W W' row hs hg hr =>
 (hg.block Bx hs.lt (fun e => by
  obtain ⟨_, o, ho, hc⟩ := hr Bx e.symm
  rw [show W.heap[Bx]? = _ from hs] at ho
  injection ho with ho
  rw [← ho] at hc
  cases hc)).trans hs
theorem below_shut {w W : World} {D : Nat} (c : Below w.heap.size w W) (hD : w.heap.size ≤ D) (hK : W.heap[D]? = some (.deferred (some []))) : Below w.heap.size w (W.putObj D (.deferred none)) :=
 c.trans (belowK_b (w := w) (Nat.le_refl _) W D _ _ hD hK rfl rfl)
def CollG (w : World) (fix : List Item) (b : Nat) (pre : List EntM) (W : World) : Prop := ∃ (G : Option Addr) (m gc : Nat) (fp : List Nat), m = pre.length ∧ Sep W w.heap.size (.own [entD pre] [.slice G m gc] fp :: .blk b #[.slice G m gc] 27 :: fix) ∧ Below w.heap.size w W
theorem collG_own {w : World} {fix : List Item} {b B : Nat} (hB : w.heap.size ≤ B) : OwnFrom B (CollG w fix b) := fun _ _ _ _ hs hg hr => by
 obtain ⟨G, m, gc, fp, h1, h2, h3⟩ := hs
 exact ⟨G, m, gc, fp, h1, h2.turned hg fun r e => (hr r e).2, h3.grown hg h3.size fun k e => Nat.le_trans hB (hr k e).1⟩
theorem CollG.more {w W : World} {fix : List Item} {b : Nat} {pre : List EntM} (h : CollG w fix b pre W) (o : Obj) : CollG w fix b pre (W.alloc o) := by
 obtain ⟨G, m, gc, fp, h1, h2, h3⟩ := h
 exact ⟨G, m, gc, fp, h1, h2.keep ((Below.refl _ _).alloc (Nat.le_refl _) _), h3.alloc h3.size _⟩
set_option maxHeartbeats 6400000 in
theorem iAppendSeq_any (gf : Nat) (lb : Array Value) (xs : List EntM) (Sp : List EntM → Prop) (eg : ∀ args w, (callFunc gf args).run Tryz.prog w = .ok (.enter gf args) w) (w : World) (hlen : xs.length ≤ 1048576)
    (hseq : SeqStopsK Fence.wide 2 Tryz.prog gf lb encE (Below w.heap.size) (fun ys => ys = xs) Sp xs.length w) :
    Calls Tryz.prog 266 #[.slice none 0 0, .func (.func gf) #[] lb] w (MadeEntryS w xs) := by
 refine (callsIn_wide (n := 3)).1 ?_
 refine callsIn_of_wp_marks Tryz.func266 rfl trivial ?_ rfl
 simp only [Tryz.ntmps266, List.size_toArray, List.length_cons, List.length_nil, Nat.reduceAdd, Nat.reduceSub, Array.replicate_succ, Array.replicate_zero, List.push_toArray, List.append_toArray, List.nil_append, List.cons_append]
 gi_wp2
 have S := Sep.nil w w.heap.size
 have c := Below.refl w.heap.size w
 replace S := S.boxAt c.size (w.heap.size) rfl #[.slice none 0 0] 27
 replace c := al c S
 replace S := S.own0 (ds := [entD []]) (vs := [.slice none 0 0]) (ow_nil_ents _)
 refine wpIn_rangeFunc_ownH rfl (by decide) (gf := gf) (lb := lb) rfl trivial eg hseq belowK_t (belowK_b (by simp)) c (fun _ => rfl)
  (CollG w [] w.heap.size)
  (fun _ _ _ => False)
  (collG_own c.size)
  (fun _ _ _ _ _ hs _ _ => hs)
  ⟨none, 0, 0, [], rfl, S, c⟩
  (fun x a' W => ∃ Bx, Blk W Bx #[.int .i64 x.idx, .int .i64 x.tm, .int .i64 x.cl, .int .i64 x.sq, .int .i64 x.kd, .int .i64 x.oa, .int .i64 x.ob, .int .i64 x.oc, .int .i64 x.od] 87 ∧ a' = { tmps := #[.slice none 0 0, .func (.func gf) #[] lb, .pointer (some ⟨w.heap.size, 0, none⟩), undef, .slice none 0 0, .pointer (some ⟨Bx, 0, none⟩), .func (.func gf) #[] lb, .agg #[.int .i64 x.idx, .int .i64 x.tm, .int .i64 x.cl, .int .i64 x.sq, .int .i64 x.kd, .int .i64 x.oa, .int .i64 x.ob, .int .i64 x.oc, .int .i64 x.od], undef, undef, undef, undef, undef], defers := [] })
  ?hAx ?assign ?body ?done ?stop
 case hAx =>
  rintro x a' s W W' row ⟨Bx, h1, h2⟩ hg hr
  exact ⟨Bx, ownFrom_blk (β := Unit) _ _ _ _ () W W' row h1 hg hr, h2⟩
 case assign =>
  rintro l pre x W K hI hK
  simp only [encE]
  gi_wp2
  exact hK _ _ ((KeepsOthers.alloc _ _).from _) ((Below.refl _ W).alloc (by obtain ⟨_, _, _, _, _, _, c⟩ := hI; exact c.size) _) (hI.more _) ⟨W.heap.size, Blk.new _ _ _, rfl⟩
 case body =>
  rintro l pre x a' W hl _ ⟨G, m, gc, fp, hg, S, cI⟩ ⟨Bx, hBx, rfl⟩ hlt
  have hm : m ≤ 1048577 := by
   have hg' : m = pre.length := hg
   omega
  obtain ⟨e0, e1, e2, e3, e4, e5, e6, e7, e8⟩ := x
  simp only at hBx S
  have HG := jd hg
  have X0 := (hBx.cell 0)
  have X1 := (hBx.cell 1)
  have X2 := (hBx.cell 2)
  have X3 := (hBx.cell 3)
  have X4 := (hBx.cell 4)
  have X5 := (hBx.cell 5)
  have X6 := (hBx.cell 6)
  have X7 := (hBx.cell 7)
  have X8 := (hBx.cell 8)
  simp only [List.getElem?_toArray, List.getElem?_cons_zero, List.getElem?_cons_succ] at X0 X1 X2 X3 X4 X5 X6 X7 X8
  have f0 := lk S 1 0 rfl rfl
  have S1 := S.boxAt cI.size (W.heap.size) rfl #[.int .i64 e0, .int .i64 e1, .int .i64 e2, .int .i64 e3, .int .i64 e4, .int .i64 e5, .int .i64 e6, .int .i64 e7, .int .i64 e8] 87
  have c1 := cI.alloc cI.size (.cells #[.int .i64 e0, .int .i64 e1, .int .i64 e2, .int .i64 e3, .int .i64 e4, .int .i64 e5, .int .i64 e6, .int .i64 e7, .int .i64 e8] 87)
  have K1 := jd (KeepsOthers.alloc W (.cells #[.int .i64 e0, .int .i64 e1, .int .i64 e2, .int .i64 e3, .int .i64 e4, .int .i64 e5, .int .i64 e6, .int .i64 e7, .int .i64 e8] 87))
  have Q1 := jd ((Below.refl w.heap.size W).alloc cI.size (.cells #[.int .i64 e0, .int .i64 e1, .int .i64 e2, .int .i64 e3, .int .i64 e4, .int .i64 e5, .int .i64 e6, .int .i64 e7, .int .i64 e8] 87))
  have HC : ∀ i, i < 9 → (W.alloc (.cells #[.int .i64 e0, .int .i64 e1, .int .i64 e2, .int .i64 e3, .int .i64 e4, .int .i64 e5, .int .i64 e6, .int .i64 e7, .int .i64 e8] 87)).cell? ⟨W.heap.size, i, none⟩ = [Value.int .i64 e0, Value.int .i64 e1, Value.int .i64 e2, Value.int .i64 e3, Value.int .i64 e4, Value.int .i64 e5, Value.int .i64 e6, Value.int .i64 e7, Value.int .i64 e8][i]? := fun i hi => by
   have h1 := (S1.at_ 0 rfl).cell i
   rw [h1]
   simp
  replace S1 := (S1.tail).own0 (ds := entC (⟨e0, e1, e2, e3, e4, e5, e6, e7, e8⟩ : EntM)) (vs := [.int .i64 e0, .int .i64 e1, .int .i64 e2, .int .i64 e3, .int .i64 e4, .int .i64 e5, .int .i64 e6, .int .i64 e7, .int .i64 e8]) (.int (.int (.int (.int (.int (.int (.int (.int (.int .nil)))))))))
  replace S1 := S1.swap
  clear hBx S c hg
  gi_wp2_with (first
   | (gi_at_builtin
      refine wpListIn_append_elem (l := pre) (y := (⟨e0, e1, e2, e3, e4, e5, e6, e7, e8⟩ : EntM)) rfl (.tmp 8) (.tmp 10) (by rfl) Tryz.underlying27 infoEntry (by rfl) (by decide) entC_len (by rfl) (S1.own_ 0 rfl) (S1.nodup_own 0 rfl) (by rfl) HC (S1.own_ 1 rfl) (S1.nodup_own 1 rfl) S1.apart (by omega) (by omega) ?_
      intro A3 c3 w3 fp3 o3 n3 s3 t3
      have S3 := S1.merge t3 o3 n3 s3 c1.size
      have g0 := (S3.at_ 1 rfl).cell 0
      have g1 := (S3.at_ 1 rfl).free 0))
  have HS := jd (S3.put 1 rfl 0 (.slice A3 (m + 1) c3))
  have HK := jd ((K1.out.trans (keeps_own t3 (S1.own_ 0 rfl))).trans (KeepsOthers.setCell w3 ⟨w.heap.size, 0, none⟩ (.slice A3 (m + 1) c3)))
  have HQ := jd ((Q1.out.trans (S1.below 0 rfl t3 c1.size)).setCell (p := ⟨w.heap.size, 0, none⟩) (Nat.le_refl _) (.slice A3 (m + 1) c3))
  exact ⟨HK.out.from _, HQ.out, A3, m + 1, c3, fp3, by rw [HG.out, List.length_append, List.length_singleton], HS.out, cI.trans HQ.out⟩
 case done =>
  rintro D ys W hD rfl ⟨G, m, gc, fp, hg, S, cI⟩ hK
  have f0 := lk S 1 0 rfl rfl
  have HS := jd (S.putObj (.deferred none) hK rfl).first
  have HC := jd (below_shut cI (Nat.le_trans (by simp) hD) hK)
  have HK := jd hK
  have HG := jd hg
  clear S cI hK hg
  gi_wp2
  refine ⟨by simp, .inl ⟨_, _, rfl, run_takeDeferred HK.out, ?_⟩⟩
  exact ⟨_, results_tmp rfl _ _ _, G, m, gc, rfl, HS.out, HC.out⟩
 case stop =>
  rintro D c pre W _ _ h _
  exact h.elim
end Go.Proofs.YtmjifhjhialcbaaGreat
namespace Go.Proofs.YtmjifhjhialcbaaGreat
set_option maxRecDepth 100000
set_option linter.unusedVariables false
open Go.RowKit
theorem selE_seq (a z : Int) : ∀ (l : List EntM) (k : Int), (∀ j (hj : j < l.length), l[j].idx = k + (j : Int)) → selE l a z = (l.take (z + 1 - k).toNat).drop (a - k).toNat
 | [], k, _ => by simp [selE]
 | x :: l, k, h => by
  have h0 : x.idx = k := by have := h 0 (by simp); simpa using this
  have ih := selE_seq a z l (k + 1) fun j hj => by
   have := h (j + 1) (by simp; omega)
   simp only [List.getElem_cons_succ] at this
   rw [this]
   omega
  have hf : selE (x :: l) a z = if inE a z x = true then x :: selE l a z else selE l a z := by unfold selE; rw [List.filter_cons]
  rw [hf, ih]
  have hin : inE a z x = (decide (a ≤ k) && decide (k ≤ z)) := by unfold inE; rw [h0]
  by_cases hz : k ≤ z
  · rw [show (z + 1 - k).toNat = (z + 1 - (k + 1)).toNat + 1 by omega, List.take_succ_cons]
    by_cases ha : a ≤ k
    · rw [if_pos (by rw [hin, decide_eq_true ha, decide_eq_true hz]; rfl), show (a - k).toNat = 0 by omega, show (a - (k + 1)).toNat = 0 by omega, List.drop_zero, List.drop_zero]
    · rw [if_neg (by rw [hin, decide_eq_false ha, Bool.false_and]; decide), show (a - k).toNat = (a - (k + 1)).toNat + 1 by omega, List.drop_succ_cons]
  · rw [if_neg (by rw [hin, decide_eq_false hz, Bool.and_false]; decide), show (z + 1 - k).toNat = 0 by omega, show (z + 1 - (k + 1)).toNat = 0 by omega]
    simp
theorem book_max {b : BookM} (h : bookB b = true) : lastB b ≤ 2000 := by
 obtain ⟨h1, _, _, _, he, _⟩ := (bookB_iff b).1 h
 unfold lastB
 by_cases h0 : b.ents.length = 0
 · omega
 · have hj : b.ents.length - 1 < b.ents.length := by omega
   have h2 := (entsB_all he hj).1
   have h3 := ((entB_iff _).1 h2).1
   have h4 := book_idx h _ hj
   omega
theorem sel_back {b : BookM} (h : bookB b = true) (i : Int) : selE b.ents (b.base + 1) i = b.ents.take (i - b.base).toNat := by
 rw [selE_seq _ _ b.ents (b.base + 1) (book_idx h), show (b.base + 1 - (b.base + 1)).toNat = 0 by omega, List.drop_zero, show (i + 1 - (b.base + 1)).toNat = (i - b.base).toNat by omega]
theorem sel_all {b : BookM} (h : bookB b = true) : selE b.ents (b.base + 1) 2000 = b.ents := by
 have h1 := book_max h
 unfold lastB at h1
 rw [sel_back h, List.take_of_length_le (by omega)]
def endM (b : BookM) : EntM := if b.ents.length = 0 then ⟨b.base, b.tm, 0, 0, 0, 0, 0, 0, 0⟩ else b.ents.getD (b.ents.length - 1) ent0
theorem endM_idx {b : BookM} (h : bookB b = true) : (endM b).idx = lastB b := by
 unfold endM lastB
 by_cases h0 : b.ents.length = 0
 · rw [if_pos h0, h0]; simp
 · have hj : b.ents.length - 1 < b.ents.length := by omega
   rw [if_neg h0, egetD hj, book_idx h _ hj]
   omega
theorem endM_tm {b : BookM} (_h : bookB b = true) : (endM b).tm = timeAt b (lastB b) := by
 unfold endM
 by_cases h0 : b.ents.length = 0
 · rw [if_pos h0, timeAt_none h0]
 · rw [if_neg h0, timeAt_last (by omega)]
def takeB (b : BookM) (e : EntM) : Bool := decide (b.ents.length < 20) && (entB e && (decide (e.idx = (endM b).idx + 1) && decide ((endM b).tm ≤ e.tm)))
theorem takeB_next {b : BookM} (h : bookB b = true) (e : EntM) : takeB b e = nextB b e := by
 have := bookB_len h
 unfold takeB nextB
 rw [endM_idx h, endM_tm h, show decide (b.ents.length < 20) = decide (b.ents.length ≠ 20) from decide_eq_decide.2 (by omega)]
 cases decide (b.ents.length ≠ 20) <;> simp
end Go.Proofs.YtmjifhjhialcbaaGreat
