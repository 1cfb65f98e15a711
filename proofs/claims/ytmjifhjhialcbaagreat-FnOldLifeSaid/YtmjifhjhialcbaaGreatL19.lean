/- Parts of my texts: MarkI5 MarkI6. -/
import Derived.Test.YtmjifhjhialcbaaGreatL18
namespace Go.Proofs.YtmjifhjhialcbaaGreat
set_option maxRecDepth 100000
set_option linter.unusedVariables false
open Go.RowKit
instance markInh : Inhabited MarkM := ⟨mark0⟩
def encMk (x : MarkM) : List Value := ivals (mrkNs x)
def cmpMk (x y : MarkM) : Int := cmpI x.mc y.mc
theorem encMk_len (x : MarkM) : (encMk x).length = 3 := rfl
theorem encMk_flat (l : List MarkM) : l.flatMap encMk = ivals (l.flatMap mrkNs) := by
 unfold ivals
 rw [List.map_flatMap]
 rfl
theorem encMk_at (l : List MarkM) {j c : Nat} (hj : j < l.length) (hc : c < 3) : (l.flatMap encMk)[j * 3 + c]? = (encMk l[j])[c]? := by
 have h1 : l.flatMap encMk = (l.take j).flatMap encMk ++ (encMk l[j] ++ (l.drop (j + 1)).flatMap encMk) := by
  have e1 : l = l.take j ++ (l[j] :: l.drop (j + 1)) := by rw [← List.drop_eq_getElem_cons hj, List.take_append_drop]
  conv => lhs; rw [e1]
  rw [List.flatMap_append, List.flatMap_cons]
 have h2 : ((l.take j).flatMap encMk).length = j * 3 := by
  have : ∀ L : List MarkM, (L.flatMap encMk).length = L.length * 3 := fun L => by
   induction L with
   | nil => rfl
   | cons a t ih => rw [List.flatMap_cons, List.length_append, ih, List.length_cons, encMk_len]; omega
  rw [this, List.length_take]
  omega
 rw [h1, List.getElem?_append_right (by omega), h2, show j * 3 + c - j * 3 = c by omega, List.getElem?_append_left (by rw [encMk_len]; omega)]
theorem encMk_all (l : List MarkM) : (l.flatMap encMk).length = l.length * 3 := by
 induction l with
 | nil => rfl
 | cons a t ih => rw [List.flatMap_cons, List.length_append, ih, List.length_cons, encMk_len]; omega
theorem flat_eq (l : List MarkM) : Go.Sort.flatK encMk 3 l.toArray = (l.flatMap encMk).toArray := by
 apply Array.ext
 · rw [Go.Sort.size_flatK, List.size_toArray, List.size_toArray, encMk_all]
 · intro t h1 h2
   have h3 : t < l.length * 3 := by rw [Go.Sort.size_flatK, List.size_toArray] at h1; exact h1
   have hj : t / 3 < l.length := by omega
   have hc : t % 3 < 3 := by omega
   have h4 := Go.Sort.get_flatK encMk 3 l.toArray t (by rw [List.size_toArray]; exact h3)
   rw [getElem!_pos _ t h1] at h4
   rw [h4]
   have h5 := encMk_at l hj hc
   rw [show t / 3 * 3 + t % 3 = t by omega] at h5
   have h6 : t < (l.flatMap encMk).length := by rw [encMk_all]; exact h3
   rw [List.getElem?_eq_getElem h6, List.getElem?_eq_getElem (by rw [encMk_len]; exact hc)] at h5
   injection h5 with h5
   have h7 : l.toArray[t / 3]! = l[t / 3] := by rw [getElem!_pos l.toArray (t / 3) (by simpa using hj)]; simp
   rw [h7, getElem!_pos (encMk l[t / 3]) (t % 3) (by rw [encMk_len]; exact hc), ← h5]
   simp
theorem free_own {w : World} {g cap n : Nat} {l : List MarkM} {fp : List Nat} (h : Ow w [mrkD l] [.slice (some ⟨g, 0, none⟩) n cap] fp) : ∃ cur : Array Value, w.heap[g]? = some (.cells cur 113 (0, 0)) ∧ l.length = n ∧ n ≤ cap ∧ cap ≤ maxLen ∧ cur.size = cap * 3 ∧ cur.toList.take (n * 3) = l.flatMap encMk ∧ fp = [g] := by
 obtain ⟨us, fp1, h1, h2, hfp⟩ := Ow.lst (k := 3) mrkC_len (by decide) h
 have h3 : us = l.flatMap encMk ∧ fp1 = [] := by
  have : ∀ (L : List MarkM) (us : List Value) (f : List Nat), Ow w (L.flatMap mrkC) us f → us = L.flatMap encMk ∧ f = [] := fun L => by
   induction L with
   | nil => intro us f h; cases h; exact ⟨rfl, rfl⟩
   | cons a t ih =>
    intro us f h
    rw [List.flatMap_cons] at h
    obtain ⟨v1, v2, f1, f2, rfl, rfl, o1, o2⟩ := Ow.split h
    obtain ⟨rfl, rfl⟩ := ih _ _ o2
    have hl := o1.len
    match v1, hl with
    | [u0, u1, u2], _ =>
     obtain ⟨rfl, rfl, rfl, rfl⟩ := o1.mrk
     exact ⟨rfl, rfl⟩
  exact this l us fp1 h2
 obtain ⟨rfl, rfl⟩ := h3
 rcases h1.2 with ⟨h0, _⟩ | ⟨g', cap', cur, hv, _, hb, hnc, hm, hcs, htk⟩
 · cases h0
 · injection hv with a1 a2 a3
   injection a1 with a1
   injection a1 with a1 _
   subst a1 a3
   exact ⟨cur, hb, a2.symm, by omega, hm, hcs, by rw [a2]; exact htk, by rw [hfp]; simp [Value.ownBlock]⟩
theorem sorted_heap {w : World} {g m : Nat} {cur : Array Value} {t : TypeId} {d : Array MarkM} {os : Array Obj} (hb : w.heap[g]? = some (.cells cur t (0, 0))) :
    (sortWorldK encMk 3 w g 0 m d os).heap[g]? = some (.cells (Go.Sort.putCells id 0 (Go.Sort.flatK encMk 3 d) cur) t (0, 0)) := by
 have hlt := (Array.getElem?_eq_some_iff.1 hb).1
 have hev := (Array.getElem?_eq_some_iff.1 hb).2
 show ((w.heap.modify g (Go.Sort.onCells (Go.Sort.putCells id 0 (Go.Sort.flatK encMk 3 d)))) ++ os)[g]? = _
 rw [Array.getElem?_append_left (by rw [Array.size_modify]; exact hlt), Array.getElem?_eq_getElem (by rw [Array.size_modify]; exact hlt), Array.getElem_modify_self, hev]
 rfl
theorem sorted_touch (w : World) (g m : Nat) (d : Array MarkM) (os : Array Obj) : Touch [g] w (sortWorldK encMk 3 w g 0 m d os) := by
 refine ⟨rfl, rfl, rfl, ?_, fun k hk hn => ?_⟩
 · show w.heap.size ≤ ((w.heap.modify g _) ++ os).size
   rw [Array.size_append, Array.size_modify]
   omega
 · show ((w.heap.modify g (Go.Sort.onCells (Go.Sort.putCells id 0 (Go.Sort.flatK encMk 3 d)))) ++ os)[k]? = _
   have hne : g ≠ k := fun e => hn (by simp [e])
   rw [Array.getElem?_append_left (by rw [Array.size_modify]; exact hk), Array.getElem?_modify, if_neg hne]
theorem putCells_take {l : List MarkM} {cur : Array Value} {n cap : Nat} (hl : l.length = n) (hn : n ≤ cap) (hs : cur.size = cap * 3) : (Go.Sort.putCells id 0 (Go.Sort.flatK encMk 3 l.toArray) cur).toList.take (n * 3) = l.flatMap encMk := by
 rw [flat_eq]
 apply List.ext_getElem?
 intro t
 have hlen := encMk_all l
 by_cases ht : t < n * 3
 · rw [List.getElem?_take, if_pos ht, Array.getElem?_toList]
   unfold Go.Sort.putCells
   rw [Array.getElem?_mapIdx, Array.getElem?_eq_getElem (by omega), List.getElem?_eq_getElem (by omega)]
   simp only [Option.map_some, Option.some.injEq]
   rw [if_pos ⟨Nat.zero_le _, by rw [List.size_toArray]; omega⟩, Nat.sub_zero, getElem!_pos _ t (by rw [List.size_toArray]; omega)]
   simp
 · rw [List.getElem?_eq_none (by rw [List.length_take]; omega), List.getElem?_eq_none (by omega)]
theorem sorted_has {w : World} {base g n cap m : Nat} {l l' : List MarkM} {os : Array Obj} (h : Has w base [mrkD l] [.slice (some ⟨g, 0, none⟩) n cap]) (hl : l'.length = l.length) :
    Has (sortWorldK encMk 3 w g 0 m l'.toArray os) base [mrkD l'] [.slice (some ⟨g, 0, none⟩) n cap] ∧ Below base w (sortWorldK encMk 3 w g 0 m l'.toArray os) ∧ g < w.heap.size := by
 obtain ⟨fp, ho, hn, hge⟩ := h
 obtain ⟨cur, hb, h1, h2, h3, h4, h5, rfl⟩ := free_own ho
 have hlt := (Array.getElem?_eq_some_iff.1 hb).1
 have hbg := hge g (by simp)
 refine ⟨⟨[g], ?_, by simp, hge⟩, (sorted_touch w g m l'.toArray os).below (by simpa using hbg) (by omega), hlt⟩
 have ho' : Ow (sortWorldK encMk 3 w g 0 m l'.toArray os) (l'.flatMap mrkC) (l'.flatMap encMk) [] := by
  rw [encMk_flat]
  exact ow_flat mrk_flat _ _
 exact Ow.row (k := 3) (n := n) (us := l'.flatMap encMk) (fp1 := []) (fp2 := []) ⟨by rw [encMk_all, hl, h1], .inr ⟨g, cap, _, rfl, Nat.zero_le _, sorted_heap hb, h2, h3, by unfold Go.Sort.putCells; rw [Array.size_mapIdx]; exact h4, putCells_take (hl.trans h1) h2 h4⟩⟩ ho' .nil
theorem holds_own {w : World} {base g n cap : Nat} {l : List MarkM} (h : Has w base [mrkD l] [.slice (some ⟨g, 0, none⟩) n cap]) : Go.Sort.HoldsK encMk 3 w g 0 l.toArray := by
 obtain ⟨fp, ho, _, _⟩ := h
 obtain ⟨cur, hb, h1, h2, _, h4, h5, _⟩ := free_own ho
 intro t ht
 rw [flat_eq] at ht ⊢
 rw [List.size_toArray, encMk_all] at ht
 have hb' : Blk w g cur 113 := hb
 rw [Nat.zero_add]
 refine ⟨(hb'.cell t).trans ?_, hb'.free t⟩
 have h6 : (cur.toList.take (n * 3))[t]? = (l.flatMap encMk)[t]? := by rw [h5]
 rw [List.getElem?_take, if_pos (by omega), Array.getElem?_toList] at h6
 rw [h6, List.getElem?_eq_getElem (by rw [encMk_all]; exact ht), getElem!_pos _ t (by rw [List.size_toArray, encMk_all]; exact ht)]
 simp
theorem iByClient_any (x y : MarkM) (W : World) : Calls Tryz.prog 258 #[.agg (encMk x).toArray, .agg (encMk y).toArray] W fun e w' => e = .returned (.int .i64 (cmpMk x y)) ∧ ∃ q os', w' = Go.Sort.grow (W.drewN q) os' := by
 obtain ⟨x0, x1, x2⟩ := x
 obtain ⟨y0, y1, y2⟩ := y
 have hcon := fun W' => iCompare_any x0 y0 W'
 unfold cmpMk
 show Calls Tryz.prog 258 #[.agg #[.int .i64 x0, .int .i64 x1, .int .i64 x2], .agg #[.int .i64 y0, .int .i64 y1, .int .i64 y2]] W fun e w' => e = .returned (.int .i64 (cmpI x0 y0)) ∧ ∃ q os', w' = Go.Sort.grow (W.drewN q) os'
 generalize cmpI x0 y0 = r at hcon ⊢
 go_enter Tryz.func258, Tryz.ntmps258
 go_wp2_with (go_at_call 265; refine (hcon _).mono ?_; rintro e w' ⟨rfl, rfl⟩)
 go_ret
 exact ⟨rfl, 0, _, by rw [Go.Sort.alloc_eq_grow, Go.Sort.alloc_eq_grow, Go.Sort.grow_grow]; rfl⟩
theorem cmp_less (x y : MarkM) : ltOf cmpMk x y = decide (x.mc < y.mc) := by
 unfold ltOf cmpMk cmpI
 rw [decide_eq_decide]
 split
 · omega
 · split <;> omega
theorem cmp_order : Go.Sort.SWO (ltOf cmpMk) := by
 refine ⟨fun x => ?_, fun x y z h1 h2 => ?_, fun x y z h1 h2 => ?_⟩ <;> simp only [cmp_less] at * <;> simp only [decide_eq_true_eq, decide_eq_false_iff_not] at * <;> omega
theorem bits_len (n : Nat) (W : World) (h : n ≤ 12) : Calls Tryz.prog 270 #[.int .u64 n] W fun e w' => (∃ l : Int, e = .returned (.int .i64 l)) ∧ w' = W :=
 (Any.bits_Len bln n W (by omega) (by omega)).mono fun _ _ ⟨he, hw⟩ => ⟨⟨_, he⟩, hw⟩
theorem sorted_one {l l' : List MarkM} (h : seenB l = true) (hp : l'.Perm l) (hs : ∀ i j (hi : i < l'.length) (hj : j < l'.length), i < j → ¬ l'[j].mc < l'[i].mc) : l' = l := by
 refine List.Perm.eq_of_pairwise (le := fun a b => a.mc ≤ b.mc) (fun a b ha hb h1 h2 => ?_) ?_ ?_ hp
 · exact solo_eq (seen_solo h) (hp.mem_iff.1 ha) hb (Int.le_antisymm h1 h2)
 · rw [List.pairwise_iff_getElem]
   intro i j hi hj hij
   have := hs i j hi hj hij
   omega
 · exact (seen_pairs h).2.1.imp fun {a b} hab => Int.le_of_lt hab
theorem iSortFunc_any {base g n cap : Nat} {l ys : List MarkM} (w : World) (h : Has w base [mrkD ys] [.slice (some ⟨g, 0, none⟩) n cap]) (hp : ys.Perm l) (hok : seenB l = true) :
    Calls Tryz.prog 263 #[.slice (some ⟨g, 0, none⟩) n cap, .func (.func 258) #[] #[]] w fun e w' => e = .returned (.tuple #[]) ∧ Has w' base [mrkD l] [.slice (some ⟨g, 0, none⟩) n cap] ∧ Below base w w' := by
 have hn : n = ys.length := by
  obtain ⟨fp, ho, _⟩ := h
  obtain ⟨_, _, h1, _⟩ := free_own ho
  exact h1.symm
 have hlen : ys.length ≤ 4 := by rw [hp.length_eq]; exact seen_len hok
 have hg := (sorted_has (m := 0) (os := #[]) h rfl).2.2
 have eg : ∀ args w, (callFunc 258 args).run Tryz.prog w = .ok (.enter 258 args) w := enters_of Tryz.func258 (by kernel_rfl) rfl
 have hcmp : CmpLays Tryz.prog 258 #[] encMk 3 cmpMk g 0 ys.toArray.size w := fun _ _ _ _ x y => iByClient_any x y _
 have hcon := AnyQ.slices_SortFunc_small_sorted srt 3 Tryz.isAgg113 Tryz.sizeOf113 encMk encMk_len (fun x v hv => by simp [encMk, ivals, mrkNs] at hv; rcases hv with rfl | rfl | rfl <;> rfl) cmpMk 258 #[] cmp_order g 0 cap ys.toArray w eg hcmp (holds_own h) hg (by rw [List.size_toArray]; omega) bits_len
 rw [hn]
 have hcon : Calls Tryz.prog 263 #[.slice (some ⟨g, 0, none⟩) ys.length cap, .func (.func 258) #[] #[]] w _ := hcon
 refine hcon.mono ?_
 rintro e w' ⟨rfl, d', m, os, hpi, hso, rfl⟩
 have hsz : d'.size = ys.length := by rw [hpi.1, List.size_toArray]
 have hpp : d'.toList.Perm ys := by
  have h1 := hpi.2.2
  have e1 : d'.extract 0 ys.toArray.size = d' := by rw [← hpi.1]; simp
  have e2 : ys.toArray.extract 0 ys.toArray.size = ys.toArray := by simp
  rw [e1, e2] at h1
  exact h1
 have he : d'.toList = l := sorted_one hok (hpp.trans hp) (fun i j hi hj hij => by
  have h1 := hso i j (Nat.zero_le _) hij (by rw [← hpi.1]; simpa using hj)
  rw [cmp_less, decide_eq_false_iff_not, getElem!_pos d' j (by simpa using hj), getElem!_pos d' i (by simpa using hi)] at h1
  simpa using h1)
 have hd : d' = l.toArray := by rw [← he]
 subst hd
 rw [← hn]
 have := sorted_has (m := m) (os := os) h (show l.length = ys.length from (hp.length_eq).symm)
 exact ⟨rfl, this.1, this.2.1⟩
end Go.Proofs.YtmjifhjhialcbaaGreat
namespace Go.Proofs.YtmjifhjhialcbaaGreat
set_option maxRecDepth 100000
set_option linter.unusedVariables false
open Go.RowKit
attribute [local go_sem] Oper.semAt_some
section
variable {F : Fence} {nn : Nat} {w : World} {ops : Array Oper} {rest : List Oper} {o : Oper} {a : Act} {Q : Exit → Act → World → Prop}
theorem wpListIn_range_tab (hg : o.guard = none) (m : Operand) (t e : TypeId) (hop : o.op = Op.range t m) (ht : Tryz.prog.underlying t = some (.map 2 e)) {b : Nat} {l : List MarkM}
    (hm : a.eval m = .map (some b)) (h : Tab w b l)
    (hK : ∀ w' cnt, TabR w' b w.heap.size l l cnt → w.grownBy w' none → w'.heap.size = w.heap.size + 1 → wpListIn F nn Tryz.prog ops Q rest (a.put o.dst (.pointer (some ⟨w.heap.size, 0, none⟩))) w') :
    wpListIn F nn Tryz.prog ops Q (o :: rest) a w := by
 refine wpListIn_plain hg fun K' hK' => ?_
 obtain ⟨w', hrun, ⟨cnt, r1⟩, r2, r3⟩ := h.range ht
 unfold Oper.wpIn
 refine ⟨by simp [Oper.about, hop], ?_⟩
 rw [Oper.semAt_plain F _ _ (by rw [hop]; intro c hc'; cases hc')]
 simp [execOp, hop, hm, hrun, Result.andThen]
 exact hK' _ _ (hK w' cnt r1 r2 r3)
theorem wpListIn_next_tab (hg : o.guard = none) (it : Operand) (hop : o.op = Op.next it false) {b r cnt : Nat} {l left : List MarkM}
    (hit : a.eval it = .pointer (some ⟨r, 0, none⟩)) (h : TabR w b r l left cnt)
    (hDone : left = [] → wpListIn F nn Tryz.prog ops Q rest (a.put o.dst (.tuple #[.bool false])) w)
    (hMore : ∀ (m : MarkM) (w' : World) (cnt' : Nat), m ∈ left → TabR w' b r l (delT left m.mi) cnt' → cnt' < cnt → w.grownBy w' (some r) → w'.heap.size = w.heap.size →
     (Instr.entry (.pointer (some ⟨r, 0, none⟩))).run Tryz.prog w' = .ok (.tuple #[.int .i64 m.mi, mrkV m]) w' → wpListIn F nn Tryz.prog ops Q rest (a.put o.dst (.tuple #[.bool true, .int .i64 m.mi, mrkV m])) w') :
    wpListIn F nn Tryz.prog ops Q (o :: rest) a w := by
 refine wpListIn_plain hg fun K' hK' => ?_
 unfold Oper.wpIn
 refine ⟨by simp [Oper.about, hop], ?_⟩
 rw [Oper.semAt_plain F _ _ (by rw [hop]; intro c hc'; cases hc')]
 rcases h.next o.type with ⟨h0, hrun⟩ | ⟨m, hm, w', cnt', hrun, r1, r2, r3, r4, r5⟩
 · simp [execOp, hop, hit, hrun, Result.andThen]
   exact hK' _ _ (hDone h0)
 · simp [execOp, hop, hit, hrun, Result.andThen]
   exact hK' _ _ (hMore m w' cnt' hm r1 r2 r3 r4 r5)
end
def encMV (x : MarkM) : Array Value := #[.agg #[.int .i64 x.mc, .int .i64 x.ms, .int .i64 x.mi]]
theorem perm_del {l : List MarkM} (h : Apart l) {m : MarkM} (hm : m ∈ l) : (m :: delT l m.mi).Perm l := by
 induction l with
 | nil => cases hm
 | cons a t ih =>
  obtain ⟨h1, h2⟩ := List.pairwise_cons.1 h
  by_cases e : a.mi = m.mi
  · have : a = m := apart_eq h (by simp) hm e
    subst this
    unfold delT
    rw [List.filter_cons, if_neg (by simp), List.filter_eq_self.2 fun q hq => by simpa using fun h9 : q.mi = a.mi => h1 q hq h9.symm]
  · have hm' : m ∈ t := by
      rcases List.mem_cons.1 hm with rfl | h9
      · exact absurd rfl e
      · exact h9
    unfold delT
    rw [List.filter_cons, if_pos (by simpa using e)]
    exact (List.Perm.swap _ _ _).trans (List.Perm.cons _ (ih h2 hm'))
theorem TabR.apart {w : World} {b r cnt : Nat} {l rest : List MarkM} (h : TabR w b r l rest cnt) : Apart rest := by obtain ⟨_, _, _, _, _, _, h5, _⟩ := h; exact h5
theorem KeepsOthers.walks {W W' : World} (h : KeepsOthers W W') : KeepsWalks W W' := ⟨h.size, fun k o hk hw => h.same k o hk (Obj.not_cells_of_walk hw)⟩
set_option maxHeartbeats 6400000 in
theorem iVals_in (l0 Bm b : Nat) (l : List MarkM) (J Jx : List MarkM → World → Prop) (B9 : Nat) (hJ : AbidesFrom B9 J)
    (hY : ∀ pre x W1, J pre W1 → pre.length < l.length → YieldAt Fence.wide (2 - 1) Tryz.prog l0 (encMV x) W1 fun e W' => (e = .returned (.bool true) ∧ J (pre ++ [x]) W' ∧ KeepsWalks W1 W') ∨ (e = .returned (.bool false) ∧ Jx (pre ++ [x]) W'))
    (W : World) (hB9 : B9 = W.heap.size) (hm : W.cell? ⟨Bm, 0, none⟩ = some (.map (some b))) (ht : Tab W b l) (hj0 : J [] W) :
    CallsIn Fence.wide 2 Tryz.prog 264 #[.func (.yield l0) #[] #[], .pointer (some ⟨Bm, 0, none⟩)] W fun e W' => (∃ v, e = .returned v) ∧
     ((∃ xs, xs.Perm l ∧ J xs W') ∨ (∃ pre : List MarkM, True ∧ Jx pre W')) := by
 refine callsIn_of_wp Tryz.func264 rfl trivial ?_ rfl
 simp only [Tryz.ntmps264, List.size_toArray, List.length_cons, List.length_nil, Nat.reduceAdd, Nat.reduceSub, Array.replicate_succ, Array.replicate_zero, List.push_toArray, List.append_toArray, List.nil_append, List.cons_append]
 gi_wp2_with (first
  | (gi_at_range
     refine wpListIn_range_tab rfl (.tmp 5) 156 113 rfl Tryz.underlying156 (by rfl) ht ?_
     intro w0 cnt0 hrg0 hg0 hs0)
  | gi_in)
 go_frame
 have HJ0 := jd (hJ [] W w0 none hj0 hg0 (fun r e => by cases e))
 have HR0 := jd hrg0
 clear hrg0 hg0 hs0 hm
 gi_loopw [] (fun wr => ∃ (rest : List MarkM) (cnt : Nat) (pre : List MarkM), TabR wr b W.heap.size l rest cnt ∧ (pre ++ rest).Perm l ∧ J pre wr)
  (fun wr => wr.rangeLeft b W.heap.size)
 case atStart => exact ⟨l, cnt0, [], HR0.out, by simp, HJ0.out⟩
 case round =>
  obtain ⟨rest, cnt, pre, hrg, hp, hJs⟩ := hrel
  clear HJ0 HR0
  have HP := jd hp
  have HJ := jd hJs
  have HR := jd hrg
  clear hp hJs hrg
  gi_wp2_with (first
   | (gi_at_next
      refine wpListIn_next_tab rfl (.tmp 6) rfl (by rfl) HR.out ?_ ?_)
   | gi_in)
  · intro he
    have HV := jd (show pre.Perm l by have := HP.out; rwa [he, List.append_nil] at this)
    clear he
    gi_wp2
    go_end0
    exact ⟨⟨_, rfl⟩, .inl ⟨pre, HV.out, HJ.out⟩⟩
  · intro m w2 cnt2 hm2 r2 hlt hg2 hs2 hen
    have HR2 := jd r2
    have HLT := jd hlt
    have HP2 := jd (show ((pre ++ [m]) ++ delT rest m.mi).Perm l by
     rw [List.append_assoc]
     exact (List.Perm.append_left pre (perm_del HR.out.apart hm2)).trans HP.out)
    have HN := jd (show pre.length < l.length by
     have h1 := HP2.out.length_eq
     rw [List.length_append, List.length_append, List.length_singleton] at h1
     omega)
    have HJ2 := hJ pre wr w2 (some W.heap.size) HJ.out hg2 (fun r e => by cases e; exact ⟨by omega, HR.out.walk⟩)
    clear hm2 r2 hlt hg2 hs2
    obtain ⟨x0, x1, x2⟩ := m
    unfold mrkV at hen
    simp only at hen HR2 HP2
    have HJ3 := jd (hJ pre w2 (w2.alloc (.cells #[.int .i64 x0, .int .i64 x1, .int .i64 x2] 113)) none HJ2 (World.grownBy_alloc w2 _ none) (fun r e => by cases e))
    have HR3 := jd (HR2.out.alloc (.cells #[.int .i64 x0, .int .i64 x1, .int .i64 x2] 113))
    obtain ⟨fn, tmps, assign, body, hy, hRR⟩ := hY pre ⟨x0, x1, x2⟩ _ HJ3.out HN.out
    simp only [encMV] at hy
    have HRR := jd hRR
    clear hRR HJ2
    gi_wp2
    refine HRR.out.mono ?_
    rintro e W3 (⟨rfl, hJ3, hk3⟩ | ⟨rfl, hJx3⟩)
    · have G3 := jd hJ3
      have R3 := jd (HR3.out.walks hk3)
      clear hJ3 hk3
      gi_wp2
      go_roundw
      case rel => exact ⟨_, cnt2, _, R3.out, HP2.out, G3.out⟩
      case measure => rw [R3.out.left_eq, HR.out.left_eq]; exact HLT.out
    · have G3 := jd hJx3
      clear hJx3
      gi_wp2
      refine bodyPost_ret (results_none rfl _ _ _) rfl ?_
      exact ⟨⟨_, rfl⟩, .inr ⟨_, trivial, G3.out⟩⟩
theorem iVals_stops (Bm b : Nat) (l : List MarkM) (w : World) (hb : Bm < w.heap.size) (hm : w.cell? ⟨Bm, 0, none⟩ = some (.map (some b))) (ht : Tab w b l) :
    SeqStopsK Fence.wide 2 Tryz.prog 264 #[.pointer (some ⟨Bm, 0, none⟩)] encMV KeepsWalks (fun ys => ys.Perm l) (fun _ => True) l.length w :=
 fun l0 J Jx W hW hJ _ hY hj0 => iVals_in l0 Bm b l J Jx W.heap.size hJ hY W rfl ((hW.cell (p := ⟨Bm, 0, none⟩) hb).trans hm) (ht.keep hW ht.lt) hj0
theorem ow_nil_mrks (w : World) : Ow w [mrkD []] [.slice none 0 0] [] := Ow.row (n := 0) (us := []) (fp1 := []) (fp2 := []) (World.ownsRow_nil w 0 _ _) .nil .nil
def CollM (w : World) (fix : List Item) (b : Nat) (pre : List MarkM) (W : World) : Prop := ∃ (G : Option Addr) (m gc : Nat) (fp : List Nat), m = pre.length ∧ Sep W w.heap.size (.own [mrkD pre] [.slice G m gc] fp :: .blk b #[.slice G m gc] 43 :: fix) ∧ Below w.heap.size w W
theorem collM_own {w : World} {fix : List Item} {b B : Nat} (hB : w.heap.size ≤ B) : OwnFrom B (CollM w fix b) := fun _ _ _ _ hs hg hr => by
 obtain ⟨G, m, gc, fp, h1, h2, h3⟩ := hs
 exact ⟨G, m, gc, fp, h1, h2.turned hg fun r e => (hr r e).2, h3.grown hg h3.size fun k e => Nat.le_trans hB (hr k e).1⟩
theorem CollM.more {w W : World} {fix : List Item} {b : Nat} {pre : List MarkM} (h : CollM w fix b pre W) (o : Obj) : CollM w fix b pre (W.alloc o) := by
 obtain ⟨G, m, gc, fp, h1, h2, h3⟩ := h
 exact ⟨G, m, gc, fp, h1, h2.keep ((Below.refl _ _).alloc (Nat.le_refl _) _), h3.alloc h3.size _⟩
theorem ownFrom_blkM {β : Type} (B Bx : Nat) (cs : Array Value) (t : TypeId) : OwnFrom B (fun (_ : β) W => Blk W Bx cs t) := fun _ W W' row hs hg hr =>
 (hg.block Bx hs.lt (fun e => by
  obtain ⟨_, o, ho, hc⟩ := hr Bx e.symm
  rw [show W.heap[Bx]? = _ from hs] at ho
  injection ho with ho
  rw [← ho] at hc
  cases hc)).trans hs
theorem below_shutM {w W : World} {D : Nat} (c : Below w.heap.size w W) (hD : w.heap.size ≤ D) (hK : W.heap[D]? = some (.deferred (some []))) : Below w.heap.size w (W.putObj D (.deferred none)) :=
 c.trans (belowK_b (w := w) (Nat.le_refl _) W D _ _ hD hK rfl rfl)
set_option maxHeartbeats 6400000 in
theorem iAppendSeqM_any (gf : Nat) (lb : Array Value) (l : List MarkM) (Sp : List MarkM → Prop) (eg : ∀ args w, (callFunc gf args).run Tryz.prog w = .ok (.enter gf args) w) (w : World) (hlen : l.length ≤ 1048576)
    (hseq : SeqStopsK Fence.wide 2 Tryz.prog gf lb encMV KeepsWalks (fun ys => ys.Perm l) Sp l.length w) :
    Calls Tryz.prog 268 #[.slice none 0 0, .func (.func gf) #[] lb] w fun e w' => ∃ ys, ys.Perm l ∧ MadeMarkS w ys e w' := by
 refine (callsIn_wide (n := 3)).1 ?_
 refine callsIn_of_wp_marks Tryz.func268 rfl trivial ?_ rfl
 simp only [Tryz.ntmps268, List.size_toArray, List.length_cons, List.length_nil, Nat.reduceAdd, Nat.reduceSub, Array.replicate_succ, Array.replicate_zero, List.push_toArray, List.append_toArray, List.nil_append, List.cons_append]
 gi_wp2
 have S := Sep.nil w w.heap.size
 have c := Below.refl w.heap.size w
 replace S := S.boxAt c.size (w.heap.size) rfl #[.slice none 0 0] 43
 replace c := al c S
 replace S := S.own0 (ds := [mrkD []]) (vs := [.slice none 0 0]) (ow_nil_mrks _)
 refine wpIn_rangeFunc_ownH rfl (by decide) (gf := gf) (lb := lb) rfl trivial eg hseq walksK_t walksK_b c (fun _ => rfl)
  (CollM w [] w.heap.size)
  (fun _ _ _ => False)
  (collM_own c.size)
  (fun _ _ _ _ _ hs _ _ => hs)
  ⟨none, 0, 0, [], rfl, S, c⟩
  (fun x a' W => ∃ Bx, Blk W Bx #[.int .i64 x.mc, .int .i64 x.ms, .int .i64 x.mi] 113 ∧ a' = { tmps := #[.slice none 0 0, .func (.func gf) #[] lb, .pointer (some ⟨w.heap.size, 0, none⟩), undef, .slice none 0 0, .pointer (some ⟨Bx, 0, none⟩), .func (.func gf) #[] lb, .agg #[.int .i64 x.mc, .int .i64 x.ms, .int .i64 x.mi], undef, undef, undef, undef, undef], defers := [] })
  ?hAx ?assign ?body ?done ?stop
 case hAx =>
  rintro x a' s W W' row ⟨Bx, h1, h2⟩ hg hr
  exact ⟨Bx, ownFrom_blkM (β := Unit) _ _ _ _ () W W' row h1 hg hr, h2⟩
 case assign =>
  rintro l1 pre x W K hI hK
  simp only [encMV]
  gi_wp2
  exact hK _ _ ((KeepsOthers.alloc _ _).from _) (KeepsOthers.walks (KeepsOthers.alloc _ _)) (hI.more _) ⟨W.heap.size, Blk.new _ _ _, rfl⟩
 case body =>
  rintro l1 pre x a' W hl _ ⟨G, m, gc, fp, hg, S, cI⟩ ⟨Bx, hBx, rfl⟩ hlt
  have hm : m ≤ 1048577 := by
   have hg' : m = pre.length := hg
   omega
  obtain ⟨e0, e1, e2⟩ := x
  simp only at hBx S
  have HG := jd hg
  have X0 := (hBx.cell 0)
  have X1 := (hBx.cell 1)
  have X2 := (hBx.cell 2)
  simp only [List.getElem?_toArray, List.getElem?_cons_zero, List.getElem?_cons_succ] at X0 X1 X2
  have f0 := lk S 1 0 rfl rfl
  have S1 := S.boxAt cI.size (W.heap.size) rfl #[.int .i64 e0, .int .i64 e1, .int .i64 e2] 113
  have c1 := cI.alloc cI.size (.cells #[.int .i64 e0, .int .i64 e1, .int .i64 e2] 113)
  have K1 := jd (KeepsOthers.alloc W (.cells #[.int .i64 e0, .int .i64 e1, .int .i64 e2] 113))
  have Q1 := jd ((Below.refl w.heap.size W).alloc cI.size (.cells #[.int .i64 e0, .int .i64 e1, .int .i64 e2] 113))
  have HC : ∀ i, i < 3 → (W.alloc (.cells #[.int .i64 e0, .int .i64 e1, .int .i64 e2] 113)).cell? ⟨W.heap.size, i, none⟩ = [Value.int .i64 e0, Value.int .i64 e1, Value.int .i64 e2][i]? := fun i hi => by
   have h1 := (S1.at_ 0 rfl).cell i
   rw [h1]
   simp
  replace S1 := (S1.tail).own0 (ds := mrkC (⟨e0, e1, e2⟩ : MarkM)) (vs := [.int .i64 e0, .int .i64 e1, .int .i64 e2]) (.int (.int (.int .nil)))
  replace S1 := S1.swap
  clear hBx S c hg
  gi_wp2_with (first
   | (gi_at_builtin
      refine wpListIn_append_elem (l := pre) (y := (⟨e0, e1, e2⟩ : MarkM)) rfl (.tmp 8) (.tmp 10) (by rfl) Tryz.underlying43 infoMark (by rfl) (by decide) mrkC_len (by rfl) (S1.own_ 0 rfl) (S1.nodup_own 0 rfl) (by rfl) HC (S1.own_ 1 rfl) (S1.nodup_own 1 rfl) S1.apart (by omega) (by omega) ?_
      intro A3 c3 w3 fp3 o3 n3 s3 t3
      have S3 := S1.merge t3 o3 n3 s3 c1.size
      have g0 := (S3.at_ 1 rfl).cell 0
      have g1 := (S3.at_ 1 rfl).free 0))
  have HS := jd (S3.put 1 rfl 0 (.slice A3 (m + 1) c3))
  have HK := jd ((K1.out.trans (keeps_own t3 (S1.own_ 0 rfl))).trans (KeepsOthers.setCell w3 ⟨w.heap.size, 0, none⟩ (.slice A3 (m + 1) c3)))
  have HQ := jd ((Q1.out.trans (S1.below 0 rfl t3 c1.size)).setCell (p := ⟨w.heap.size, 0, none⟩) (Nat.le_refl _) (.slice A3 (m + 1) c3))
  exact ⟨HK.out.from _, KeepsOthers.walks HK.out, A3, m + 1, c3, fp3, by rw [HG.out, List.length_append, List.length_singleton], HS.out, cI.trans HQ.out⟩
 case done =>
  rintro D ys W hD hys ⟨G, m, gc, fp, hg, S, cI⟩ hK
  have f0 := lk S 1 0 rfl rfl
  have HS := jd (S.putObj (.deferred none) hK rfl).first
  have HC := jd (below_shutM cI (Nat.le_trans (by simp) hD) hK)
  have HK := jd hK
  have HG := jd hg
  have HY := jd hys
  clear S cI hK hg hys
  gi_wp2
  refine ⟨by simp, .inl ⟨_, _, rfl, run_takeDeferred HK.out, ?_⟩⟩
  exact ⟨_, results_tmp rfl _ _ _, ys, HY.out, G, m, gc, rfl, HS.out, HC.out⟩
 case stop =>
  rintro D c pre W _ _ h _
  exact h.elim
theorem iCollectM_any (gf : Nat) (lb : Array Value) (l : List MarkM) (Sp : List MarkM → Prop) (eg : ∀ args w, (callFunc gf args).run Tryz.prog w = .ok (.enter gf args) w) (w : World) (hlen : l.length ≤ 1048576)
    (hseq : SeqStopsK Fence.wide 2 Tryz.prog gf lb encMV KeepsWalks (fun ys => ys.Perm l) Sp l.length w) :
    Calls Tryz.prog 262 #[.func (.func gf) #[] lb] w fun e w' => ∃ ys, ys.Perm l ∧ MadeMarkS w ys e w' := by
 have hc := iAppendSeqM_any gf lb l Sp eg w hlen hseq
 clear hseq
 go_enter Tryz.func262, Tryz.ntmps262
 go_wp2_with fail
 refine hc.mono ?_
 rintro e w2 ⟨ys, hp, A, n, c, rfl, hh, hb⟩
 have HH := jd hh
 have HB := jd hb
 have HP := jd hp
 clear hh hb hp hc
 go_wp2
 go_ret
 exact ⟨ys, HP.out, A, n, c, rfl, HH.out, HB.out⟩
theorem iInsert_none (p : Option Addr) (cap : Nat) (fv : Value) (w : World) : Calls Tryz.prog 272 #[.slice p 0 cap, .int .i64 0, .int .i64 0, fv] w fun e w' => e = .returned (.tuple #[]) ∧ w' = w := by
 go_enter Tryz.func272, Tryz.ntmps272
 go_wp2
 refine wp_loop_rounds 1 ?_
 rw [rounds_succ]
 go_wp2
 go_end0
 exact ⟨rfl, rfl⟩
theorem iPdq_none (p : Option Addr) (cap : Nat) (lim : Int) (fv : Value) (w : World) : Calls Tryz.prog 269 #[.slice p 0 cap, .int .i64 0, .int .i64 0, .int .i64 lim, fv] w fun e w' => e = .returned (.tuple #[]) ∧ w' = w := by
 have hi := iInsert_none p cap fv
 go_enter Tryz.func269, Tryz.ntmps269
 go_wp2
 refine wp_loop_rounds 1 ?_
 rw [rounds_succ]
 go_wp2_with (first | (go_at_call 272; refine (hi _).mono ?_; rintro e w' ⟨rfl, rfl⟩))
 (try simp only [Exit.inBlock, Exit.then]); refine bodyPost_ret (results_none rfl _ _ _) rfl ?_
 exact ⟨rfl, rfl⟩
theorem iSortFunc_none (p : Option Addr) (cap : Nat) (fv : Value) (w : World) : Calls Tryz.prog 263 #[.slice p 0 cap, fv] w fun e w' => e = .returned (.tuple #[]) ∧ w' = w := by
 have hp := fun lim W => iPdq_none p cap lim fv W
 have hl := fun W => bits_len 0 W (by decide)
 go_enter Tryz.func263, Tryz.ntmps263
 go_wp2_with (first | (go_at_call 270; refine (hl _).mono ?_; rintro e w' ⟨⟨q, rfl⟩, rfl⟩) | (go_at_call 269; refine (hp _ _).mono ?_; rintro e w' ⟨rfl, rfl⟩))
 go_end0
 exact ⟨rfl, rfl⟩
theorem iSortAny {base n cap : Nat} {A : Option Addr} {l ys : List MarkM} (w : World) (hB : base ≤ w.heap.size) (h : Has w base [mrkD ys] [.slice A n cap]) (hp : ys.Perm l) (hok : seenB l = true) :
    Calls Tryz.prog 263 #[.slice A n cap, .func (.func 258) #[] #[]] w fun e w' => e = .returned (.tuple #[]) ∧ Has w' base [mrkD l] [.slice A n cap] ∧ Below base w w' := by
 obtain ⟨A', n', c', e, hl, _, _, hel⟩ := h.rd.mrks
 injection e with e1 e2 e3
 subst e1 e2 e3
 rcases Nat.eq_zero_or_pos n with h0 | h0
 · subst h0
   have hy : ys = [] := List.length_eq_zero_iff.1 hl
   subst hy
   have hll : l = [] := List.Perm.nil_eq hp |>.symm
   subst hll
   refine (iSortFunc_none A cap _ w).mono ?_
   rintro e w' ⟨rfl, rfl⟩
   exact ⟨rfl, h, Below.refl _ _⟩
 · obtain ⟨fp, ho, hn, hge⟩ := h
   obtain ⟨us, fp1, h1, _, _⟩ := Ow.lst (k := 3) mrkC_len (by decide) ho
   rcases h1.2 with ⟨h2, _⟩ | ⟨g, cp, cur, hv, _⟩
   · injection h2 with _ h2 _
     omega
   · injection hv with a1 a2 a3
     subst a1
     exact iSortFunc_any w ⟨fp, ho, hn, hge⟩ hp hok
set_option maxHeartbeats 3200000 in
theorem iMarks_any (b : Nat) (l : List MarkM) (w : World) (h : Tab w b l) (hok : seenB l = true) : Calls Tryz.prog 249 #[.map (some b)] w (MadeMarkS w l) := by
 have H := jd h
 have HO := jd hok
 have hbl := h.lt
 have eg : ∀ args w, (callFunc 264 args).run Tryz.prog w = .ok (.enter 264 args) w := enters_of Tryz.func264 (by kernel_rfl) rfl
 have hv : Calls Tryz.prog 257 #[.map (some b)] w fun e w' => e = .returned (.func (.func 264) #[] #[.pointer (some ⟨w.heap.size, 0, none⟩)]) ∧ w' = w.alloc (.cells #[.map (some b)] 156) := by
  go_enter Tryz.func257, Tryz.ntmps257
  go_wp2
  go_ret
  exact ⟨rfl, rfl⟩
 have c1 := jd ((Below.refl w.heap.size w).alloc (Nat.le_refl _) (.cells #[.map (some b)] 156))
 have hsq := iVals_stops w.heap.size b l (w.alloc (.cells #[.map (some b)] 156)) (by simp) ((Blk.new w #[.map (some b)] 156).cell 0) (h.keep c1.out hbl)
 have hcl := iCollectM_any _ _ l _ eg (w.alloc (.cells #[.map (some b)] 156)) (Nat.le_trans (seen_len hok) (by decide)) hsq
 clear h hsq hok
 have hsf : Calls Tryz.prog 256 #[.func (.func 264) #[] #[.pointer (some ⟨w.heap.size, 0, none⟩)], .func (.func 258) #[] #[]] (w.alloc (.cells #[.map (some b)] 156)) (fun e w' => MadeMarkS w l e w') := by
  go_enter Tryz.func256, Tryz.ntmps256
  go_wp2_with fail
  refine hcl.mono ?_
  rintro e w2 ⟨ys, hp, A, n, c, rfl, hh, hb⟩
  have HB := jd (c1.out.trans (hb.mono c1.out.size))
  have HH := jd (hh.up c1.out.size)
  have hs := iSortAny w2 HB.out.size HH.out hp HO.out
  clear hh hb hp hcl
  go_wp2_with fail
  refine hs.mono ?_
  rintro e w3 ⟨rfl, h3, b3⟩
  have H3 := jd h3
  have B3 := jd (HB.out.trans b3)
  clear h3 b3 hs
  go_wp2
  go_ret
  exact ⟨A, n, c, rfl, H3.out, B3.out⟩
 clear hcl
 go_enter Tryz.func249, Tryz.ntmps249
 go_wp2_with fail
 refine hv.mono ?_
 rintro e w2 ⟨rfl, rfl⟩
 go_wp2_with fail
 refine hsf.mono ?_
 rintro e w3 ⟨A, n, c, rfl, h3, b3⟩
 have H3 := jd h3
 have B3 := jd b3
 clear h3 b3 hsf hv
 go_wp2
 go_ret
 exact ⟨A, n, c, rfl, H3.out, B3.out⟩
end Go.Proofs.YtmjifhjhialcbaaGreat
