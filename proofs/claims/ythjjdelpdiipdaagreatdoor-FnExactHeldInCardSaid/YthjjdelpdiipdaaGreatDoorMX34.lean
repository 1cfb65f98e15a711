/- Parts of my texts: MarkI5. -/
import Derived.Test.YthjjdelpdiipdaaGreatDoorMX33
namespace Go.Proofs.YthjjdelpdiipdaaGreatDoor
set_option maxRecDepth 100000
set_option linter.unusedVariables false
open Go.RowKit
instance markInh : Inhabited MarkM := ⟨mark0⟩
def encMk (x : MarkM) : List Value := ivals (mrkNs x)
def cmpMk (x y : MarkM) : Int := cmpI x.mc y.mc
theorem encMk_len (x : MarkM) : (encMk x).length = 3 := rfl
theorem encMk_flat (l : List MarkM) : l.flatMap encMk = ivals (l.flatMap mrkNs) := by
 unfold ivals
 rw [List.map_flatMap]
 rfl
theorem encMk_at (l : List MarkM) {j c : Nat} (hj : j < l.length) (hc : c < 3) : (l.flatMap encMk)[j * 3 + c]? = (encMk l[j])[c]? := by
 have h1 : l.flatMap encMk = (l.take j).flatMap encMk ++ (encMk l[j] ++ (l.drop (j + 1)).flatMap encMk) := by
  have e1 : l = l.take j ++ (l[j] :: l.drop (j + 1)) := by rw [← List.drop_eq_getElem_cons hj, List.take_append_drop]
  conv => lhs; rw [e1]
  rw [List.flatMap_append, List.flatMap_cons]
 have h2 : ((l.take j).flatMap encMk).length = j * 3 := by
  have : ∀ L : List MarkM, (L.flatMap encMk).length = L.length * 3 := fun L => by
   induction L with
   | nil => rfl
   | cons a t ih => rw [List.flatMap_cons, List.length_append, ih, List.length_cons, encMk_len]; omega
  rw [this, List.length_take]
  omega
 rw [h1, List.getElem?_append_right (by omega), h2, show j * 3 + c - j * 3 = c by omega, List.getElem?_append_left (by rw [encMk_len]; omega)]
theorem encMk_all (l : List MarkM) : (l.flatMap encMk).length = l.length * 3 := by
 induction l with
 | nil => rfl
 | cons a t ih => rw [List.flatMap_cons, List.length_append, ih, List.length_cons, encMk_len]; omega
theorem flat_eq (l : List MarkM) : Go.Sort.flatK encMk 3 l.toArray = (l.flatMap encMk).toArray := by
 apply Array.ext
 · rw [Go.Sort.size_flatK, List.size_toArray, List.size_toArray, encMk_all]
 · intro t h1 h2
   have h3 : t < l.length * 3 := by rw [Go.Sort.size_flatK, List.size_toArray] at h1; exact h1
   have hj : t / 3 < l.length := by omega
   have hc : t % 3 < 3 := by omega
   have h4 := Go.Sort.get_flatK encMk 3 l.toArray t (by rw [List.size_toArray]; exact h3)
   rw [getElem!_pos _ t h1] at h4
   rw [h4]
   have h5 := encMk_at l hj hc
   rw [show t / 3 * 3 + t % 3 = t by omega] at h5
   have h6 : t < (l.flatMap encMk).length := by rw [encMk_all]; exact h3
   rw [List.getElem?_eq_getElem h6, List.getElem?_eq_getElem (by rw [encMk_len]; exact hc)] at h5
   injection h5 with h5
   have h7 : l.toArray[t / 3]! = l[t / 3] := by rw [getElem!_pos l.toArray (t / 3) (by simpa using hj)]; simp
   rw [h7, getElem!_pos (encMk l[t / 3]) (t % 3) (by rw [encMk_len]; exact hc), ← h5]
   simp
theorem free_own {w : World} {g cap n : Nat} {l : List MarkM} {fp : List Nat} (h : Ow w [mrkD l] [.slice (some ⟨g, 0, none⟩) n cap] fp) : ∃ cur : Array Value, w.heap[g]? = some (.cells cur 114 (0, 0)) ∧ l.length = n ∧ n ≤ cap ∧ cap ≤ maxLen ∧ cur.size = cap * 3 ∧ cur.toList.take (n * 3) = l.flatMap encMk ∧ fp = [g] := by
 obtain ⟨us, fp1, h1, h2, hfp⟩ := Ow.lst (k := 3) mrkC_len (by decide) h
 have h3 : us = l.flatMap encMk ∧ fp1 = [] := by
  have : ∀ (L : List MarkM) (us : List Value) (f : List Nat), Ow w (L.flatMap mrkC) us f → us = L.flatMap encMk ∧ f = [] := fun L => by
   induction L with
   | nil => intro us f h; cases h; exact ⟨rfl, rfl⟩
   | cons a t ih =>
    intro us f h
    rw [List.flatMap_cons] at h
    obtain ⟨v1, v2, f1, f2, rfl, rfl, o1, o2⟩ := Ow.split h
    obtain ⟨rfl, rfl⟩ := ih _ _ o2
    have hl := o1.len
    match v1, hl with
    | [u0, u1, u2], _ =>
     obtain ⟨rfl, rfl, rfl, rfl⟩ := o1.mrk
     exact ⟨rfl, rfl⟩
  exact this l us fp1 h2
 obtain ⟨rfl, rfl⟩ := h3
 rcases h1.2 with ⟨h0, _⟩ | ⟨g', cap', cur, hv, _, hb, hnc, hm, hcs, htk⟩
 · cases h0
 · injection hv with a1 a2 a3
   injection a1 with a1
   injection a1 with a1 _
   subst a1 a3
   exact ⟨cur, hb, a2.symm, by omega, hm, hcs, by rw [a2]; exact htk, by rw [hfp]; simp [Value.ownBlock]⟩
theorem sorted_heap {w : World} {g m : Nat} {cur : Array Value} {t : TypeId} {d : Array MarkM} {os : Array Obj} (hb : w.heap[g]? = some (.cells cur t (0, 0))) :
    (sortWorldK encMk 3 w g 0 m d os).heap[g]? = some (.cells (Go.Sort.putCells id 0 (Go.Sort.flatK encMk 3 d) cur) t (0, 0)) := by
 have hlt := (Array.getElem?_eq_some_iff.1 hb).1
 have hev := (Array.getElem?_eq_some_iff.1 hb).2
 show ((w.heap.modify g (Go.Sort.onCells (Go.Sort.putCells id 0 (Go.Sort.flatK encMk 3 d)))) ++ os)[g]? = _
 rw [Array.getElem?_append_left (by rw [Array.size_modify]; exact hlt), Array.getElem?_eq_getElem (by rw [Array.size_modify]; exact hlt), Array.getElem_modify_self, hev]
 rfl
theorem sorted_touch (w : World) (g m : Nat) (d : Array MarkM) (os : Array Obj) : Touch [g] w (sortWorldK encMk 3 w g 0 m d os) := by
 refine ⟨rfl, rfl, rfl, ?_, fun k hk hn => ?_⟩
 · show w.heap.size ≤ ((w.heap.modify g _) ++ os).size
   rw [Array.size_append, Array.size_modify]
   omega
 · show ((w.heap.modify g (Go.Sort.onCells (Go.Sort.putCells id 0 (Go.Sort.flatK encMk 3 d)))) ++ os)[k]? = _
   have hne : g ≠ k := fun e => hn (by simp [e])
   rw [Array.getElem?_append_left (by rw [Array.size_modify]; exact hk), Array.getElem?_modify, if_neg hne]
theorem putCells_take {l : List MarkM} {cur : Array Value} {n cap : Nat} (hl : l.length = n) (hn : n ≤ cap) (hs : cur.size = cap * 3) : (Go.Sort.putCells id 0 (Go.Sort.flatK encMk 3 l.toArray) cur).toList.take (n * 3) = l.flatMap encMk := by
 rw [flat_eq]
 apply List.ext_getElem?
 intro t
 have hlen := encMk_all l
 by_cases ht : t < n * 3
 · rw [List.getElem?_take, if_pos ht, Array.getElem?_toList]
   unfold Go.Sort.putCells
   rw [Array.getElem?_mapIdx, Array.getElem?_eq_getElem (by omega), List.getElem?_eq_getElem (by omega)]
   simp only [Option.map_some, Option.some.injEq]
   rw [if_pos ⟨Nat.zero_le _, by rw [List.size_toArray]; omega⟩, Nat.sub_zero, getElem!_pos _ t (by rw [List.size_toArray]; omega)]
   simp
 · rw [List.getElem?_eq_none (by rw [List.length_take]; omega), List.getElem?_eq_none (by omega)]
theorem sorted_has {w : World} {base g n cap m : Nat} {l l' : List MarkM} {os : Array Obj} (h : Has w base [mrkD l] [.slice (some ⟨g, 0, none⟩) n cap]) (hl : l'.length = l.length) :
    Has (sortWorldK encMk 3 w g 0 m l'.toArray os) base [mrkD l'] [.slice (some ⟨g, 0, none⟩) n cap] ∧ Below base w (sortWorldK encMk 3 w g 0 m l'.toArray os) ∧ g < w.heap.size := by
 obtain ⟨fp, ho, hn, hge⟩ := h
 obtain ⟨cur, hb, h1, h2, h3, h4, h5, rfl⟩ := free_own ho
 have hlt := (Array.getElem?_eq_some_iff.1 hb).1
 have hbg := hge g (by simp)
 refine ⟨⟨[g], ?_, by simp, hge⟩, (sorted_touch w g m l'.toArray os).below (by simpa using hbg) (by omega), hlt⟩
 have ho' : Ow (sortWorldK encMk 3 w g 0 m l'.toArray os) (l'.flatMap mrkC) (l'.flatMap encMk) [] := by
  rw [encMk_flat]
  exact ow_flat mrk_flat _ _
 exact Ow.row (k := 3) (n := n) (us := l'.flatMap encMk) (fp1 := []) (fp2 := []) ⟨by rw [encMk_all, hl, h1], .inr ⟨g, cap, _, rfl, Nat.zero_le _, sorted_heap hb, h2, h3, by unfold Go.Sort.putCells; rw [Array.size_mapIdx]; exact h4, putCells_take (hl.trans h1) h2 h4⟩⟩ ho' .nil
theorem holds_own {w : World} {base g n cap : Nat} {l : List MarkM} (h : Has w base [mrkD l] [.slice (some ⟨g, 0, none⟩) n cap]) : Go.Sort.HoldsK encMk 3 w g 0 l.toArray := by
 obtain ⟨fp, ho, _, _⟩ := h
 obtain ⟨cur, hb, h1, h2, _, h4, h5, _⟩ := free_own ho
 intro t ht
 rw [flat_eq] at ht ⊢
 rw [List.size_toArray, encMk_all] at ht
 have hb' : Blk w g cur 114 := hb
 rw [Nat.zero_add]
 refine ⟨(hb'.cell t).trans ?_, hb'.free t⟩
 have h6 : (cur.toList.take (n * 3))[t]? = (l.flatMap encMk)[t]? := by rw [h5]
 rw [List.getElem?_take, if_pos (by omega), Array.getElem?_toList] at h6
 rw [h6, List.getElem?_eq_getElem (by rw [encMk_all]; exact ht), getElem!_pos _ t (by rw [List.size_toArray, encMk_all]; exact ht)]
 simp
theorem iByClient_any (x y : MarkM) (W : World) : Calls Tryz.prog 161 #[.agg (encMk x).toArray, .agg (encMk y).toArray] W fun e w' => e = .returned (.int .i64 (cmpMk x y)) ∧ ∃ q os', w' = Go.Sort.grow (W.drewN q) os' := by
 obtain ⟨x0, x1, x2⟩ := x
 obtain ⟨y0, y1, y2⟩ := y
 have hcon := fun W' => iCompare_any x0 y0 W'
 unfold cmpMk
 show Calls Tryz.prog 161 #[.agg #[.int .i64 x0, .int .i64 x1, .int .i64 x2], .agg #[.int .i64 y0, .int .i64 y1, .int .i64 y2]] W fun e w' => e = .returned (.int .i64 (cmpI x0 y0)) ∧ ∃ q os', w' = Go.Sort.grow (W.drewN q) os'
 generalize cmpI x0 y0 = r at hcon ⊢
 go_enter Tryz.func161, Tryz.ntmps161
 go_wp2_with (go_at_call 178; refine (hcon _).mono ?_; rintro e w' ⟨rfl, rfl⟩)
 go_ret
 exact ⟨rfl, 0, _, by rw [Go.Sort.alloc_eq_grow, Go.Sort.alloc_eq_grow, Go.Sort.grow_grow]; rfl⟩
theorem cmp_less (x y : MarkM) : ltOf cmpMk x y = decide (x.mc < y.mc) := by
 unfold ltOf cmpMk cmpI
 rw [decide_eq_decide]
 split
 · omega
 · split <;> omega
theorem cmp_order : Go.Sort.SWO (ltOf cmpMk) := by
 refine ⟨fun x => ?_, fun x y z h1 h2 => ?_, fun x y z h1 h2 => ?_⟩ <;> simp only [cmp_less] at * <;> simp only [decide_eq_true_eq, decide_eq_false_iff_not] at * <;> omega
theorem bits_len (n : Nat) (W : World) (h : n ≤ 12) : Calls Tryz.prog 186 #[.int .u64 n] W fun e w' => (∃ l : Int, e = .returned (.int .i64 l)) ∧ w' = W :=
 (Any.bits_Len bln n W (by omega) (by omega)).mono fun _ _ ⟨he, hw⟩ => ⟨⟨_, he⟩, hw⟩
theorem sorted_one {l l' : List MarkM} (h : seenB l = true) (hp : l'.Perm l) (hs : ∀ i j (hi : i < l'.length) (hj : j < l'.length), i < j → ¬ l'[j].mc < l'[i].mc) : l' = l := by
 refine List.Perm.eq_of_pairwise (le := fun a b => a.mc ≤ b.mc) (fun a b ha hb h1 h2 => ?_) ?_ ?_ hp
 · exact solo_eq (seen_solo h) (hp.mem_iff.1 ha) hb (Int.le_antisymm h1 h2)
 · rw [List.pairwise_iff_getElem]
   intro i j hi hj hij
   have := hs i j hi hj hij
   omega
 · exact (seen_pairs h).2.1.imp fun {a b} hab => Int.le_of_lt hab
theorem iSortFunc_any {base g n cap : Nat} {l ys : List MarkM} (w : World) (h : Has w base [mrkD ys] [.slice (some ⟨g, 0, none⟩) n cap]) (hp : ys.Perm l) (hok : seenB l = true) :
    Calls Tryz.prog 176 #[.slice (some ⟨g, 0, none⟩) n cap, .func (.func 161) #[] #[]] w fun e w' => e = .returned (.tuple #[]) ∧ Has w' base [mrkD l] [.slice (some ⟨g, 0, none⟩) n cap] ∧ Below base w w' := by
 have hn : n = ys.length := by
  obtain ⟨fp, ho, _⟩ := h
  obtain ⟨_, _, h1, _⟩ := free_own ho
  exact h1.symm
 have hlen : ys.length ≤ 4 := by rw [hp.length_eq]; exact seen_len hok
 have hg := (sorted_has (m := 0) (os := #[]) h rfl).2.2
 have eg : ∀ args w, (callFunc 161 args).run Tryz.prog w = .ok (.enter 161 args) w := enters_of Tryz.func161 (by kernel_rfl) rfl
 have hcmp : CmpLays Tryz.prog 161 #[] encMk 3 cmpMk g 0 ys.toArray.size w := fun _ _ _ _ x y => iByClient_any x y _
 have hcon := AnyQ.slices_SortFunc_small_sorted srt 3 Tryz.isAgg114 Tryz.sizeOf114 encMk encMk_len (fun x v hv => by simp [encMk, ivals, mrkNs] at hv; rcases hv with rfl | rfl | rfl <;> rfl) cmpMk 161 #[] cmp_order g 0 cap ys.toArray w eg hcmp (holds_own h) hg (by rw [List.size_toArray]; omega) bits_len
 rw [hn]
 have hcon : Calls Tryz.prog 176 #[.slice (some ⟨g, 0, none⟩) ys.length cap, .func (.func 161) #[] #[]] w _ := hcon
 refine hcon.mono ?_
 rintro e w' ⟨rfl, d', m, os, hpi, hso, rfl⟩
 have hsz : d'.size = ys.length := by rw [hpi.1, List.size_toArray]
 have hpp : d'.toList.Perm ys := by
  have h1 := hpi.2.2
  have e1 : d'.extract 0 ys.toArray.size = d' := by rw [← hpi.1]; simp
  have e2 : ys.toArray.extract 0 ys.toArray.size = ys.toArray := by simp
  rw [e1, e2] at h1
  exact h1
 have he : d'.toList = l := sorted_one hok (hpp.trans hp) (fun i j hi hj hij => by
  have h1 := hso i j (Nat.zero_le _) hij (by rw [← hpi.1]; simpa using hj)
  rw [cmp_less, decide_eq_false_iff_not, getElem!_pos d' j (by simpa using hj), getElem!_pos d' i (by simpa using hi)] at h1
  simpa using h1)
 have hd : d' = l.toArray := by rw [← he]
 subst hd
 rw [← hn]
 have := sorted_has (m := m) (os := os) h (show l.length = ys.length from (hp.length_eq).symm)
 exact ⟨rfl, this.1, this.2.1⟩
end Go.Proofs.YthjjdelpdiipdaaGreatDoor
