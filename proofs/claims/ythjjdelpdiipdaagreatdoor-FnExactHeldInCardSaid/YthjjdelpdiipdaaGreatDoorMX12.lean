/- Parts of my texts: OrdT LawLogOk LetN. -/
import Derived.Test.YthjjdelpdiipdaaGreatDoorMX11
import Derived.Deep.RegionHeld3
namespace Go.Proofs.YthjjdelpdiipdaaGreatDoor
set_option maxRecDepth 100000
set_option linter.unusedVariables false
section
variable {P : Program} {ops : Array Oper} {Q : Exit → Act → World → Prop} {md : Region.Mode} {F : World → Prop} {last : Nat}
def Closed (md : Region.Mode) (ops : Array Oper) (listed : Array Bool) : Prop := ∀ j o, ops[j]? = some o → listed.getD j true = true → ∀ e ∈ o.after, Region.binds md e = true → listed.getD e.on false = true
def closedB (md : Region.Mode) (ops : Array Oper) (listed : Array Bool) : Bool :=
 (List.range ops.size).all fun j => !listed.getD j true || ((ops[j]?).map (·.after.all fun e => !Region.binds md e || listed.getD e.on false)).getD true
theorem closed_of {listed : Array Bool} (h : closedB md ops listed = true) : Closed md ops listed := by
 intro j o hj hl e he hb
 have hs : j < ops.size := by
  rcases Nat.lt_or_ge j ops.size with h1 | h1
  · exact h1
  · rw [Array.getElem?_eq_none h1] at hj; cases hj
 have h1 := List.all_eq_true.1 h j (List.mem_range.2 hs)
 rw [hl, hj] at h1
 simp only [Bool.not_true, Bool.false_or, Option.map_some, Option.getD_some] at h1
 rw [Array.all_eq_true'] at h1
 have h2 := h1 e he
 rw [hb] at h2
 simpa using h2
def chainB (md : Region.Mode) (ops : Array Oper) : Nat → List Nat → Nat → Bool
 | k, [], i => waitsFor md ops k i
 | k, x :: r, i => waitsFor md ops k x && chainB md ops x r i
theorem getD_either {l : Array Bool} {i : Nat} (h : l.getD i true = false) : l.getD i false = false := by
 rcases Nat.lt_or_ge i l.size with h' | h'
 · simp [h'] at h ⊢; exact h
 · simp [Array.getElem?_eq_none h'] at h
theorem chain_not {i : Nat} {l : Array Bool} (hc : Closed md ops l) (hi : l.getD i false = false) : ∀ (r : List Nat) (k : Nat), chainB md ops k r i = true → ∃ ok, ops[k]? = some ok ∧ ∃ e ∈ ok.after, Region.binds md e = true ∧ l.getD e.on false = false := by
 intro r
 induction r with
 | nil =>
  intro k h
  obtain ⟨o, ho, e, he, hb, hon⟩ := waits_spec h
  exact ⟨o, ho, e, he, hb, by rw [hon]; exact hi⟩
 | cons x r ih =>
  intro k h
  simp only [chainB, Bool.and_eq_true] at h
  obtain ⟨o, ho, e, he, hb, hon⟩ := waits_spec h.1
  refine ⟨o, ho, e, he, hb, ?_⟩
  obtain ⟨ox, hox, e2, he2, hb2, hn2⟩ := ih x h.2
  rw [hon]
  rcases hx : l.getD x false with _ | _
  · rfl
  · have h3 : l.getD x true = true := by
      rcases Nat.lt_or_ge x l.size with h' | h'
      · simp [h'] at hx ⊢; exact hx
      · simp [Array.getElem?_eq_none h'] at hx
    have h4 := hc x ox hox h3 e2 he2 hb2
    rw [hn2] at h4
    cases h4
theorem closed_set {l : Array Bool} {j : Nat} (hc : Closed md ops l) (hj : j ∈ Region.ready md ops l) : Closed md ops (l.setIfInBounds j true) := by
 obtain ⟨hjun, oj, hoj, hall⟩ := mem_ready.1 hj
 have hup : ∀ k, l.getD k false = true → (l.setIfInBounds j true).getD k false = true := fun k hk => by
  by_cases hjk : j = k
  · subst hjk
    rw [getD_either hjun] at hk
    cases hk
  · rw [getD_set_ne false hjk]
    exact hk
 intro k o hk hl e he hb
 by_cases hjk : j = k
 · subst hjk
   rw [hoj] at hk
   injection hk with hk
   subst hk
   exact hup _ (hall e he hb)
 · rw [getD_set_ne true hjk] at hl
   exact hup _ (hc k o hk hl e he hb)
theorem wpAnyL_firstT {i : Nat} {oi : Oper} {v : Value} {r : List Nat} (hi : ops[i]? = some oi) (hil : i ≠ last) (hch : chainB md ops last r i = true)
    (hsel : ∀ (j : Nat) (o : Oper) cs b, ops[j]? = some o → o.op ≠ .select cs b)
    (hQ : ∀ c a w, Q (.panic c) (a.put oi.dst v) w → Q (.panic c) a w) :
    ∀ (fuel : Nat) (listed : Array Bool) (a : Act) (w : World), Closed md ops listed →
     (∀ j oj, ops[j]? = some oj → j ≠ i → listed.getD j true = false → (∀ e ∈ oj.after, Region.binds md e = true → e.on ≠ i) → oi.apart ops oj = true) →
     i ∈ Region.ready md ops listed → YieldsIf P ops F oi v a → listed.getD last true = false → F w →
     wpAnyL P md ops Q F last fuel (listed.setIfInBounds i true) (a.put oi.dst v) w → wpAnyL P md ops Q F last (fuel + 1) listed a w := by
 intro fuel
 induction fuel with
 | zero =>
  intro listed a w _ _ hr hy _ hS H
  refine ⟨fun h => (by rw [h] at hr; cases hr), fun j hj => ?_⟩
  by_cases hji : j = i
  · subst hji; exact hy.wpOp hi hS ⟨fun _ => hS, H⟩
  · have := ready_mono hj hji
    rw [H.1] at this
    cases this
 | succ fuel ih =>
  intro listed a w hcl hfree hr hy hlast hS H
  refine ⟨fun h => (by rw [h] at hr; cases hr), fun j hj => ?_⟩
  by_cases hji : j = i
  · subst hji; exact hy.wpOp hi hS ⟨fun _ => hS, H⟩
  · have h1 := H.2 j (ready_mono hj hji)
    obtain ⟨hjun, oj, hoj, hall⟩ := mem_ready.1 hj
    have hnot : ∀ e ∈ oj.after, Region.binds md e = true → e.on ≠ i := fun e he hb heq => by
     have h1 := hall e he hb
     have h0 := (mem_ready.1 hr).1
     rw [heq, getD_either h0] at h1
     cases h1
    have hjl : j ≠ last := fun e => by
     subst e
     obtain ⟨ok, hok, e, he, hb, hn⟩ := chain_not hcl (getD_either (mem_ready.1 hr).1) r j hch
     rw [hoj] at hok
     injection hok with hok
     subst hok
     rw [hall e he hb] at hn
     cases hn
    have h2 := wpOp_putIf hoj (hfree j oj hoj hji hjun hnot) (fun cs b => hsel i oi cs b hi) (fun cs b => hsel j oj cs b hoj) hQ hy h1
    have hfree' : ∀ k ok, ops[k]? = some ok → k ≠ i → (listed.setIfInBounds j true).getD k true = false →
        (∀ e ∈ ok.after, Region.binds md e = true → e.on ≠ i) → oi.apart ops ok = true := fun k ok hk hki hun hno => by
     refine hfree k ok hk hki ?_ hno
     by_cases hjk : j = k
     · subst hjk; exact hjun
     · rw [getD_set_ne true hjk] at hun; exact hun
    have hl2 : (listed.setIfInBounds j true).getD last true = false := by rw [getD_set_ne true hjl]; exact hlast
    have hl3 : ((listed.setIfInBounds i true).setIfInBounds j true).getD last true = false := by
     rw [getD_set_ne true hjl, getD_set_ne true hil]
     exact hlast
    refine wpOp_mono (fun a' w' h3 => ?_) h2
    have hF := h3.2.1 hl3
    refine ⟨fun _ => hF, ih (listed.setIfInBounds j true) a' w' (closed_set hcl hj) hfree' (ready_mono hr (Ne.symm hji)) h3.1 hl2 hF ?_⟩
    rw [Array.setIfInBounds_comm _ _ hji]
    exact h3.2.2
theorem wpAnyL_takeT (r : List Nat) {i : Nat} {oi : Oper} {v : Value} {fuel : Nat} {listed : Array Bool} {a : Act} {w : World} (hi : ops[i]? = some oi)
    (hil : (i == last) = false) (hw : (chainB md ops last r i && closedB md ops listed) = true) (hs : Region.noSelect ops = true) (hf : Region.free md ops listed i = true) (hr : (Region.ready md ops listed).contains i = true)
    (hl : listed.getD last true = false) (hQ : ∀ c a w, Q (.panic c) (a.put oi.dst v) w → Q (.panic c) a w) (hS : F w) (hy : YieldsIf P ops F oi v a)
    (h : wpAnyL P md ops Q F last fuel (listed.setIfInBounds i true) (a.put oi.dst v) w) : wpAnyL P md ops Q F last (fuel + 1) listed a w := by
 rw [Bool.and_eq_true] at hw
 exact wpAnyL_firstT hi (by simpa using hil) hw.1 (Region.noSelect_spec hs) hQ fuel listed a w (closed_of hw.2) (Region.free_spec hi hf) (by simpa using hr) hy hl hS h
end
end Go.Proofs.YthjjdelpdiipdaaGreatDoor
namespace Go.Proofs.YthjjdelpdiipdaaGreatDoor
set_option maxRecDepth 100000
set_option linter.unusedVariables false
open Go.RowKit
set_option maxHeartbeats 12800000 in
theorem lawLogOk (V : World → Prop) (hVB : ∀ w w', V w → Below w.heap.size w w' → V w')
    (f : LogM → Bool)
    (hs : ∀ (Aa0_0 : Option Addr) (na0_0 ca0_0 : Nat) (Aa0_1 : Option Addr) (na0_1 ca0_1 : Nat) (Aa0_2 : Option Addr) (na0_2 ca0_2 : Nat) (Aa0_3 : Option Addr) (na0_3 ca0_3 : Nat) (xa0_4 : Int) (xa0_5 : Int) (xa0_6 : Int) (Aa0_7 : Option Addr) (na0_7 ca0_7 : Nat) (xa0_8 : Int) (xa0_9 : Int) (xa0_10 : Int) (Aa0_11 : Option Addr) (na0_11 ca0_11 : Nat) (ya0_12 : Bool) (xa0_13 : Int) (xa0_14 : Int) (Aa0_15 : Option Addr) (na0_15 ca0_15 : Nat) (Aa0_16 : Option Addr) (na0_16 ca0_16 : Nat) (xa0_17 : Int) (Aa0_18 : Option Addr) (na0_18 ca0_18 : Nat) (d0 : LogM) (w : World), Rd w w.heap.size (d0.cells) [.slice Aa0_0 na0_0 ca0_0, .slice Aa0_1 na0_1 ca0_1, .slice Aa0_2 na0_2 ca0_2, .slice Aa0_3 na0_3 ca0_3, .int .i64 xa0_4, .int .i64 xa0_5, .int .i64 xa0_6, .slice Aa0_7 na0_7 ca0_7, .int .i64 xa0_8, .int .i64 xa0_9, .int .i64 xa0_10, .slice Aa0_11 na0_11 ca0_11, .bool ya0_12, .int .i64 xa0_13, .int .i64 xa0_14, .slice Aa0_15 na0_15 ca0_15, .slice Aa0_16 na0_16 ca0_16, .int .i64 xa0_17, .slice Aa0_18 na0_18 ca0_18] → d0.sz ≤ 1048576 → Calls Tryz.prog 7 #[.agg #[.slice Aa0_0 na0_0 ca0_0, .slice Aa0_1 na0_1 ca0_1, .slice Aa0_2 na0_2 ca0_2, .slice Aa0_3 na0_3 ca0_3, .int .i64 xa0_4, .int .i64 xa0_5, .int .i64 xa0_6, .slice Aa0_7 na0_7 ca0_7, .int .i64 xa0_8, .int .i64 xa0_9, .int .i64 xa0_10, .slice Aa0_11 na0_11 ca0_11, .bool ya0_12, .int .i64 xa0_13, .int .i64 xa0_14, .slice Aa0_15 na0_15 ca0_15, .slice Aa0_16 na0_16 ca0_16, .int .i64 xa0_17, .slice Aa0_18 na0_18 ca0_18]] w (fun e w' => e = .returned (.bool (f d0)) ∧ Below w.heap.size w w'))
    (hi : ∀ (Aa0_0 : Option Addr) (na0_0 ca0_0 : Nat) (Aa0_1 : Option Addr) (na0_1 ca0_1 : Nat) (Aa0_2 : Option Addr) (na0_2 ca0_2 : Nat) (Aa0_3 : Option Addr) (na0_3 ca0_3 : Nat) (xa0_4 : Int) (xa0_5 : Int) (xa0_6 : Int) (Aa0_7 : Option Addr) (na0_7 ca0_7 : Nat) (xa0_8 : Int) (xa0_9 : Int) (xa0_10 : Int) (Aa0_11 : Option Addr) (na0_11 ca0_11 : Nat) (ya0_12 : Bool) (xa0_13 : Int) (xa0_14 : Int) (Aa0_15 : Option Addr) (na0_15 ca0_15 : Nat) (Aa0_16 : Option Addr) (na0_16 ca0_16 : Nat) (xa0_17 : Int) (Aa0_18 : Option Addr) (na0_18 ca0_18 : Nat) (d0 : LogM) (w : World), Rd w w.heap.size (d0.cells) [.slice Aa0_0 na0_0 ca0_0, .slice Aa0_1 na0_1 ca0_1, .slice Aa0_2 na0_2 ca0_2, .slice Aa0_3 na0_3 ca0_3, .int .i64 xa0_4, .int .i64 xa0_5, .int .i64 xa0_6, .slice Aa0_7 na0_7 ca0_7, .int .i64 xa0_8, .int .i64 xa0_9, .int .i64 xa0_10, .slice Aa0_11 na0_11 ca0_11, .bool ya0_12, .int .i64 xa0_13, .int .i64 xa0_14, .slice Aa0_15 na0_15 ca0_15, .slice Aa0_16 na0_16 ca0_16, .int .i64 xa0_17, .slice Aa0_18 na0_18 ca0_18] → d0.sz ≤ 1048576 → V w → Calls Tryz.prog 9 #[.agg #[.slice Aa0_0 na0_0 ca0_0, .slice Aa0_1 na0_1 ca0_1, .slice Aa0_2 na0_2 ca0_2, .slice Aa0_3 na0_3 ca0_3, .int .i64 xa0_4, .int .i64 xa0_5, .int .i64 xa0_6, .slice Aa0_7 na0_7 ca0_7, .int .i64 xa0_8, .int .i64 xa0_9, .int .i64 xa0_10, .slice Aa0_11 na0_11 ca0_11, .bool ya0_12, .int .i64 xa0_13, .int .i64 xa0_14, .slice Aa0_15 na0_15 ca0_15, .slice Aa0_16 na0_16 ca0_16, .int .i64 xa0_17, .slice Aa0_18 na0_18 ca0_18]] w (fun e w' => e = .returned (.bool (f d0)) ∧ Below w.heap.size w w'))
    (Aa0_0 : Option Addr) (na0_0 ca0_0 : Nat) (Aa0_1 : Option Addr) (na0_1 ca0_1 : Nat) (Aa0_2 : Option Addr) (na0_2 ca0_2 : Nat) (Aa0_3 : Option Addr) (na0_3 ca0_3 : Nat) (xa0_4 : Int) (xa0_5 : Int) (xa0_6 : Int) (Aa0_7 : Option Addr) (na0_7 ca0_7 : Nat) (xa0_8 : Int) (xa0_9 : Int) (xa0_10 : Int) (Aa0_11 : Option Addr) (na0_11 ca0_11 : Nat) (ya0_12 : Bool) (xa0_13 : Int) (xa0_14 : Int) (Aa0_15 : Option Addr) (na0_15 ca0_15 : Nat) (Aa0_16 : Option Addr) (na0_16 ca0_16 : Nat) (xa0_17 : Int) (Aa0_18 : Option Addr) (na0_18 ca0_18 : Nat) (d0 : LogM) (w : World) (h0 : Rd w w.heap.size (d0.cells) [.slice Aa0_0 na0_0 ca0_0, .slice Aa0_1 na0_1 ca0_1, .slice Aa0_2 na0_2 ca0_2, .slice Aa0_3 na0_3 ca0_3, .int .i64 xa0_4, .int .i64 xa0_5, .int .i64 xa0_6, .slice Aa0_7 na0_7 ca0_7, .int .i64 xa0_8, .int .i64 xa0_9, .int .i64 xa0_10, .slice Aa0_11 na0_11 ca0_11, .bool ya0_12, .int .i64 xa0_13, .int .i64 xa0_14, .slice Aa0_15 na0_15 ca0_15, .slice Aa0_16 na0_16 ca0_16, .int .i64 xa0_17, .slice Aa0_18 na0_18 ca0_18]) (hv0 : V w) :
    Calls Tryz.prog 3 #[.agg #[.slice Aa0_0 na0_0 ca0_0, .slice Aa0_1 na0_1 ca0_1, .slice Aa0_2 na0_2 ca0_2, .slice Aa0_3 na0_3 ca0_3, .int .i64 xa0_4, .int .i64 xa0_5, .int .i64 xa0_6, .slice Aa0_7 na0_7 ca0_7, .int .i64 xa0_8, .int .i64 xa0_9, .int .i64 xa0_10, .slice Aa0_11 na0_11 ca0_11, .bool ya0_12, .int .i64 xa0_13, .int .i64 xa0_14, .slice Aa0_15 na0_15 ca0_15, .slice Aa0_16 na0_16 ca0_16, .int .i64 xa0_17, .slice Aa0_18 na0_18 ca0_18]] w fun e w' => e = .returned (.bool true) ∧ Below w.heap.size w w' := by
 have SP := jd hs
 have IM := jd hi
 clear hs hi
 have S := Sep.nil w w.heap.size
 have c := Below.refl w.heap.size w
 replace S := S.box c.size #[.slice Aa0_0 na0_0 ca0_0, .slice Aa0_1 na0_1 ca0_1, .slice Aa0_2 na0_2 ca0_2, .slice Aa0_3 na0_3 ca0_3, .int .i64 xa0_4, .int .i64 xa0_5, .int .i64 xa0_6, .slice Aa0_7 na0_7 ca0_7, .int .i64 xa0_8, .int .i64 xa0_9, .int .i64 xa0_10, .slice Aa0_11 na0_11 ca0_11, .bool ya0_12, .int .i64 xa0_13, .int .i64 xa0_14, .slice Aa0_15 na0_15 ca0_15, .slice Aa0_16 na0_16 ca0_16, .int .i64 xa0_17, .slice Aa0_18 na0_18 ca0_18] 36
 replace c := al c S
 go_enter Tryz.func3, Tryz.ntmps3
 have hb_a0 := S.at_ 0 rfl
 go_wp2_with (first | (refine wpList_load_box rfl 36 _ (by rfl) (w.heap.size) (by rfl) _ _ hb_a0 _ Tryz.underlying36 (by rfl) (by kernel_rfl) ?_))
 generalize w.alloc (.cells #[.slice Aa0_0 na0_0 ca0_0, .slice Aa0_1 na0_1 ca0_1, .slice Aa0_2 na0_2 ca0_2, .slice Aa0_3 na0_3 ca0_3, .int .i64 xa0_4, .int .i64 xa0_5, .int .i64 xa0_6, .slice Aa0_7 na0_7 ca0_7, .int .i64 xa0_8, .int .i64 xa0_9, .int .i64 xa0_10, .slice Aa0_11 na0_11 ca0_11, .bool ya0_12, .int .i64 xa0_13, .int .i64 xa0_14, .slice Aa0_15 na0_15 ca0_15, .slice Aa0_16 na0_16 ca0_16, .int .i64 xa0_17, .slice Aa0_18 na0_18 ca0_18] 36) = w1 at *
 refine (szLogNode_any _ _ _ _ _ _ _ _ _ _ _ _ _ _ _ _ _ _ _ d0 _ _ _ (h0.keep c) c.size (by omega) (by omega)).mono ?_
 rintro e w2 ⟨rfl, b⟩
 replace c := c.trans (b.mono c.size)
 replace S := S.keep b
 clear b hb_a0
 by_cases hzi0 : ((d0.sz : Nat) : Int) ≤ 1048576
 case neg =>
  rw [left, if_neg hzi0]
  go_wp2
  go_ret
  exact ⟨rfl, c⟩
 rw [left, if_pos hzi0]
 have hz0 : d0.sz ≤ 1048576 := by omega
 have qz0 : ¬ ((1048576 : Int) - (d0.sz : Int) < 0) := by omega
 obtain ⟨fx0, hfx0⟩ : ∃ q, q = (f d0) := ⟨_, rfl⟩
 have HFX0 := jd hfx0
 clear hfx0
 have hb_a0 := S.at_ 0 rfl
 go_wp2_with (first | (refine wpList_load_box rfl 36 _ (by rfl) (w.heap.size) (by rfl) _ _ hb_a0 _ Tryz.underlying36 (by rfl) (by kernel_rfl) ?_))
 refine (toLogNode_made _ _ _ _ _ _ _ _ _ _ _ _ _ _ _ _ _ _ _ d0 _ ((h0.keep c).up c.size) hz0).mono ?_
 rintro e w3 ⟨As0_0, ns0_0, cs0_0, As0_1, ns0_1, cs0_1, As0_2, ns0_2, cs0_2, As0_3, ns0_3, cs0_3, xs0_4, xs0_5, xs0_6, As0_7, ns0_7, cs0_7, xs0_8, xs0_9, xs0_10, As0_11, ns0_11, cs0_11, ys0_12, xs0_13, xs0_14, As0_15, ns0_15, cs0_15, As0_16, ns0_16, cs0_16, xs0_17, As0_18, ns0_18, cs0_18, rfl, o, b⟩
 obtain ⟨fp_s0, S'⟩ := S.has b o c.size
 replace c := c.trans (b.mono c.size)
 clear S; have S := S'; clear S' o b hb_a0
 go_wp2_with fail
 refine (SP.out _ _ _ _ _ _ _ _ _ _ _ _ _ _ _ _ _ _ _ _ _ _ _ _ _ _ _ _ _ _ _ _ _ _ _ _ _ d0 _ ((S.own_ 0 rfl).rd) hz0).mono ?_
 rintro e w4 ⟨rfl, b⟩
 replace c := c.trans (b.mono c.size)
 replace S := S.keep b
 clear b
 rw [← HFX0.out]
 have hb_a0 := S.at_ 1 rfl
 go_wp2_with (first | (refine wpList_load_box rfl 36 _ (by rfl) (w.heap.size) (by rfl) _ _ hb_a0 _ Tryz.underlying36 (by rfl) (by kernel_rfl) ?_))
 refine (toLogNode_made _ _ _ _ _ _ _ _ _ _ _ _ _ _ _ _ _ _ _ d0 _ ((h0.keep c).up c.size) hz0).mono ?_
 rintro e w5 ⟨Ax0_0, nx0_0, cx0_0, Ax0_1, nx0_1, cx0_1, Ax0_2, nx0_2, cx0_2, Ax0_3, nx0_3, cx0_3, xx0_4, xx0_5, xx0_6, Ax0_7, nx0_7, cx0_7, xx0_8, xx0_9, xx0_10, Ax0_11, nx0_11, cx0_11, yx0_12, xx0_13, xx0_14, Ax0_15, nx0_15, cx0_15, Ax0_16, nx0_16, cx0_16, xx0_17, Ax0_18, nx0_18, cx0_18, rfl, o, b⟩
 obtain ⟨fp_x0, S'⟩ := S.has b o c.size
 replace c := c.trans (b.mono c.size)
 clear S; have S := S'; clear S' o b hb_a0
 replace S := S.box c.size #[.slice Ax0_0 nx0_0 cx0_0, .slice Ax0_1 nx0_1 cx0_1, .slice Ax0_2 nx0_2 cx0_2, .slice Ax0_3 nx0_3 cx0_3, .int .i64 xx0_4, .int .i64 xx0_5, .int .i64 xx0_6, .slice Ax0_7 nx0_7 cx0_7, .int .i64 xx0_8, .int .i64 xx0_9, .int .i64 xx0_10, .slice Ax0_11 nx0_11 cx0_11, .bool yx0_12, .int .i64 xx0_13, .int .i64 xx0_14, .slice Ax0_15 nx0_15 cx0_15, .slice Ax0_16 nx0_16 cx0_16, .int .i64 xx0_17, .slice Ax0_18 nx0_18 cx0_18] 52
 replace c := al c S
 have hb_x0 := S.at_ 0 rfl
 go_wp2_with (first | (refine wpList_store_box rfl 52 _ _ (by rfl) (w5.heap.size) #[.slice Ax0_0 nx0_0 cx0_0, .slice Ax0_1 nx0_1 cx0_1, .slice Ax0_2 nx0_2 cx0_2, .slice Ax0_3 nx0_3 cx0_3, .int .i64 xx0_4, .int .i64 xx0_5, .int .i64 xx0_6, .slice Ax0_7 nx0_7 cx0_7, .int .i64 xx0_8, .int .i64 xx0_9, .int .i64 xx0_10, .slice Ax0_11 nx0_11 cx0_11, .bool yx0_12, .int .i64 xx0_13, .int .i64 xx0_14, .slice Ax0_15 nx0_15 cx0_15, .slice Ax0_16 nx0_16 cx0_16, .int .i64 xx0_17, .slice Ax0_18 nx0_18 cx0_18] (by rfl) (by rfl) 52 #[.slice none 0 0, .slice none 0 0, .slice none 0 0, .slice none 0 0, .int .i64 0, .int .i64 0, .int .i64 0, .slice none 0 0, .int .i64 0, .int .i64 0, .int .i64 0, .slice none 0 0, .bool false, .int .i64 0, .int .i64 0, .slice none 0 0, .slice none 0 0, .int .i64 0, .slice none 0 0] (Blk.new _ _ _) (by kernel_rfl) rfl (all_oneCell_toArray (cs := [.slice Ax0_0 nx0_0 cx0_0, .slice Ax0_1 nx0_1 cx0_1, .slice Ax0_2 nx0_2 cx0_2, .slice Ax0_3 nx0_3 cx0_3, .int .i64 xx0_4, .int .i64 xx0_5, .int .i64 xx0_6, .slice Ax0_7 nx0_7 cx0_7, .int .i64 xx0_8, .int .i64 xx0_9, .int .i64 xx0_10, .slice Ax0_11 nx0_11 cx0_11, .bool yx0_12, .int .i64 xx0_13, .int .i64 xx0_14, .slice Ax0_15 nx0_15 cx0_15, .slice Ax0_16 nx0_16 cx0_16, .int .i64 xx0_17, .slice Ax0_18 nx0_18 cx0_18]) (by simp [Value.oneCell'])) ?_; rw [setRow_alloc_new]) | (refine wpList_load_box rfl 52 _ (by rfl) (w5.heap.size) (by rfl) _ _ hb_x0 _ Tryz.underlying52 (by rfl) (by kernel_rfl) ?_))
 generalize w5.alloc (.cells #[.slice Ax0_0 nx0_0 cx0_0, .slice Ax0_1 nx0_1 cx0_1, .slice Ax0_2 nx0_2 cx0_2, .slice Ax0_3 nx0_3 cx0_3, .int .i64 xx0_4, .int .i64 xx0_5, .int .i64 xx0_6, .slice Ax0_7 nx0_7 cx0_7, .int .i64 xx0_8, .int .i64 xx0_9, .int .i64 xx0_10, .slice Ax0_11 nx0_11 cx0_11, .bool yx0_12, .int .i64 xx0_13, .int .i64 xx0_14, .slice Ax0_15 nx0_15 cx0_15, .slice Ax0_16 nx0_16 cx0_16, .int .i64 xx0_17, .slice Ax0_18 nx0_18 cx0_18] 52) = w6 at *
 refine (IM.out _ _ _ _ _ _ _ _ _ _ _ _ _ _ _ _ _ _ _ _ _ _ _ _ _ _ _ _ _ _ _ _ _ _ _ _ _ d0 _ ((S.own_ 1 rfl).rd) hz0 (hVB _ _ hv0 c)).mono ?_
 rintro e w7 ⟨rfl, b⟩
 replace c := c.trans (b.mono c.size)
 replace S := S.keep b
 clear b hb_x0
 rw [← HFX0.out]
 go_wp2_with fail
 refine wp_region_L (fun v => Blk v (w5.heap.size) #[.slice Ax0_0 nx0_0 cx0_0, .slice Ax0_1 nx0_1 cx0_1, .slice Ax0_2 nx0_2 cx0_2, .slice Ax0_3 nx0_3 cx0_3, .int .i64 xx0_4, .int .i64 xx0_5, .int .i64 xx0_6, .slice Ax0_7 nx0_7 cx0_7, .int .i64 xx0_8, .int .i64 xx0_9, .int .i64 xx0_10, .slice Ax0_11 nx0_11 cx0_11, .bool yx0_12, .int .i64 xx0_13, .int .i64 xx0_14, .slice Ax0_15 nx0_15 cx0_15, .slice Ax0_16 nx0_16 cx0_16, .int .i64 xx0_17, .slice Ax0_18 nx0_18 cx0_18] 52 ∧ Blk v (w.heap.size) #[.slice Aa0_0 na0_0 ca0_0, .slice Aa0_1 na0_1 ca0_1, .slice Aa0_2 na0_2 ca0_2, .slice Aa0_3 na0_3 ca0_3, .int .i64 xa0_4, .int .i64 xa0_5, .int .i64 xa0_6, .slice Aa0_7 na0_7 ca0_7, .int .i64 xa0_8, .int .i64 xa0_9, .int .i64 xa0_10, .slice Aa0_11 na0_11 ca0_11, .bool ya0_12, .int .i64 xa0_13, .int .i64 xa0_14, .slice Aa0_15 na0_15 ca0_15, .slice Aa0_16 na0_16 ca0_16, .int .i64 xa0_17, .slice Aa0_18 na0_18 ca0_18] 36) 4 (by kernel_rfl) ?_
 replace S := S.keep ((Below.refl _ _).drew)
 replace c := c.drew
 generalize w7.drew = w58 at *
 have HF : Blk w58 (w5.heap.size) #[.slice Ax0_0 nx0_0 cx0_0, .slice Ax0_1 nx0_1 cx0_1, .slice Ax0_2 nx0_2 cx0_2, .slice Ax0_3 nx0_3 cx0_3, .int .i64 xx0_4, .int .i64 xx0_5, .int .i64 xx0_6, .slice Ax0_7 nx0_7 cx0_7, .int .i64 xx0_8, .int .i64 xx0_9, .int .i64 xx0_10, .slice Ax0_11 nx0_11 cx0_11, .bool yx0_12, .int .i64 xx0_13, .int .i64 xx0_14, .slice Ax0_15 nx0_15 cx0_15, .slice Ax0_16 nx0_16 cx0_16, .int .i64 xx0_17, .slice Ax0_18 nx0_18 cx0_18] 52 ∧ Blk w58 (w.heap.size) #[.slice Aa0_0 na0_0 ca0_0, .slice Aa0_1 na0_1 ca0_1, .slice Aa0_2 na0_2 ca0_2, .slice Aa0_3 na0_3 ca0_3, .int .i64 xa0_4, .int .i64 xa0_5, .int .i64 xa0_6, .slice Aa0_7 na0_7 ca0_7, .int .i64 xa0_8, .int .i64 xa0_9, .int .i64 xa0_10, .slice Aa0_11 na0_11 ca0_11, .bool ya0_12, .int .i64 xa0_13, .int .i64 xa0_14, .slice Aa0_15 na0_15 ca0_15, .slice Aa0_16 na0_16 ca0_16, .int .i64 xa0_17, .slice Aa0_18 na0_18 ca0_18] 36 := ⟨S.at_ 0 rfl, S.at_ 3 rfl⟩
 refine wpAnyL_takeT [3] (i := 0) (v := .agg #[.slice Ax0_0 nx0_0 cx0_0, .slice Ax0_1 nx0_1 cx0_1, .slice Ax0_2 nx0_2 cx0_2, .slice Ax0_3 nx0_3 cx0_3, .int .i64 xx0_4, .int .i64 xx0_5, .int .i64 xx0_6, .slice Ax0_7 nx0_7 cx0_7, .int .i64 xx0_8, .int .i64 xx0_9, .int .i64 xx0_10, .slice Ax0_11 nx0_11 cx0_11, .bool yx0_12, .int .i64 xx0_13, .int .i64 xx0_14, .slice Ax0_15 nx0_15 cx0_15, .slice Ax0_16 nx0_16 cx0_16, .int .i64 xx0_17, .slice Ax0_18 nx0_18 cx0_18]) rfl rfl (by kernel_rfl) (by kernel_rfl) (by kernel_rfl) (by kernel_rfl) (by kernel_rfl) (fun _ _ _ h => h) HF (yieldsIf_load_box (by kernel_rfl) 52 _ (by rfl) (w5.heap.size) (by rfl) _ _ (fun _ h => h.1) _ Tryz.underlying52 (by rfl) (by kernel_rfl)) ?_
 try simp only [Act.put]
 refine wpAnyL_takeT [3, 2] (i := 1) (v := .agg #[.slice Aa0_0 na0_0 ca0_0, .slice Aa0_1 na0_1 ca0_1, .slice Aa0_2 na0_2 ca0_2, .slice Aa0_3 na0_3 ca0_3, .int .i64 xa0_4, .int .i64 xa0_5, .int .i64 xa0_6, .slice Aa0_7 na0_7 ca0_7, .int .i64 xa0_8, .int .i64 xa0_9, .int .i64 xa0_10, .slice Aa0_11 na0_11 ca0_11, .bool ya0_12, .int .i64 xa0_13, .int .i64 xa0_14, .slice Aa0_15 na0_15 ca0_15, .slice Aa0_16 na0_16 ca0_16, .int .i64 xa0_17, .slice Aa0_18 na0_18 ca0_18]) rfl rfl (by kernel_rfl) (by kernel_rfl) (by kernel_rfl) (by kernel_rfl) (by kernel_rfl) (fun _ _ _ h => h) HF (yieldsIf_load_box (by kernel_rfl) 36 _ (by rfl) (w.heap.size) (by rfl) _ _ (fun _ h => h.2) _ Tryz.underlying36 (by rfl) (by kernel_rfl)) ?_
 try simp only [Act.put]
 refine wpAnyL_step (i := 2) (by kernel_rfl) rfl rfl ?_
 intro K hK
 go_simp
 refine (toLogNode_made _ _ _ _ _ _ _ _ _ _ _ _ _ _ _ _ _ _ _ d0 _ ((h0.keep c).up c.size) hz0).mono ?_
 rintro e w59 ⟨Az0_0, nz0_0, cz0_0, Az0_1, nz0_1, cz0_1, Az0_2, nz0_2, cz0_2, Az0_3, nz0_3, cz0_3, xz0_4, xz0_5, xz0_6, Az0_7, nz0_7, cz0_7, xz0_8, xz0_9, xz0_10, Az0_11, nz0_11, cz0_11, yz0_12, xz0_13, xz0_14, Az0_15, nz0_15, cz0_15, Az0_16, nz0_16, cz0_16, xz0_17, Az0_18, nz0_18, cz0_18, rfl, o, b⟩
 obtain ⟨fp_Oz0, S'⟩ := S.has b o c.size
 replace c := c.trans (b.mono c.size)
 clear S; have S := S'; clear S' o b
 clear HF
 have HF : Blk w59 (w5.heap.size) #[.slice Ax0_0 nx0_0 cx0_0, .slice Ax0_1 nx0_1 cx0_1, .slice Ax0_2 nx0_2 cx0_2, .slice Ax0_3 nx0_3 cx0_3, .int .i64 xx0_4, .int .i64 xx0_5, .int .i64 xx0_6, .slice Ax0_7 nx0_7 cx0_7, .int .i64 xx0_8, .int .i64 xx0_9, .int .i64 xx0_10, .slice Ax0_11 nx0_11 cx0_11, .bool yx0_12, .int .i64 xx0_13, .int .i64 xx0_14, .slice Ax0_15 nx0_15 cx0_15, .slice Ax0_16 nx0_16 cx0_16, .int .i64 xx0_17, .slice Ax0_18 nx0_18 cx0_18] 52 ∧ Blk w59 (w.heap.size) #[.slice Aa0_0 na0_0 ca0_0, .slice Aa0_1 na0_1 ca0_1, .slice Aa0_2 na0_2 ca0_2, .slice Aa0_3 na0_3 ca0_3, .int .i64 xa0_4, .int .i64 xa0_5, .int .i64 xa0_6, .slice Aa0_7 na0_7 ca0_7, .int .i64 xa0_8, .int .i64 xa0_9, .int .i64 xa0_10, .slice Aa0_11 na0_11 ca0_11, .bool ya0_12, .int .i64 xa0_13, .int .i64 xa0_14, .slice Aa0_15 na0_15 ca0_15, .slice Aa0_16 na0_16 ca0_16, .int .i64 xa0_17, .slice Aa0_18 na0_18 ca0_18] 36 := ⟨S.at_ 1 rfl, S.at_ 4 rfl⟩
 refine hK _ _ (fun _ => HF) ?_
 clear hK K
 try simp only [Act.put]
 refine wpAnyL_step (i := 3) (by kernel_rfl) rfl rfl ?_
 intro K hK
 go_simp
 refine (eqLogNode_yes _ _ _ _ _ _ _ _ _ _ _ _ _ _ _ _ _ _ _ _ _ _ _ _ _ _ _ _ _ _ _ _ _ _ _ _ _ _ _ _ d0 _ (S.own_ 2 rfl).rd (S.own_ 0 rfl).rd (Nat.le_refl _) (Nat.le_refl _) (by omega)).mono ?_
 rintro e w60 ⟨rfl, b⟩
 replace c := c.trans (b.mono c.size)
 replace S := S.keep b
 clear b
 clear HF
 have HF : Blk w60 (w5.heap.size) #[.slice Ax0_0 nx0_0 cx0_0, .slice Ax0_1 nx0_1 cx0_1, .slice Ax0_2 nx0_2 cx0_2, .slice Ax0_3 nx0_3 cx0_3, .int .i64 xx0_4, .int .i64 xx0_5, .int .i64 xx0_6, .slice Ax0_7 nx0_7 cx0_7, .int .i64 xx0_8, .int .i64 xx0_9, .int .i64 xx0_10, .slice Ax0_11 nx0_11 cx0_11, .bool yx0_12, .int .i64 xx0_13, .int .i64 xx0_14, .slice Ax0_15 nx0_15 cx0_15, .slice Ax0_16 nx0_16 cx0_16, .int .i64 xx0_17, .slice Ax0_18 nx0_18 cx0_18] 52 ∧ Blk w60 (w.heap.size) #[.slice Aa0_0 na0_0 ca0_0, .slice Aa0_1 na0_1 ca0_1, .slice Aa0_2 na0_2 ca0_2, .slice Aa0_3 na0_3 ca0_3, .int .i64 xa0_4, .int .i64 xa0_5, .int .i64 xa0_6, .slice Aa0_7 na0_7 ca0_7, .int .i64 xa0_8, .int .i64 xa0_9, .int .i64 xa0_10, .slice Aa0_11 na0_11 ca0_11, .bool ya0_12, .int .i64 xa0_13, .int .i64 xa0_14, .slice Aa0_15 na0_15 ca0_15, .slice Aa0_16 na0_16 ca0_16, .int .i64 xa0_17, .slice Aa0_18 na0_18 ca0_18] 36 := ⟨S.at_ 1 rfl, S.at_ 4 rfl⟩
 refine hK _ _ (fun _ => HF) ?_
 clear hK K
 try simp only [Act.put]
 refine wpAnyL_step (i := 4) (by kernel_rfl) rfl rfl ?_
 intro K hK
 go_simp
 refine hK _ _ (fun h => nomatch (show true = false from h)) ?_
 clear hK K
 try simp only [Act.put]
 refine wpAnyL_done (by kernel_rfl) ?_ _
 clear HF
 generalize w60 = w8 at *
 go_wp2
 go_ret
 exact ⟨rfl, c⟩
def ack0 : AckM := ⟨0, 0, 0, 0⟩
def ackNs (a : AckM) : List Int := [a.cl, a.sq, a.ix, a.last]
end Go.Proofs.YthjjdelpdiipdaaGreatDoor
