/- Parts of my texts: LogI2 BookI8 BookIB InR. -/
import Derived.Test.YthjjdelpdiipdaaGreatDoorMX41
namespace Go.Proofs.YthjjdelpdiipdaaGreatDoor
set_option maxRecDepth 100000
set_option linter.unusedVariables false
open Go.RowKit
set_option maxHeartbeats 6400000 in
theorem iSameAcks_any (A A2 : Option Addr) (n c n2 c2 B B2 : Nat) (l r : List AckM) (w : World) (h : Rd w B [oweD l] [.slice A n c]) (h2 : Rd w B2 [oweD r] [.slice A2 n2 c2]) (hB : B ≤ w.heap.size) (hB2 : B2 ≤ w.heap.size) (hs : oweSz l ≤ 1048577) (hs2 : oweSz r ≤ 1048577) :
    Calls Tryz.prog 86 #[.slice A n c, .slice A2 n2 c2] w fun e w' => e = .returned (.bool (sameAs l r)) ∧ Below w.heap.size w w' := by
 obtain ⟨_, _, _, e, hl, _, _, hel⟩ := h.owes
 injection e with e1 e2 e3
 subst e1 e2 e3
 obtain ⟨_, _, _, e, hl2, _, _, hel2⟩ := h2.owes
 injection e with e1 e2 e3
 subst e1 e2 e3
 have hn : n ≤ 1048577 := by unfold oweSz at hs; omega
 have hn2 : n2 ≤ 1048577 := by unfold oweSz at hs2; omega
 have HL := jd hl
 have HL2 := jd hl2
 clear h h2 hs hs2 hl hl2
 by_cases hnn : n = n2
 case neg =>
  have HD := jd (sameAs_len (l := l) (r := r) (by rw [HL.out, HL2.out]; exact hnn))
  have e1 : ((n : Int) != (n2 : Int)) = true := by simp; omega
  have e2 : ((n : Int) == (n2 : Int)) = false := by simp; omega
  clear hel hel2
  go_enter Tryz.func86, Tryz.ntmps86
  go_wp2
  go_ret
  exact ⟨ret_bool HD.out.symm, Below.refl _ _⟩
 case pos =>
  subst hnn
  have e1 : ((n : Int) != (n : Int)) = false := by simp
  go_enter Tryz.func86, Tryz.ntmps86
  go_wp2
  go_loopw [13] (fun i wr => ∃ j : Nat, j ≤ n ∧ i = .int .i64 (j : Int) ∧ (∀ q, q < j → l.getD q ack0 = r.getD q ack0) ∧ Below w.heap.size w wr) (fun i _ => n - (intOf i).toNat)
  case atStart => exact ⟨0, Nat.zero_le _, rfl, fun q hq => absurd hq (by omega), Below.refl _ _⟩
  case round =>
   obtain ⟨j, hj, rfl, hall, c0⟩ := hrel
   have HA := jd hall
   clear hall
   by_cases hlt : j < n
   case neg =>
    obtain rfl : j = n := by omega
    have HD := jd (show sameAs l r = true from (sameAs_iff l r).2 (List.ext_getElem (by rw [HL.out, HL2.out]) fun q h1 h2 => by have h9 := HA.out q (by have := HL.out; omega); rwa [agetD h1, agetD h2] at h9))
    have CC := jd c0
    clear hel hel2 c0
    go_wp2
    go_ret
    exact ⟨ret_bool HD.out.symm, CC.out⟩
   case pos =>
   have hjl : j < l.length := by have := HL.out; omega
   have hjr : j < r.length := by have := HL2.out; omega
   obtain ⟨b, off, rfl, hb, hcA⟩ := hel (by omega)
   obtain ⟨b2, off2, rfl, hb2, hcB⟩ := hel2 (by omega)
   obtain ⟨hc0, hc1, hc2, hc3⟩ := hcA j hjl
   obtain ⟨hd0, hd1, hd2, hd3⟩ := hcB j hjr
   have cs0 := (c0.cell (p := ⟨b, off + j * 4, none⟩) (show b < _ by omega)).trans hc0
   have cs1 := (c0.cell (p := ⟨b, off + j * 4 + 1, none⟩) (show b < _ by omega)).trans hc1
   have cs2 := (c0.cell (p := ⟨b, off + j * 4 + 2, none⟩) (show b < _ by omega)).trans hc2
   have cs3 := (c0.cell (p := ⟨b, off + j * 4 + 3, none⟩) (show b < _ by omega)).trans hc3
   have ct0 := (c0.cell (p := ⟨b2, off2 + j * 4, none⟩) (show b2 < _ by omega)).trans hd0
   have ct1 := (c0.cell (p := ⟨b2, off2 + j * 4 + 1, none⟩) (show b2 < _ by omega)).trans hd1
   have ct2 := (c0.cell (p := ⟨b2, off2 + j * 4 + 2, none⟩) (show b2 < _ by omega)).trans hd2
   have ct3 := (c0.cell (p := ⟨b2, off2 + j * 4 + 3, none⟩) (show b2 < _ by omega)).trans hd3
   obtain ⟨z0, hz0⟩ : ∃ q, q = l[j].cl := ⟨_, rfl⟩
   rw [← hz0] at cs0
   obtain ⟨y0, hy0⟩ : ∃ q, q = r[j].cl := ⟨_, rfl⟩
   rw [← hy0] at ct0
   obtain ⟨z1, hz1⟩ : ∃ q, q = l[j].sq := ⟨_, rfl⟩
   rw [← hz1] at cs1
   obtain ⟨y1, hy1⟩ : ∃ q, q = r[j].sq := ⟨_, rfl⟩
   rw [← hy1] at ct1
   obtain ⟨z2, hz2⟩ : ∃ q, q = l[j].ix := ⟨_, rfl⟩
   rw [← hz2] at cs2
   obtain ⟨y2, hy2⟩ : ∃ q, q = r[j].ix := ⟨_, rfl⟩
   rw [← hy2] at ct2
   obtain ⟨z3, hz3⟩ : ∃ q, q = l[j].last := ⟨_, rfl⟩
   rw [← hz3] at cs3
   obtain ⟨y3, hy3⟩ : ∃ q, q = r[j].last := ⟨_, rfl⟩
   rw [← hy3] at ct3
   have hm1 : l[j] = ⟨z0, z1, z2, z3⟩ := by rw [hz0, hz1, hz2, hz3]
   have hm2 : r[j] = ⟨y0, y1, y2, y3⟩ := by rw [hy0, hy1, hy2, hy3]
   have HC := jd c0
   by_cases he : l[j] = r[j]
   case pos =>
    rw [hm1, hm2] at he
    injection he with q0 q1 q2 q3
    have HN := jd (show ∀ q, q < j + 1 → l.getD q ack0 = r.getD q ack0 from fun q hq => by
     rcases Nat.lt_or_ge q j with h1 | h1
     · exact HA.out q h1
     · obtain rfl : q = j := by omega
       rw [agetD hjl, agetD hjr, hm1, hm2, q0, q1, q2, q3])
    clear hcA hcB hel hel2 hm1 hm2 hz0 hy0 hc0 hd0 hz1 hy1 hc1 hd1 hz2 hy2 hc2 hd2 hz3 hy3 hc3 hd3
    subst q0 q1 q2 q3
    go_wp2_with fail
    go_quiet (fail)
    have CC := jd (below_drewN HC.out nq)
    clear c0 cs0 ct0 cs1 ct1 cs2 ct2 cs3 ct3
    generalize wr.drewN nq = w9 at *
    go_wp2
    go_roundw
    case rel => exact ⟨j + 1, by omega, by go_num, HN.out, CC.out⟩
    case measure => simp [intOf]; omega
   case neg =>
    have HD := jd (sameAs_step (l := l) (r := r) (j := j) (by rw [Bool.eq_false_iff]; intro h9; exact he (by have h8 := (sameA_iff _ _).1 h9; rwa [agetD hjl, agetD hjr] at h8)))
    have hne : ¬ (z0 = y0 ∧ z1 = y1 ∧ z2 = y2 ∧ z3 = y3) := fun h9 => he (by rw [hm1, hm2]; obtain ⟨q0, q1, q2, q3⟩ := h9; rw [q0, q1, q2, q3])
    clear he hm1 hm2 hcA hcB hel hel2 hz0 hy0 hc0 hd0 hz1 hy1 hc1 hd1 hz2 hy2 hc2 hd2 hz3 hy3 hc3 hd3
    by_cases q0 : z0 = y0
    case neg =>
     have e0 : (z0 == y0) = false := by simpa using q0
     clear hne q0
     go_wp2_with fail
     go_quiet (fail)
     have CC := jd (below_drewN HC.out nq)
     go_wp2
     go_ret
     exact ⟨ret_bool HD.out.symm, CC.out⟩
    subst q0
    by_cases q1 : z1 = y1
    case neg =>
     have e1 : (z1 == y1) = false := by simpa using q1
     clear hne q1
     go_wp2_with fail
     go_quiet (fail)
     have CC := jd (below_drewN HC.out nq)
     go_wp2
     go_ret
     exact ⟨ret_bool HD.out.symm, CC.out⟩
    subst q1
    by_cases q2 : z2 = y2
    case neg =>
     have e2 : (z2 == y2) = false := by simpa using q2
     clear hne q2
     go_wp2_with fail
     go_quiet (fail)
     have CC := jd (below_drewN HC.out nq)
     go_wp2
     go_ret
     exact ⟨ret_bool HD.out.symm, CC.out⟩
    subst q2
    by_cases q3 : z3 = y3
    case neg =>
     have e3 : (z3 == y3) = false := by simpa using q3
     clear hne q3
     go_wp2_with fail
     go_quiet (fail)
     have CC := jd (below_drewN HC.out nq)
     go_wp2
     go_ret
     exact ⟨ret_bool HD.out.symm, CC.out⟩
    subst q3
    exact absurd ⟨rfl, rfl, rfl, rfl⟩ hne
end Go.Proofs.YthjjdelpdiipdaaGreatDoor
namespace Go.Proofs.YthjjdelpdiipdaaGreatDoor
set_option maxRecDepth 100000
set_option linter.unusedVariables false
open Go.RowKit
attribute [local go_sem] Oper.semAt_some
def SepG (w : World) (M : Nat) (P : List EntM → Prop) (its : List EntM → List Item) (pre : List EntM) (W : World) : Prop := P pre ∧ Sep W w.heap.size (its pre) ∧ Below w.heap.size w W ∧ M ≤ W.heap.size
theorem SepG.more {w W : World} {M : Nat} {P : List EntM → Prop} {its : List EntM → List Item} {pre : List EntM} (h : SepG w M P its pre W) (o : Obj) : SepG w M P its pre (W.alloc o) :=
 ⟨h.1, h.2.1.keep ((Below.refl _ _).alloc (Nat.le_refl _) _), h.2.2.1.alloc h.2.2.1.size _, Nat.le_trans h.2.2.2 (by simp)⟩
theorem postM_ret1 {F : Fence} {n : Nat} {P : Program} {fn : Func} {R : Ending → World → Prop} {a : Act} {w : World} {v : Value} {D : Nat} (hd : a.defers = [{ target := .collected D, args := #[] }]) (hK : w.heap[D]? = some (.deferred (some [])))
    (hr : (results fn a.tmps).run P (w.putObj D (.deferred none)) = .ok v (w.putObj D (.deferred none))) (hR : R (.returned v) (w.putObj D (.deferred none))) : bodyPostM F n P fn R .ret a w := by
 show LeavesInM F n P fn a.tmps R a.defers .returning w
 rw [hd]
 exact ⟨by simp, .inl ⟨_, _, rfl, run_takeDeferred hK, v, hr, hR⟩⟩
end Go.Proofs.YthjjdelpdiipdaaGreatDoor
namespace Go.Proofs.YthjjdelpdiipdaaGreatDoor
set_option maxRecDepth 100000
set_option linter.unusedVariables false
open Go.RowKit
attribute [local go_sem] Oper.semAt_some
def KeepB (n₀ bb bf bl : Nat) (W W' : World) : Prop := Below n₀ W W' ∧ W'.heap[bb]? = W.heap[bb]? ∧ W'.heap[bf]? = W.heap[bf]? ∧ W'.heap[bl]? = W.heap[bl]?
theorem keepB_t {n₀ bb bf bl : Nat} {A B C : World} (h : KeepB n₀ bb bf bl A B) (k : KeepB n₀ bb bf bl B C) : KeepB n₀ bb bf bl A C := ⟨h.1.trans k.1, k.2.1.trans h.2.1, k.2.2.1.trans h.2.2.1, k.2.2.2.trans h.2.2.2⟩
theorem keepB_b {n₀ bb bf bl : Nat} {w : World} (hn : n₀ ≤ w.heap.size) (h0 : bb < w.heap.size) (h1 : bf < w.heap.size) (h2 : bl < w.heap.size) (W : World) (l : Nat) (o o' : Obj) (hl : w.heap.size ≤ l) (h : W.heap[l]? = some o) (hc : o.isCells = false) (hw : o.isWalk = false) : KeepB n₀ bb bf bl W (W.putObj l o') :=
 ⟨belowK_b hn W l o o' hl h hc hw, World.putObj_heap_other (by omega), World.putObj_heap_other (by omega), World.putObj_heap_other (by omega)⟩
theorem keepB_more {n₀ bb bf bl : Nat} {W : World} (hn : n₀ ≤ W.heap.size) (h0 : bb < W.heap.size) (h1 : bf < W.heap.size) (h2 : bl < W.heap.size) (o : Obj) : KeepB n₀ bb bf bl W (W.alloc o) :=
 ⟨(Below.refl _ W).alloc hn o, ((Below.refl W.heap.size W).alloc (Nat.le_refl _) o).block bb h0, ((Below.refl W.heap.size W).alloc (Nat.le_refl _) o).block bf h1, ((Below.refl W.heap.size W).alloc (Nat.le_refl _) o).block bl h2⟩
end Go.Proofs.YthjjdelpdiipdaaGreatDoor
namespace Go.Proofs.YthjjdelpdiipdaaGreatDoor
set_option maxRecDepth 100000
set_option linter.unusedVariables false
def noDefer (o : Oper) : Bool := match o.op with | .defer _ => false | _ => true
theorem noDefer_ne {o : Oper} (h : noDefer o = true) : ∀ c, o.op ≠ .defer c := fun c e => by
 unfold noDefer at h
 rw [e] at h
 cases h
theorem opIn_round {P : Program} {o : Oper} {a : Act} {w : World} {K K' : Act → World → Prop} {Q : Exit → Act → World → Prop} {n l : Nat} (hd : noDefer o = true) (hK : ∀ a w, K a w → K' a w) (h : o.wp P a w K Q) : o.wpIn (Fence.wide.inRound l) n P a w K' Q := by
 refine ⟨fun _ _ => trivial, ?_⟩
 show o.uponIn _ n P a K' Q ((Oper.semAt (some l) a.eval o).run P w)
 rw [Oper.semAt_some l a.eval o (noDefer_ne hd)]
 unfold Oper.wp at h
 generalize (execOp a.eval o).run P w = r at h ⊢
 cases r with
 | ok x w' =>
  cases x with
  | value v => exact hK _ _ h
  | skip => exact hK _ _ h
  | defer d => exact hK _ _ h
  | enter f args =>
   refine ⟨fun hh => (by cases hh), CallsIn.mono (CallsIn.inRound l (callsIn_wide.2 h)) fun e w' q => ?_⟩
   cases e with
   | returned v => exact hK _ _ q
   | panicked chain => exact q
   | outgrown => exact q
  | row row args => exact ⟨fun hh => (by cases hh), fun c cs _ => let ⟨v, w', r, s⟩ := h c cs; ⟨v, w', hK _ _ r, stepsIn_wide.2 s⟩⟩
  | _ => exact h.elim
 | halt x w' => cases x <;> first | exact h | exact h.elim
theorem wpOpsIn_round {P : Program} {ops : Array Oper} {Q : Exit → Act → World → Prop} {n l : Nat} (hQ : ¬ LetsOut Q) (hd : ∀ (i : Nat) (o : Oper), ops[i]? = some o → noDefer o = true) :
    ∀ (lst : List Nat) (a : Act) (w : World), wpOps P ops Q lst a w → wpOpsIn (Fence.wide.inRound l) n P ops Q lst a w
 | [], _, _, h => h
 | i :: rest, a, w, h => by
  unfold wpOps at h
  unfold wpOpsIn
  cases ho : ops[i]? with
  | none =>
   rw [ho] at h
   exact wpOpsIn_round hQ hd rest a w h
  | some o =>
   rw [ho] at h
   simp only at h ⊢
   by_cases hw : Region.wanted o (yielded ops a.tmps) = true
   · rw [if_pos hw] at h ⊢
     rcases h with h | h
     · exact opIn_round (hd i o ho) (fun a w h => wpOpsIn_round hQ hd rest a w h) h
     · exact absurd h.2 hQ
   · rw [if_neg hw] at h ⊢
     exact ⟨fun _ _ => trivial, wpOpsIn_round hQ hd rest _ w h⟩
theorem wpIn_region_LR {P : Program} {ops : Array Oper} {Q : Exit → Act → World → Prop} {n l : Nat} (F : World → Prop) (last : Nat) {id : Nat} {a : Act} {w : World} (hm : P.follows .mixedOrders = true) (hd : ops.toList.all noDefer = true) (hQ : ¬ LetsOut Q)
    (h : wpAnyL P .any ops Q F last ops.size (Array.replicate ops.size false) a w.drew) : (Code.region id ops true).wpIn (Fence.wide.inRound l) n P Q a w :=
 wpIn_region_draw fun t => by
  simp only [Region.schedule, hm, Bool.true_or, if_true]
  refine wpOpsIn_round hQ (fun i o ho => ?_) _ _ _ (wpAny_sound ops.size t _ a _ (wpAny_of_L _ _ _ _ h))
  exact List.all_eq_true.1 hd o (Array.mem_toList_iff.2 (Array.mem_of_getElem? ho))
end Go.Proofs.YthjjdelpdiipdaaGreatDoor
