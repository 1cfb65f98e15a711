/- Parts of my texts: HeadC MarkC MarkO MarkS1 Cls. -/
import Derived.Test.YthjjdelpdiipdaaGreatDoorMX16
import Derived.Deep.Quiet
namespace Go.Proofs.YthjjdelpdiipdaaGreatDoor
set_option maxRecDepth 100000
set_option linter.unusedVariables false
open Go.RowKit
def CHeadOk (p : Nat) : Prop := ∀ (x0 x1 x2 : Int) (A : Option Addr) (n cc : Nat) (l : List MarkM) (w : World), Rd w w.heap.size [mrkD l] [.slice A n cc] → mrkSz l ≤ 1048577 → Calls Tryz.prog p #[.agg #[.int .i64 x0, .int .i64 x1, .int .i64 x2, .slice A n cc]] w (fun e w' => e = .returned (.bool (headOkB ⟨x0, x1, x2, l⟩)) ∧ Below w.heap.size w w')
def CKeptOk (p : Nat) : Prop := ∀ (Aa0 : Option Addr) (na0 ca0 : Nat) (Aa1 : Option Addr) (na1 ca1 : Nat) (Aa2 : Option Addr) (na2 ca2 : Nat) (Aa3 : Option Addr) (na3 ca3 : Nat) (t : TwoM) (w : World), Rd w w.heap.size t.cells [.slice Aa0 na0 ca0, .slice Aa1 na1 ca1, .slice Aa2 na2 ca2, .slice Aa3 na3 ca3] → t.sz ≤ 1048577 → Calls Tryz.prog p #[.agg #[.slice Aa0 na0 ca0, .slice Aa1 na1 ca1, .slice Aa2 na2 ca2, .slice Aa3 na3 ca3]] w (fun e w' => e = .returned (.bool (keptB t)) ∧ Below w.heap.size w w')
theorem Rd.headL {w : World} {B : Nat} {t : HeadM} {x0 x1 x2 : Int} {v3 : Value} (h : Rd w B t.cells [.int .i64 x0, .int .i64 x1, .int .i64 x2, v3]) : x0 = t.num ∧ x1 = t.base ∧ x2 = t.tm ∧ Rd w B [mrkD t.seen] [v3] := by
 obtain ⟨_, _, _, e0, e1, e2, rfl, hr⟩ := h.headT
 injection e0 with _ e0
 injection e1 with _ e1
 injection e2 with _ e2
 exact ⟨e0, e1, e2, hr⟩
theorem CHeadOk.at_ {p : Nat} (H : CHeadOk p) (x0 x1 x2 : Int) (A : Option Addr) (n cc : Nat) (d0 : HeadM) (w : World) (h : Rd w w.heap.size d0.cells [.int .i64 x0, .int .i64 x1, .int .i64 x2, .slice A n cc]) (hs : d0.sz ≤ 1048576) : Calls Tryz.prog p #[.agg #[.int .i64 x0, .int .i64 x1, .int .i64 x2, .slice A n cc]] w (fun e w' => e = .returned (.bool (headOkB d0)) ∧ Below w.heap.size w w') := by
 obtain ⟨rfl, rfl, rfl, hr⟩ := h.headL
 exact H d0.num d0.base d0.tm A n cc d0.seen w hr (Nat.le_trans hs (by decide))
theorem CKeptOk.at_ {p : Nat} (H : CKeptOk p) (Aa0 : Option Addr) (na0 ca0 : Nat) (Aa1 : Option Addr) (na1 ca1 : Nat) (Aa2 : Option Addr) (na2 ca2 : Nat) (Aa3 : Option Addr) (na3 ca3 : Nat) (t : TwoM) (w : World) (h : Rd w w.heap.size t.cells [.slice Aa0 na0 ca0, .slice Aa1 na1 ca1, .slice Aa2 na2 ca2, .slice Aa3 na3 ca3]) (hs : t.sz ≤ 1048576) : Calls Tryz.prog p #[.agg #[.slice Aa0 na0 ca0, .slice Aa1 na1 ca1, .slice Aa2 na2 ca2, .slice Aa3 na3 ca3]] w (fun e w' => e = .returned (.bool (keptB t)) ∧ Below w.heap.size w w') := H Aa0 na0 ca0 Aa1 na1 ca1 Aa2 na2 ca2 Aa3 na3 ca3 t w h (by omega)
def MadeMB (w : World) (r : List MarkM × Bool) (e : Ending) (w' : World) : Prop :=
 ∃ (A : Option Addr) (n c : Nat), e = .returned (.tuple #[.slice A n c, .bool r.2]) ∧ Has w' w.heap.size [mrkD r.1] [.slice A n c] ∧ Below w.heap.size w w'
def CSeenOver (p : Nat) : Prop := ∀ (A : Option Addr) (n cc : Nat) (l : List MarkM) (A5 : Option Addr) (n5 c5 : Nat) (es : List EntM) (w : World), Rd w w.heap.size [mrkD l] [.slice A n cc] → mrkSz l ≤ 1048577 → Rd w w.heap.size [entD es] [.slice A5 n5 c5] → entSz es ≤ 1048577 → Calls Tryz.prog p #[.slice A n cc, .slice A5 n5 c5] w (MadeMB w (seenOverM l es))
def CSameSeen (p : Nat) : Prop := ∀ (A : Option Addr) (n cc : Nat) (l : List MarkM) (A2 : Option Addr) (n2 c2 : Nat) (r : List MarkM) (w : World), Rd w w.heap.size [mrkD l] [.slice A n cc] → mrkSz l ≤ 1048577 → Rd w w.heap.size [mrkD r] [.slice A2 n2 c2] → mrkSz r ≤ 1048577 → Calls Tryz.prog p #[.slice A n cc, .slice A2 n2 c2] w (fun e w' => e = .returned (.bool (sameMs l r)) ∧ Below w.heap.size w w')
theorem seenOverM_sz (d : List MarkM) (es : List EntM) (h : mrkSz d ≤ 1048576) (_h : entSz es ≤ 1048576) : mrkSz (seenOverM d es).1 ≤ 1048577 := by
 unfold seenOverM
 split
 next hok =>
  split
  next =>
   split
   next ho =>
    have h1 := over_ok hok es.length (Nat.le_refl _) ((overB_iff d es).1 ho)
    rw [List.take_length] at h1
    exact Nat.le_trans (seen_len h1) (by decide)
   next => exact Nat.le_trans h (by decide)
  next => exact Nat.le_trans h (by decide)
 next => exact Nat.zero_le _
def doneA (l : List MarkM) (c : Int) (j : Nat) : Bool := (l.take j).any fun y => decide (c ≤ y.mc)
def outA (l : List MarkM) (x : MarkM) (j : Nat) : List MarkM := ((l.take j).filter fun y => decide (y.mc < x.mc)) ++ (if doneA l x.mc j = true then x :: ((l.take j).filter fun y => decide (x.mc < y.mc)) else [])
theorem outA_zero (l : List MarkM) (x : MarkM) : outA l x 0 = [] := by
 unfold outA doneA
 simp
theorem doneA_zero (l : List MarkM) (c : Int) : doneA l c 0 = false := by
 unfold doneA
 simp
theorem doneA_step {l : List MarkM} {c : Int} {j : Nat} (hj : j < l.length) : doneA l c (j + 1) = (doneA l c j || decide (c ≤ l[j].mc)) := by
 unfold doneA
 rw [List.take_succ_eq_append_getElem hj, List.any_append]
 simp
theorem doneA_no {l : List MarkM} (h : seenB l = true) {c : Int} {j : Nat} (hj : j < l.length) (hc : l[j].mc ≤ c) : doneA l c j = false := by
 rw [Bool.eq_false_iff]
 intro h9
 unfold doneA at h9
 rw [List.any_eq_true] at h9
 obtain ⟨y, hy, h8⟩ := h9
 obtain ⟨i, hi, rfl⟩ := List.getElem_of_mem hy
 rw [List.length_take] at hi
 rw [List.getElem_take, decide_eq_true_eq] at h8
 have := seen_rise h j hj i (by omega)
 omega
theorem filt_step {l : List MarkM} {p : MarkM → Bool} {j : Nat} (hj : j < l.length) : (l.take (j + 1)).filter p = (l.take j).filter p ++ (if p l[j] = true then [l[j]] else []) := by
 rw [List.take_succ_eq_append_getElem hj, List.filter_append, List.filter_cons]
 simp
theorem outA_lt {l : List MarkM} (h : seenB l = true) {x : MarkM} {j : Nat} (hj : j < l.length) (hc : l[j].mc < x.mc) : outA l x (j + 1) = outA l x j ++ [l[j]] ∧ doneA l x.mc j = false ∧ doneA l x.mc (j + 1) = false := by
 have h1 := doneA_no h hj (c := x.mc) (by omega)
 have h2 : doneA l x.mc (j + 1) = false := by rw [doneA_step hj, h1, decide_eq_false (by omega)]; rfl
 refine ⟨?_, h1, h2⟩
 unfold outA
 rw [h1, h2, filt_step hj, if_pos (decide_eq_true hc)]
 simp
theorem filt_gt_nil {l : List MarkM} {c : Int} {j : Nat} (h : doneA l c j = false) : ((l.take j).filter fun y => decide (c < y.mc)) = [] := by
 rw [List.filter_eq_nil_iff]
 intro y hy h9
 rw [Bool.eq_false_iff] at h
 apply h
 unfold doneA
 rw [List.any_eq_true]
 refine ⟨y, hy, ?_⟩
 simp at h9 ⊢
 omega
theorem outA_eq {l : List MarkM} (h : seenB l = true) {x : MarkM} {j : Nat} (hj : j < l.length) (hc : l[j].mc = x.mc) : outA l x (j + 1) = outA l x j ++ [x] ∧ doneA l x.mc j = false ∧ doneA l x.mc (j + 1) = true := by
 have h1 := doneA_no h hj (c := x.mc) (by omega)
 have h2 : doneA l x.mc (j + 1) = true := by rw [doneA_step hj, decide_eq_true (by omega), Bool.or_true]
 refine ⟨?_, h1, h2⟩
 unfold outA
 rw [h1, h2, if_pos rfl, filt_step hj, filt_step hj, if_neg (by simp; omega), if_neg (by simp; omega), filt_gt_nil h1]
 simp
theorem outA_gt_no {l : List MarkM} {x : MarkM} {j : Nat} (hj : j < l.length) (hc : x.mc < l[j].mc) (h1 : doneA l x.mc j = false) : outA l x (j + 1) = (outA l x j ++ [x]) ++ [l[j]] ∧ doneA l x.mc (j + 1) = true := by
 have h2 : doneA l x.mc (j + 1) = true := by rw [doneA_step hj, decide_eq_true (by omega), Bool.or_true]
 refine ⟨?_, h2⟩
 unfold outA
 rw [h1, h2, if_pos rfl, filt_step hj, filt_step hj, if_neg (by simp; omega), if_pos (by simp; omega), filt_gt_nil h1]
 simp
theorem outA_gt_yes {l : List MarkM} {x : MarkM} {j : Nat} (hj : j < l.length) (hc : x.mc < l[j].mc) (h1 : doneA l x.mc j = true) : outA l x (j + 1) = outA l x j ++ [l[j]] ∧ doneA l x.mc (j + 1) = true := by
 have h2 : doneA l x.mc (j + 1) = true := by rw [doneA_step hj, h1, Bool.true_or]
 refine ⟨?_, h2⟩
 unfold outA
 rw [h1, h2, if_pos rfl, filt_step hj, filt_step hj, if_neg (by simp; omega), if_pos (by simp; omega)]
 simp
theorem outA_end_yes {l : List MarkM} {x : MarkM} (h1 : doneA l x.mc l.length = true) : outA l x l.length = insM l x := by
 unfold outA insM
 rw [h1, if_pos rfl, List.take_length]
theorem outA_end_no {l : List MarkM} {x : MarkM} (h1 : doneA l x.mc l.length = false) : outA l x l.length ++ [x] = insM l x := by
 have h2 := filt_gt_nil h1
 rw [List.take_length] at h2
 unfold outA insM
 rw [h1, h2, List.take_length]
 simp
theorem mrk_flat : ∀ x : MarkM, mrkC x = (mrkNs x).flatMap fun y => [Dat.int y] := fun _ => rfl
set_option maxHeartbeats 3200000 in
theorem sCopyMs_any (A : Option Addr) (n cc B : Nat) (l : List MarkM) (w : World) (h : Rd w B [mrkD l] [.slice A n cc]) (hB : B ≤ w.heap.size) (hs : mrkSz l ≤ 1048577) :
    Calls Tryz.prog 71 #[.slice A n cc] w fun e w' => ∃ (A2 : Option Addr) (c2 : Nat), e = .returned (.slice A2 n c2) ∧ Has w' w.heap.size [mrkD l] [.slice A2 n c2] ∧ Below w.heap.size w w' := by
 obtain ⟨_, _, _, e, hl, _, hcm, _⟩ := h.mrks
 injection e with e1 e2 e3
 subst e1 e2 e3
 have hn : n ≤ 1048577 := by unfold mrkSz at hs; omega
 have S := Sep.nil w w.heap.size
 have c := Below.refl w.heap.size w
 replace S := S.boxAt c.size (w.heap.size) rfl #[] 114
 replace c := al c S
 have hsr := Rd.src (f := mrkC) (g := mrkNs) (l := l) (e := 114) (k := 3) mrk_flat (fun _ => rfl) (by decide) (h.keep (c.mono hB))
 replace S := S.blk0 (k := 3) (f := mrkC)
 replace S := (S.flat (f := mrkC) (g := mrkNs) mrk_flat l).swap
 have hgc := jd c
 clear h c hcm
 go_enter Tryz.func71, Tryz.ntmps71
 go_wp2_with (first
  | (at_builtin
     refine wpList_append_fresh (f := mrkC) (k := 3) (l2 := l) rfl (.tmp 3) (.tmp 4) (by rfl) Tryz.underlying44 infoMark (by rfl) (by decide) mrkC_len (by rfl) (S.own_ 0 rfl) (S.nodup_own 0 rfl) (by rfl) hsr.1 (S.own_ 1 rfl) hsr.2 (S.nodup_own 1 rfl) S.apart (by omega) (by omega) ?_
     intro A3 c3 w3 fp3 o3 n3 s3 t3))
 have H := jd (S.merge t3 o3 n3 s3 hgc.out.size).first
 have C := jd (hgc.out.trans (S.below 0 rfl t3 hgc.out.size))
 clear S o3 n3 s3 t3 hgc hsr
 go_ret
 exact ⟨_, _, rfl, H.out, C.out⟩
set_option maxHeartbeats 6400000 in
theorem sSameMs_any (A A2 : Option Addr) (n c n2 c2 B B2 : Nat) (l r : List MarkM) (w : World) (h : Rd w B [mrkD l] [.slice A n c]) (h2 : Rd w B2 [mrkD r] [.slice A2 n2 c2]) (hB : B ≤ w.heap.size) (hB2 : B2 ≤ w.heap.size) (hs : mrkSz l ≤ 1048577) (hs2 : mrkSz r ≤ 1048577) :
    Calls Tryz.prog 32 #[.slice A n c, .slice A2 n2 c2] w fun e w' => e = .returned (.bool (sameMs l r)) ∧ Below w.heap.size w w' := by
 obtain ⟨_, _, _, e, hl, _, _, hel⟩ := h.mrks
 injection e with e1 e2 e3
 subst e1 e2 e3
 obtain ⟨_, _, _, e, hl2, _, _, hel2⟩ := h2.mrks
 injection e with e1 e2 e3
 subst e1 e2 e3
 have hn : n ≤ 1048577 := by unfold mrkSz at hs; omega
 have hn2 : n2 ≤ 1048577 := by unfold mrkSz at hs2; omega
 have HL := jd hl
 have HL2 := jd hl2
 clear h h2 hs hs2 hl hl2
 by_cases hnn : n = n2
 case neg =>
  have HD := jd (sameMs_len (l := l) (r := r) (by rw [HL.out, HL2.out]; exact hnn))
  have e1 : ((n : Int) != (n2 : Int)) = true := by simp; omega
  have e2 : ((n : Int) == (n2 : Int)) = false := by simp; omega
  clear hel hel2
  go_enter Tryz.func32, Tryz.ntmps32
  go_wp2
  go_ret
  exact ⟨ret_bool HD.out.symm, Below.refl _ _⟩
 case pos =>
  subst hnn
  have e1 : ((n : Int) != (n : Int)) = false := by simp
  go_enter Tryz.func32, Tryz.ntmps32
  go_wp2
  go_loopw [5] (fun i wr => ∃ j : Nat, j ≤ n ∧ i = .int .i64 (j : Int) ∧ (∀ q, q < j → l.getD q mark0 = r.getD q mark0) ∧ Below w.heap.size w wr) (fun i _ => n - (intOf i).toNat)
  case atStart => exact ⟨0, Nat.zero_le _, rfl, fun q hq => absurd hq (by omega), Below.refl _ _⟩
  case round =>
   obtain ⟨j, hj, rfl, hall, c0⟩ := hrel
   have HA := jd hall
   clear hall
   by_cases hlt : j < n
   case neg =>
    obtain rfl : j = n := by omega
    have HD := jd (show sameMs l r = true from (sameMs_iff l r).2 (List.ext_getElem (by rw [HL.out, HL2.out]) fun q h1 h2 => by have h9 := HA.out q (by have := HL.out; omega); rwa [mgetD h1, mgetD h2] at h9))
    have CC := jd c0
    clear hel hel2 c0
    go_wp2
    go_ret
    exact ⟨ret_bool HD.out.symm, CC.out⟩
   case pos =>
   have hjl : j < l.length := by have := HL.out; omega
   have hjr : j < r.length := by have := HL2.out; omega
   obtain ⟨b, off, rfl, hb, hcA⟩ := hel (by omega)
   obtain ⟨b2, off2, rfl, hb2, hcB⟩ := hel2 (by omega)
   obtain ⟨hc0, hc1, hc2⟩ := hcA j hjl
   obtain ⟨hd0, hd1, hd2⟩ := hcB j hjr
   have cs0 := (c0.cell (p := ⟨b, off + j * 3, none⟩) (show b < _ by omega)).trans hc0
   have ct0 := (c0.cell (p := ⟨b2, off2 + j * 3, none⟩) (show b2 < _ by omega)).trans hd0
   have cs1 := (c0.cell (p := ⟨b, off + j * 3 + 1, none⟩) (show b < _ by omega)).trans hc1
   have ct1 := (c0.cell (p := ⟨b2, off2 + j * 3 + 1, none⟩) (show b2 < _ by omega)).trans hd1
   have cs2 := (c0.cell (p := ⟨b, off + j * 3 + 2, none⟩) (show b < _ by omega)).trans hc2
   have ct2 := (c0.cell (p := ⟨b2, off2 + j * 3 + 2, none⟩) (show b2 < _ by omega)).trans hd2
   obtain ⟨z0, hz0⟩ : ∃ q, q = l[j].mc := ⟨_, rfl⟩
   rw [← hz0] at cs0
   obtain ⟨y0, hy0⟩ : ∃ q, q = r[j].mc := ⟨_, rfl⟩
   rw [← hy0] at ct0
   obtain ⟨z1, hz1⟩ : ∃ q, q = l[j].ms := ⟨_, rfl⟩
   rw [← hz1] at cs1
   obtain ⟨y1, hy1⟩ : ∃ q, q = r[j].ms := ⟨_, rfl⟩
   rw [← hy1] at ct1
   obtain ⟨z2, hz2⟩ : ∃ q, q = l[j].mi := ⟨_, rfl⟩
   rw [← hz2] at cs2
   obtain ⟨y2, hy2⟩ : ∃ q, q = r[j].mi := ⟨_, rfl⟩
   rw [← hy2] at ct2
   have hm1 : l[j] = ⟨z0, z1, z2⟩ := by rw [hz0, hz1, hz2]
   have hm2 : r[j] = ⟨y0, y1, y2⟩ := by rw [hy0, hy1, hy2]
   have HC := jd c0
   by_cases he : l[j] = r[j]
   case pos =>
    rw [hm1, hm2] at he
    injection he with q0 q1 q2
    have HN := jd (show ∀ q, q < j + 1 → l.getD q mark0 = r.getD q mark0 from fun q hq => by
     rcases Nat.lt_or_ge q j with h1 | h1
     · exact HA.out q h1
     · obtain rfl : q = j := by omega
       rw [mgetD hjl, mgetD hjr, hm1, hm2, q0, q1, q2])
    clear hcA hcB hel hel2 hm1 hm2 hz0 hy0 hc0 hd0 hz1 hy1 hc1 hd1 hz2 hy2 hc2 hd2
    subst q0 q1 q2
    go_wp2_with fail
    go_quiet (fail)
    have CC := jd (below_drewN HC.out nq)
    clear c0 cs0 ct0 cs1 ct1 cs2 ct2
    generalize wr.drewN nq = w9 at *
    go_wp2
    go_roundw
    case rel => exact ⟨j + 1, by omega, by go_num, HN.out, CC.out⟩
    case measure => simp [intOf]; omega
   case neg =>
    have HD := jd (sameMs_step (l := l) (r := r) (j := j) (by rw [Bool.eq_false_iff]; intro h9; exact he (by have h8 := (sameM_iff _ _).1 h9; rwa [mgetD hjl, mgetD hjr] at h8)))
    have hne : ¬ (z0 = y0 ∧ z1 = y1 ∧ z2 = y2) := fun h9 => he (by rw [hm1, hm2]; obtain ⟨q0, q1, q2⟩ := h9; rw [q0, q1, q2])
    clear he hm1 hm2 hcA hcB hel hel2 hz0 hy0 hc0 hd0 hz1 hy1 hc1 hd1 hz2 hy2 hc2 hd2
    by_cases q0 : z0 = y0
    case neg =>
     have e3 : (z0 == y0) = false := by simpa using q0
     clear hne q0
     go_wp2_with fail
     go_quiet (fail)
     have CC := jd (below_drewN HC.out nq)
     go_wp2
     go_ret
     exact ⟨ret_bool HD.out.symm, CC.out⟩
    subst q0
    by_cases q1 : z1 = y1
    case neg =>
     have e4 : (z1 == y1) = false := by simpa using q1
     clear hne q1
     go_wp2_with fail
     go_quiet (fail)
     have CC := jd (below_drewN HC.out nq)
     go_wp2
     go_ret
     exact ⟨ret_bool HD.out.symm, CC.out⟩
    subst q1
    by_cases q2 : z2 = y2
    case neg =>
     have e5 : (z2 == y2) = false := by simpa using q2
     clear hne q2
     go_wp2_with fail
     go_quiet (fail)
     have CC := jd (below_drewN HC.out nq)
     go_wp2
     go_ret
     exact ⟨ret_bool HD.out.symm, CC.out⟩
    subst q2
    exact absurd ⟨rfl, rfl, rfl⟩ hne
theorem wp_region_cls {P : Program} {id : Nat} {Q : Exit → Act → World → Prop} {a : Act} {w : World} {l : List Oper} (F : World → Prop) (hm : P.follows .mixedOrders = true) (hB : Region.lexB .any l.toArray = true)
    (hF : ∀ v, Below w.heap.size w v → F v)
    (h : ∀ C : World → Prop, (∀ v, C v → F v) → (∀ v v', C v → Below v.heap.size v v' → C v') → wpQuiet P l.toArray C (fun a' => ∀ w', Below w.heap.size w w' → Q .normal a' w') l a) : (Code.region id l.toArray true).wp P Q a w := by
 refine wp_region_quiet (C := fun v => Below w.heap.size w v) hm hB ?_ ?_
 · exact (Below.refl _ _).drew
 · simpa using h (fun v => Below w.heap.size w v) hF (fun v v' hv hb => hv.trans (hb.mono hv.size))
theorem Calls.cls {P : Program} {f : FuncId} {args : Array Value} {v : World} {u u' : Value} {C : World → Prop} (hC : ∀ v v', C v → Below v.heap.size v v' → C v') (hv : C v)
    (h : Calls P f args v fun e w' => e = .returned u ∧ Below v.heap.size v w') (hu : u = u') : Calls P f args v fun e w' => e = .returned u' ∧ C w' :=
 h.mono fun _ _ ⟨he, hb⟩ => ⟨he.trans (by rw [hu]), hC _ _ hv hb⟩
end Go.Proofs.YthjjdelpdiipdaaGreatDoor
