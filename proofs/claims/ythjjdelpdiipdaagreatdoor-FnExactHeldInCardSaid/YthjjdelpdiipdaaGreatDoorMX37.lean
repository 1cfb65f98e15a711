/- Parts of my texts: MarkI7 MarkI8 MarkIC. -/
import Derived.Test.YthjjdelpdiipdaaGreatDoorMX35
namespace Go.Proofs.YthjjdelpdiipdaaGreatDoor
set_option maxRecDepth 100000
set_option linter.unusedVariables false
open Go.RowKit
def RiseTo (l : List MarkM) (j : Nat) : Prop := ∀ q, q < j → (markB (l.getD q mark0) && riseAt l q) = true
theorem rise_no {l : List MarkM} {j : Nat} (hj : j < l.length) (h : (markB (l.getD j mark0) && riseAt l j) = false) : seenB l = false := seenB_step hj (by unfold seenAt; rw [h, Bool.false_and])
theorem rise_all {l : List MarkM} (h : RiseTo l l.length) : (∀ m ∈ l, markB m = true) ∧ l.Pairwise (fun a b => a.mc < b.mc) := by
 have h1 : ∀ m ∈ l, markB m = true := fun m hm => by
  obtain ⟨j, hj, rfl⟩ := List.getElem_of_mem hm
  have := h j hj
  rw [mgetD hj, Bool.and_eq_true] at this
  exact this.1
 refine ⟨h1, ?_⟩
 have h2 : ∀ j (hj : j < l.length) q (hq : q < j), (l[q]'(by omega)).mc < l[j].mc := by
  intro j
  induction j with
  | zero => intro _ q hq; exact absurd hq (by omega)
  | succ k ih =>
   intro hj q hq
   have h3 := h (k + 1) hj
   rw [Bool.and_eq_true] at h3
   have h4 := h3.2
   unfold riseAt at h4
   rw [decide_eq_false (show ¬ k + 1 = 0 by omega), Bool.false_or, decide_eq_true_eq, Nat.add_sub_cancel, mgetD hj, mgetD (show k < l.length by omega)] at h4
   by_cases e : q = k
   · subst e; exact h4
   · have := ih (by omega) q (by omega)
     omega
 rw [List.pairwise_iff_getElem]
 intro i j hi hj hij
 exact h2 j hj i hij
theorem rise_end {l : List MarkM} (h : RiseTo l l.length) : seenB l = decide ((tabOf l).length = l.length) := by
 obtain ⟨h1, h2⟩ := rise_all h
 rw [Bool.eq_iff_iff, decide_eq_true_eq, tabOf_all]
 exact ⟨fun h3 => seen_apart h3, fun h3 => seen_of h1 h2 h3⟩
theorem mark_w64 {m : MarkM} (h : markB m = true) : w64 m.mi := w64_in (by have := (markB_iff m).1 h; omega)
set_option maxHeartbeats 12800000 in
theorem iSeen_any (A : Option Addr) (n cc B : Nat) (l : List MarkM) (w : World) (h : Rd w B [mrkD l] [.slice A n cc]) (hB : B ≤ w.heap.size) (hs : mrkSz l ≤ 1048577) :
    Calls Tryz.prog 116 #[.slice A n cc] w fun e w' => e = .returned (.bool (seenB l)) ∧ Below w.heap.size w w' := by
 have HH := jd h
 have HSZ := jd hs
 obtain ⟨_, _, _, e, hl, _, _, hel⟩ := h.mrks
 injection e with e1 e2 e3
 subst e1 e2 e3
 have hn : n ≤ 1048577 := by unfold mrkSz at hs; omega
 have HL := jd hl
 clear h hl hs
 go_enter Tryz.func116, Tryz.ntmps116
 go_wp2
 go_loopw [7] (fun i wr => ∃ j : Nat, j ≤ n ∧ i = .int .i64 (j : Int) ∧ RiseTo l j ∧ Below w.heap.size w wr) (fun i _ => n - (intOf i).toNat)
 case atStart => exact ⟨0, Nat.zero_le _, rfl, fun q hq => absurd hq (by omega), Below.refl _ _⟩
 case round =>
  obtain ⟨j, hj, rfl, hall, c⟩ := hrel
  have HA := jd hall
  have C := jd c
  clear hall
  by_cases hlt : j < n
  case neg =>
   obtain rfl : j = n := by omega
   have HR := jd (show RiseTo l l.length by rw [HL.out]; exact HA.out)
   have HV := jd (show seenB l = decide ((tabOf l).length = j) by rw [rise_end HR.out, HL.out])
   have ht := iTable_any A j cc B l wr (HH.out.keep (C.out.mono hB)) (Nat.le_trans hB C.out.size) HSZ.out (fun m hm => mark_w64 ((rise_all HR.out).1 m hm))
   clear hel c
   go_wp2_with fail
   refine ht.mono ?_
   rintro e w2 ⟨rfl, t2, b2⟩
   have T2 := jd t2
   have CC := jd (C.out.trans (b2.mono C.out.size))
   clear t2 b2 ht
   obtain ⟨D, hown, _, hsz, _⟩ := T2.out.map
   go_wp2_with (first
    | (at_len
       refine wpList_len_own _ rfl (.tmp 43) 156 (by rfl) 2 114 Tryz.underlying156 selfR wr.heap.size _ D (by rfl) hown ?_))
   go_ret
   refine ⟨ret_bool ?_, CC.out⟩
   rw [HV.out, Bool.eq_iff_iff]
   simp
   try omega
  case pos =>
   have hjl : j < l.length := by have := HL.out; omega
   obtain ⟨b, off, rfl, hb, hc⟩ := hel (by omega)
   obtain ⟨hc0, hc1, hc2⟩ := hc j hjl
   have cs0 := cu c hc0 (show b < _ by omega)
   obtain ⟨x0, hx0⟩ : ∃ q, q = l[j].mc := ⟨_, rfl⟩
   rw [← hx0] at cs0
   have cs1 := cu c hc1 (show b < _ by omega)
   obtain ⟨x1, hx1⟩ : ∃ q, q = l[j].ms := ⟨_, rfl⟩
   rw [← hx1] at cs1
   have cs2 := cu c hc2 (show b < _ by omega)
   obtain ⟨x2, hx2⟩ : ∃ q, q = l[j].mi := ⟨_, rfl⟩
   rw [← hx2] at cs2
   have hmk : l[j] = ⟨x0, x1, x2⟩ := by rw [hx0, hx1, hx2]
   have HG := jd (show l.getD j mark0 = ⟨x0, x1, x2⟩ by rw [mgetD hjl, hmk])
   have HNO := jd (show (markB ⟨x0, x1, x2⟩ && riseAt l j) = false → seenB l = false from fun h9 => rise_no hjl (by rw [HG.out]; exact h9))
   have HJ := jd hjl
   have HC := jd hc
   have CC := jd (c.alloc c.size (.cells #[.int .i64 x0, .int .i64 x1, .int .i64 x2] 114))
   have kk := Blk.new wr #[.int .i64 x0, .int .i64 x1, .int .i64 x2] 114
   have m0 : (wr.alloc (.cells #[.int .i64 x0, .int .i64 x1, .int .i64 x2] 114)).cell? ⟨wr.heap.size, 0, none⟩ = some (.int .i64 x0) := kk.cell 0
   have K := jd kk
   have hbb := jd (show b < wr.heap.size by have := C.out.size; omega)
   clear hmk hel hc hx0 hx1 hx2 hc0 hc1 hc2 kk
   by_cases p1 : 2 ≤ x0 ∧ x0 ≤ 5
   case neg =>
    have HV := jd (HNO.out (Bool.eq_false_iff.2 fun h9 => by
     rw [Bool.and_eq_true, markB_iff] at h9
     exact p1 h9.1.1))
    clear c m0
    go_wp2_with (first | (go_at_call 152; refine (i_AskerOk_no x0 _ p1).mono ?_; rintro e w' ⟨rfl, rfl⟩))
    go_ret
    exact ⟨ret_bool HV.out.symm, CC.out⟩
   case pos =>
   by_cases p2 : 1 ≤ x1 ∧ x1 ≤ 2000
   case neg =>
    have HV := jd (HNO.out (Bool.eq_false_iff.2 fun h9 => by
     rw [Bool.and_eq_true, markB_iff] at h9
     exact p2 h9.1.2.1))
    clear c m0
    go_wp2_with (first | (go_at_call 152; refine (i_AskerOk_yes x0 _ p1).mono ?_; rintro e w' ⟨rfl, rfl⟩) | (go_at_call 153; refine (i_isSeq_no x1 _ p2).mono ?_; rintro e w' ⟨rfl, rfl⟩))
    go_ret
    exact ⟨ret_bool HV.out.symm, CC.out⟩
   case pos =>
   by_cases p3 : 1 ≤ x2 ∧ x2 ≤ 2000
   case neg =>
    have HV := jd (HNO.out (Bool.eq_false_iff.2 fun h9 => by
     rw [Bool.and_eq_true, markB_iff] at h9
     exact p3 h9.1.2.2))
    clear c m0
    go_wp2_with (first | (go_at_call 152; refine (i_AskerOk_yes x0 _ p1).mono ?_; rintro e w' ⟨rfl, rfl⟩) | (go_at_call 153; refine (i_isSeq_yes x1 _ p2).mono ?_; rintro e w' ⟨rfl, rfl⟩) | (go_at_call 154; refine (i_isIndex_no x2 _ p3).mono ?_; rintro e w' ⟨rfl, rfl⟩))
    go_ret
    exact ⟨ret_bool HV.out.symm, CC.out⟩
   case pos =>
   have HM := jd (show markB ⟨x0, x1, x2⟩ = true from (markB_iff _).2 ⟨p1, p2, p3⟩)
   by_cases hj0 : j = 0
   case pos =>
    have HN := jd (show RiseTo l (j + 1) from fun q hq => by
     obtain rfl : q = j := by omega
     rw [HG.out, HM.out]
     unfold riseAt
     rw [decide_eq_true hj0]
     rfl)
    have g0 : decide ((0 : Int) < (j : Int)) = false := decide_eq_false (by omega)
    have g1 : decide (0 < j) = false := decide_eq_false (by omega)
    clear c hj0
    go_wp2_with (first | (go_at_call 152; refine (i_AskerOk_yes x0 _ p1).mono ?_; rintro e w' ⟨rfl, rfl⟩) | (go_at_call 153; refine (i_isSeq_yes x1 _ p2).mono ?_; rintro e w' ⟨rfl, rfl⟩) | (go_at_call 154; refine (i_isIndex_yes x2 _ p3).mono ?_; rintro e w' ⟨rfl, rfl⟩))
    go_quiet (fail)
    have C3 := jd (below_drewN CC.out nq)
    clear m0 cs0 cs1 cs2
    go_wp2
    go_roundw
    case rel => exact ⟨j + 1, by omega, by go_num, HN.out, C3.out⟩
    case measure => simp [intOf] <;> omega
   case neg =>
    obtain ⟨k, rfl⟩ : ∃ k, j = k + 1 := ⟨j - 1, by omega⟩
    have hkl : k < l.length := by have := HJ.out; omega
    have hd0 := (HC.out k hkl).1
    obtain ⟨y0, hy0⟩ : ∃ q, q = l[k].mc := ⟨_, rfl⟩
    rw [← hy0] at hd0
    have d0 : (wr.alloc (.cells #[.int .i64 x0, .int .i64 x1, .int .i64 x2] 114)).cell? ⟨b, off + k * 3, none⟩ = some (.int .i64 y0) := ((((c.alloc c.size (.cells #[.int .i64 x0, .int .i64 x1, .int .i64 x2] 114))).cell (p := ⟨b, off + k * 3, none⟩) (show b < _ by omega)).trans hd0)
    have HK := jd (show riseAt l (k + 1) = decide (y0 < x0) by
     unfold riseAt
     rw [decide_eq_false (show ¬ k + 1 = 0 by omega), Bool.false_or, Nat.add_sub_cancel, HG.out, mgetD hkl, hy0])
    have hw1 : IntKind.i64.wrap (((k + 1 : Nat) : Int) - 1) = (k : Int) := by rw [IntKind.wrap_i64]; omega
    have hw2 : IntKind.i64.wrap (k : Int) = (k : Int) := by rw [IntKind.wrap_i64]; omega
    have j0 : (0 : Int) ≤ (k : Int) := by omega
    have j1 : (k : Int) < (n : Int) := by omega
    have g0 : decide ((0 : Int) < ((k + 1 : Nat) : Int)) = true := decide_eq_true (by omega)
    clear hd0 c hy0 hkl
    by_cases hlt2 : y0 < x0
    case neg =>
     have HV := jd (HNO.out (by rw [HK.out, decide_eq_false hlt2, Bool.and_false]))
     have e1 : decide (x0 ≤ y0) = true := decide_eq_true (by omega)
     go_wp2_with (first | (go_at_call 152; refine (i_AskerOk_yes x0 _ p1).mono ?_; rintro e w' ⟨rfl, rfl⟩) | (go_at_call 153; refine (i_isSeq_yes x1 _ p2).mono ?_; rintro e w' ⟨rfl, rfl⟩) | (go_at_call 154; refine (i_isIndex_yes x2 _ p3).mono ?_; rintro e w' ⟨rfl, rfl⟩))
     go_quiet (fail)
     have C3 := jd (below_drewN CC.out nq)
     clear m0 cs0 cs1 cs2 d0
     go_wp2
     go_ret
     exact ⟨ret_bool HV.out.symm, C3.out⟩
    case pos =>
     have HN := jd (show RiseTo l (k + 1 + 1) from fun q hq => by
      rcases Nat.lt_or_ge q (k + 1) with h1 | h1
      · exact HA.out q h1
      · obtain rfl : q = k + 1 := by omega
        rw [HG.out, HM.out, HK.out, decide_eq_true hlt2]
        rfl)
     have e1 : decide (x0 ≤ y0) = false := decide_eq_false (by omega)
     go_wp2_with (first | (go_at_call 152; refine (i_AskerOk_yes x0 _ p1).mono ?_; rintro e w' ⟨rfl, rfl⟩) | (go_at_call 153; refine (i_isSeq_yes x1 _ p2).mono ?_; rintro e w' ⟨rfl, rfl⟩) | (go_at_call 154; refine (i_isIndex_yes x2 _ p3).mono ?_; rintro e w' ⟨rfl, rfl⟩))
     go_quiet (fail)
     have C3 := jd (below_drewN CC.out nq)
     clear m0 cs0 cs1 cs2 d0
     go_wp2
     go_roundw
     case rel => exact ⟨k + 1 + 1, by omega, by go_num, HN.out, C3.out⟩
     case measure => simp [intOf] <;> omega
theorem seen_w64 {l : List MarkM} (h : seenB l = true) : ∀ m ∈ l, w64 m.mi := fun m hm => mark_w64 ((seen_pairs h).1 m hm)
theorem iTable_ok (A : Option Addr) (n cc B : Nat) (l : List MarkM) (w : World) (h : Rd w B [mrkD l] [.slice A n cc]) (hB : B ≤ w.heap.size) (hs : mrkSz l ≤ 1048577) (hok : seenB l = true) :
    Calls Tryz.prog 121 #[.slice A n cc] w fun e w' => e = .returned (.map (some w.heap.size)) ∧ Tab w' w.heap.size l ∧ Below w.heap.size w w' := by
 have := iTable_any A n cc B l w h hB hs (seen_w64 hok)
 rw [tabOf_apart (seen_apart hok)] at this
 exact this
set_option maxHeartbeats 6400000 in
theorem iLastSeen_any (A : Option Addr) (n cc B : Nat) (l : List MarkM) (w : World) (h : Rd w B [mrkD l] [.slice A n cc]) (hB : B ≤ w.heap.size) (hs : mrkSz l ≤ 1048577) :
    Calls Tryz.prog 117 #[.slice A n cc] w fun e w' => e = .returned (.int .i64 (lastS l)) ∧ Below w.heap.size w w' := by
 have hc := iSeen_any A n cc B l w h hB hs
 have HH := jd h
 cases hok : seenB l
 case false =>
  have HV := jd (show lastS l = 0 by unfold lastS; rw [hok]; rfl)
  rw [hok] at hc
  clear h hok
  go_enter Tryz.func117, Tryz.ntmps117
  go_wp2_with fail
  refine hc.mono ?_
  rintro e w2 ⟨rfl, b2⟩
  go_wp2
  go_ret
  exact ⟨by first | (rw [HV.out]; done) | (rw [HV.out]; rfl), b2⟩
 case true =>
  have HV := jd (show lastS l = maxTo l l.length by unfold lastS; rw [hok]; rfl)
  have HO := jd hok
  rw [hok] at hc
  clear h hok
  go_enter Tryz.func117, Tryz.ntmps117
  go_wp2_with fail
  refine hc.mono ?_
  rintro e w2 ⟨rfl, b2⟩
  have ht := iTable_ok A n cc B l w2 (HH.out.keep (b2.mono hB)) (Nat.le_trans hB b2.size) hs HO.out
  have B2 := jd b2
  clear b2
  go_wp2_with fail
  refine ht.mono ?_
  rintro e w3 ⟨rfl, t3, b3⟩
  have hl := iLast_any w2.heap.size l w3 t3
  have B3 := jd (B2.out.trans (b3.mono B2.out.size))
  clear b3 t3 ht
  go_wp2_with fail
  refine hl.mono ?_
  rintro e w4 ⟨rfl, b4⟩
  have B4 := jd (B3.out.trans (b4.mono B3.out.size))
  clear b4
  go_wp2
  go_ret
  exact ⟨by first | (rw [HV.out]; done) | (rw [HV.out]; rfl), B4.out⟩
set_option maxHeartbeats 6400000 in
theorem iSeenOver_any (A A5 : Option Addr) (n cc n5 c5 B : Nat) (l : List MarkM) (es : List EntM) (w : World) (h : Rd w B [mrkD l] [.slice A n cc]) (hB : B ≤ w.heap.size) (hs : mrkSz l ≤ 1048577) (h5 : Rd w B [entD es] [.slice A5 n5 c5]) (hs5 : entSz es ≤ 1048577) :
    Calls Tryz.prog 82 #[.slice A n cc, .slice A5 n5 c5] w (MadeMB w (seenOverM l es)) := by
 have hc := iSeen_any A n cc B l w h hB hs
 have HH := jd h
 have H5 := jd h5
 have hl5 : es.length = n5 := by
  obtain ⟨_, _, _, e, hl, _⟩ := h5.ents
  injection e with e1 e2 e3
  rw [hl, e2]
 have HL := jd hl5
 have hn5 : n5 ≤ 1048577 := by unfold entSz at hs5; omega
 cases hok : seenB l
 case false =>
  have HV := jd (show seenOverM l es = ([], false) by unfold seenOverM; rw [hok]; rfl)
  rw [hok] at hc
  clear h h5 hok hl5
  go_enter Tryz.func82, Tryz.ntmps82
  go_wp2_with fail
  refine hc.mono ?_
  rintro e w2 ⟨rfl, b2⟩
  go_wp2
  go_ret2
  exact ⟨none, 0, 0, by first | (rw [HV.out]; done) | (rw [HV.out]; rfl), by rw [HV.out]; exact ⟨[], ow_nil_mrks _, List.nodup_nil, fun p hp => by cases hp⟩, b2⟩
 case true =>
  have HO := jd hok
  rw [hok] at hc
  clear h h5 hok hl5
  go_enter Tryz.func82, Tryz.ntmps82
  go_wp2_with fail
  refine hc.mono ?_
  rintro e w2 ⟨rfl, b2⟩
  have ht := iTable_ok A n cc B l w2 (HH.out.keep (b2.mono hB)) (Nat.le_trans hB b2.size) hs HO.out
  have B2 := jd b2
  clear b2 hc
  go_wp2_with fail
  refine ht.mono ?_
  rintro e w3 ⟨rfl, t3, b3⟩
  have B3 := jd (B2.out.trans (b3.mono B2.out.size))
  have T3 := jd t3
  clear b3 t3 ht
  by_cases hlong : 2000 < n5
  case pos =>
   have g0 : decide ((2000 : Int) < (n5 : Int)) = true := decide_eq_true (by omega)
   have g1 : decide (2000 < n5) = true := decide_eq_true hlong
   have HV := jd (show seenOverM l es = (l, false) by unfold seenOverM; rw [HO.out, if_pos rfl, if_neg (by have := HL.out; omega)])
   have ht := iTable_ok A n cc B l w3 (HH.out.keep (B3.out.mono hB)) (Nat.le_trans hB B3.out.size) hs HO.out
   clear hlong
   go_wp2_with (first | (go_at_call 121; refine ht.mono ?_; rintro e w4 ⟨rfl, t4, b4⟩; have hm := iMarks_any w3.heap.size l w4 t4 HO.out; have B4 := jd (B3.out.trans (b4.mono B3.out.size)); clear b4 t4) | (go_at_call 123; refine hm.mono ?_; rintro e w5 ⟨A6, n6, c6, rfl, h6, b6⟩; have H6 := jd (h6.up B4.out.size); have B6 := jd (B4.out.trans (b6.mono B4.out.size)); clear h6 b6))
   go_ret2
   exact ⟨A6, n6, c6, by first | (rw [HV.out]; done) | (rw [HV.out]; rfl), by rw [HV.out]; exact H6.out, B6.out⟩
  case neg =>
   have g0 : decide ((2000 : Int) < (n5 : Int)) = false := decide_eq_false (by omega)
   have g1 : decide (2000 < n5) = false := decide_eq_false hlong
   have hr := iRecordAll_tab w2.heap.size w.heap.size l A5 n5 c5 B es w3 T3.out HO.out (H5.out.keep (B3.out.mono hB)) hn5 B2.out.size B3.out.size hB
   have HLE := jd (show es.length ≤ 2000 by have := HL.out; omega)
   clear hlong
   cases hov : overB l es
   case false =>
    have HV := jd (show seenOverM l es = (l, false) by unfold seenOverM; rw [HO.out, if_pos rfl, if_pos HLE.out, hov]; rfl)
    rw [hov] at hr
    clear hov
    go_wp2_with (first
     | (go_at_call 122; refine hr.mono ?_; rintro e w4 ⟨rfl, _, b4⟩; have B4 := jd (B3.out.trans b4); have ht := iTable_ok A n cc B l w4 (HH.out.keep (B4.out.mono hB)) (Nat.le_trans hB B4.out.size) hs HO.out; clear b4)
     | (go_at_call 121; refine ht.mono ?_; rintro e w5 ⟨rfl, t5, b5⟩; have hm := iMarks_any w4.heap.size l w5 t5 HO.out; have B5 := jd (B4.out.trans (b5.mono B4.out.size)); clear b5 t5)
     | (go_at_call 123; refine hm.mono ?_; rintro e w6 ⟨A6, n6, c6, rfl, h6, b6⟩; have H6 := jd (h6.up B5.out.size); have B6 := jd (B5.out.trans (b6.mono B5.out.size)); clear h6 b6))
    go_ret2
    exact ⟨A6, n6, c6, by first | (rw [HV.out]; done) | (rw [HV.out]; rfl), by rw [HV.out]; exact H6.out, B6.out⟩
   case true =>
    have HV := jd (show seenOverM l es = (overM l es, true) by unfold seenOverM; rw [HO.out, if_pos rfl, if_pos HLE.out, hov]; rfl)
    have HN := jd (show seenB (overM l es) = true by
     have h1 := over_ok HO.out es.length (Nat.le_refl _) ((overB_iff l es).1 hov)
     rwa [List.take_length] at h1)
    rw [hov] at hr
    clear hov
    go_wp2_with fail
    refine hr.mono ?_
    rintro e w4 ⟨rfl, t4, b4⟩
    have B4 := jd (B3.out.trans b4)
    have hm := iMarks_any w2.heap.size (overM l es) w4 (t4 (by simp)) HN.out
    clear b4 t4 hr
    go_wp2_with fail
    refine hm.mono ?_
    rintro e w6 ⟨A6, n6, c6, rfl, h6, b6⟩
    have H6 := jd (h6.up B4.out.size)
    have B6 := jd (B4.out.trans (b6.mono B4.out.size))
    clear h6 b6 hm
    go_wp2
    go_ret2
    exact ⟨A6, n6, c6, by first | (rw [HV.out]; done) | (rw [HV.out]; rfl), by rw [HV.out]; exact H6.out, B6.out⟩
set_option maxHeartbeats 6400000 in
theorem iEqualMs_any (A A2 : Option Addr) (n c n2 c2 B B2 : Nat) (l r : List MarkM) (w : World) (h : Rd w B [mrkD l] [.slice A n c]) (h2 : Rd w B2 [mrkD r] [.slice A2 n2 c2]) (hB : B ≤ w.heap.size) (hB2 : B2 ≤ w.heap.size) (hs : mrkSz l ≤ 1048577) (hs2 : mrkSz r ≤ 1048577) :
    Calls Tryz.prog 124 #[.slice A n c, .slice A2 n2 c2] w fun e w' => e = .returned (.bool (sameMs l r)) ∧ Below w.heap.size w w' := by
 obtain ⟨_, _, _, e, hl, _, _, hel⟩ := h.mrks
 injection e with e1 e2 e3
 subst e1 e2 e3
 obtain ⟨_, _, _, e, hl2, _, _, hel2⟩ := h2.mrks
 injection e with e1 e2 e3
 subst e1 e2 e3
 have hn : n ≤ 1048577 := by unfold mrkSz at hs; omega
 have hn2 : n2 ≤ 1048577 := by unfold mrkSz at hs2; omega
 have HL := jd hl
 have HL2 := jd hl2
 clear h h2 hs hs2 hl hl2
 by_cases hnn : n = n2
 case neg =>
  have HD := jd (sameMs_len (l := l) (r := r) (by rw [HL.out, HL2.out]; exact hnn))
  have e1 : ((n : Int) != (n2 : Int)) = true := by simp; omega
  have e2 : ((n : Int) == (n2 : Int)) = false := by simp; omega
  clear hel hel2
  go_enter Tryz.func124, Tryz.ntmps124
  go_wp2
  go_ret
  exact ⟨ret_bool HD.out.symm, Below.refl _ _⟩
 case pos =>
  subst hnn
  have e1 : ((n : Int) != (n : Int)) = false := by simp
  go_enter Tryz.func124, Tryz.ntmps124
  go_wp2
  go_loopw [13] (fun i wr => ∃ j : Nat, j ≤ n ∧ i = .int .i64 (j : Int) ∧ (∀ q, q < j → l.getD q mark0 = r.getD q mark0) ∧ Below w.heap.size w wr) (fun i _ => n - (intOf i).toNat)
  case atStart => exact ⟨0, Nat.zero_le _, rfl, fun q hq => absurd hq (by omega), Below.refl _ _⟩
  case round =>
   obtain ⟨j, hj, rfl, hall, c0⟩ := hrel
   have HA := jd hall
   clear hall
   by_cases hlt : j < n
   case neg =>
    obtain rfl : j = n := by omega
    have HD := jd (show sameMs l r = true from (sameMs_iff l r).2 (List.ext_getElem (by rw [HL.out, HL2.out]) fun q h1 h2 => by have h9 := HA.out q (by have := HL.out; omega); rwa [mgetD h1, mgetD h2] at h9))
    have CC := jd c0
    clear hel hel2 c0
    go_wp2
    go_ret
    exact ⟨ret_bool HD.out.symm, CC.out⟩
   case pos =>
   have hjl : j < l.length := by have := HL.out; omega
   have hjr : j < r.length := by have := HL2.out; omega
   obtain ⟨b, off, rfl, hb, hcA⟩ := hel (by omega)
   obtain ⟨b2, off2, rfl, hb2, hcB⟩ := hel2 (by omega)
   obtain ⟨hc0, hc1, hc2⟩ := hcA j hjl
   obtain ⟨hd0, hd1, hd2⟩ := hcB j hjr
   have cs0 := (c0.cell (p := ⟨b, off + j * 3, none⟩) (show b < _ by omega)).trans hc0
   have ct0 := (c0.cell (p := ⟨b2, off2 + j * 3, none⟩) (show b2 < _ by omega)).trans hd0
   have cs1 := (c0.cell (p := ⟨b, off + j * 3 + 1, none⟩) (show b < _ by omega)).trans hc1
   have ct1 := (c0.cell (p := ⟨b2, off2 + j * 3 + 1, none⟩) (show b2 < _ by omega)).trans hd1
   have cs2 := (c0.cell (p := ⟨b, off + j * 3 + 2, none⟩) (show b < _ by omega)).trans hc2
   have ct2 := (c0.cell (p := ⟨b2, off2 + j * 3 + 2, none⟩) (show b2 < _ by omega)).trans hd2
   obtain ⟨z0, hz0⟩ : ∃ q, q = l[j].mc := ⟨_, rfl⟩
   rw [← hz0] at cs0
   obtain ⟨y0, hy0⟩ : ∃ q, q = r[j].mc := ⟨_, rfl⟩
   rw [← hy0] at ct0
   obtain ⟨z1, hz1⟩ : ∃ q, q = l[j].ms := ⟨_, rfl⟩
   rw [← hz1] at cs1
   obtain ⟨y1, hy1⟩ : ∃ q, q = r[j].ms := ⟨_, rfl⟩
   rw [← hy1] at ct1
   obtain ⟨z2, hz2⟩ : ∃ q, q = l[j].mi := ⟨_, rfl⟩
   rw [← hz2] at cs2
   obtain ⟨y2, hy2⟩ : ∃ q, q = r[j].mi := ⟨_, rfl⟩
   rw [← hy2] at ct2
   have hm1 : l[j] = ⟨z0, z1, z2⟩ := by rw [hz0, hz1, hz2]
   have hm2 : r[j] = ⟨y0, y1, y2⟩ := by rw [hy0, hy1, hy2]
   have HC := jd c0
   by_cases he : l[j] = r[j]
   case pos =>
    rw [hm1, hm2] at he
    injection he with q0 q1 q2
    have HN := jd (show ∀ q, q < j + 1 → l.getD q mark0 = r.getD q mark0 from fun q hq => by
     rcases Nat.lt_or_ge q j with h1 | h1
     · exact HA.out q h1
     · obtain rfl : q = j := by omega
       rw [mgetD hjl, mgetD hjr, hm1, hm2, q0, q1, q2])
    clear hcA hcB hel hel2 hm1 hm2 hz0 hy0 hc0 hd0 hz1 hy1 hc1 hd1 hz2 hy2 hc2 hd2
    subst q0 q1 q2
    go_wp2_with fail
    go_quiet (fail)
    have CC := jd (below_drewN HC.out nq)
    clear c0 cs0 ct0 cs1 ct1 cs2 ct2
    generalize wr.drewN nq = w9 at *
    go_wp2
    go_roundw
    case rel => exact ⟨j + 1, by omega, by go_num, HN.out, CC.out⟩
    case measure => simp [intOf]; omega
   case neg =>
    have HD := jd (sameMs_step (l := l) (r := r) (j := j) (by rw [Bool.eq_false_iff]; intro h9; exact he (by have h8 := (sameM_iff _ _).1 h9; rwa [mgetD hjl, mgetD hjr] at h8)))
    have hne : ¬ (z0 = y0 ∧ z1 = y1 ∧ z2 = y2) := fun h9 => he (by rw [hm1, hm2]; obtain ⟨q0, q1, q2⟩ := h9; rw [q0, q1, q2])
    clear he hm1 hm2 hcA hcB hel hel2 hz0 hy0 hc0 hd0 hz1 hy1 hc1 hd1 hz2 hy2 hc2 hd2
    by_cases q0 : z0 = y0
    case neg =>
     have e3 : (z0 == y0) = false := by simpa using q0
     clear hne q0
     go_wp2_with fail
     go_quiet (fail)
     have CC := jd (below_drewN HC.out nq)
     go_wp2
     go_ret
     exact ⟨ret_bool HD.out.symm, CC.out⟩
    subst q0
    by_cases q1 : z1 = y1
    case neg =>
     have e4 : (z1 == y1) = false := by simpa using q1
     clear hne q1
     go_wp2_with fail
     go_quiet (fail)
     have CC := jd (below_drewN HC.out nq)
     go_wp2
     go_ret
     exact ⟨ret_bool HD.out.symm, CC.out⟩
    subst q1
    by_cases q2 : z2 = y2
    case neg =>
     have e5 : (z2 == y2) = false := by simpa using q2
     clear hne q2
     go_wp2_with fail
     go_quiet (fail)
     have CC := jd (below_drewN HC.out nq)
     go_wp2
     go_ret
     exact ⟨ret_bool HD.out.symm, CC.out⟩
    subst q2
    exact absurd ⟨rfl, rfl, rfl⟩ hne
theorem iSameSeen_any (A A2 : Option Addr) (n c n2 c2 B B2 : Nat) (l r : List MarkM) (w : World) (h : Rd w B [mrkD l] [.slice A n c]) (h2 : Rd w B2 [mrkD r] [.slice A2 n2 c2]) (hB : B ≤ w.heap.size) (hB2 : B2 ≤ w.heap.size) (hs : mrkSz l ≤ 1048577) (hs2 : mrkSz r ≤ 1048577) :
    Calls Tryz.prog 83 #[.slice A n c, .slice A2 n2 c2] w fun e w' => e = .returned (.bool (sameMs l r)) ∧ Below w.heap.size w w' := by
 have hc := iEqualMs_any A A2 n c n2 c2 B B2 l r w h h2 hB hB2 hs hs2
 go_enter Tryz.func83, Tryz.ntmps83
 go_wp2_with fail
 refine hc.mono ?_
 rintro e w2 ⟨rfl, b2⟩
 go_wp2
 go_ret
 exact ⟨rfl, b2⟩
theorem iSeenOver_c : CSeenOver 82 := fun A n cc l A5 n5 c5 es w h hs h5 hs5 => iSeenOver_any A A5 n cc n5 c5 w.heap.size l es w h (Nat.le_refl _) hs h5 hs5
theorem iSameSeen_c : CSameSeen 83 := fun A n cc l A2 n2 c2 r w h hs h2 hs2 => iSameSeen_any A A2 n cc n2 c2 w.heap.size w.heap.size l r w h h2 (Nat.le_refl _) (Nat.le_refl _) hs hs2
end Go.Proofs.YthjjdelpdiipdaaGreatDoor
