/- Parts of my texts: MarkI7 MarkC MarkI8 KS6 TwoS1 TwoS2. -/
import Derived.Test.YtmjifhjhialcbaaGreatL19
namespace Go.Proofs.YtmjifhjhialcbaaGreat
set_option maxRecDepth 100000
set_option linter.unusedVariables false
open Go.RowKit
def RiseTo (l : List MarkM) (j : Nat) : Prop := ∀ q, q < j → (markB (l.getD q mark0) && riseAt l q) = true
theorem rise_no {l : List MarkM} {j : Nat} (hj : j < l.length) (h : (markB (l.getD j mark0) && riseAt l j) = false) : seenB l = false := seenB_step hj (by unfold seenAt; rw [h, Bool.false_and])
theorem rise_all {l : List MarkM} (h : RiseTo l l.length) : (∀ m ∈ l, markB m = true) ∧ l.Pairwise (fun a b => a.mc < b.mc) := by
 have h1 : ∀ m ∈ l, markB m = true := fun m hm => by
  obtain ⟨j, hj, rfl⟩ := List.getElem_of_mem hm
  have := h j hj
  rw [mgetD hj, Bool.and_eq_true] at this
  exact this.1
 refine ⟨h1, ?_⟩
 have h2 : ∀ j (hj : j < l.length) q (hq : q < j), (l[q]'(by omega)).mc < l[j].mc := by
  intro j
  induction j with
  | zero => intro _ q hq; exact absurd hq (by omega)
  | succ k ih =>
   intro hj q hq
   have h3 := h (k + 1) hj
   rw [Bool.and_eq_true] at h3
   have h4 := h3.2
   unfold riseAt at h4
   rw [decide_eq_false (show ¬ k + 1 = 0 by omega), Bool.false_or, decide_eq_true_eq, Nat.add_sub_cancel, mgetD hj, mgetD (show k < l.length by omega)] at h4
   by_cases e : q = k
   · subst e; exact h4
   · have := ih (by omega) q (by omega)
     omega
 rw [List.pairwise_iff_getElem]
 intro i j hi hj hij
 exact h2 j hj i hij
theorem rise_end {l : List MarkM} (h : RiseTo l l.length) : seenB l = decide ((tabOf l).length = l.length) := by
 obtain ⟨h1, h2⟩ := rise_all h
 rw [Bool.eq_iff_iff, decide_eq_true_eq, tabOf_all]
 exact ⟨fun h3 => seen_apart h3, fun h3 => seen_of h1 h2 h3⟩
theorem mark_w64 {m : MarkM} (h : markB m = true) : w64 m.mi := w64_in (by have := (markB_iff m).1 h; omega)
set_option maxHeartbeats 12800000 in
theorem iSeen_any (A : Option Addr) (n cc B : Nat) (l : List MarkM) (w : World) (h : Rd w B [mrkD l] [.slice A n cc]) (hB : B ≤ w.heap.size) (hs : mrkSz l ≤ 1048577) :
    Calls Tryz.prog 76 #[.slice A n cc] w fun e w' => e = .returned (.bool (seenB l)) ∧ Below w.heap.size w w' := by
 have HH := jd h
 have HSZ := jd hs
 obtain ⟨_, _, _, e, hl, _, _, hel⟩ := h.mrks
 injection e with e1 e2 e3
 subst e1 e2 e3
 have hn : n ≤ 1048577 := by unfold mrkSz at hs; omega
 have HL := jd hl
 clear h hl hs
 go_enter Tryz.func76, Tryz.ntmps76
 go_wp2
 go_loopw [7] (fun i wr => ∃ j : Nat, j ≤ n ∧ i = .int .i64 (j : Int) ∧ RiseTo l j ∧ Below w.heap.size w wr) (fun i _ => n - (intOf i).toNat)
 case atStart => exact ⟨0, Nat.zero_le _, rfl, fun q hq => absurd hq (by omega), Below.refl _ _⟩
 case round =>
  obtain ⟨j, hj, rfl, hall, c⟩ := hrel
  have HA := jd hall
  have C := jd c
  clear hall
  by_cases hlt : j < n
  case neg =>
   obtain rfl : j = n := by omega
   have HR := jd (show RiseTo l l.length by rw [HL.out]; exact HA.out)
   have HV := jd (show seenB l = decide ((tabOf l).length = j) by rw [rise_end HR.out, HL.out])
   have ht := iTable_any A j cc B l wr (HH.out.keep (C.out.mono hB)) (Nat.le_trans hB C.out.size) HSZ.out (fun m hm => mark_w64 ((rise_all HR.out).1 m hm))
   clear hel c
   go_wp2_with fail
   refine ht.mono ?_
   rintro e w2 ⟨rfl, t2, b2⟩
   have T2 := jd t2
   have CC := jd (C.out.trans (b2.mono C.out.size))
   clear t2 b2 ht
   obtain ⟨D, hown, _, hsz, _⟩ := T2.out.map
   go_wp2_with (first
    | (at_len
       refine wpList_len_own _ rfl (.tmp 43) 156 (by rfl) 2 113 Tryz.underlying156 selfR wr.heap.size _ D (by rfl) hown ?_))
   go_ret
   refine ⟨ret_bool ?_, CC.out⟩
   rw [HV.out, Bool.eq_iff_iff]
   simp
   try omega
  case pos =>
   have hjl : j < l.length := by have := HL.out; omega
   obtain ⟨b, off, rfl, hb, hc⟩ := hel (by omega)
   obtain ⟨hc0, hc1, hc2⟩ := hc j hjl
   have cs0 := cu0z c hc0 (show b < _ by omega)
   obtain ⟨x0, hx0⟩ : ∃ q, q = l[j].mc := ⟨_, rfl⟩
   rw [← hx0] at cs0
   have cs1 := cu0z c hc1 (show b < _ by omega)
   obtain ⟨x1, hx1⟩ : ∃ q, q = l[j].ms := ⟨_, rfl⟩
   rw [← hx1] at cs1
   have cs2 := cu0z c hc2 (show b < _ by omega)
   obtain ⟨x2, hx2⟩ : ∃ q, q = l[j].mi := ⟨_, rfl⟩
   rw [← hx2] at cs2
   have hmk : l[j] = ⟨x0, x1, x2⟩ := by rw [hx0, hx1, hx2]
   have HG := jd (show l.getD j mark0 = ⟨x0, x1, x2⟩ by rw [mgetD hjl, hmk])
   have HNO := jd (show (markB ⟨x0, x1, x2⟩ && riseAt l j) = false → seenB l = false from fun h9 => rise_no hjl (by rw [HG.out]; exact h9))
   have HJ := jd hjl
   have HC := jd hc
   have CC := jd (c.alloc c.size (.cells #[.int .i64 x0, .int .i64 x1, .int .i64 x2] 113))
   have kk := Blk.new wr #[.int .i64 x0, .int .i64 x1, .int .i64 x2] 113
   have m0 : (wr.alloc (.cells #[.int .i64 x0, .int .i64 x1, .int .i64 x2] 113)).cell? ⟨wr.heap.size, 0, none⟩ = some (.int .i64 x0) := kk.cell 0
   have K := jd kk
   have hbb := jd (show b < wr.heap.size by have := C.out.size; omega)
   clear hmk hel hc hx0 hx1 hx2 hc0 hc1 hc2 kk
   by_cases p1 : 2 ≤ x0 ∧ x0 ≤ 5
   case neg =>
    have HV := jd (HNO.out (Bool.eq_false_iff.2 fun h9 => by
     rw [Bool.and_eq_true, markB_iff] at h9
     exact p1 h9.1.1))
    clear c m0
    go_wp2_with (first | (go_at_call 126; refine (i_AskerOk_no x0 _ p1).mono ?_; rintro e w' ⟨rfl, rfl⟩))
    go_ret
    exact ⟨ret_bool HV.out.symm, CC.out⟩
   case pos =>
   by_cases p2 : 1 ≤ x1 ∧ x1 ≤ 2000
   case neg =>
    have HV := jd (HNO.out (Bool.eq_false_iff.2 fun h9 => by
     rw [Bool.and_eq_true, markB_iff] at h9
     exact p2 h9.1.2.1))
    clear c m0
    go_wp2_with (first | (go_at_call 126; refine (i_AskerOk_yes x0 _ p1).mono ?_; rintro e w' ⟨rfl, rfl⟩) | (go_at_call 127; refine (i_isSeq_no x1 _ p2).mono ?_; rintro e w' ⟨rfl, rfl⟩))
    go_ret
    exact ⟨ret_bool HV.out.symm, CC.out⟩
   case pos =>
   by_cases p3 : 1 ≤ x2 ∧ x2 ≤ 2000
   case neg =>
    have HV := jd (HNO.out (Bool.eq_false_iff.2 fun h9 => by
     rw [Bool.and_eq_true, markB_iff] at h9
     exact p3 h9.1.2.2))
    clear c m0
    go_wp2_with (first | (go_at_call 126; refine (i_AskerOk_yes x0 _ p1).mono ?_; rintro e w' ⟨rfl, rfl⟩) | (go_at_call 127; refine (i_isSeq_yes x1 _ p2).mono ?_; rintro e w' ⟨rfl, rfl⟩) | (go_at_call 128; refine (i_isIndex_no x2 _ p3).mono ?_; rintro e w' ⟨rfl, rfl⟩))
    go_ret
    exact ⟨ret_bool HV.out.symm, CC.out⟩
   case pos =>
   have HM := jd (show markB ⟨x0, x1, x2⟩ = true from (markB_iff _).2 ⟨p1, p2, p3⟩)
   by_cases hj0 : j = 0
   case pos =>
    have HN := jd (show RiseTo l (j + 1) from fun q hq => by
     obtain rfl : q = j := by omega
     rw [HG.out, HM.out]
     unfold riseAt
     rw [decide_eq_true hj0]
     rfl)
    have g0 : decide ((0 : Int) < (j : Int)) = false := decide_eq_false (by omega)
    have g1 : decide (0 < j) = false := decide_eq_false (by omega)
    clear c hj0
    go_wp2_with (first | (go_at_call 126; refine (i_AskerOk_yes x0 _ p1).mono ?_; rintro e w' ⟨rfl, rfl⟩) | (go_at_call 127; refine (i_isSeq_yes x1 _ p2).mono ?_; rintro e w' ⟨rfl, rfl⟩) | (go_at_call 128; refine (i_isIndex_yes x2 _ p3).mono ?_; rintro e w' ⟨rfl, rfl⟩))
    go_quiet (fail)
    have C3 := jd (below_drewN CC.out nq)
    clear m0 cs0 cs1 cs2
    go_wp2
    go_roundw
    case rel => exact ⟨j + 1, by omega, by go_num, HN.out, C3.out⟩
    case measure => simp [intOf] <;> omega
   case neg =>
    obtain ⟨k, rfl⟩ : ∃ k, j = k + 1 := ⟨j - 1, by omega⟩
    have hkl : k < l.length := by have := HJ.out; omega
    have hd0 := (HC.out k hkl).1
    obtain ⟨y0, hy0⟩ : ∃ q, q = l[k].mc := ⟨_, rfl⟩
    rw [← hy0] at hd0
    have d0 : (wr.alloc (.cells #[.int .i64 x0, .int .i64 x1, .int .i64 x2] 113)).cell? ⟨b, off + k * 3, none⟩ = some (.int .i64 y0) := ((((c.alloc c.size (.cells #[.int .i64 x0, .int .i64 x1, .int .i64 x2] 113))).cell (p := ⟨b, off + k * 3, none⟩) (show b < _ by omega)).trans hd0)
    have HK := jd (show riseAt l (k + 1) = decide (y0 < x0) by
     unfold riseAt
     rw [decide_eq_false (show ¬ k + 1 = 0 by omega), Bool.false_or, Nat.add_sub_cancel, HG.out, mgetD hkl, hy0])
    have hw1 : IntKind.i64.wrap (((k + 1 : Nat) : Int) - 1) = (k : Int) := by rw [IntKind.wrap_i64]; omega
    have hw2 : IntKind.i64.wrap (k : Int) = (k : Int) := by rw [IntKind.wrap_i64]; omega
    have j0 : (0 : Int) ≤ (k : Int) := by omega
    have j1 : (k : Int) < (n : Int) := by omega
    have g0 : decide ((0 : Int) < ((k + 1 : Nat) : Int)) = true := decide_eq_true (by omega)
    clear hd0 c hy0 hkl
    by_cases hlt2 : y0 < x0
    case neg =>
     have HV := jd (HNO.out (by rw [HK.out, decide_eq_false hlt2, Bool.and_false]))
     have e1 : decide (x0 ≤ y0) = true := decide_eq_true (by omega)
     go_wp2_with (first | (go_at_call 126; refine (i_AskerOk_yes x0 _ p1).mono ?_; rintro e w' ⟨rfl, rfl⟩) | (go_at_call 127; refine (i_isSeq_yes x1 _ p2).mono ?_; rintro e w' ⟨rfl, rfl⟩) | (go_at_call 128; refine (i_isIndex_yes x2 _ p3).mono ?_; rintro e w' ⟨rfl, rfl⟩))
     go_quiet (fail)
     have C3 := jd (below_drewN CC.out nq)
     clear m0 cs0 cs1 cs2 d0
     go_wp2
     go_ret
     exact ⟨ret_bool HV.out.symm, C3.out⟩
    case pos =>
     have HN := jd (show RiseTo l (k + 1 + 1) from fun q hq => by
      rcases Nat.lt_or_ge q (k + 1) with h1 | h1
      · exact HA.out q h1
      · obtain rfl : q = k + 1 := by omega
        rw [HG.out, HM.out, HK.out, decide_eq_true hlt2]
        rfl)
     have e1 : decide (x0 ≤ y0) = false := decide_eq_false (by omega)
     go_wp2_with (first | (go_at_call 126; refine (i_AskerOk_yes x0 _ p1).mono ?_; rintro e w' ⟨rfl, rfl⟩) | (go_at_call 127; refine (i_isSeq_yes x1 _ p2).mono ?_; rintro e w' ⟨rfl, rfl⟩) | (go_at_call 128; refine (i_isIndex_yes x2 _ p3).mono ?_; rintro e w' ⟨rfl, rfl⟩))
     go_quiet (fail)
     have C3 := jd (below_drewN CC.out nq)
     clear m0 cs0 cs1 cs2 d0
     go_wp2
     go_roundw
     case rel => exact ⟨k + 1 + 1, by omega, by go_num, HN.out, C3.out⟩
     case measure => simp [intOf] <;> omega
def MadeMB (w : World) (r : List MarkM × Bool) (e : Ending) (w' : World) : Prop :=
 ∃ (A : Option Addr) (n c : Nat), e = .returned (.tuple #[.slice A n c, .bool r.2]) ∧ Has w' w.heap.size [mrkD r.1] [.slice A n c] ∧ Below w.heap.size w w'
theorem seen_w64 {l : List MarkM} (h : seenB l = true) : ∀ m ∈ l, w64 m.mi := fun m hm => mark_w64 ((seen_pairs h).1 m hm)
theorem iTable_ok (A : Option Addr) (n cc B : Nat) (l : List MarkM) (w : World) (h : Rd w B [mrkD l] [.slice A n cc]) (hB : B ≤ w.heap.size) (hs : mrkSz l ≤ 1048577) (hok : seenB l = true) :
    Calls Tryz.prog 129 #[.slice A n cc] w fun e w' => e = .returned (.map (some w.heap.size)) ∧ Tab w' w.heap.size l ∧ Below w.heap.size w w' := by
 have := iTable_any A n cc B l w h hB hs (seen_w64 hok)
 rw [tabOf_apart (seen_apart hok)] at this
 exact this
set_option maxHeartbeats 6400000 in
theorem iLastSeen_any (A : Option Addr) (n cc B : Nat) (l : List MarkM) (w : World) (h : Rd w B [mrkD l] [.slice A n cc]) (hB : B ≤ w.heap.size) (hs : mrkSz l ≤ 1048577) :
    Calls Tryz.prog 77 #[.slice A n cc] w fun e w' => e = .returned (.int .i64 (lastS l)) ∧ Below w.heap.size w w' := by
 have hc := iSeen_any A n cc B l w h hB hs
 have HH := jd h
 cases hok : seenB l
 case false =>
  have HV := jd (show lastS l = 0 by unfold lastS; rw [hok]; rfl)
  rw [hok] at hc
  clear h hok
  go_enter Tryz.func77, Tryz.ntmps77
  go_wp2_with fail
  refine hc.mono ?_
  rintro e w2 ⟨rfl, b2⟩
  go_wp2
  go_ret
  exact ⟨by first | (rw [HV.out]; done) | (rw [HV.out]; rfl), b2⟩
 case true =>
  have HV := jd (show lastS l = maxTo l l.length by unfold lastS; rw [hok]; rfl)
  have HO := jd hok
  rw [hok] at hc
  clear h hok
  go_enter Tryz.func77, Tryz.ntmps77
  go_wp2_with fail
  refine hc.mono ?_
  rintro e w2 ⟨rfl, b2⟩
  have ht := iTable_ok A n cc B l w2 (HH.out.keep (b2.mono hB)) (Nat.le_trans hB b2.size) hs HO.out
  have B2 := jd b2
  clear b2
  go_wp2_with fail
  refine ht.mono ?_
  rintro e w3 ⟨rfl, t3, b3⟩
  have hl := iLast_any w2.heap.size l w3 t3
  have B3 := jd (B2.out.trans (b3.mono B2.out.size))
  clear b3 t3 ht
  go_wp2_with fail
  refine hl.mono ?_
  rintro e w4 ⟨rfl, b4⟩
  have B4 := jd (B3.out.trans (b4.mono B3.out.size))
  clear b4
  go_wp2
  go_ret
  exact ⟨by first | (rw [HV.out]; done) | (rw [HV.out]; rfl), B4.out⟩
set_option maxHeartbeats 6400000 in
theorem iMarkOf_any (A : Option Addr) (n cc B : Nat) (l : List MarkM) (q : Int) (w : World) (h : Rd w B [mrkD l] [.slice A n cc]) (hB : B ≤ w.heap.size) (hs : mrkSz l ≤ 1048577) :
    Calls Tryz.prog 110 #[.slice A n cc, .int .i64 q] w fun e w' => e = .returned (.agg #[.int .i64 (markOf l q).mc, .int .i64 (markOf l q).ms, .int .i64 (markOf l q).mi]) ∧ Below w.heap.size w w' := by
 have HH := jd h
 have S := Sep.nil w w.heap.size
 have c := Below.refl w.heap.size w
 replace S := S.boxAt c.size (w.heap.size) rfl #[.int .i64 0, .int .i64 0, .int .i64 0] 113
 replace c := al c S
 go_enter Tryz.func110, Tryz.ntmps110
 go_wp2_with fail
 generalize w.alloc (.cells #[.int .i64 0, .int .i64 0, .int .i64 0] 113) = w1 at *
 refine (iSeen_any A n cc B l _ (HH.out.keep (c.mono hB)) (Nat.le_trans hB c.size) hs).mono ?_
 rintro e w2 ⟨rfl, b2⟩
 replace c := c.trans (b2.mono c.size)
 replace S := S.keep b2
 clear b2 h
 cases hok : seenB l
 case false =>
  have HV := jd (show markOf l q = mark0 by unfold markOf; rw [hok]; rfl)
  clear hok
  have f0 := lk S 0 0 rfl rfl
  have f1 := (S.at_ 0 rfl).free 0
  have f2 := lk S 0 1 rfl rfl
  have f3 := (S.at_ 0 rfl).free 1
  have f4 := lk S 0 2 rfl rfl
  have f5 := (S.at_ 0 rfl).free 2
  replace S := S.put 0 rfl 0 (.int .i64 0)
  replace c := st c S (by omega)
  replace S := S.put 0 rfl 1 (.int .i64 0)
  replace c := st c S (by omega)
  replace S := S.put 0 rfl 2 (.int .i64 0)
  replace c := st c S (by omega)
  have r0 := jd ((S.at_ 0 rfl).cell 0)
  have r1 := jd ((S.at_ 0 rfl).cell 1)
  have r2 := jd ((S.at_ 0 rfl).cell 2)
  have CC := jd c
  clear S c
  go_wp2
  exact bodyPost_ret (v := .agg #[.int .i64 0, .int .i64 0, .int .i64 0]) (by simp [results, Tryz.results110, go_sem, r0.out, r1.out, r2.out]) rfl ⟨by first | (rw [HV.out]; done) | (rw [HV.out]; rfl), CC.out⟩
 case true =>
  have HM := jd (show markOf l q = findM l q by unfold markOf; rw [if_pos hok])
  have HO := jd hok
  have ht := iTable_ok A n cc B l w2 (HH.out.keep (c.mono hB)) (Nat.le_trans hB c.size) hs hok
  have S2 := jd S
  have C2 := jd c
  clear S c hok
  go_wp2_with fail
  refine ht.mono ?_
  rintro e w3 ⟨rfl, t3, b3⟩
  have hl := iTabOf_any w2.heap.size l q w3 t3 (seen_solo HO.out)
  obtain ⟨y0, y1, y2, hy⟩ : ∃ y0 y1 y2, findM l q = ⟨y0, y1, y2⟩ := ⟨_, _, _, rfl⟩
  rw [hy] at hl HM
  have S3 := jd (S2.out.keep b3)
  have C3 := jd (C2.out.trans (b3.mono C2.out.size))
  clear b3 t3 ht S2 C2 hy
  go_wp2_with fail
  refine hl.mono ?_
  rintro e w4 ⟨rfl, b4⟩
  have S := S3.out.keep b4
  have c := C3.out.trans (b4.mono C3.out.size)
  have HV := HM
  clear b4 hl S3 C3 HM
  have f0 := lk S 0 0 rfl rfl
  have f1 := (S.at_ 0 rfl).free 0
  have f2 := lk S 0 1 rfl rfl
  have f3 := (S.at_ 0 rfl).free 1
  have f4 := lk S 0 2 rfl rfl
  have f5 := (S.at_ 0 rfl).free 2
  replace S := S.put 0 rfl 0 (.int .i64 y0)
  replace c := st c S (by omega)
  replace S := S.put 0 rfl 1 (.int .i64 y1)
  replace c := st c S (by omega)
  replace S := S.put 0 rfl 2 (.int .i64 y2)
  replace c := st c S (by omega)
  have r0 := jd ((S.at_ 0 rfl).cell 0)
  have r1 := jd ((S.at_ 0 rfl).cell 1)
  have r2 := jd ((S.at_ 0 rfl).cell 2)
  have CC := jd c
  clear S c
  go_wp2
  exact bodyPost_ret (v := .agg #[.int .i64 y0, .int .i64 y1, .int .i64 y2]) (by simp [results, Tryz.results110, go_sem, r0.out, r1.out, r2.out]) rfl ⟨by first | (rw [HV.out]; done) | (rw [HV.out]; rfl), CC.out⟩
theorem fold_ins (l : List MarkM) (e : EntM) : overM l [e] = insM l ⟨e.cl, e.sq, e.idx⟩ := rfl
theorem over_one (l : List MarkM) (e : EntM) : seenOverM l [e] = markedM l e := by
 have h : overB l [e] = mayB l e := by
  unfold overB
  show ((List.range 1).all (overAt l [e])) = _
  simp [List.range_succ, overAt, overM]
 unfold seenOverM markedM
 rw [h, if_pos (show [e].length ≤ 2000 from (by decide : (1 : Nat) ≤ 2000)), fold_ins]
set_option maxHeartbeats 6400000 in
theorem iSeenOver_any (A A5 : Option Addr) (n cc n5 c5 B : Nat) (l : List MarkM) (es : List EntM) (w : World) (h : Rd w B [mrkD l] [.slice A n cc]) (hB : B ≤ w.heap.size) (hs : mrkSz l ≤ 1048577) (h5 : Rd w B [entD es] [.slice A5 n5 c5]) (hs5 : entSz es ≤ 1048577) :
    Calls Tryz.prog 233 #[.slice A n cc, .slice A5 n5 c5] w (MadeMB w (seenOverM l es)) := by
 have hc := iSeen_any A n cc B l w h hB hs
 have HH := jd h
 have H5 := jd h5
 have hl5 : es.length = n5 := by
  obtain ⟨_, _, _, e, hl, _⟩ := h5.ents
  injection e with e1 e2 e3
  rw [hl, e2]
 have HL := jd hl5
 have hn5 : n5 ≤ 1048577 := by unfold entSz at hs5; omega
 cases hok : seenB l
 case false =>
  have HV := jd (show seenOverM l es = ([], false) by unfold seenOverM; rw [hok]; rfl)
  rw [hok] at hc
  clear h h5 hok hl5
  go_enter Tryz.func233, Tryz.ntmps233
  go_wp2_with fail
  refine hc.mono ?_
  rintro e w2 ⟨rfl, b2⟩
  go_wp2
  go_ret2
  exact ⟨none, 0, 0, by first | (rw [HV.out]; done) | (rw [HV.out]; rfl), by rw [HV.out]; exact ⟨[], ow_nil_mrks _, List.nodup_nil, fun p hp => by cases hp⟩, b2⟩
 case true =>
  have HO := jd hok
  rw [hok] at hc
  clear h h5 hok hl5
  go_enter Tryz.func233, Tryz.ntmps233
  go_wp2_with fail
  refine hc.mono ?_
  rintro e w2 ⟨rfl, b2⟩
  have ht := iTable_ok A n cc B l w2 (HH.out.keep (b2.mono hB)) (Nat.le_trans hB b2.size) hs HO.out
  have B2 := jd b2
  clear b2 hc
  go_wp2_with fail
  refine ht.mono ?_
  rintro e w3 ⟨rfl, t3, b3⟩
  have B3 := jd (B2.out.trans (b3.mono B2.out.size))
  have T3 := jd t3
  clear b3 t3 ht
  by_cases hlong : 2000 < n5
  case pos =>
   have g0 : decide ((2000 : Int) < (n5 : Int)) = true := decide_eq_true (by omega)
   have g1 : decide (2000 < n5) = true := decide_eq_true hlong
   have HV := jd (show seenOverM l es = (l, false) by unfold seenOverM; rw [HO.out, if_pos rfl, if_neg (by have := HL.out; omega)])
   have ht := iTable_ok A n cc B l w3 (HH.out.keep (B3.out.mono hB)) (Nat.le_trans hB B3.out.size) hs HO.out
   clear hlong
   go_wp2_with (first | (go_at_call 129; refine ht.mono ?_; rintro e w4 ⟨rfl, t4, b4⟩; have hm := iMarks_any w3.heap.size l w4 t4 HO.out; have B4 := jd (B3.out.trans (b4.mono B3.out.size)); clear b4 t4) | (go_at_call 249; refine hm.mono ?_; rintro e w5 ⟨A6, n6, c6, rfl, h6, b6⟩; have H6 := jd (h6.up B4.out.size); have B6 := jd (B4.out.trans (b6.mono B4.out.size)); clear h6 b6))
   go_ret2
   exact ⟨A6, n6, c6, by first | (rw [HV.out]; done) | (rw [HV.out]; rfl), by rw [HV.out]; exact H6.out, B6.out⟩
  case neg =>
   have g0 : decide ((2000 : Int) < (n5 : Int)) = false := decide_eq_false (by omega)
   have g1 : decide (2000 < n5) = false := decide_eq_false hlong
   have hr := iRecordAll_tab w2.heap.size w.heap.size l A5 n5 c5 B es w3 T3.out HO.out (H5.out.keep (B3.out.mono hB)) hn5 B2.out.size B3.out.size hB
   have HLE := jd (show es.length ≤ 2000 by have := HL.out; omega)
   clear hlong
   cases hov : overB l es
   case false =>
    have HV := jd (show seenOverM l es = (l, false) by unfold seenOverM; rw [HO.out, if_pos rfl, if_pos HLE.out, hov]; rfl)
    rw [hov] at hr
    clear hov
    go_wp2_with (first
     | (go_at_call 248; refine hr.mono ?_; rintro e w4 ⟨rfl, _, b4⟩; have B4 := jd (B3.out.trans b4); have ht := iTable_ok A n cc B l w4 (HH.out.keep (B4.out.mono hB)) (Nat.le_trans hB B4.out.size) hs HO.out; clear b4)
     | (go_at_call 129; refine ht.mono ?_; rintro e w5 ⟨rfl, t5, b5⟩; have hm := iMarks_any w4.heap.size l w5 t5 HO.out; have B5 := jd (B4.out.trans (b5.mono B4.out.size)); clear b5 t5)
     | (go_at_call 249; refine hm.mono ?_; rintro e w6 ⟨A6, n6, c6, rfl, h6, b6⟩; have H6 := jd (h6.up B5.out.size); have B6 := jd (B5.out.trans (b6.mono B5.out.size)); clear h6 b6))
    go_ret2
    exact ⟨A6, n6, c6, by first | (rw [HV.out]; done) | (rw [HV.out]; rfl), by rw [HV.out]; exact H6.out, B6.out⟩
   case true =>
    have HV := jd (show seenOverM l es = (overM l es, true) by unfold seenOverM; rw [HO.out, if_pos rfl, if_pos HLE.out, hov]; rfl)
    have HN := jd (show seenB (overM l es) = true by
     have h1 := over_ok HO.out es.length (Nat.le_refl _) ((overB_iff l es).1 hov)
     rwa [List.take_length] at h1)
    rw [hov] at hr
    clear hov
    go_wp2_with fail
    refine hr.mono ?_
    rintro e w4 ⟨rfl, t4, b4⟩
    have B4 := jd (B3.out.trans b4)
    have hm := iMarks_any w2.heap.size (overM l es) w4 (t4 (by simp)) HN.out
    clear b4 t4 hr
    go_wp2_with fail
    refine hm.mono ?_
    rintro e w6 ⟨A6, n6, c6, rfl, h6, b6⟩
    have H6 := jd (h6.up B4.out.size)
    have B6 := jd (B4.out.trans (b6.mono B4.out.size))
    clear h6 b6 hm
    go_wp2
    go_ret2
    exact ⟨A6, n6, c6, by first | (rw [HV.out]; done) | (rw [HV.out]; rfl), by rw [HV.out]; exact H6.out, B6.out⟩
set_option maxHeartbeats 6400000 in
theorem iMarked_any (A : Option Addr) (n cc B : Nat) (l : List MarkM) (e0 e1 e2 e3 e4 e5 e6 e7 e8 : Int) (w : World) (h : Rd w B [mrkD l] [.slice A n cc]) (hB : B ≤ w.heap.size) (hs : mrkSz l ≤ 1048577) :
    Calls Tryz.prog 193 #[.slice A n cc, .agg #[.int .i64 e0, .int .i64 e1, .int .i64 e2, .int .i64 e3, .int .i64 e4, .int .i64 e5, .int .i64 e6, .int .i64 e7, .int .i64 e8]] w (MadeMB w (markedM l ⟨e0, e1, e2, e3, e4, e5, e6, e7, e8⟩)) := by
 have HH := jd h
 clear h
 rw [← over_one]
 obtain ⟨r, hr⟩ : ∃ r, r = seenOverM l [(⟨e0, e1, e2, e3, e4, e5, e6, e7, e8⟩ : EntM)] := ⟨_, rfl⟩
 rw [← hr]
 have HRR := jd hr
 clear hr
 have S := Sep.nil w w.heap.size
 have c := Below.refl w.heap.size w
 replace S := S.boxAt c.size (w.heap.size) rfl #[.int .i64 e0, .int .i64 e1, .int .i64 e2, .int .i64 e3, .int .i64 e4, .int .i64 e5, .int .i64 e6, .int .i64 e7, .int .i64 e8] 87
 replace c := al c S
 replace S := S.boxAt c.size (w.heap.size + 1) (by simp) #[.int .i64 e0, .int .i64 e1, .int .i64 e2, .int .i64 e3, .int .i64 e4, .int .i64 e5, .int .i64 e6, .int .i64 e7, .int .i64 e8] 87
 replace c := al c S
 have HR : Rd ((w.alloc (.cells #[.int .i64 e0, .int .i64 e1, .int .i64 e2, .int .i64 e3, .int .i64 e4, .int .i64 e5, .int .i64 e6, .int .i64 e7, .int .i64 e8] 87)).alloc (.cells #[.int .i64 e0, .int .i64 e1, .int .i64 e2, .int .i64 e3, .int .i64 e4, .int .i64 e5, .int .i64 e6, .int .i64 e7, .int .i64 e8] 87)) ((w.alloc (.cells #[.int .i64 e0, .int .i64 e1, .int .i64 e2, .int .i64 e3, .int .i64 e4, .int .i64 e5, .int .i64 e6, .int .i64 e7, .int .i64 e8] 87)).alloc (.cells #[.int .i64 e0, .int .i64 e1, .int .i64 e2, .int .i64 e3, .int .i64 e4, .int .i64 e5, .int .i64 e6, .int .i64 e7, .int .i64 e8] 87)).heap.size [entD [(⟨e0, e1, e2, e3, e4, e5, e6, e7, e8⟩ : EntM)]] [.slice (some ⟨w.heap.size + 1, 0, none⟩) 1 1] := by
  refine Rd.of_lst (us := [.int .i64 e0, .int .i64 e1, .int .i64 e2, .int .i64 e3, .int .i64 e4, .int .i64 e5, .int .i64 e6, .int .i64 e7, .int .i64 e8]) entC_len rfl (by decide) (by decide) (fun _ => ⟨_, 0, rfl, (S.at_ 0 rfl).lt, fun j hj => ?_⟩) (.int (.int (.int (.int (.int (.int (.int (.int (.int (.nil))))))))))
  rw [Nat.zero_add]
  rw [(S.at_ 0 rfl).cell j]
  simp
 have HR := jd HR
 have C := jd c
 clear S c
 go_enter Tryz.func193, Tryz.ntmps193
 go_wp2_with fail
 generalize (w.alloc (.cells #[.int .i64 e0, .int .i64 e1, .int .i64 e2, .int .i64 e3, .int .i64 e4, .int .i64 e5, .int .i64 e6, .int .i64 e7, .int .i64 e8] 87)).alloc (.cells #[.int .i64 e0, .int .i64 e1, .int .i64 e2, .int .i64 e3, .int .i64 e4, .int .i64 e5, .int .i64 e6, .int .i64 e7, .int .i64 e8] 87) = w1 at *
 refine (iSeenOver_any A _ n cc 1 1 w1.heap.size l [(⟨e0, e1, e2, e3, e4, e5, e6, e7, e8⟩ : EntM)] w1 ((HH.out.keep (C.out.mono hB)).up (Nat.le_trans hB C.out.size)) (Nat.le_refl _) hs HR.out (show (1 : Nat) ≤ 1048577 by decide)).mono ?_
 rintro e w2 ⟨A6, n6, c6, rfl, h6, b6⟩
 have H6 := jd (h6.up C.out.size)
 have B6 := jd (C.out.trans (b6.mono C.out.size))
 clear h6 b6 HR C
 rw [← HRR.out] at H6 ⊢
 clear HRR
 obtain ⟨r1, r2⟩ := r
 simp only at H6
 go_wp2
 go_ret2
 exact ⟨A6, n6, c6, rfl, H6.out, B6.out⟩
end Go.Proofs.YtmjifhjhialcbaaGreat
namespace Go.Proofs.YtmjifhjhialcbaaGreat
set_option maxRecDepth 100000
set_option linter.unusedVariables false
open Go.RowKit
theorem has_kept_nil {w : World} {base : Nat} {l : List (List Int)} {v : Value} (h : Has w base [keptD l] [v]) : Has w base [keptD l, waitD []] [v, .slice none 0 0] := by
 obtain ⟨fp, ho, hn, hg⟩ := h
 have := ho.append (ow_nil_wait w)
 rw [List.append_nil] at this
 exact ⟨fp, this, hn, hg⟩
theorem fell_keep {all : Bool} {fate : Int} {k : List (List Int)} {X : Nat} {r : List Int} (h : all = true ∨ fate = 1) : fell all fate k ((X : Int), r) = k.set X r := by
 unfold fell; rw [if_pos h]; rfl
theorem fell_torn {fate : Int} {k : List (List Int)} {X : Nat} {r : List Int} (h : fate = 2) : fell false fate k ((X : Int), r) = k.set X (torn r (k.getD X [])) := by
 unfold fell; rw [if_neg (by rintro (h1 | h1); cases h1; omega), if_pos h]; rfl
theorem fell_lost {fate : Int} {k : List (List Int)} {p : Int × List Int} (h1 : fate ≠ 1) (h2 : fate ≠ 2) : fell false fate k p = k := by
 unfold fell; rw [if_neg (by rintro (h | h); cases h; exact h1 h), if_neg h2]
end Go.Proofs.YtmjifhjhialcbaaGreat
namespace Go.Proofs.YtmjifhjhialcbaaGreat
set_option maxRecDepth 100000
open Go.RowKit
end Go.Proofs.YtmjifhjhialcbaaGreat
namespace Go.Proofs.YtmjifhjhialcbaaGreat
set_option maxRecDepth 100000
set_option linter.unusedVariables false
open Go.RowKit
theorem rdKeptLen {w : World} {B : Nat} {d : DiskM} {A : Option Addr} {n c : Nat} {v : Value} (h : Rd w B d.cells [.slice A n c, v]) : d.kept.length = n := by
 obtain ⟨_, _, _, _, _, _, e, _, h1, _⟩ := h.disk
 injection e with e1 e2 e3
 subst e1 e2 e3
 obtain ⟨_, _, _, e, hl, _⟩ := h1.kept
 injection e with e1 e2 e3
 subst e1 e2 e3
 exact hl
theorem has_zeroT (w : World) (base : Nat) : Has w base zeroT.cells [.slice none 0 0, .slice none 0 0, .slice none 0 0, .slice none 0 0] :=
 ⟨[], ((ow_nil_kept w).append (ow_nil_wait w)).append ((ow_nil_kept w).append (ow_nil_wait w)), List.nodup_nil, fun p hp => by cases hp⟩
theorem withSum_len (r : List Int) : (withSum r).length ≤ 48 := by
 unfold withSum
 split
 · simp; omega
 · simp
end Go.Proofs.YtmjifhjhialcbaaGreat
