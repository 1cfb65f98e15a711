/-
  Chapter 9, the program: its seven functions (by program, wip/gen/genmarki8.py).
-/
import Derived.Test.YtlhmolomefbklaaMarkI7
import Derived.Test.YtlhmolomefbklaaMarkC
namespace Go.Proofs.Ytlhmolomefbklaa
set_option maxRecDepth 100000
open Go.RowKit

theorem seen_w64 {l : List MarkM} (h : seenB l = true) : ∀ m ∈ l, w64 m.mi := fun m hm => mark_w64 ((seen_pairs h).1 m hm)
/-- The table of valid marks. -/
theorem iTable_ok (A : Option Addr) (n cc B : Nat) (l : List MarkM) (w : World) (h : Rd w B [mrkD l] [.slice A n cc]) (hB : B ≤ w.heap.size) (hs : mrkSz l ≤ 1048577) (hok : seenB l = true) :
    Calls Try.prog 42 #[.slice A n cc] w fun e w' => e = .returned (.map (some w.heap.size)) ∧ Tab w' w.heap.size l ∧ Below w.heap.size w w' := by
  have := iTable_any A n cc B l w h hB hs (seen_w64 hok)
  rw [tabOf_apart (seen_apart hok)] at this
  exact this
set_option maxHeartbeats 6400000 in
theorem iLastSeen_any (A : Option Addr) (n cc B : Nat) (l : List MarkM) (w : World) (h : Rd w B [mrkD l] [.slice A n cc]) (hB : B ≤ w.heap.size) (hs : mrkSz l ≤ 1048577) :
    Calls Try.prog 32 #[.slice A n cc] w fun e w' => e = .returned (.int .i64 (lastS l)) ∧ Below w.heap.size w w' := by
  have hc := iSeen_any A n cc B l w h hB hs
  have HH := Lib.hid h
  cases hok : seenB l
  case false =>
    have HV := Lib.hid (show lastS l = 0 by unfold lastS; rw [hok]; rfl)
    rw [hok] at hc
    clear h hok
    go_enter Try.func32, Try.ntmps32
    go_wp2_with fail
    refine hc.mono ?_
    rintro e w2 ⟨rfl, b2⟩
    go_wp2
    go_ret
    exact ⟨by first | (rw [HV.out]; done) | (rw [HV.out]; rfl), b2⟩
  case true =>
    have HV := Lib.hid (show lastS l = maxTo l l.length by unfold lastS; rw [hok]; rfl)
    have HO := Lib.hid hok
    rw [hok] at hc
    clear h hok
    go_enter Try.func32, Try.ntmps32
    go_wp2_with fail
    refine hc.mono ?_
    rintro e w2 ⟨rfl, b2⟩
    have ht := iTable_ok A n cc B l w2 (HH.out.keep (b2.mono hB)) (Nat.le_trans hB b2.size) hs HO.out
    have B2 := Lib.hid b2
    clear b2
    go_wp2_with fail
    refine ht.mono ?_
    rintro e w3 ⟨rfl, t3, b3⟩
    have hl := iLast_any w2.heap.size l w3 t3
    have B3 := Lib.hid (B2.out.trans (b3.mono B2.out.size))
    clear b3 t3 ht
    go_wp2_with fail
    refine hl.mono ?_
    rintro e w4 ⟨rfl, b4⟩
    have B4 := Lib.hid (B3.out.trans (b4.mono B3.out.size))
    clear b4
    go_wp2
    go_ret
    exact ⟨by first | (rw [HV.out]; done) | (rw [HV.out]; rfl), B4.out⟩
set_option maxHeartbeats 6400000 in
theorem iFreshIn_any (A : Option Addr) (n cc B : Nat) (l : List MarkM) (q s : Int) (w : World) (h : Rd w B [mrkD l] [.slice A n cc]) (hB : B ≤ w.heap.size) (hs : mrkSz l ≤ 1048577) :
    Calls Try.prog 19 #[.slice A n cc, .int .i64 q, .int .i64 s] w fun e w' => e = .returned (.bool (freshB l q s)) ∧ Below w.heap.size w w' := by
  have hc := iSeen_any A n cc B l w h hB hs
  have HH := Lib.hid h
  cases hok : seenB l
  case false =>
    have HV := Lib.hid (show freshB l q s = false by unfold freshB; rw [hok]; rfl)
    rw [hok] at hc
    clear h hok
    go_enter Try.func19, Try.ntmps19
    go_wp2_with fail
    refine hc.mono ?_
    rintro e w2 ⟨rfl, b2⟩
    go_wp2
    go_ret
    exact ⟨ret_bool HV.out.symm, b2⟩
  case true =>
    have HV := Lib.hid (show freshB l q s = freshT l q s by unfold freshB freshT markOf; rw [hok, if_pos rfl, Bool.true_and])
    have HO := Lib.hid hok
    rw [hok] at hc
    clear h hok
    go_enter Try.func19, Try.ntmps19
    go_wp2_with fail
    refine hc.mono ?_
    rintro e w2 ⟨rfl, b2⟩
    have ht := iTable_ok A n cc B l w2 (HH.out.keep (b2.mono hB)) (Nat.le_trans hB b2.size) hs HO.out
    have B2 := Lib.hid b2
    clear b2
    go_wp2_with fail
    refine ht.mono ?_
    rintro e w3 ⟨rfl, t3, b3⟩
    have hl := iFresh_tab w2.heap.size l q s w3 t3 (seen_solo HO.out)
    have B3 := Lib.hid (B2.out.trans (b3.mono B2.out.size))
    clear b3 t3 ht
    go_wp2_with fail
    refine hl.mono ?_
    rintro e w4 ⟨rfl, b4⟩
    have B4 := Lib.hid (B3.out.trans (b4.mono B3.out.size))
    clear b4
    go_wp2
    go_ret
    exact ⟨ret_bool HV.out.symm, B4.out⟩
set_option maxHeartbeats 6400000 in
theorem iMarkOf_any (A : Option Addr) (n cc B : Nat) (l : List MarkM) (q : Int) (w : World) (h : Rd w B [mrkD l] [.slice A n cc]) (hB : B ≤ w.heap.size) (hs : mrkSz l ≤ 1048577) :
    Calls Try.prog 16 #[.slice A n cc, .int .i64 q] w fun e w' => e = .returned (.agg #[.int .i64 (markOf l q).mc, .int .i64 (markOf l q).ms, .int .i64 (markOf l q).mi]) ∧ Below w.heap.size w w' := by
  have HH := Lib.hid h
  have S := Sep.nil w w.heap.size
  have c := Below.refl w.heap.size w
  replace S := S.boxAt c.size (w.heap.size) rfl #[.int .i64 0, .int .i64 0, .int .i64 0] 30
  replace c := c.alloc c.size (.cells #[.int .i64 0, .int .i64 0, .int .i64 0] 30)
  go_enter Try.func16, Try.ntmps16
  go_wp2_with fail
  generalize w.alloc (.cells #[.int .i64 0, .int .i64 0, .int .i64 0] 30) = w1 at *
  refine (iSeen_any A n cc B l _ (HH.out.keep (c.mono hB)) (Nat.le_trans hB c.size) hs).mono ?_
  rintro e w2 ⟨rfl, b2⟩
  replace c := c.trans (b2.mono c.size)
  replace S := S.keep b2
  clear b2 h
  cases hok : seenB l
  case false =>
    have HV := Lib.hid (show markOf l q = mark0 by unfold markOf; rw [hok]; rfl)
    clear hok
    have f0 : w2.cell? ⟨w.heap.size, 0, none⟩ = some (.int .i64 0) := (S.at_ 0 rfl).cell 0
    have f1 := (S.at_ 0 rfl).free 0
    have f2 : w2.cell? ⟨w.heap.size, 1, none⟩ = some (.int .i64 0) := (S.at_ 0 rfl).cell 1
    have f3 := (S.at_ 0 rfl).free 1
    have f4 : w2.cell? ⟨w.heap.size, 2, none⟩ = some (.int .i64 0) := (S.at_ 0 rfl).cell 2
    have f5 := (S.at_ 0 rfl).free 2
    replace S := S.put 0 rfl 0 (.int .i64 0)
    replace c := c.setCell (p := ⟨w.heap.size, 0, none⟩) (by show w.heap.size ≤ w.heap.size; omega) (.int .i64 0)
    replace S := S.put 0 rfl 1 (.int .i64 0)
    replace c := c.setCell (p := ⟨w.heap.size, 1, none⟩) (by show w.heap.size ≤ w.heap.size; omega) (.int .i64 0)
    replace S := S.put 0 rfl 2 (.int .i64 0)
    replace c := c.setCell (p := ⟨w.heap.size, 2, none⟩) (by show w.heap.size ≤ w.heap.size; omega) (.int .i64 0)
    have r0 := Lib.hid ((S.at_ 0 rfl).cell 0)
    have r1 := Lib.hid ((S.at_ 0 rfl).cell 1)
    have r2 := Lib.hid ((S.at_ 0 rfl).cell 2)
    have CC := Lib.hid c
    clear S c
    go_wp2
    exact bodyPost_ret (v := .agg #[.int .i64 0, .int .i64 0, .int .i64 0]) (by simp [results, Try.results16, go_sem, r0.out, r1.out, r2.out]) rfl ⟨by first | (rw [HV.out]; done) | (rw [HV.out]; rfl), CC.out⟩
  case true =>
    have HM := Lib.hid (show markOf l q = findM l q by unfold markOf; rw [if_pos hok])
    have HO := Lib.hid hok
    have ht := iTable_ok A n cc B l w2 (HH.out.keep (c.mono hB)) (Nat.le_trans hB c.size) hs hok
    have S2 := Lib.hid S
    have C2 := Lib.hid c
    clear S c hok
    go_wp2_with fail
    refine ht.mono ?_
    rintro e w3 ⟨rfl, t3, b3⟩
    have hl := iOf_any w2.heap.size l q w3 t3 (seen_solo HO.out)
    obtain ⟨y0, y1, y2, hy⟩ : ∃ y0 y1 y2, findM l q = ⟨y0, y1, y2⟩ := ⟨_, _, _, rfl⟩
    rw [hy] at hl HM
    have S3 := Lib.hid (S2.out.keep b3)
    have C3 := Lib.hid (C2.out.trans (b3.mono C2.out.size))
    clear b3 t3 ht S2 C2 hy
    go_wp2_with fail
    refine hl.mono ?_
    rintro e w4 ⟨rfl, b4⟩
    have S := S3.out.keep b4
    have c := C3.out.trans (b4.mono C3.out.size)
    have HV := HM
    clear b4 hl S3 C3 HM
    have f0 : w4.cell? ⟨w.heap.size, 0, none⟩ = some (.int .i64 0) := (S.at_ 0 rfl).cell 0
    have f1 := (S.at_ 0 rfl).free 0
    have f2 : w4.cell? ⟨w.heap.size, 1, none⟩ = some (.int .i64 0) := (S.at_ 0 rfl).cell 1
    have f3 := (S.at_ 0 rfl).free 1
    have f4 : w4.cell? ⟨w.heap.size, 2, none⟩ = some (.int .i64 0) := (S.at_ 0 rfl).cell 2
    have f5 := (S.at_ 0 rfl).free 2
    replace S := S.put 0 rfl 0 (.int .i64 y0)
    replace c := c.setCell (p := ⟨w.heap.size, 0, none⟩) (by show w.heap.size ≤ w.heap.size; omega) (.int .i64 y0)
    replace S := S.put 0 rfl 1 (.int .i64 y1)
    replace c := c.setCell (p := ⟨w.heap.size, 1, none⟩) (by show w.heap.size ≤ w.heap.size; omega) (.int .i64 y1)
    replace S := S.put 0 rfl 2 (.int .i64 y2)
    replace c := c.setCell (p := ⟨w.heap.size, 2, none⟩) (by show w.heap.size ≤ w.heap.size; omega) (.int .i64 y2)
    have r0 := Lib.hid ((S.at_ 0 rfl).cell 0)
    have r1 := Lib.hid ((S.at_ 0 rfl).cell 1)
    have r2 := Lib.hid ((S.at_ 0 rfl).cell 2)
    have CC := Lib.hid c
    clear S c
    go_wp2
    exact bodyPost_ret (v := .agg #[.int .i64 y0, .int .i64 y1, .int .i64 y2]) (by simp [results, Try.results16, go_sem, r0.out, r1.out, r2.out]) rfl ⟨by first | (rw [HV.out]; done) | (rw [HV.out]; rfl), CC.out⟩
theorem fold_ins (l : List MarkM) (e : EntM) : overM l [e] = insM l ⟨e.cl, e.sq, e.idx⟩ := rfl
theorem over_one (l : List MarkM) (e : EntM) : seenOverM l [e] = markedM l e := by
  have h : overB l [e] = mayB l e := by
    unfold overB
    show ((List.range 1).all (overAt l [e])) = _
    simp [List.range_succ, overAt, overM]
  unfold seenOverM markedM
  rw [h, if_pos (show [e].length ≤ 2000 from (by decide : (1 : Nat) ≤ 2000)), fold_ins]
set_option maxHeartbeats 6400000 in
theorem iSeenOver_any (A A5 : Option Addr) (n cc n5 c5 B : Nat) (l : List MarkM) (es : List EntM) (w : World) (h : Rd w B [mrkD l] [.slice A n cc]) (hB : B ≤ w.heap.size) (hs : mrkSz l ≤ 1048577) (h5 : Rd w B [entD es] [.slice A5 n5 c5]) (hs5 : entSz es ≤ 1048577) :
    Calls Try.prog 28 #[.slice A n cc, .slice A5 n5 c5] w (MadeMB w (seenOverM l es)) := by
  have hc := iSeen_any A n cc B l w h hB hs
  have HH := Lib.hid h
  have H5 := Lib.hid h5
  have hl5 : es.length = n5 := by
    obtain ⟨_, _, _, e, hl, _⟩ := h5.ents
    injection e with e1 e2 e3
    rw [hl, e2]
  have HL := Lib.hid hl5
  have hn5 : n5 ≤ 1048577 := by unfold entSz at hs5; omega
  cases hok : seenB l
  case false =>
    have HV := Lib.hid (show seenOverM l es = ([], false) by unfold seenOverM; rw [hok]; rfl)
    rw [hok] at hc
    clear h h5 hok hl5
    go_enter Try.func28, Try.ntmps28
    go_wp2_with fail
    refine hc.mono ?_
    rintro e w2 ⟨rfl, b2⟩
    go_wp2
    go_ret2
    exact ⟨none, 0, 0, by first | (rw [HV.out]; done) | (rw [HV.out]; rfl), by rw [HV.out]; exact ⟨[], ow_nil_mrks _, List.nodup_nil, fun p hp => by cases hp⟩, b2⟩
  case true =>
    have HO := Lib.hid hok
    rw [hok] at hc
    clear h h5 hok hl5
    go_enter Try.func28, Try.ntmps28
    go_wp2_with fail
    refine hc.mono ?_
    rintro e w2 ⟨rfl, b2⟩
    have ht := iTable_ok A n cc B l w2 (HH.out.keep (b2.mono hB)) (Nat.le_trans hB b2.size) hs HO.out
    have B2 := Lib.hid b2
    clear b2 hc
    go_wp2_with fail
    refine ht.mono ?_
    rintro e w3 ⟨rfl, t3, b3⟩
    have B3 := Lib.hid (B2.out.trans (b3.mono B2.out.size))
    have T3 := Lib.hid t3
    clear b3 t3 ht
    by_cases hlong : 2000 < n5
    case pos =>
      have g0 : decide ((2000 : Int) < (n5 : Int)) = true := decide_eq_true (by omega)
      have g1 : decide (2000 < n5) = true := decide_eq_true hlong
      have HV := Lib.hid (show seenOverM l es = (l, false) by unfold seenOverM; rw [HO.out, if_pos rfl, if_neg (by have := HL.out; omega)])
      have ht := iTable_ok A n cc B l w3 (HH.out.keep (B3.out.mono hB)) (Nat.le_trans hB B3.out.size) hs HO.out
      clear hlong
      go_wp2_with (first | (go_at_call 42; refine ht.mono ?_; rintro e w4 ⟨rfl, t4, b4⟩; have hm := iMarks_any w3.heap.size l w4 t4 HO.out; have B4 := Lib.hid (B3.out.trans (b4.mono B3.out.size)); clear b4 t4) | (go_at_call 49; refine hm.mono ?_; rintro e w5 ⟨A6, n6, c6, rfl, h6, b6⟩; have H6 := Lib.hid (h6.up B4.out.size); have B6 := Lib.hid (B4.out.trans (b6.mono B4.out.size)); clear h6 b6))
      go_ret2
      exact ⟨A6, n6, c6, by first | (rw [HV.out]; done) | (rw [HV.out]; rfl), by rw [HV.out]; exact H6.out, B6.out⟩
    case neg =>
      have g0 : decide ((2000 : Int) < (n5 : Int)) = false := decide_eq_false (by omega)
      have g1 : decide (2000 < n5) = false := decide_eq_false hlong
      have hr := iRecordAll_tab w2.heap.size w.heap.size l A5 n5 c5 B es w3 T3.out HO.out (H5.out.keep (B3.out.mono hB)) hn5 B2.out.size B3.out.size hB
      have HLE := Lib.hid (show es.length ≤ 2000 by have := HL.out; omega)
      clear hlong
      cases hov : overB l es
      case false =>
        have HV := Lib.hid (show seenOverM l es = (l, false) by unfold seenOverM; rw [HO.out, if_pos rfl, if_pos HLE.out, hov]; rfl)
        rw [hov] at hr
        clear hov
        go_wp2_with (first
          | (go_at_call 48; refine hr.mono ?_; rintro e w4 ⟨rfl, _, b4⟩; have B4 := Lib.hid (B3.out.trans b4); have ht := iTable_ok A n cc B l w4 (HH.out.keep (B4.out.mono hB)) (Nat.le_trans hB B4.out.size) hs HO.out; clear b4)
          | (go_at_call 42; refine ht.mono ?_; rintro e w5 ⟨rfl, t5, b5⟩; have hm := iMarks_any w4.heap.size l w5 t5 HO.out; have B5 := Lib.hid (B4.out.trans (b5.mono B4.out.size)); clear b5 t5)
          | (go_at_call 49; refine hm.mono ?_; rintro e w6 ⟨A6, n6, c6, rfl, h6, b6⟩; have H6 := Lib.hid (h6.up B5.out.size); have B6 := Lib.hid (B5.out.trans (b6.mono B5.out.size)); clear h6 b6))
        go_ret2
        exact ⟨A6, n6, c6, by first | (rw [HV.out]; done) | (rw [HV.out]; rfl), by rw [HV.out]; exact H6.out, B6.out⟩
      case true =>
        have HV := Lib.hid (show seenOverM l es = (overM l es, true) by unfold seenOverM; rw [HO.out, if_pos rfl, if_pos HLE.out, hov]; rfl)
        have HN := Lib.hid (show seenB (overM l es) = true by
          have h1 := over_ok HO.out es.length (Nat.le_refl _) ((overB_iff l es).1 hov)
          rwa [List.take_length] at h1)
        rw [hov] at hr
        clear hov
        go_wp2_with fail
        refine hr.mono ?_
        rintro e w4 ⟨rfl, t4, b4⟩
        have B4 := Lib.hid (B3.out.trans b4)
        have hm := iMarks_any w2.heap.size (overM l es) w4 (t4 (by simp)) HN.out
        clear b4 t4 hr
        go_wp2_with fail
        refine hm.mono ?_
        rintro e w6 ⟨A6, n6, c6, rfl, h6, b6⟩
        have H6 := Lib.hid (h6.up B4.out.size)
        have B6 := Lib.hid (B4.out.trans (b6.mono B4.out.size))
        clear h6 b6 hm
        go_wp2
        go_ret2
        exact ⟨A6, n6, c6, by first | (rw [HV.out]; done) | (rw [HV.out]; rfl), by rw [HV.out]; exact H6.out, B6.out⟩
set_option maxHeartbeats 6400000 in
theorem iMarked_any (A : Option Addr) (n cc B : Nat) (l : List MarkM) (e0 e1 e2 e3 e4 e5 e6 e7 e8 : Int) (w : World) (h : Rd w B [mrkD l] [.slice A n cc]) (hB : B ≤ w.heap.size) (hs : mrkSz l ≤ 1048577) :
    Calls Try.prog 22 #[.slice A n cc, .agg #[.int .i64 e0, .int .i64 e1, .int .i64 e2, .int .i64 e3, .int .i64 e4, .int .i64 e5, .int .i64 e6, .int .i64 e7, .int .i64 e8]] w (MadeMB w (markedM l ⟨e0, e1, e2, e3, e4, e5, e6, e7, e8⟩)) := by
  have HH := Lib.hid h
  clear h
  rw [← over_one]
  obtain ⟨r, hr⟩ : ∃ r, r = seenOverM l [(⟨e0, e1, e2, e3, e4, e5, e6, e7, e8⟩ : EntM)] := ⟨_, rfl⟩
  rw [← hr]
  have HRR := Lib.hid hr
  clear hr
  have S := Sep.nil w w.heap.size
  have c := Below.refl w.heap.size w
  replace S := S.boxAt c.size (w.heap.size) rfl #[.int .i64 e0, .int .i64 e1, .int .i64 e2, .int .i64 e3, .int .i64 e4, .int .i64 e5, .int .i64 e6, .int .i64 e7, .int .i64 e8] 44
  replace c := c.alloc c.size (.cells #[.int .i64 e0, .int .i64 e1, .int .i64 e2, .int .i64 e3, .int .i64 e4, .int .i64 e5, .int .i64 e6, .int .i64 e7, .int .i64 e8] 44)
  replace S := S.boxAt c.size (w.heap.size + 1) (by simp) #[.int .i64 e0, .int .i64 e1, .int .i64 e2, .int .i64 e3, .int .i64 e4, .int .i64 e5, .int .i64 e6, .int .i64 e7, .int .i64 e8] 44
  replace c := c.alloc c.size (.cells #[.int .i64 e0, .int .i64 e1, .int .i64 e2, .int .i64 e3, .int .i64 e4, .int .i64 e5, .int .i64 e6, .int .i64 e7, .int .i64 e8] 44)
  have HR : Rd ((w.alloc (.cells #[.int .i64 e0, .int .i64 e1, .int .i64 e2, .int .i64 e3, .int .i64 e4, .int .i64 e5, .int .i64 e6, .int .i64 e7, .int .i64 e8] 44)).alloc (.cells #[.int .i64 e0, .int .i64 e1, .int .i64 e2, .int .i64 e3, .int .i64 e4, .int .i64 e5, .int .i64 e6, .int .i64 e7, .int .i64 e8] 44)) ((w.alloc (.cells #[.int .i64 e0, .int .i64 e1, .int .i64 e2, .int .i64 e3, .int .i64 e4, .int .i64 e5, .int .i64 e6, .int .i64 e7, .int .i64 e8] 44)).alloc (.cells #[.int .i64 e0, .int .i64 e1, .int .i64 e2, .int .i64 e3, .int .i64 e4, .int .i64 e5, .int .i64 e6, .int .i64 e7, .int .i64 e8] 44)).heap.size [entD [(⟨e0, e1, e2, e3, e4, e5, e6, e7, e8⟩ : EntM)]] [.slice (some ⟨w.heap.size + 1, 0, none⟩) 1 1] := by
    refine Rd.of_lst (us := [.int .i64 e0, .int .i64 e1, .int .i64 e2, .int .i64 e3, .int .i64 e4, .int .i64 e5, .int .i64 e6, .int .i64 e7, .int .i64 e8]) entC_len rfl (by decide) (by decide) (fun _ => ⟨_, 0, rfl, (S.at_ 0 rfl).lt, fun j hj => ?_⟩) (.int (.int (.int (.int (.int (.int (.int (.int (.int (.nil))))))))))
    rw [Nat.zero_add]
    rw [(S.at_ 0 rfl).cell j]
    simp
  have HR := Lib.hid HR
  have C := Lib.hid c
  clear S c
  go_enter Try.func22, Try.ntmps22
  go_wp2_with fail
  generalize (w.alloc (.cells #[.int .i64 e0, .int .i64 e1, .int .i64 e2, .int .i64 e3, .int .i64 e4, .int .i64 e5, .int .i64 e6, .int .i64 e7, .int .i64 e8] 44)).alloc (.cells #[.int .i64 e0, .int .i64 e1, .int .i64 e2, .int .i64 e3, .int .i64 e4, .int .i64 e5, .int .i64 e6, .int .i64 e7, .int .i64 e8] 44) = w1 at *
  refine (iSeenOver_any A _ n cc 1 1 w1.heap.size l [(⟨e0, e1, e2, e3, e4, e5, e6, e7, e8⟩ : EntM)] w1 ((HH.out.keep (C.out.mono hB)).up (Nat.le_trans hB C.out.size)) (Nat.le_refl _) hs HR.out (show (1 : Nat) ≤ 1048577 by decide)).mono ?_
  rintro e w2 ⟨A6, n6, c6, rfl, h6, b6⟩
  have H6 := Lib.hid (h6.up C.out.size)
  have B6 := Lib.hid (C.out.trans (b6.mono C.out.size))
  clear h6 b6 HR C
  rw [← HRR.out] at H6 ⊢
  clear HRR
  obtain ⟨r1, r2⟩ := r
  simp only at H6
  go_wp2
  go_ret2
  exact ⟨A6, n6, c6, rfl, H6.out, B6.out⟩
set_option maxHeartbeats 6400000 in
theorem iEqualMs_any (A A2 : Option Addr) (n c n2 c2 B B2 : Nat) (l r : List MarkM) (w : World) (h : Rd w B [mrkD l] [.slice A n c]) (h2 : Rd w B2 [mrkD r] [.slice A2 n2 c2]) (hB : B ≤ w.heap.size) (hB2 : B2 ≤ w.heap.size) (hs : mrkSz l ≤ 1048577) (hs2 : mrkSz r ≤ 1048577) :
    Calls Try.prog 53 #[.slice A n c, .slice A2 n2 c2] w fun e w' => e = .returned (.bool (sameMs l r)) ∧ Below w.heap.size w w' := by
  obtain ⟨_, _, _, e, hl, _, _, hel⟩ := h.mrks
  injection e with e1 e2 e3
  subst e1 e2 e3
  obtain ⟨_, _, _, e, hl2, _, _, hel2⟩ := h2.mrks
  injection e with e1 e2 e3
  subst e1 e2 e3
  have hn : n ≤ 1048577 := by unfold mrkSz at hs; omega
  have hn2 : n2 ≤ 1048577 := by unfold mrkSz at hs2; omega
  have HL := Lib.hid hl
  have HL2 := Lib.hid hl2
  clear h h2 hs hs2 hl hl2
  by_cases hnn : n = n2
  case neg =>
    have HD := Lib.hid (sameMs_len (l := l) (r := r) (by rw [HL.out, HL2.out]; exact hnn))
    have e1 : ((n : Int) != (n2 : Int)) = true := by simp; omega
    have e2 : ((n : Int) == (n2 : Int)) = false := by simp; omega
    clear hel hel2
    go_enter Try.func53, Try.ntmps53
    go_wp2
    go_ret
    exact ⟨ret_bool HD.out.symm, Below.refl _ _⟩
  case pos =>
    subst hnn
    have e1 : ((n : Int) != (n : Int)) = false := by simp
    go_enter Try.func53, Try.ntmps53
    go_wp2
    go_loopw [13] (fun i wr => ∃ j : Nat, j ≤ n ∧ i = .int .i64 (j : Int) ∧ (∀ q, q < j → l.getD q mark0 = r.getD q mark0) ∧ Below w.heap.size w wr) (fun i _ => n - (intOf i).toNat)
    case atStart => exact ⟨0, Nat.zero_le _, rfl, fun q hq => absurd hq (by omega), Below.refl _ _⟩
    case round =>
      obtain ⟨j, hj, rfl, hall, c0⟩ := hrel
      have HA := Lib.hid hall
      clear hall
      by_cases hlt : j < n
      case neg =>
        obtain rfl : j = n := by omega
        have HD := Lib.hid (show sameMs l r = true from (sameMs_iff l r).2 (List.ext_getElem (by rw [HL.out, HL2.out]) fun q h1 h2 => by have h9 := HA.out q (by have := HL.out; omega); rwa [mgetD h1, mgetD h2] at h9))
        have CC := Lib.hid c0
        clear hel hel2 c0
        go_wp2
        go_ret
        exact ⟨ret_bool HD.out.symm, CC.out⟩
      case pos =>
      have hjl : j < l.length := by have := HL.out; omega
      have hjr : j < r.length := by have := HL2.out; omega
      obtain ⟨b, off, rfl, hb, hcA⟩ := hel (by omega)
      obtain ⟨b2, off2, rfl, hb2, hcB⟩ := hel2 (by omega)
      obtain ⟨hc0, hc1, hc2⟩ := hcA j hjl
      obtain ⟨hd0, hd1, hd2⟩ := hcB j hjr
      have cs0 := (c0.cell (p := ⟨b, off + j * 3, none⟩) (show b < _ by omega)).trans hc0
      have ct0 := (c0.cell (p := ⟨b2, off2 + j * 3, none⟩) (show b2 < _ by omega)).trans hd0
      have cs1 := (c0.cell (p := ⟨b, off + j * 3 + 1, none⟩) (show b < _ by omega)).trans hc1
      have ct1 := (c0.cell (p := ⟨b2, off2 + j * 3 + 1, none⟩) (show b2 < _ by omega)).trans hd1
      have cs2 := (c0.cell (p := ⟨b, off + j * 3 + 2, none⟩) (show b < _ by omega)).trans hc2
      have ct2 := (c0.cell (p := ⟨b2, off2 + j * 3 + 2, none⟩) (show b2 < _ by omega)).trans hd2
      obtain ⟨z0, hz0⟩ : ∃ q, q = l[j].mc := ⟨_, rfl⟩
      rw [← hz0] at cs0
      obtain ⟨y0, hy0⟩ : ∃ q, q = r[j].mc := ⟨_, rfl⟩
      rw [← hy0] at ct0
      obtain ⟨z1, hz1⟩ : ∃ q, q = l[j].ms := ⟨_, rfl⟩
      rw [← hz1] at cs1
      obtain ⟨y1, hy1⟩ : ∃ q, q = r[j].ms := ⟨_, rfl⟩
      rw [← hy1] at ct1
      obtain ⟨z2, hz2⟩ : ∃ q, q = l[j].mi := ⟨_, rfl⟩
      rw [← hz2] at cs2
      obtain ⟨y2, hy2⟩ : ∃ q, q = r[j].mi := ⟨_, rfl⟩
      rw [← hy2] at ct2
      have hm1 : l[j] = ⟨z0, z1, z2⟩ := by rw [hz0, hz1, hz2]
      have hm2 : r[j] = ⟨y0, y1, y2⟩ := by rw [hy0, hy1, hy2]
      have HC := Lib.hid c0
      by_cases he : l[j] = r[j]
      case pos =>
        rw [hm1, hm2] at he
        injection he with q0 q1 q2
        have HN := Lib.hid (show ∀ q, q < j + 1 → l.getD q mark0 = r.getD q mark0 from fun q hq => by
          rcases Nat.lt_or_ge q j with h1 | h1
          · exact HA.out q h1
          · obtain rfl : q = j := by omega
            rw [mgetD hjl, mgetD hjr, hm1, hm2, q0, q1, q2])
        clear hcA hcB hel hel2 hm1 hm2 hz0 hy0 hc0 hd0 hz1 hy1 hc1 hd1 hz2 hy2 hc2 hd2
        subst q0 q1 q2
        go_wp2_with fail
        go_quiet (fail)
        have CC := Lib.hid (below_drewN HC.out nq)
        clear c0 cs0 ct0 cs1 ct1 cs2 ct2
        generalize wr.drewN nq = w9 at *
        go_wp2
        go_roundw
        case rel => exact ⟨j + 1, by omega, by go_num, HN.out, CC.out⟩
        case measure => simp [intOf]; omega
      case neg =>
        have HD := Lib.hid (sameMs_step (l := l) (r := r) (j := j) (by rw [Bool.eq_false_iff]; intro h9; exact he (by have h8 := (sameM_iff _ _).1 h9; rwa [mgetD hjl, mgetD hjr] at h8)))
        have hne : ¬ (z0 = y0 ∧ z1 = y1 ∧ z2 = y2) := fun h9 => he (by rw [hm1, hm2]; obtain ⟨q0, q1, q2⟩ := h9; rw [q0, q1, q2])
        clear he hm1 hm2 hcA hcB hel hel2 hz0 hy0 hc0 hd0 hz1 hy1 hc1 hd1 hz2 hy2 hc2 hd2
        by_cases q0 : z0 = y0
        case neg =>
          have e3 : (z0 == y0) = false := by simpa using q0
          clear hne q0
          go_wp2_with fail
          go_quiet (fail)
          have CC := Lib.hid (below_drewN HC.out nq)
          go_wp2
          go_ret
          exact ⟨ret_bool HD.out.symm, CC.out⟩
        subst q0
        by_cases q1 : z1 = y1
        case neg =>
          have e4 : (z1 == y1) = false := by simpa using q1
          clear hne q1
          go_wp2_with fail
          go_quiet (fail)
          have CC := Lib.hid (below_drewN HC.out nq)
          go_wp2
          go_ret
          exact ⟨ret_bool HD.out.symm, CC.out⟩
        subst q1
        by_cases q2 : z2 = y2
        case neg =>
          have e5 : (z2 == y2) = false := by simpa using q2
          clear hne q2
          go_wp2_with fail
          go_quiet (fail)
          have CC := Lib.hid (below_drewN HC.out nq)
          go_wp2
          go_ret
          exact ⟨ret_bool HD.out.symm, CC.out⟩
        subst q2
        exact absurd ⟨rfl, rfl, rfl⟩ hne
theorem iSameSeen_any (A A2 : Option Addr) (n c n2 c2 B B2 : Nat) (l r : List MarkM) (w : World) (h : Rd w B [mrkD l] [.slice A n c]) (h2 : Rd w B2 [mrkD r] [.slice A2 n2 c2]) (hB : B ≤ w.heap.size) (hB2 : B2 ≤ w.heap.size) (hs : mrkSz l ≤ 1048577) (hs2 : mrkSz r ≤ 1048577) :
    Calls Try.prog 34 #[.slice A n c, .slice A2 n2 c2] w fun e w' => e = .returned (.bool (sameMs l r)) ∧ Below w.heap.size w w' := by
  have hc := iEqualMs_any A A2 n c n2 c2 B B2 l r w h h2 hB hB2 hs hs2
  go_enter Try.func34, Try.ntmps34
  go_wp2_with fail
  refine hc.mono ?_
  rintro e w2 ⟨rfl, b2⟩
  go_wp2
  go_ret
  exact ⟨rfl, b2⟩

end Go.Proofs.Ytlhmolomefbklaa
