/- Parts of my texts: MarkI3 MarkI4 MarkI5 MarkI6 MarkI7 MarkI8. -/
import Derived.Test.YtmjifhjhialcbaaU10
import Derived.Test.YtmjifhjhialcbaaU26
import Derived.Test.YtmjifhjhialcbaaU29
import Derived.Deep.DeepCutAuto
import Derived.Shelf.SlSortCmp.SmallK
import Derived.Shelf.Small.Bits
namespace Go.Proofs.Ytmjifhjhialcbaa
set_option maxRecDepth 100000
set_option linter.unusedVariables false
open Go.RowKit
def Solo (l : List MarkM) : Prop := l.Pairwise (fun a b => a.mc ≠ b.mc)
theorem w64_in {x : Int} (h : 0 ≤ x ∧ x ≤ 2000) : w64 x := by
 unfold w64
 simp only [Lit.wf, Bool.and_eq_true, decide_eq_true_eq]
 have h1 : IntKind.i64.min ≤ 0 := by decide
 have h2 : (2000 : Int) ≤ IntKind.i64.max := by decide
 omega
theorem seen_solo {l : List MarkM} (h : seenB l = true) : Solo l := (seen_pairs h).2.1.imp fun {a b} hab => by omega
theorem seen_apart {l : List MarkM} (h : seenB l = true) : Apart l := (seen_pairs h).2.2
instance markInh : Inhabited MarkM := ⟨mark0⟩
end Go.Proofs.Ytmjifhjhialcbaa
namespace Go.Proofs.Ytmjifhjhialcbaa
set_option maxRecDepth 100000
set_option linter.unusedVariables false
open Go.RowKit
attribute [local go_sem] Oper.semAt_some
section
variable {F : Fence} {nn : Nat} {w : World} {ops : Array Oper} {rest : List Oper} {o : Oper} {a : Act} {Q : Exit → Act → World → Prop}
end
theorem TabR.apart {w : World} {b r cnt : Nat} {l rest : List MarkM} (h : TabR w b r l rest cnt) : Apart rest := by obtain ⟨_, _, _, _, _, _, h5, _⟩ := h; exact h5
end Go.Proofs.Ytmjifhjhialcbaa
namespace Go.Proofs.Ytmjifhjhialcbaa
set_option maxRecDepth 100000
set_option linter.unusedVariables false
open Go.RowKit
def RiseTo (l : List MarkM) (j : Nat) : Prop := ∀ q, q < j → (markB (l.getD q mark0) && riseAt l q) = true
theorem rise_no {l : List MarkM} {j : Nat} (hj : j < l.length) (h : (markB (l.getD j mark0) && riseAt l j) = false) : seenB l = false := seenB_step hj (by unfold seenAt; rw [h, Bool.false_and])
theorem rise_all {l : List MarkM} (h : RiseTo l l.length) : (∀ m ∈ l, markB m = true) ∧ l.Pairwise (fun a b => a.mc < b.mc) := by
 have h1 : ∀ m ∈ l, markB m = true := fun m hm => by
  obtain ⟨j, hj, rfl⟩ := List.getElem_of_mem hm
  have := h j hj
  rw [mgetD hj, Bool.and_eq_true] at this
  exact this.1
 refine ⟨h1, ?_⟩
 have h2 : ∀ j (hj : j < l.length) q (hq : q < j), (l[q]'(by omega)).mc < l[j].mc := by
  intro j
  induction j with
  | zero => intro _ q hq; exact absurd hq (by omega)
  | succ k ih =>
   intro hj q hq
   have h3 := h (k + 1) hj
   rw [Bool.and_eq_true] at h3
   have h4 := h3.2
   unfold riseAt at h4
   rw [decide_eq_false (show ¬ k + 1 = 0 by omega), Bool.false_or, decide_eq_true_eq, Nat.add_sub_cancel, mgetD hj, mgetD (show k < l.length by omega)] at h4
   by_cases e : q = k
   · subst e; exact h4
   · have := ih (by omega) q (by omega)
     omega
 rw [List.pairwise_iff_getElem]
 intro i j hi hj hij
 exact h2 j hj i hij
theorem rise_end {l : List MarkM} (h : RiseTo l l.length) : seenB l = decide ((tabOf l).length = l.length) := by
 obtain ⟨h1, h2⟩ := rise_all h
 rw [Bool.eq_iff_iff, decide_eq_true_eq, tabOf_all]
 exact ⟨fun h3 => seen_apart h3, fun h3 => seen_of h1 h2 h3⟩
theorem mark_w64 {m : MarkM} (h : markB m = true) : w64 m.mi := w64_in (by have := (markB_iff m).1 h; omega)
set_option maxHeartbeats 12800000 in
theorem iSeen_any (A : Option Addr) (n cc B : Nat) (l : List MarkM) (w : World) (h : Rd w B [mrkD l] [.slice A n cc]) (hB : B ≤ w.heap.size) (hs : mrkSz l ≤ 1048577) :
    Calls Try.prog 66 #[.slice A n cc] w fun e w' => e = .returned (.bool (seenB l)) ∧ Below w.heap.size w w' := by
 have HH := jd h
 have HSZ := jd hs
 obtain ⟨_, _, _, e, hl, _, _, hel⟩ := h.mrks
 injection e with e1 e2 e3
 subst e1 e2 e3
 have hn : n ≤ 1048577 := by unfold mrkSz at hs; omega
 have HL := jd hl
 clear h hl hs
 go_enter Try.func66, Try.ntmps66
 go_wp2
 go_loopw [7] (fun i wr => ∃ j : Nat, j ≤ n ∧ i = .int .i64 (j : Int) ∧ RiseTo l j ∧ Below w.heap.size w wr) (fun i _ => n - (intOf i).toNat)
 case atStart => exact ⟨0, Nat.zero_le _, rfl, fun q hq => absurd hq (by omega), Below.refl _ _⟩
 case round =>
  obtain ⟨j, hj, rfl, hall, c⟩ := hrel
  have HA := jd hall
  have C := jd c
  clear hall
  by_cases hlt : j < n
  case neg =>
   obtain rfl : j = n := by omega
   have HR := jd (show RiseTo l l.length by rw [HL.out]; exact HA.out)
   have HV := jd (show seenB l = decide ((tabOf l).length = j) by rw [rise_end HR.out, HL.out])
   have ht := iTable_any A j cc B l wr (HH.out.keep (C.out.mono hB)) (Nat.le_trans hB C.out.size) HSZ.out (fun m hm => mark_w64 ((rise_all HR.out).1 m hm))
   clear hel c
   go_wp2_with fail
   refine ht.mono ?_
   rintro e w2 ⟨rfl, t2, b2⟩
   have T2 := jd t2
   have CC := jd (C.out.trans (b2.mono C.out.size))
   clear t2 b2 ht
   obtain ⟨D, hown, _, hsz, _⟩ := T2.out.map
   go_wp2_with (first
    | (at_len
       refine wpList_len_own _ rfl (.tmp 43) 111 (by rfl) 2 76 Try.underlying111 selfR wr.heap.size _ D (by rfl) hown ?_))
   go_ret
   refine ⟨ret_bool ?_, CC.out⟩
   rw [HV.out, Bool.eq_iff_iff]
   simp
   try omega
  case pos =>
   have hjl : j < l.length := by have := HL.out; omega
   obtain ⟨b, off, rfl, hb, hc⟩ := hel (by omega)
   obtain ⟨hc0, hc1, hc2⟩ := hc j hjl
   have cs0 := cu0z c hc0 (show b < _ by omega)
   obtain ⟨x0, hx0⟩ : ∃ q, q = l[j].mc := ⟨_, rfl⟩
   rw [← hx0] at cs0
   have cs1 := cu0z c hc1 (show b < _ by omega)
   obtain ⟨x1, hx1⟩ : ∃ q, q = l[j].ms := ⟨_, rfl⟩
   rw [← hx1] at cs1
   have cs2 := cu0z c hc2 (show b < _ by omega)
   obtain ⟨x2, hx2⟩ : ∃ q, q = l[j].mi := ⟨_, rfl⟩
   rw [← hx2] at cs2
   have hmk : l[j] = ⟨x0, x1, x2⟩ := by rw [hx0, hx1, hx2]
   have HG := jd (show l.getD j mark0 = ⟨x0, x1, x2⟩ by rw [mgetD hjl, hmk])
   have HNO := jd (show (markB ⟨x0, x1, x2⟩ && riseAt l j) = false → seenB l = false from fun h9 => rise_no hjl (by rw [HG.out]; exact h9))
   have HJ := jd hjl
   have HC := jd hc
   have CC := jd (c.alloc c.size (.cells #[.int .i64 x0, .int .i64 x1, .int .i64 x2] 76))
   have kk := Blk.new wr #[.int .i64 x0, .int .i64 x1, .int .i64 x2] 76
   have m0 : (wr.alloc (.cells #[.int .i64 x0, .int .i64 x1, .int .i64 x2] 76)).cell? ⟨wr.heap.size, 0, none⟩ = some (.int .i64 x0) := kk.cell 0
   have K := jd kk
   have hbb := jd (show b < wr.heap.size by have := C.out.size; omega)
   clear hmk hel hc hx0 hx1 hx2 hc0 hc1 hc2 kk
   by_cases p1 : 2 ≤ x0 ∧ x0 ≤ 5
   case neg =>
    have HV := jd (HNO.out (Bool.eq_false_iff.2 fun h9 => by
     rw [Bool.and_eq_true, markB_iff] at h9
     exact p1 h9.1.1))
    clear c m0
    go_wp2_with (first | (go_at_call 62; refine (i_AskerOk_no x0 _ p1).mono ?_; rintro e w' ⟨rfl, rfl⟩))
    go_ret
    exact ⟨ret_bool HV.out.symm, CC.out⟩
   case pos =>
   by_cases p2 : 1 ≤ x1 ∧ x1 ≤ 2000
   case neg =>
    have HV := jd (HNO.out (Bool.eq_false_iff.2 fun h9 => by
     rw [Bool.and_eq_true, markB_iff] at h9
     exact p2 h9.1.2.1))
    clear c m0
    go_wp2_with (first | (go_at_call 62; refine (i_AskerOk_yes x0 _ p1).mono ?_; rintro e w' ⟨rfl, rfl⟩) | (go_at_call 63; refine (i_isSeq_no x1 _ p2).mono ?_; rintro e w' ⟨rfl, rfl⟩))
    go_ret
    exact ⟨ret_bool HV.out.symm, CC.out⟩
   case pos =>
   by_cases p3 : 1 ≤ x2 ∧ x2 ≤ 2000
   case neg =>
    have HV := jd (HNO.out (Bool.eq_false_iff.2 fun h9 => by
     rw [Bool.and_eq_true, markB_iff] at h9
     exact p3 h9.1.2.2))
    clear c m0
    go_wp2_with (first | (go_at_call 62; refine (i_AskerOk_yes x0 _ p1).mono ?_; rintro e w' ⟨rfl, rfl⟩) | (go_at_call 63; refine (i_isSeq_yes x1 _ p2).mono ?_; rintro e w' ⟨rfl, rfl⟩) | (go_at_call 60; refine (i_isIndex_no x2 _ p3).mono ?_; rintro e w' ⟨rfl, rfl⟩))
    go_ret
    exact ⟨ret_bool HV.out.symm, CC.out⟩
   case pos =>
   have HM := jd (show markB ⟨x0, x1, x2⟩ = true from (markB_iff _).2 ⟨p1, p2, p3⟩)
   by_cases hj0 : j = 0
   case pos =>
    have HN := jd (show RiseTo l (j + 1) from fun q hq => by
     obtain rfl : q = j := by omega
     rw [HG.out, HM.out]
     unfold riseAt
     rw [decide_eq_true hj0]
     rfl)
    have g0 : decide ((0 : Int) < (j : Int)) = false := decide_eq_false (by omega)
    have g1 : decide (0 < j) = false := decide_eq_false (by omega)
    clear c hj0
    go_wp2_with (first | (go_at_call 62; refine (i_AskerOk_yes x0 _ p1).mono ?_; rintro e w' ⟨rfl, rfl⟩) | (go_at_call 63; refine (i_isSeq_yes x1 _ p2).mono ?_; rintro e w' ⟨rfl, rfl⟩) | (go_at_call 60; refine (i_isIndex_yes x2 _ p3).mono ?_; rintro e w' ⟨rfl, rfl⟩))
    go_quiet (fail)
    have C3 := jd (below_drewN CC.out nq)
    clear m0 cs0 cs1 cs2
    go_wp2
    go_roundw
    case rel => exact ⟨j + 1, by omega, by go_num, HN.out, C3.out⟩
    case measure => simp [intOf] <;> omega
   case neg =>
    obtain ⟨k, rfl⟩ : ∃ k, j = k + 1 := ⟨j - 1, by omega⟩
    have hkl : k < l.length := by have := HJ.out; omega
    have hd0 := (HC.out k hkl).1
    obtain ⟨y0, hy0⟩ : ∃ q, q = l[k].mc := ⟨_, rfl⟩
    rw [← hy0] at hd0
    have d0 : (wr.alloc (.cells #[.int .i64 x0, .int .i64 x1, .int .i64 x2] 76)).cell? ⟨b, off + k * 3, none⟩ = some (.int .i64 y0) := ((((c.alloc c.size (.cells #[.int .i64 x0, .int .i64 x1, .int .i64 x2] 76))).cell (p := ⟨b, off + k * 3, none⟩) (show b < _ by omega)).trans hd0)
    have HK := jd (show riseAt l (k + 1) = decide (y0 < x0) by
     unfold riseAt
     rw [decide_eq_false (show ¬ k + 1 = 0 by omega), Bool.false_or, Nat.add_sub_cancel, HG.out, mgetD hkl, hy0])
    have hw1 : IntKind.i64.wrap (((k + 1 : Nat) : Int) - 1) = (k : Int) := by rw [IntKind.wrap_i64]; omega
    have hw2 : IntKind.i64.wrap (k : Int) = (k : Int) := by rw [IntKind.wrap_i64]; omega
    have j0 : (0 : Int) ≤ (k : Int) := by omega
    have j1 : (k : Int) < (n : Int) := by omega
    have g0 : decide ((0 : Int) < ((k + 1 : Nat) : Int)) = true := decide_eq_true (by omega)
    clear hd0 c hy0 hkl
    by_cases hlt2 : y0 < x0
    case neg =>
     have HV := jd (HNO.out (by rw [HK.out, decide_eq_false hlt2, Bool.and_false]))
     have e1 : decide (x0 ≤ y0) = true := decide_eq_true (by omega)
     go_wp2_with (first | (go_at_call 62; refine (i_AskerOk_yes x0 _ p1).mono ?_; rintro e w' ⟨rfl, rfl⟩) | (go_at_call 63; refine (i_isSeq_yes x1 _ p2).mono ?_; rintro e w' ⟨rfl, rfl⟩) | (go_at_call 60; refine (i_isIndex_yes x2 _ p3).mono ?_; rintro e w' ⟨rfl, rfl⟩))
     go_quiet (fail)
     have C3 := jd (below_drewN CC.out nq)
     clear m0 cs0 cs1 cs2 d0
     go_wp2
     go_ret
     exact ⟨ret_bool HV.out.symm, C3.out⟩
    case pos =>
     have HN := jd (show RiseTo l (k + 1 + 1) from fun q hq => by
      rcases Nat.lt_or_ge q (k + 1) with h1 | h1
      · exact HA.out q h1
      · obtain rfl : q = k + 1 := by omega
        rw [HG.out, HM.out, HK.out, decide_eq_true hlt2]
        rfl)
     have e1 : decide (x0 ≤ y0) = false := decide_eq_false (by omega)
     go_wp2_with (first | (go_at_call 62; refine (i_AskerOk_yes x0 _ p1).mono ?_; rintro e w' ⟨rfl, rfl⟩) | (go_at_call 63; refine (i_isSeq_yes x1 _ p2).mono ?_; rintro e w' ⟨rfl, rfl⟩) | (go_at_call 60; refine (i_isIndex_yes x2 _ p3).mono ?_; rintro e w' ⟨rfl, rfl⟩))
     go_quiet (fail)
     have C3 := jd (below_drewN CC.out nq)
     clear m0 cs0 cs1 cs2 d0
     go_wp2
     go_roundw
     case rel => exact ⟨k + 1 + 1, by omega, by go_num, HN.out, C3.out⟩
     case measure => simp [intOf] <;> omega
theorem seen_w64 {l : List MarkM} (h : seenB l = true) : ∀ m ∈ l, w64 m.mi := fun m hm => mark_w64 ((seen_pairs h).1 m hm)
theorem iTable_ok (A : Option Addr) (n cc B : Nat) (l : List MarkM) (w : World) (h : Rd w B [mrkD l] [.slice A n cc]) (hB : B ≤ w.heap.size) (hs : mrkSz l ≤ 1048577) (hok : seenB l = true) :
    Calls Try.prog 68 #[.slice A n cc] w fun e w' => e = .returned (.map (some w.heap.size)) ∧ Tab w' w.heap.size l ∧ Below w.heap.size w w' := by
 have := iTable_any A n cc B l w h hB hs (seen_w64 hok)
 rw [tabOf_apart (seen_apart hok)] at this
 exact this
set_option maxHeartbeats 6400000 in
theorem iLastSeen_any (A : Option Addr) (n cc B : Nat) (l : List MarkM) (w : World) (h : Rd w B [mrkD l] [.slice A n cc]) (hB : B ≤ w.heap.size) (hs : mrkSz l ≤ 1048577) :
    Calls Try.prog 67 #[.slice A n cc] w fun e w' => e = .returned (.int .i64 (lastS l)) ∧ Below w.heap.size w w' := by
 have hc := iSeen_any A n cc B l w h hB hs
 have HH := jd h
 cases hok : seenB l
 case false =>
  have HV := jd (show lastS l = 0 by unfold lastS; rw [hok]; rfl)
  rw [hok] at hc
  clear h hok
  go_enter Try.func67, Try.ntmps67
  go_wp2_with fail
  refine hc.mono ?_
  rintro e w2 ⟨rfl, b2⟩
  go_wp2
  go_ret
  exact ⟨by first | (rw [HV.out]; done) | (rw [HV.out]; rfl), b2⟩
 case true =>
  have HV := jd (show lastS l = maxTo l l.length by unfold lastS; rw [hok]; rfl)
  have HO := jd hok
  rw [hok] at hc
  clear h hok
  go_enter Try.func67, Try.ntmps67
  go_wp2_with fail
  refine hc.mono ?_
  rintro e w2 ⟨rfl, b2⟩
  have ht := iTable_ok A n cc B l w2 (HH.out.keep (b2.mono hB)) (Nat.le_trans hB b2.size) hs HO.out
  have B2 := jd b2
  clear b2
  go_wp2_with fail
  refine ht.mono ?_
  rintro e w3 ⟨rfl, t3, b3⟩
  have hl := iLast_any w2.heap.size l w3 t3
  have B3 := jd (B2.out.trans (b3.mono B2.out.size))
  clear b3 t3 ht
  go_wp2_with fail
  refine hl.mono ?_
  rintro e w4 ⟨rfl, b4⟩
  have B4 := jd (B3.out.trans (b4.mono B3.out.size))
  clear b4
  go_wp2
  go_ret
  exact ⟨by first | (rw [HV.out]; done) | (rw [HV.out]; rfl), B4.out⟩
set_option maxHeartbeats 6400000 in
theorem iMarkOf_any (A : Option Addr) (n cc B : Nat) (l : List MarkM) (q : Int) (w : World) (h : Rd w B [mrkD l] [.slice A n cc]) (hB : B ≤ w.heap.size) (hs : mrkSz l ≤ 1048577) :
    Calls Try.prog 33 #[.slice A n cc, .int .i64 q] w fun e w' => e = .returned (.agg #[.int .i64 (markOf l q).mc, .int .i64 (markOf l q).ms, .int .i64 (markOf l q).mi]) ∧ Below w.heap.size w w' := by
 have HH := jd h
 have S := Sep.nil w w.heap.size
 have c := Below.refl w.heap.size w
 replace S := S.boxAt c.size (w.heap.size) rfl #[.int .i64 0, .int .i64 0, .int .i64 0] 76
 replace c := al c S
 go_enter Try.func33, Try.ntmps33
 go_wp2_with fail
 generalize w.alloc (.cells #[.int .i64 0, .int .i64 0, .int .i64 0] 76) = w1 at *
 refine (iSeen_any A n cc B l _ (HH.out.keep (c.mono hB)) (Nat.le_trans hB c.size) hs).mono ?_
 rintro e w2 ⟨rfl, b2⟩
 replace c := c.trans (b2.mono c.size)
 replace S := S.keep b2
 clear b2 h
 cases hok : seenB l
 case false =>
  have HV := jd (show markOf l q = mark0 by unfold markOf; rw [hok]; rfl)
  clear hok
  have f0 := lk S 0 0 rfl rfl
  have f1 := (S.at_ 0 rfl).free 0
  have f2 := lk S 0 1 rfl rfl
  have f3 := (S.at_ 0 rfl).free 1
  have f4 := lk S 0 2 rfl rfl
  have f5 := (S.at_ 0 rfl).free 2
  replace S := S.put 0 rfl 0 (.int .i64 0)
  replace c := st c S (by omega)
  replace S := S.put 0 rfl 1 (.int .i64 0)
  replace c := st c S (by omega)
  replace S := S.put 0 rfl 2 (.int .i64 0)
  replace c := st c S (by omega)
  have r0 := jd ((S.at_ 0 rfl).cell 0)
  have r1 := jd ((S.at_ 0 rfl).cell 1)
  have r2 := jd ((S.at_ 0 rfl).cell 2)
  have CC := jd c
  clear S c
  go_wp2
  exact bodyPost_ret (v := .agg #[.int .i64 0, .int .i64 0, .int .i64 0]) (by simp [results, Try.results33, go_sem, r0.out, r1.out, r2.out]) rfl ⟨by first | (rw [HV.out]; done) | (rw [HV.out]; rfl), CC.out⟩
 case true =>
  have HM := jd (show markOf l q = findM l q by unfold markOf; rw [if_pos hok])
  have HO := jd hok
  have ht := iTable_ok A n cc B l w2 (HH.out.keep (c.mono hB)) (Nat.le_trans hB c.size) hs hok
  have S2 := jd S
  have C2 := jd c
  clear S c hok
  go_wp2_with fail
  refine ht.mono ?_
  rintro e w3 ⟨rfl, t3, b3⟩
  have hl := iTabOf_any w2.heap.size l q w3 t3 (seen_solo HO.out)
  obtain ⟨y0, y1, y2, hy⟩ : ∃ y0 y1 y2, findM l q = ⟨y0, y1, y2⟩ := ⟨_, _, _, rfl⟩
  rw [hy] at hl HM
  have S3 := jd (S2.out.keep b3)
  have C3 := jd (C2.out.trans (b3.mono C2.out.size))
  clear b3 t3 ht S2 C2 hy
  go_wp2_with fail
  refine hl.mono ?_
  rintro e w4 ⟨rfl, b4⟩
  have S := S3.out.keep b4
  have c := C3.out.trans (b4.mono C3.out.size)
  have HV := HM
  clear b4 hl S3 C3 HM
  have f0 := lk S 0 0 rfl rfl
  have f1 := (S.at_ 0 rfl).free 0
  have f2 := lk S 0 1 rfl rfl
  have f3 := (S.at_ 0 rfl).free 1
  have f4 := lk S 0 2 rfl rfl
  have f5 := (S.at_ 0 rfl).free 2
  replace S := S.put 0 rfl 0 (.int .i64 y0)
  replace c := st c S (by omega)
  replace S := S.put 0 rfl 1 (.int .i64 y1)
  replace c := st c S (by omega)
  replace S := S.put 0 rfl 2 (.int .i64 y2)
  replace c := st c S (by omega)
  have r0 := jd ((S.at_ 0 rfl).cell 0)
  have r1 := jd ((S.at_ 0 rfl).cell 1)
  have r2 := jd ((S.at_ 0 rfl).cell 2)
  have CC := jd c
  clear S c
  go_wp2
  exact bodyPost_ret (v := .agg #[.int .i64 y0, .int .i64 y1, .int .i64 y2]) (by simp [results, Try.results33, go_sem, r0.out, r1.out, r2.out]) rfl ⟨by first | (rw [HV.out]; done) | (rw [HV.out]; rfl), CC.out⟩
end Go.Proofs.Ytmjifhjhialcbaa
