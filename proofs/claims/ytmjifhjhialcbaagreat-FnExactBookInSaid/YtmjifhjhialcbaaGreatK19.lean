/- Parts of my texts: RecM EntS4. -/
import Derived.Test.YtmjifhjhialcbaaGreatK18
namespace Go.Proofs.YtmjifhjhialcbaaGreat
set_option maxRecDepth 100000
set_option linter.unusedVariables false
open Go.RowKit
def fitsM (b : BookM) (s : List MarkM) (r : List Int) : Bool := (rowSlotM r).2 && (decide ((rowSlotM r).1.idx = lastB b + 1) && ((appM b (rowSlotM r).1).2 && (markedM s (rowSlotM r).1).2))
def pickM (b : BookM) (s : List MarkM) (rows : List (List Int)) : EntM × Bool :=
 match rows.find? (fitsM b s) with
 | some r => ((rowSlotM r).1, true)
 | none => (ent0, false)
def nextM (t : TwoM) (b : BookM) (s : List MarkM) : EntM × Bool := pickM b s (rightAt t (slotOfM (lastB b + 1)))
def stepM (t : TwoM) (x : BookM × List MarkM) : BookM × List MarkM := if (nextM t x.1 x.2).2 = true then ((appM x.1 (nextM t x.1 x.2).1).1, (markedM x.2 (nextM t x.1 x.2).1).1) else x
def bookAt (t : TwoM) (h : HeadM) : Nat → BookM × List MarkM
 | 0 => (⟨h.base, h.tm, []⟩, h.seen)
 | j + 1 => stepM t (bookAt t h j)
def bookInM (t : TwoM) (h : HeadM) : BookM := if keptB t = true ∧ headOkB h = true then (bookAt t h 21).1 else book0
structure RecM where
 two : TwoM
 head : HeadM
 book : BookM
 ok : Bool
theorem fits_iff (b : BookM) (s : List MarkM) (r : List Int) : fitsM b s r = true ↔ (rowSlotM r).2 = true ∧ (rowSlotM r).1.idx = lastB b + 1 ∧ (appM b (rowSlotM r).1).2 = true ∧ (markedM s (rowSlotM r).1).2 = true := by
 unfold fitsM
 simp only [Bool.and_eq_true, decide_eq_true_eq]
theorem pick_yes {b : BookM} {s : List MarkM} {rows : List (List Int)} (h : (pickM b s rows).2 = true) : ∃ r ∈ rows, fitsM b s r = true ∧ (pickM b s rows).1 = (rowSlotM r).1 := by
 unfold pickM at h ⊢
 cases hf : rows.find? (fitsM b s) with
 | none => rw [hf] at h; cases h
 | some r => exact ⟨r, List.mem_of_find?_eq_some hf, List.find?_some hf, rfl⟩
theorem app_yes {b : BookM} {e : EntM} (h : (appM b e).2 = true) : bookB b = true ∧ nextB b e = true ∧ (appM b e).1 = more b [e] := by
 unfold appM at h ⊢
 split at h
 next h1 =>
  split at h
  next h2 => exact ⟨h1, h2, by rw [if_pos h1, if_pos h2]⟩
  next => cases h
 next => cases h
theorem mark_yes {s : List MarkM} {e : EntM} (h : (markedM s e).2 = true) : seenB s = true ∧ mayB s e = true ∧ (markedM s e).1 = insM s ⟨e.cl, e.sq, e.idx⟩ := by
 unfold markedM at h ⊢
 split at h
 next h1 =>
  split at h
  next h2 => exact ⟨h1, h2, by rw [if_pos h1, if_pos h2]⟩
  next => cases h
 next => cases h
def GoodX (x : BookM × List MarkM) : Prop := bookB x.1 = true ∧ seenB x.2 = true
theorem head_good {h : HeadM} (ho : headOkB h = true) : GoodX (⟨h.base, h.tm, []⟩, h.seen) := by
 obtain ⟨h1, h2, h3, h4, h5, h6⟩ := (headOkB_iff h).1 ho
 refine ⟨(bookB_iff _).2 ⟨h1, h3, ?_, by simp, by rfl, by rfl⟩, h5⟩
 rcases h4 with h4 | h4
 · exact Or.inl (show h.base ≠ 0 by omega)
 · exact Or.inr h4
theorem step_yes {t : TwoM} {x : BookM × List MarkM} (hn : (nextM t x.1 x.2).2 = true) : ∃ e, (nextM t x.1 x.2).1 = e ∧ nextB x.1 e = true ∧ mayB x.2 e = true ∧ stepM t x = (more x.1 [e], insM x.2 ⟨e.cl, e.sq, e.idx⟩) ∧ bookB x.1 = true ∧ seenB x.2 = true ∧ (appM x.1 e).2 = true ∧ (markedM x.2 e).2 = true := by
 obtain ⟨r, hr, hf, he⟩ := pick_yes hn
 obtain ⟨f1, f2, f3, f4⟩ := (fits_iff _ _ _).1 hf
 have he' : (nextM t x.1 x.2).1 = (rowSlotM r).1 := he
 obtain ⟨a1, a2, a3⟩ := app_yes f3
 obtain ⟨m1, m2, m3⟩ := mark_yes f4
 refine ⟨_, he', a2, m2, ?_, a1, m1, f3, f4⟩
 unfold stepM
 rw [if_pos hn, he', a3, m3]
theorem step_no {t : TwoM} {x : BookM × List MarkM} (hn : (nextM t x.1 x.2).2 = false) : stepM t x = x := by
 unfold stepM
 rw [if_neg (by rw [hn]; decide)]
theorem step_good {t : TwoM} {x : BookM × List MarkM} (hg : GoodX x) : GoodX (stepM t x) := by
 cases hn : (nextM t x.1 x.2).2
 · rw [step_no hn]; exact hg
 · obtain ⟨e, _, h1, h2, h3, _⟩ := step_yes hn
   rw [h3]
   exact ⟨bookB_more hg.1 h1, marked_ok hg.2 h2⟩
theorem bookAt_good {t : TwoM} {h : HeadM} (ho : headOkB h = true) : ∀ j, GoodX (bookAt t h j)
 | 0 => head_good ho
 | j + 1 => step_good (bookAt_good ho j)
theorem bookAt_stay {t : TwoM} {h : HeadM} {j : Nat} (hn : (nextM t (bookAt t h j).1 (bookAt t h j).2).2 = false) : ∀ k, bookAt t h (j + k) = bookAt t h j
 | 0 => rfl
 | k + 1 => by
  show stepM t (bookAt t h (j + k)) = _
  rw [bookAt_stay hn k, step_no hn]
theorem bookIn_end {t : TwoM} {h : HeadM} (hk : keptB t = true) (ho : headOkB h = true) {j : Nat} (hj : j ≤ 21) (hn : (nextM t (bookAt t h j).1 (bookAt t h j).2).2 = false) : bookInM t h = (bookAt t h j).1 := by
 unfold bookInM
 rw [if_pos ⟨hk, ho⟩, show 21 = j + (21 - j) by omega, bookAt_stay hn]
theorem bookInM_sz (t : TwoM) (h : HeadM) : (bookInM t h).sz ≤ 20 := by
 rw [book_sz]
 unfold bookInM
 split
 next hh => exact bookB_len (bookAt_good hh.2 21).1
 next => exact Nat.zero_le _
set_option maxHeartbeats 12800000 in
theorem sEntries_any (A : Option Addr) (n cc B : Nat) (l : List EntM) (w : World) (h : Rd w B [entD l] [.slice A n cc]) (hB : B ≤ w.heap.size) (hs : entSz l ≤ 1048577) :
    Calls Tryz.prog 186 #[.slice A n cc] w fun e w' => e = .returned (.bool (entsB l)) ∧ Below w.heap.size w w' := by
 obtain ⟨_, _, _, e, hl, _, _, hel⟩ := h.ents
 injection e with e1 e2 e3
 subst e1 e2 e3
 have HL := jd hl
 have hn : n ≤ 1048577 := by unfold entSz at hs; omega
 clear h hl hs
 by_cases h16 : 2000 < n
 case pos =>
  have HD := jd (entsB_long (l := l) (by have := HL.out; omega))
  clear hel
  go_enter Tryz.func186, Tryz.ntmps186
  go_wp2
  go_ret
  exact ⟨ret_bool HD.out.symm, Below.refl _ _⟩
 case neg =>
  go_enter Tryz.func186, Tryz.ntmps186
  go_wp2
  go_loopw [3] (fun i wr => ∃ j : Nat, j ≤ n ∧ i = .int .i64 (j : Int) ∧ (∀ q, q < j → entsAt l q = true) ∧ Below w.heap.size w wr) (fun i _ => n - (intOf i).toNat)
  case atStart => exact ⟨0, Nat.zero_le _, rfl, fun q hq => absurd hq (by omega), Below.refl _ _⟩
  case round =>
   obtain ⟨j, hj, rfl, hall, c⟩ := hrel
   by_cases hlt : j < n
   · obtain ⟨b, off, rfl, hb, hc⟩ := hel (by omega)
     have hjl : j < l.length := by have := HL.out; omega
     obtain ⟨hc0, hc1, hc2, hc3, hc4, hc5, hc6, hc7, hc8⟩ := hc j hjl
     have cs0 := cu c hc0 (show b < _ by omega)
     have cs1 := cu c hc1 (show b < _ by omega)
     have cs2 := cu c hc2 (show b < _ by omega)
     have cs3 := cu c hc3 (show b < _ by omega)
     have cs4 := cu c hc4 (show b < _ by omega)
     have cs5 := cu c hc5 (show b < _ by omega)
     have cs6 := cu c hc6 (show b < _ by omega)
     have cs7 := cu c hc7 (show b < _ by omega)
     have cs8 := cu c hc8 (show b < _ by omega)
     obtain ⟨x0, hx0⟩ : ∃ q, q = l[j].idx := ⟨_, rfl⟩
     rw [← hx0] at cs0
     obtain ⟨x1, hx1⟩ : ∃ q, q = l[j].tm := ⟨_, rfl⟩
     rw [← hx1] at cs1
     obtain ⟨x2, hx2⟩ : ∃ q, q = l[j].cl := ⟨_, rfl⟩
     rw [← hx2] at cs2
     obtain ⟨x3, hx3⟩ : ∃ q, q = l[j].sq := ⟨_, rfl⟩
     rw [← hx3] at cs3
     obtain ⟨x4, hx4⟩ : ∃ q, q = l[j].kd := ⟨_, rfl⟩
     rw [← hx4] at cs4
     obtain ⟨x5, hx5⟩ : ∃ q, q = l[j].oa := ⟨_, rfl⟩
     rw [← hx5] at cs5
     obtain ⟨x6, hx6⟩ : ∃ q, q = l[j].ob := ⟨_, rfl⟩
     rw [← hx6] at cs6
     obtain ⟨x7, hx7⟩ : ∃ q, q = l[j].oc := ⟨_, rfl⟩
     rw [← hx7] at cs7
     obtain ⟨x8, hx8⟩ : ∃ q, q = l[j].od := ⟨_, rfl⟩
     rw [← hx8] at cs8
     have hmk : l[j] = ⟨x0, x1, x2, x3, x4, x5, x6, x7, x8⟩ := by rw [hx0, hx1, hx2, hx3, hx4, hx5, hx6, hx7, hx8]
     have HS := jd (show entsAt l j = (entB ⟨x0, x1, x2, x3, x4, x5, x6, x7, x8⟩ && nextAt l j) by rw [entsAt_eq hjl, hmk])
     have HA := jd hall
     have HJ := jd hjl
     have C := jd c
     have zb := c.size
     have HM := jd hmk
     have HX0 := jd hx0
     have HX1 := jd hx1
     clear hmk hx0 hx1 hx2 hx3 hx4 hx5 hx6 hx7 hx8 hc0 hc1 hc2 hc3 hc4 hc5 hc6 hc7 hc8
     cases p1 : entB ⟨x0, x1, x2, x3, x4, x5, x6, x7, x8⟩
     case false =>
      have P1 := jd p1
      clear hall c hc hel
      go_wp2_with fail
      refine wp_region_cls (fun v => v.cell? ⟨b, off + j * 9, none⟩ = some (.int .i64 x0) ∧ v.cell? ⟨b, off + j * 9 + 1, none⟩ = some (.int .i64 x1) ∧ v.cell? ⟨b, off + j * 9 + 2, none⟩ = some (.int .i64 x2) ∧ v.cell? ⟨b, off + j * 9 + 3, none⟩ = some (.int .i64 x3) ∧ v.cell? ⟨b, off + j * 9 + 4, none⟩ = some (.int .i64 x4) ∧ v.cell? ⟨b, off + j * 9 + 5, none⟩ = some (.int .i64 x5) ∧ v.cell? ⟨b, off + j * 9 + 6, none⟩ = some (.int .i64 x6) ∧ v.cell? ⟨b, off + j * 9 + 7, none⟩ = some (.int .i64 x7) ∧ v.cell? ⟨b, off + j * 9 + 8, none⟩ = some (.int .i64 x8)) (by kernel_rfl) (by kernel_rfl) (fun v hv => ⟨cq hv cs0, cq hv cs1, cq hv cs2, cq hv cs3, cq hv cs4, cq hv cs5, cq hv cs6, cq hv cs7, cq hv cs8⟩) ?_
      intro CL HF HC
      repeat
       (first
          | go_big_quiet_skip
          | (go_big_quiet_want
             go_big_quiet_op
             first
              | go_big_quiet_on
              | (apply Exists.intro
                 refine ⟨fun v hv => ?_, ?_⟩
                 · obtain ⟨a0, a1, a2, a3, a4, a5, a6, a7, a8⟩ := HF v hv
                   first
                    | (go_at_call 141; exact Calls.cls HC hv (sEntryOk_any x0 x1 x2 x3 x4 x5 x6 x7 x8 v) (congrArg Value.bool p1))
                    | exact rfl
                    | (go_simp; exact rfl)
                    | (go_simp; exact ⟨rfl, hv⟩)
                 go_big_quiet_on)))
      refine wpQuiet_nil ?_
      intro w3 b3
      have CC := jd (C.out.trans (b3.mono C.out.size))
      go_wp2
      go_ret
      exact ⟨ret_bool (entsB_step HJ.out (by rw [HS.out]; rw [P1.out]; rfl)).symm, CC.out⟩
     case true =>
     have P1 := jd p1
     by_cases hj0 : j = 0
     case pos =>
      subst hj0
      have zz : decide ((0 : Int) > 0) = false := rfl
      have cz0 := cs0
      have cz1 := cs1
      have cz2 := cs2
      have cz3 := cs3
      have cz4 := cs4
      have cz5 := cs5
      have cz6 := cs6
      have cz7 := cs7
      have cz8 := cs8
      simp only [Nat.zero_mul, Nat.add_zero] at cs0 cs1 cs2 cs3 cs4 cs5 cs6 cs7 cs8
      clear hall c hc hel cz0 cz1 cz2 cz3 cz4 cz5 cz6 cz7 cz8
      go_wp2_with fail
      refine wp_region_cls (fun v => v.cell? ⟨b, off, none⟩ = some (.int .i64 x0) ∧ v.cell? ⟨b, off + 1, none⟩ = some (.int .i64 x1) ∧ v.cell? ⟨b, off + 2, none⟩ = some (.int .i64 x2) ∧ v.cell? ⟨b, off + 3, none⟩ = some (.int .i64 x3) ∧ v.cell? ⟨b, off + 4, none⟩ = some (.int .i64 x4) ∧ v.cell? ⟨b, off + 5, none⟩ = some (.int .i64 x5) ∧ v.cell? ⟨b, off + 6, none⟩ = some (.int .i64 x6) ∧ v.cell? ⟨b, off + 7, none⟩ = some (.int .i64 x7) ∧ v.cell? ⟨b, off + 8, none⟩ = some (.int .i64 x8)) (by kernel_rfl) (by kernel_rfl) (fun v hv => ⟨cq hv cs0, cq hv cs1, cq hv cs2, cq hv cs3, cq hv cs4, cq hv cs5, cq hv cs6, cq hv cs7, cq hv cs8⟩) ?_
      intro CL HF HC
      repeat
       (first
          | go_big_quiet_skip
          | (go_big_quiet_want
             go_big_quiet_op
             first
              | go_big_quiet_on
              | (apply Exists.intro
                 refine ⟨fun v hv => ?_, ?_⟩
                 · obtain ⟨a0, a1, a2, a3, a4, a5, a6, a7, a8⟩ := HF v hv
                   first
                    | (go_at_call 141; exact Calls.cls HC hv (sEntryOk_any x0 x1 x2 x3 x4 x5 x6 x7 x8 v) (congrArg Value.bool p1))
                    | exact rfl
                    | (go_simp; exact rfl)
                    | (go_simp; exact ⟨rfl, hv⟩)
                 go_big_quiet_on)))
      refine wpQuiet_nil ?_
      intro w3 b3
      have CC := jd (C.out.trans (b3.mono C.out.size))
      have HN := jd (show ∀ q, q < 0 + 1 → entsAt l q = true from fun q hq => by
       rcases Nat.lt_or_ge q (0) with h1 | h1
       · exact HA.out q h1
       · have : q = 0 := by omega
         subst this
         rw [HS.out]
         rw [P1.out]; rfl)
      go_wp2
      go_roundw
      case rel => exact ⟨0 + 1, by omega, by go_num, HN.out, CC.out⟩
      case measure => simp [intOf]; omega
     case neg =>
      obtain ⟨k, rfl⟩ : ∃ k, j = k + 1 := ⟨j - 1, by omega⟩
      have hkl : k < l.length := by omega
      obtain ⟨hd0, hd1, _⟩ := hc k hkl
      have ct0 := cu c hd0 (show b < _ by omega)
      have ct1 := cu c hd1 (show b < _ by omega)
      obtain ⟨y0, hy0⟩ : ∃ q, q = l[k].idx := ⟨_, rfl⟩
      obtain ⟨y1, hy1⟩ : ∃ q, q = l[k].tm := ⟨_, rfl⟩
      rw [← hy0] at ct0
      rw [← hy1] at ct1
      have hyb : 1 ≤ y0 ∧ y0 ≤ 2000 := by
       have h9 := hall k (by omega)
       rw [entsAt_eq hkl, Bool.and_eq_true] at h9
       rw [hy0]
       exact ((entB_iff _).1 h9.1).1
      have HCA := jd (show nextAt l (k + 1) = (decide (x0 = y0 + 1) && decide (y1 ≤ x1)) by rw [nextAt_succ HJ.out, HX0.out, HX1.out, hy0, hy1])
      have k0' : (0 : Int) ≤ (k : Int) := by omega
      have k1' : (k : Int) < (n : Int) := by omega
      have ep : IntKind.i64.wrap (k : Int) = (k : Int) := by rw [IntKind.wrap_i64]; omega
      have ew : IntKind.i64.wrap (y0 + 1) = y0 + 1 := by rw [IntKind.wrap_i64]; omega
      have zz : decide ((k : Int) + 1 > 0) = true := decide_eq_true (by omega)
      have zy : decide (0 < (k : Int) + 1) = true := decide_eq_true (by omega)
      clear hall c hc hel hd0 hd1 hy0 hy1 hj0 hyb
      by_cases q1 : x0 = y0 + 1
      case neg =>
       have e1 : (x0 == y0 + 1) = false := by simp; omega
       have e2 : (x0 != y0 + 1) = true := by simp; omega
       go_wp2_with fail
       refine wp_region_cls (fun v => v.cell? ⟨b, off + (k + 1) * 9, none⟩ = some (.int .i64 x0) ∧ v.cell? ⟨b, off + (k + 1) * 9 + 1, none⟩ = some (.int .i64 x1) ∧ v.cell? ⟨b, off + (k + 1) * 9 + 2, none⟩ = some (.int .i64 x2) ∧ v.cell? ⟨b, off + (k + 1) * 9 + 3, none⟩ = some (.int .i64 x3) ∧ v.cell? ⟨b, off + (k + 1) * 9 + 4, none⟩ = some (.int .i64 x4) ∧ v.cell? ⟨b, off + (k + 1) * 9 + 5, none⟩ = some (.int .i64 x5) ∧ v.cell? ⟨b, off + (k + 1) * 9 + 6, none⟩ = some (.int .i64 x6) ∧ v.cell? ⟨b, off + (k + 1) * 9 + 7, none⟩ = some (.int .i64 x7) ∧ v.cell? ⟨b, off + (k + 1) * 9 + 8, none⟩ = some (.int .i64 x8) ∧ v.cell? ⟨b, off + k * 9, none⟩ = some (.int .i64 y0) ∧ v.cell? ⟨b, off + k * 9 + 1, none⟩ = some (.int .i64 y1)) (by kernel_rfl) (by kernel_rfl) (fun v hv => ⟨cq hv cs0, cq hv cs1, cq hv cs2, cq hv cs3, cq hv cs4, cq hv cs5, cq hv cs6, cq hv cs7, cq hv cs8, cq hv ct0, cq hv ct1⟩) ?_
       intro CL HF HC
       repeat
        (first
           | go_big_quiet_skip
           | (go_big_quiet_want
              go_big_quiet_op
              first
               | go_big_quiet_on
               | (apply Exists.intro
                  refine ⟨fun v hv => ?_, ?_⟩
                  · obtain ⟨a0, a1, a2, a3, a4, a5, a6, a7, a8, a9, a10⟩ := HF v hv
                    first
                     | (go_at_call 141; exact Calls.cls HC hv (sEntryOk_any x0 x1 x2 x3 x4 x5 x6 x7 x8 v) (congrArg Value.bool p1))
                     | exact rfl
                     | (go_simp; exact rfl)
                     | (go_simp; exact ⟨rfl, hv⟩)
                  go_big_quiet_on)))
       refine wpQuiet_nil ?_
       intro w3 b3
       have CC := jd (C.out.trans (b3.mono C.out.size))
       go_wp2
       go_ret
       exact ⟨ret_bool (entsB_step HJ.out (by rw [HS.out]; rw [P1.out, HCA.out, decide_eq_false q1]; rfl)).symm, CC.out⟩
      case pos =>
       subst q1
       by_cases q2 : x1 < y1
       case pos =>
        have e3 : decide (x1 < y1) = true := decide_eq_true q2
        have e1 : (y0 + 1 != y0 + 1) = false := by simp
        have e2 : (y0 + 1 == y0 + 1) = true := by simp
        go_wp2_with fail
        refine wp_region_cls (fun v => v.cell? ⟨b, off + (k + 1) * 9, none⟩ = some (.int .i64 (y0 + 1)) ∧ v.cell? ⟨b, off + (k + 1) * 9 + 1, none⟩ = some (.int .i64 x1) ∧ v.cell? ⟨b, off + (k + 1) * 9 + 2, none⟩ = some (.int .i64 x2) ∧ v.cell? ⟨b, off + (k + 1) * 9 + 3, none⟩ = some (.int .i64 x3) ∧ v.cell? ⟨b, off + (k + 1) * 9 + 4, none⟩ = some (.int .i64 x4) ∧ v.cell? ⟨b, off + (k + 1) * 9 + 5, none⟩ = some (.int .i64 x5) ∧ v.cell? ⟨b, off + (k + 1) * 9 + 6, none⟩ = some (.int .i64 x6) ∧ v.cell? ⟨b, off + (k + 1) * 9 + 7, none⟩ = some (.int .i64 x7) ∧ v.cell? ⟨b, off + (k + 1) * 9 + 8, none⟩ = some (.int .i64 x8) ∧ v.cell? ⟨b, off + k * 9, none⟩ = some (.int .i64 y0) ∧ v.cell? ⟨b, off + k * 9 + 1, none⟩ = some (.int .i64 y1)) (by kernel_rfl) (by kernel_rfl) (fun v hv => ⟨cq hv cs0, cq hv cs1, cq hv cs2, cq hv cs3, cq hv cs4, cq hv cs5, cq hv cs6, cq hv cs7, cq hv cs8, cq hv ct0, cq hv ct1⟩) ?_
        intro CL HF HC
        repeat
         (first
            | go_big_quiet_skip
            | (go_big_quiet_want
               go_big_quiet_op
               first
                | go_big_quiet_on
                | (apply Exists.intro
                   refine ⟨fun v hv => ?_, ?_⟩
                   · obtain ⟨a0, a1, a2, a3, a4, a5, a6, a7, a8, a9, a10⟩ := HF v hv
                     first
                      | (go_at_call 141; exact Calls.cls HC hv (sEntryOk_any (y0 + 1) x1 x2 x3 x4 x5 x6 x7 x8 v) (congrArg Value.bool p1))
                      | exact rfl
                      | (go_simp; exact rfl)
                      | (go_simp; exact ⟨rfl, hv⟩)
                   go_big_quiet_on)))
        refine wpQuiet_nil ?_
        intro w3 b3
        have CC := jd (C.out.trans (b3.mono C.out.size))
        go_wp2
        go_ret
        exact ⟨ret_bool (entsB_step HJ.out (by rw [HS.out]; rw [P1.out, HCA.out, decide_eq_false (show ¬ y1 ≤ x1 by omega)]; simp)).symm, CC.out⟩
       case neg =>
        have e3 : decide (x1 < y1) = false := decide_eq_false q2
        have e1 : (y0 + 1 != y0 + 1) = false := by simp
        have e2 : (y0 + 1 == y0 + 1) = true := by simp
        go_wp2_with fail
        refine wp_region_cls (fun v => v.cell? ⟨b, off + (k + 1) * 9, none⟩ = some (.int .i64 (y0 + 1)) ∧ v.cell? ⟨b, off + (k + 1) * 9 + 1, none⟩ = some (.int .i64 x1) ∧ v.cell? ⟨b, off + (k + 1) * 9 + 2, none⟩ = some (.int .i64 x2) ∧ v.cell? ⟨b, off + (k + 1) * 9 + 3, none⟩ = some (.int .i64 x3) ∧ v.cell? ⟨b, off + (k + 1) * 9 + 4, none⟩ = some (.int .i64 x4) ∧ v.cell? ⟨b, off + (k + 1) * 9 + 5, none⟩ = some (.int .i64 x5) ∧ v.cell? ⟨b, off + (k + 1) * 9 + 6, none⟩ = some (.int .i64 x6) ∧ v.cell? ⟨b, off + (k + 1) * 9 + 7, none⟩ = some (.int .i64 x7) ∧ v.cell? ⟨b, off + (k + 1) * 9 + 8, none⟩ = some (.int .i64 x8) ∧ v.cell? ⟨b, off + k * 9, none⟩ = some (.int .i64 y0) ∧ v.cell? ⟨b, off + k * 9 + 1, none⟩ = some (.int .i64 y1)) (by kernel_rfl) (by kernel_rfl) (fun v hv => ⟨cq hv cs0, cq hv cs1, cq hv cs2, cq hv cs3, cq hv cs4, cq hv cs5, cq hv cs6, cq hv cs7, cq hv cs8, cq hv ct0, cq hv ct1⟩) ?_
        intro CL HF HC
        repeat
         (first
            | go_big_quiet_skip
            | (go_big_quiet_want
               go_big_quiet_op
               first
                | go_big_quiet_on
                | (apply Exists.intro
                   refine ⟨fun v hv => ?_, ?_⟩
                   · obtain ⟨a0, a1, a2, a3, a4, a5, a6, a7, a8, a9, a10⟩ := HF v hv
                     first
                      | (go_at_call 141; exact Calls.cls HC hv (sEntryOk_any (y0 + 1) x1 x2 x3 x4 x5 x6 x7 x8 v) (congrArg Value.bool p1))
                      | exact rfl
                      | (go_simp; exact rfl)
                      | (go_simp; exact ⟨rfl, hv⟩)
                   go_big_quiet_on)))
        refine wpQuiet_nil ?_
        intro w3 b3
        have CC := jd (C.out.trans (b3.mono C.out.size))
        have HN := jd (show ∀ q, q < k + 1 + 1 → entsAt l q = true from fun q hq => by
         rcases Nat.lt_or_ge q (k + 1) with h1 | h1
         · exact HA.out q h1
         · have : q = k + 1 := by omega
           subst this
           rw [HS.out]
           rw [P1.out, HCA.out, decide_eq_true (show y1 ≤ x1 by omega)]; simp)
        go_wp2
        go_roundw
        case rel => exact ⟨k + 1 + 1, by omega, by go_num, HN.out, CC.out⟩
        case measure => simp [intOf]; omega
   · have HD := jd (show entsB l = true from entsB_end (by have := HL.out; omega) fun q hq => hall q (by have := HL.out; omega))
     have CC := jd c
     clear hall hel c
     go_wp2
     go_ret
     exact ⟨ret_bool HD.out.symm, CC.out⟩
end Go.Proofs.YtmjifhjhialcbaaGreat
