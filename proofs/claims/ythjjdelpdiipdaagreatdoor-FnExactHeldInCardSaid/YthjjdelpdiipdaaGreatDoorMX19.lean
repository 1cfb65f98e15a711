/- Parts of my texts: MarkS2. -/
import Derived.Test.YthjjdelpdiipdaaGreatDoorMX18
import Derived.Deep.DeepCutAuto
namespace Go.Proofs.YthjjdelpdiipdaaGreatDoor
set_option maxRecDepth 100000
set_option linter.unusedVariables false
open Go.RowKit
theorem seq_at (x : Int) (w : World) : Calls Tryz.prog 107 #[.int .i64 x] w fun e w' => e = .returned (.bool (inB x 1 2000)) ∧ Below w.heap.size w w' := by
 by_cases h : 1 ≤ x ∧ x ≤ 2000
 · refine (l7Seq_yes x w h).mono ?_
   rintro e w' ⟨rfl, rfl⟩
   exact ⟨ret_bool ((inB_iff _ _ _).2 h).symm, Below.refl _ _⟩
 · refine (l7Seq_no x w h).mono ?_
   rintro e w' ⟨rfl, rfl⟩
   exact ⟨ret_bool (Bool.eq_false_iff.2 fun h9 => h ((inB_iff _ _ _).1 h9)).symm, Below.refl _ _⟩
theorem index_at (x : Int) (w : World) : Calls Tryz.prog 108 #[.int .i64 x] w fun e w' => e = .returned (.bool (inB x 1 2000)) ∧ Below w.heap.size w w' := by
 by_cases h : 1 ≤ x ∧ x ≤ 2000
 · refine (l7Index_yes x w h).mono ?_
   rintro e w' ⟨rfl, rfl⟩
   exact ⟨ret_bool ((inB_iff _ _ _).2 h).symm, Below.refl _ _⟩
 · refine (l7Index_no x w h).mono ?_
   rintro e w' ⟨rfl, rfl⟩
   exact ⟨ret_bool (Bool.eq_false_iff.2 fun h9 => h ((inB_iff _ _ _).1 h9)).symm, Below.refl _ _⟩
set_option maxHeartbeats 12800000 in
theorem sSeen_any (A : Option Addr) (n cc B : Nat) (l : List MarkM) (w : World) (h : Rd w B [mrkD l] [.slice A n cc]) (hB : B ≤ w.heap.size) (hs : mrkSz l ≤ 1048577) :
    Calls Tryz.prog 68 #[.slice A n cc] w fun e w' => e = .returned (.bool (seenB l)) ∧ Below w.heap.size w w' := by
 obtain ⟨_, _, _, e, hl, _, _, hel⟩ := h.mrks
 injection e with e1 e2 e3
 subst e1 e2 e3
 have HL := jd hl
 have hn : n ≤ 1048577 := by unfold mrkSz at hs; omega
 clear h hl hs
 by_cases h4 : 4 < n
 case pos =>
  have HD := jd (seenB_long (l := l) (by have := HL.out; omega))
  clear hel
  go_enter Tryz.func68, Tryz.ntmps68
  go_wp2
  go_ret
  exact ⟨ret_bool HD.out.symm, Below.refl _ _⟩
 case neg =>
  go_enter Tryz.func68, Tryz.ntmps68
  go_wp2
  go_loopw [3] (fun i wr => ∃ j : Nat, j ≤ n ∧ i = .int .i64 (j : Int) ∧ (∀ q, q < j → seenAt l q = true) ∧ Below w.heap.size w wr) (fun i _ => n - (intOf i).toNat)
  case atStart => exact ⟨0, Nat.zero_le _, rfl, fun q hq => absurd hq (by omega), Below.refl _ _⟩
  case round =>
   obtain ⟨j, hj, rfl, hall, c⟩ := hrel
   by_cases hlt : j < n
   case neg =>
    have HD := jd (show seenB l = true from (seenB_iff l).2 ⟨by have := HL.out; omega, fun q hq => hall q (by have := HL.out; omega)⟩)
    have CC := jd c
    clear hall hel c
    go_wp2
    go_ret
    exact ⟨ret_bool HD.out.symm, CC.out⟩
   case pos =>
    have hjl : j < l.length := by have := HL.out; omega
    obtain ⟨b, off, rfl, hb, hc⟩ := hel (by omega)
    obtain ⟨hc0, hc1, hc2⟩ := hc j hjl
    have cs0 := cu c hc0 (show b < _ by omega)
    obtain ⟨x0, hx0⟩ : ∃ q, q = l[j].mc := ⟨_, rfl⟩
    rw [← hx0] at cs0
    have cs1 := cu c hc1 (show b < _ by omega)
    obtain ⟨x1, hx1⟩ : ∃ q, q = l[j].ms := ⟨_, rfl⟩
    rw [← hx1] at cs1
    have cs2 := cu c hc2 (show b < _ by omega)
    obtain ⟨x2, hx2⟩ : ∃ q, q = l[j].mi := ⟨_, rfl⟩
    rw [← hx2] at cs2
    have hmk : l[j] = ⟨x0, x1, x2⟩ := by rw [hx0, hx1, hx2]
    have HX := jd (show (l.getD j mark0).mc = x0 ∧ (l.getD j mark0).mi = x2 by rw [mgetD hjl, hmk]; exact ⟨rfl, rfl⟩)
    have HS := jd (show seenAt l j = ((markB ⟨x0, x1, x2⟩ && riseAt l j) && freeTo l j j) by unfold seenAt; rw [mgetD hjl, hmk])
    have HA := jd hall
    have HJ := jd hjl
    have C := jd c
    have HC := jd hc
    have hbb := hb
    have HLT := jd hlt
    have hdn := jd (show decide ((j : Int) < (n : Int)) = true from decide_eq_true (by omega))
    clear hmk hall hel hc hx0 hx1 hx2 hc0 hc1 hc2
    go_wp2_with fail
    go_cut [56] (fun tv wc => tv = .bool (!(markB ⟨x0, x1, x2⟩ && riseAt l j)) ∧ Below w.heap.size w wc)
    case first =>
     cases p1 : askB x0
     case false =>
      have HV := jd (show (!(markB ⟨x0, x1, x2⟩ && riseAt l j)) = true by unfold markB; simp only [p1, Bool.false_and]; rfl)
      refine wp_region_cls (fun v => v.cell? ⟨b, off + j * 3, none⟩ = some (.int .i64 x0) ∧ v.cell? ⟨b, off + j * 3 + 1, none⟩ = some (.int .i64 x1) ∧ v.cell? ⟨b, off + j * 3 + 2, none⟩ = some (.int .i64 x2)) (by kernel_rfl) (by kernel_rfl) (fun v hv => ⟨cq hv cs0, cq hv cs1, cq hv cs2⟩) ?_
      intro CL HF HC9
      repeat
       (first
          | go_big_quiet_skip
          | (go_big_quiet_want
             go_big_quiet_op
             first
              | go_big_quiet_on
              | (apply Exists.intro
                 refine ⟨fun v hv => ?_, ?_⟩
                 · obtain ⟨a0, a1, a2⟩ := HF v hv
                   first
                    | (go_at_call 106; exact Calls.cls HC9 hv (sAsker_any x0 v) (congrArg Value.bool p1))
                    | exact rfl
                    | (go_simp; exact rfl)
                    | (go_simp; exact ⟨rfl, hv⟩)
                 go_big_quiet_on)))
      refine wpQuiet_nil ?_
      intro w3 b3
      have CC := jd (C.out.trans (b3.mono C.out.size))
      go_wp2
      go_meet
      exact ⟨by rw [HV.out], CC.out⟩
     case true =>
     cases p2 : inB x1 1 2000
     case false =>
      have HV := jd (show (!(markB ⟨x0, x1, x2⟩ && riseAt l j)) = true by unfold markB; simp only [p1, p2, Bool.true_and, Bool.false_and]; rfl)
      refine wp_region_cls (fun v => v.cell? ⟨b, off + j * 3, none⟩ = some (.int .i64 x0) ∧ v.cell? ⟨b, off + j * 3 + 1, none⟩ = some (.int .i64 x1) ∧ v.cell? ⟨b, off + j * 3 + 2, none⟩ = some (.int .i64 x2)) (by kernel_rfl) (by kernel_rfl) (fun v hv => ⟨cq hv cs0, cq hv cs1, cq hv cs2⟩) ?_
      intro CL HF HC9
      repeat
       (first
          | go_big_quiet_skip
          | (go_big_quiet_want
             go_big_quiet_op
             first
              | go_big_quiet_on
              | (apply Exists.intro
                 refine ⟨fun v hv => ?_, ?_⟩
                 · obtain ⟨a0, a1, a2⟩ := HF v hv
                   first
                    | (go_at_call 106; exact Calls.cls HC9 hv (sAsker_any x0 v) (congrArg Value.bool p1))
                    | (go_at_call 107; exact Calls.cls HC9 hv (seq_at x1 v) (congrArg Value.bool p2))
                    | exact rfl
                    | (go_simp; exact rfl)
                    | (go_simp; exact ⟨rfl, hv⟩)
                 go_big_quiet_on)))
      refine wpQuiet_nil ?_
      intro w3 b3
      have CC := jd (C.out.trans (b3.mono C.out.size))
      go_wp2
      go_meet
      exact ⟨by rw [HV.out], CC.out⟩
     case true =>
     cases p3 : inB x2 1 2000
     case false =>
      have HV := jd (show (!(markB ⟨x0, x1, x2⟩ && riseAt l j)) = true by unfold markB; simp only [p1, p2, p3, Bool.true_and, Bool.false_and]; rfl)
      refine wp_region_cls (fun v => v.cell? ⟨b, off + j * 3, none⟩ = some (.int .i64 x0) ∧ v.cell? ⟨b, off + j * 3 + 1, none⟩ = some (.int .i64 x1) ∧ v.cell? ⟨b, off + j * 3 + 2, none⟩ = some (.int .i64 x2)) (by kernel_rfl) (by kernel_rfl) (fun v hv => ⟨cq hv cs0, cq hv cs1, cq hv cs2⟩) ?_
      intro CL HF HC9
      repeat
       (first
          | go_big_quiet_skip
          | (go_big_quiet_want
             go_big_quiet_op
             first
              | go_big_quiet_on
              | (apply Exists.intro
                 refine ⟨fun v hv => ?_, ?_⟩
                 · obtain ⟨a0, a1, a2⟩ := HF v hv
                   first
                    | (go_at_call 106; exact Calls.cls HC9 hv (sAsker_any x0 v) (congrArg Value.bool p1))
                    | (go_at_call 107; exact Calls.cls HC9 hv (seq_at x1 v) (congrArg Value.bool p2))
                    | (go_at_call 108; exact Calls.cls HC9 hv (index_at x2 v) (congrArg Value.bool p3))
                    | exact rfl
                    | (go_simp; exact rfl)
                    | (go_simp; exact ⟨rfl, hv⟩)
                 go_big_quiet_on)))
      refine wpQuiet_nil ?_
      intro w3 b3
      have CC := jd (C.out.trans (b3.mono C.out.size))
      go_wp2
      go_meet
      exact ⟨by rw [HV.out], CC.out⟩
     case true =>
     by_cases hj0 : j = 0
     case pos =>
      subst hj0
      have HR0 := jd (show riseAt l 0 = true from rfl)
      have cz0 := cs0
      have cz1 := cs1
      have cz2 := cs2
      simp only [Nat.zero_mul, Nat.add_zero] at cs0 cs1 cs2
      clear cz0 cz1 cz2
      have zz : decide ((0 : Int) > 0) = false := rfl
      have HV := jd (show (!(markB ⟨x0, x1, x2⟩ && riseAt l 0)) = false by unfold markB; rw [HR0.out]; simp only [p1, p2, p3, Bool.true_and]; rfl)
      refine wp_region_cls (fun v => v.cell? ⟨b, off, none⟩ = some (.int .i64 x0) ∧ v.cell? ⟨b, off + 1, none⟩ = some (.int .i64 x1) ∧ v.cell? ⟨b, off + 2, none⟩ = some (.int .i64 x2)) (by kernel_rfl) (by kernel_rfl) (fun v hv => ⟨cq hv cs0, cq hv cs1, cq hv cs2⟩) ?_
      intro CL HF HC9
      repeat
       (first
          | go_big_quiet_skip
          | (go_big_quiet_want
             go_big_quiet_op
             first
              | go_big_quiet_on
              | (apply Exists.intro
                 refine ⟨fun v hv => ?_, ?_⟩
                 · obtain ⟨a0, a1, a2⟩ := HF v hv
                   first
                    | (go_at_call 106; exact Calls.cls HC9 hv (sAsker_any x0 v) (congrArg Value.bool p1))
                    | (go_at_call 107; exact Calls.cls HC9 hv (seq_at x1 v) (congrArg Value.bool p2))
                    | (go_at_call 108; exact Calls.cls HC9 hv (index_at x2 v) (congrArg Value.bool p3))
                    | exact rfl
                    | (go_simp; exact rfl)
                    | (go_simp; exact ⟨rfl, hv⟩)
                 go_big_quiet_on)))
      refine wpQuiet_nil ?_
      intro w3 b3
      have CC := jd (C.out.trans (b3.mono C.out.size))
      go_wp2
      go_meet
      exact ⟨by rw [HV.out], CC.out⟩
     case neg =>
      obtain ⟨k, rfl⟩ : ∃ k, j = k + 1 := ⟨j - 1, by omega⟩
      have hkl : k < l.length := by have := HJ.out; omega
      obtain ⟨hd0, _, _⟩ := HC.out k hkl
      have ct0 := (C.out.cell (p := ⟨b, off + k * 3, none⟩) (show b < _ by omega)).trans hd0
      obtain ⟨y0, hy0⟩ : ∃ q, q = l[k].mc := ⟨_, rfl⟩
      rw [← hy0] at ct0
      have HRK := jd (show riseAt l (k + 1) = decide (y0 < x0) by unfold riseAt; rw [decide_eq_false (show ¬ k + 1 = 0 by omega), Bool.false_or, Nat.add_sub_cancel, HX.out.1, mgetD hkl, ← hy0])
      have k0' : (0 : Int) ≤ (k : Int) := by omega
      have k1' : (k : Int) < (n : Int) := by omega
      have ep : IntKind.i64.wrap (k : Int) = (k : Int) := by rw [IntKind.wrap_i64]; omega
      have zz : decide ((k : Int) + 1 > 0) = true := decide_eq_true (by omega)
      have zy : decide (0 < (k : Int) + 1) = true := decide_eq_true (by omega)
      clear hd0 hy0 hj0
      by_cases q1 : y0 < x0
      case pos =>
       have g1 : decide (y0 ≥ x0) = false := decide_eq_false (by omega)
       have g2 : decide (x0 ≤ y0) = false := decide_eq_false (by omega)
       have HV := jd (show (!(markB ⟨x0, x1, x2⟩ && riseAt l (k + 1))) = false by unfold markB; rw [HRK.out, decide_eq_true q1]; simp only [p1, p2, p3, Bool.true_and]; rfl)
       clear q1
       refine wp_region_cls (fun v => v.cell? ⟨b, off + (k + 1) * 3, none⟩ = some (.int .i64 x0) ∧ v.cell? ⟨b, off + (k + 1) * 3 + 1, none⟩ = some (.int .i64 x1) ∧ v.cell? ⟨b, off + (k + 1) * 3 + 2, none⟩ = some (.int .i64 x2) ∧ v.cell? ⟨b, off + k * 3, none⟩ = some (.int .i64 y0)) (by kernel_rfl) (by kernel_rfl) (fun v hv => ⟨cq hv cs0, cq hv cs1, cq hv cs2, cq hv ct0⟩) ?_
       intro CL HF HC9
       repeat
        (first
           | go_big_quiet_skip
           | (go_big_quiet_want
              go_big_quiet_op
              first
               | go_big_quiet_on
               | (apply Exists.intro
                  refine ⟨fun v hv => ?_, ?_⟩
                  · obtain ⟨a0, a1, a2, a3⟩ := HF v hv
                    first
                     | (go_at_call 106; exact Calls.cls HC9 hv (sAsker_any x0 v) (congrArg Value.bool p1))
                     | (go_at_call 107; exact Calls.cls HC9 hv (seq_at x1 v) (congrArg Value.bool p2))
                     | (go_at_call 108; exact Calls.cls HC9 hv (index_at x2 v) (congrArg Value.bool p3))
                     | exact rfl
                     | (go_simp; exact rfl)
                     | (go_simp; exact ⟨rfl, hv⟩)
                  go_big_quiet_on)))
       refine wpQuiet_nil ?_
       intro w3 b3
       have CC := jd (C.out.trans (b3.mono C.out.size))
       go_wp2
       go_meet
       exact ⟨by rw [HV.out], CC.out⟩
      case neg =>
       have g1 : decide (y0 ≥ x0) = true := decide_eq_true (by omega)
       have g2 : decide (x0 ≤ y0) = true := decide_eq_true (by omega)
       have HV := jd (show (!(markB ⟨x0, x1, x2⟩ && riseAt l (k + 1))) = true by unfold markB; rw [HRK.out, decide_eq_false q1]; simp only [Bool.and_false]; rfl)
       clear q1
       refine wp_region_cls (fun v => v.cell? ⟨b, off + (k + 1) * 3, none⟩ = some (.int .i64 x0) ∧ v.cell? ⟨b, off + (k + 1) * 3 + 1, none⟩ = some (.int .i64 x1) ∧ v.cell? ⟨b, off + (k + 1) * 3 + 2, none⟩ = some (.int .i64 x2) ∧ v.cell? ⟨b, off + k * 3, none⟩ = some (.int .i64 y0)) (by kernel_rfl) (by kernel_rfl) (fun v hv => ⟨cq hv cs0, cq hv cs1, cq hv cs2, cq hv ct0⟩) ?_
       intro CL HF HC9
       repeat
        (first
           | go_big_quiet_skip
           | (go_big_quiet_want
              go_big_quiet_op
              first
               | go_big_quiet_on
               | (apply Exists.intro
                  refine ⟨fun v hv => ?_, ?_⟩
                  · obtain ⟨a0, a1, a2, a3⟩ := HF v hv
                    first
                     | (go_at_call 106; exact Calls.cls HC9 hv (sAsker_any x0 v) (congrArg Value.bool p1))
                     | (go_at_call 107; exact Calls.cls HC9 hv (seq_at x1 v) (congrArg Value.bool p2))
                     | (go_at_call 108; exact Calls.cls HC9 hv (index_at x2 v) (congrArg Value.bool p3))
                     | exact rfl
                     | (go_simp; exact rfl)
                     | (go_simp; exact ⟨rfl, hv⟩)
                  go_big_quiet_on)))
       refine wpQuiet_nil ?_
       intro w3 b3
       have CC := jd (C.out.trans (b3.mono C.out.size))
       go_wp2
       go_meet
       exact ⟨by rw [HV.out], CC.out⟩
    obtain ⟨rfl, c1⟩ := hcut
    clear c
    cases pm : (markB ⟨x0, x1, x2⟩ && riseAt l j)
    case false =>
     have PM := jd pm
     have CC := jd c1
     clear c1
     go_wp2
     go_ret
     exact ⟨ret_bool (seenB_step HJ.out (by rw [HS.out, PM.out]; rfl)).symm, CC.out⟩
    case true =>
    have PM := jd pm
    have C1 := jd c1
    clear pm c1 cs0 cs1 cs2
    go_wp2
    go_loopw [4] (fun kv wr2 => ∃ k : Nat, k ≤ j ∧ kv = .int .i64 (k : Int) ∧ (∀ q, q < k → (l.getD q mark0).mi ≠ x2) ∧ Below w.heap.size w wr2) (fun kv _ => j - (intOf kv).toNat)
    case atStart => exact ⟨0, Nat.zero_le _, rfl, fun q hq => absurd hq (by omega), C1.out⟩
    case round =>
     obtain ⟨k, hk, rfl, hne, c2⟩ := hrel
     by_cases hkj : k < j
     case neg =>
      obtain rfl : k = j := by omega
      have HN := jd (show ∀ q, q < k + 1 → seenAt l q = true from fun q hq => by
       rcases Nat.lt_or_ge q k with h1 | h1
       · exact HA.out q h1
       · obtain rfl : q = k := by omega
         rw [HS.out, PM.out, Bool.true_and, freeTo_iff]
         intro p hp
         rw [HX.out.2]
         exact hne p hp)
      have CC := jd c2
      clear hne c2
      go_wp2
      go_roundw
      case rel =>
       first
        | exact ⟨k + 1, by have := HLT.out; omega, by go_num, HN.out, CC.out⟩
        | (repeat apply Exists.intro
           refine ⟨⟨k + 1, by have := HLT.out; omega, ?_, HN.out, CC.out⟩, ?_⟩
           rotate_left 1
           · first | rfl | (rw [hdn.out]; done) | (rw [hdn.out]; rfl)
           · go_num)
      case measure => have := HLT.out; simp [intOf] <;> omega
     case pos =>
      have hkl : k < l.length := by have := HJ.out; omega
      obtain ⟨_, _, hd2⟩ := HC.out k hkl
      obtain ⟨_, _, he2⟩ := HC.out j HJ.out
      have ck := (c2.cell (p := ⟨b, off + k * 3 + 2, none⟩) (show b < _ by omega)).trans hd2
      have cj := (c2.cell (p := ⟨b, off + j * 3 + 2, none⟩) (show b < _ by omega)).trans he2
      have hx9 := HX.out.2
      rw [mgetD HJ.out] at hx9
      rw [hx9] at cj
      obtain ⟨y2, hy2⟩ : ∃ q, q = l[k].mi := ⟨_, rfl⟩
      rw [← hy2] at ck
      have HY := jd (show (l.getD k mark0).mi = y2 by rw [mgetD hkl, hy2])
      have HNE := jd hne
      have C2 := jd c2
      have HKJ := jd hkj
      have k0 : (0 : Int) ≤ (k : Int) := by omega
      have k1 : (k : Int) < (n : Int) := by have := HLT.out; omega
      have j0 : (0 : Int) ≤ (j : Int) := by omega
      have j1 : (j : Int) < (n : Int) := by have := HLT.out; omega
      clear hd2 he2 hx9 hy2 hne c2
      by_cases hq : y2 = x2
      case pos =>
       have g1 : (y2 == x2) = true := by simpa using hq
       have HD := jd (seenB_step HJ.out (by rw [HS.out, PM.out, Bool.true_and]; exact freeTo_no HKJ.out (by rw [HY.out, HX.out.2]; exact hq)))
       clear hq
       go_wp2_with fail
       go_quiet (fail)
       have CC := jd (below_drewN C2.out nq)
       clear ck cj
       go_wp2
       go_ret
       exact ⟨ret_bool HD.out.symm, CC.out⟩
      case neg =>
       have g1 : (y2 == x2) = false := by simpa using hq
       have HN := jd (show ∀ q, q < k + 1 → (l.getD q mark0).mi ≠ x2 from fun q hq9 => by
        rcases Nat.lt_or_ge q k with h1 | h1
        · exact HNE.out q h1
        · obtain rfl : q = k := by omega
          rw [HY.out]
          exact hq)
       clear hq
       go_wp2_with fail
       go_quiet (fail)
       have CC := jd (below_drewN C2.out nq)
       clear ck cj
       skip
       go_wp2
       go_roundw
       case rel =>
        first
         | exact ⟨k + 1, by have := HKJ.out; omega, by go_num, HN.out, CC.out⟩
         | (repeat apply Exists.intro
            refine ⟨⟨k + 1, by have := HKJ.out; omega, ?_, HN.out, CC.out⟩, ?_⟩
            rotate_left 1
            · first | rfl | (rw [hdn.out]; done) | (rw [hdn.out]; rfl)
            · go_num)
       case measure => have := HKJ.out; simp [intOf] <;> omega
end Go.Proofs.YthjjdelpdiipdaaGreatDoor
