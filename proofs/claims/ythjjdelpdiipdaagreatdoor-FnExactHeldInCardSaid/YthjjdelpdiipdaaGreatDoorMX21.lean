/- Parts of my texts: MarkS4. -/
import Derived.Test.YthjjdelpdiipdaaGreatDoorMX20
namespace Go.Proofs.YthjjdelpdiipdaaGreatDoor
set_option maxRecDepth 100000
set_option linter.unusedVariables false
open Go.RowKit
theorem fin_marks {w w' : World} {r : List MarkM × Bool} {l : List MarkM} {f : Bool} {A : Option Addr} {n c : Nat} {e : Ending} (hv : r = (l, f)) (h : Has w' w.heap.size [mrkD l] [.slice A n c]) (b : Below w.heap.size w w') (he : e = .returned (.tuple #[.slice A n c, .bool f])) :
    ∃ (A2 : Option Addr) (n2 c2 : Nat), e = .returned (.tuple #[.slice A2 n2 c2, .bool r.2]) ∧ Has w' w.heap.size [mrkD r.1] [.slice A2 n2 c2] ∧ Below w.heap.size w w' := by
 subst hv
 exact ⟨A, n, c, he, h, b⟩
set_option maxHeartbeats 12800000 in
theorem sMarked_any (A : Option Addr) (n cc B : Nat) (l : List MarkM) (e0 e1 e2 e3 e4 e5 e6 e7 e8 : Int) (w : World) (h : Rd w B [mrkD l] [.slice A n cc]) (hB : B ≤ w.heap.size) (hs : mrkSz l ≤ 1048577) :
    Calls Tryz.prog 72 #[.slice A n cc, .agg #[.int .i64 e0, .int .i64 e1, .int .i64 e2, .int .i64 e3, .int .i64 e4, .int .i64 e5, .int .i64 e6, .int .i64 e7, .int .i64 e8]] w fun e w' => ∃ (A2 : Option Addr) (n2 c2 : Nat), e = .returned (.tuple #[.slice A2 n2 c2, .bool (markedM l ⟨e0, e1, e2, e3, e4, e5, e6, e7, e8⟩).2]) ∧ Has w' w.heap.size [mrkD (markedM l ⟨e0, e1, e2, e3, e4, e5, e6, e7, e8⟩).1] [.slice A2 n2 c2] ∧ Below w.heap.size w w' := by
 have HH := jd h
 obtain ⟨_, _, _, e, hl, _, _, hel⟩ := h.mrks
 injection e with e1 e2 e3
 subst e1 e2 e3
 have HL := jd hl
 have hn : n ≤ 1048577 := by unfold mrkSz at hs; omega
 clear h hl
 have S := Sep.nil w w.heap.size
 have c := Below.refl w.heap.size w
 replace S := S.boxAt c.size (w.heap.size) rfl #[.int .i64 e0, .int .i64 e1, .int .i64 e2, .int .i64 e3, .int .i64 e4, .int .i64 e5, .int .i64 e6, .int .i64 e7, .int .i64 e8] 98
 replace c := al c S
 go_enter Tryz.func72, Tryz.ntmps72
 go_wp2_with fail
 generalize w.alloc (.cells #[.int .i64 e0, .int .i64 e1, .int .i64 e2, .int .i64 e3, .int .i64 e4, .int .i64 e5, .int .i64 e6, .int .i64 e7, .int .i64 e8] 98) = w1 at *
 refine (sSeen_any A n cc B l _ (HH.out.keep (c.mono hB)) (Nat.le_trans hB c.size) hs).mono ?_
 rintro e w2 ⟨rfl, b2⟩
 replace c := c.trans (b2.mono c.size)
 replace S := S.keep b2
 clear b2
 cases hok : seenB l
 case false =>
  have HV := jd (show markedM l ⟨e0, e1, e2, e3, e4, e5, e6, e7, e8⟩ = ([], false) by unfold markedM; rw [hok]; rfl)
  clear hok hel
  replace S := S.boxAt c.size (w2.heap.size) rfl #[] 114
  replace c := al c S
  replace S := S.blk0 (k := 3) (f := mrkC)
  have H := jd S.first
  have CC := jd c
  clear S c
  go_wp2
  go_ret2
  exact fin_marks HV.out H.out CC.out rfl
 case true =>
  have HOK := jd hok
  have hn4 : n ≤ 4 := by have h9 := seen_len hok; have := HL.out; omega
  obtain ⟨y, hy⟩ : ∃ q, q = lastS l := ⟨_, rfl⟩
  have HMY := jd (show mayB l ⟨e0, e1, e2, e3, e4, e5, e6, e7, e8⟩ = (entB ⟨e0, e1, e2, e3, e4, e5, e6, e7, e8⟩ && (freshB l e2 e3 && decide (y < e0))) by unfold mayB; rw [hy])
  have HMK := jd (show ∀ q, mayB l ⟨e0, e1, e2, e3, e4, e5, e6, e7, e8⟩ = q → markedM l ⟨e0, e1, e2, e3, e4, e5, e6, e7, e8⟩ = if q = true then (insM l (⟨e2, e3, e0⟩ : MarkM), true) else (l, false) from fun q hq => by unfold markedM; rw [if_pos hok, hq])
  have HY := jd hy
  clear hok hy
  go_wp2_with fail
  have f0 := lk S 0 0 rfl rfl
  have f1 := lk S 0 1 rfl rfl
  have f2 := lk S 0 2 rfl rfl
  have f3 := lk S 0 3 rfl rfl
  have f4 := lk S 0 4 rfl rfl
  have f5 := lk S 0 5 rfl rfl
  have f6 := lk S 0 6 rfl rfl
  have f7 := lk S 0 7 rfl rfl
  have f8 := lk S 0 8 rfl rfl
  have hrd := HH.out.keep (c.mono hB)
  have hbs := Nat.le_trans hB c.size
  cases p1 : entB ⟨e0, e1, e2, e3, e4, e5, e6, e7, e8⟩
  case false =>
   have HV := jd ((HMK.out false (by rw [HMY.out, p1, Bool.false_and])).trans (if_neg (by decide)))
   refine wp_region_cls (fun v => v.cell? ⟨w.heap.size, 0, none⟩ = some (.int .i64 e0) ∧ v.cell? ⟨w.heap.size, 1, none⟩ = some (.int .i64 e1) ∧ v.cell? ⟨w.heap.size, 2, none⟩ = some (.int .i64 e2) ∧ v.cell? ⟨w.heap.size, 3, none⟩ = some (.int .i64 e3) ∧ v.cell? ⟨w.heap.size, 4, none⟩ = some (.int .i64 e4) ∧ v.cell? ⟨w.heap.size, 5, none⟩ = some (.int .i64 e5) ∧ v.cell? ⟨w.heap.size, 6, none⟩ = some (.int .i64 e6) ∧ v.cell? ⟨w.heap.size, 7, none⟩ = some (.int .i64 e7) ∧ v.cell? ⟨w.heap.size, 8, none⟩ = some (.int .i64 e8) ∧ Rd v B [mrkD l] [.slice A n cc] ∧ B ≤ v.heap.size) (by kernel_rfl) (by kernel_rfl) (fun v hv => ⟨cq hv f0, cq hv f1, cq hv f2, cq hv f3, cq hv f4, cq hv f5, cq hv f6, cq hv f7, cq hv f8, hrd.keep (hv.mono hbs), Nat.le_trans hbs hv.size⟩) ?_
   intro CL HF HC
   repeat
    (first
       | go_big_quiet_skip
       | (go_big_quiet_want
          go_big_quiet_op
          first
           | go_big_quiet_on
           | (apply Exists.intro
              refine ⟨fun v hv => ?_, ?_⟩
              · obtain ⟨a0, a1, a2, a3, a4, a5, a6, a7, a8, a9, a10⟩ := HF v hv
                first
                 | (go_at_call 110; exact Calls.cls HC hv (sEntryOk_any e0 e1 e2 e3 e4 e5 e6 e7 e8 v) (congrArg Value.bool p1))
                 | exact rfl
                 | (go_simp; exact rfl)
                 | (go_simp; exact ⟨rfl, hv⟩)
              go_big_quiet_on)))
   refine wpQuiet_nil ?_
   intro w9 b9
   replace c := c.trans (b9.mono c.size)
   replace S := S.keep b9
   clear b9 hrd hbs f0 f1 f2 f3 f4 f5 f6 f7 f8
   go_wp2_with fail
   refine (sCopyMs_any A n cc B l _ (HH.out.keep (c.mono hB)) (Nat.le_trans hB c.size) hs).mono ?_
   rintro e w3 ⟨A2, c2, rfl, o, b2⟩
   obtain ⟨fp_u, S'⟩ := S.has b2 o c.size
   replace c := c.trans (b2.mono c.size)
   clear S; have S := S'; clear S' o b2
   have H := jd S.first
   have CC := jd c
   clear S c hel
   go_wp2
   go_ret2
   exact fin_marks HV.out H.out CC.out rfl
  case true =>
   cases p2 : freshB l e2 e3
   case false =>
    have HV := jd ((HMK.out false (by rw [HMY.out, p1, p2, Bool.false_and, Bool.and_false])).trans (if_neg (by decide)))
    refine wp_region_cls (fun v => v.cell? ⟨w.heap.size, 0, none⟩ = some (.int .i64 e0) ∧ v.cell? ⟨w.heap.size, 1, none⟩ = some (.int .i64 e1) ∧ v.cell? ⟨w.heap.size, 2, none⟩ = some (.int .i64 e2) ∧ v.cell? ⟨w.heap.size, 3, none⟩ = some (.int .i64 e3) ∧ v.cell? ⟨w.heap.size, 4, none⟩ = some (.int .i64 e4) ∧ v.cell? ⟨w.heap.size, 5, none⟩ = some (.int .i64 e5) ∧ v.cell? ⟨w.heap.size, 6, none⟩ = some (.int .i64 e6) ∧ v.cell? ⟨w.heap.size, 7, none⟩ = some (.int .i64 e7) ∧ v.cell? ⟨w.heap.size, 8, none⟩ = some (.int .i64 e8) ∧ Rd v B [mrkD l] [.slice A n cc] ∧ B ≤ v.heap.size) (by kernel_rfl) (by kernel_rfl) (fun v hv => ⟨cq hv f0, cq hv f1, cq hv f2, cq hv f3, cq hv f4, cq hv f5, cq hv f6, cq hv f7, cq hv f8, hrd.keep (hv.mono hbs), Nat.le_trans hbs hv.size⟩) ?_
    intro CL HF HC
    repeat
     (first
        | go_big_quiet_skip
        | (go_big_quiet_want
           go_big_quiet_op
           first
            | go_big_quiet_on
            | (apply Exists.intro
               refine ⟨fun v hv => ?_, ?_⟩
               · obtain ⟨a0, a1, a2, a3, a4, a5, a6, a7, a8, a9, a10⟩ := HF v hv
                 first
                  | (go_at_call 110; exact Calls.cls HC hv (sEntryOk_any e0 e1 e2 e3 e4 e5 e6 e7 e8 v) (congrArg Value.bool p1))
                  | (go_at_call 111; exact Calls.cls HC hv (sFresh_any A n cc B l e2 e3 v a9 a10 hs) (congrArg Value.bool p2))
                  | exact rfl
                  | (go_simp; exact rfl)
                  | (go_simp; exact ⟨rfl, hv⟩)
               go_big_quiet_on)))
    refine wpQuiet_nil ?_
    intro w9 b9
    replace c := c.trans (b9.mono c.size)
    replace S := S.keep b9
    clear b9 hrd hbs f0 f1 f2 f3 f4 f5 f6 f7 f8
    go_wp2_with fail
    refine (sCopyMs_any A n cc B l _ (HH.out.keep (c.mono hB)) (Nat.le_trans hB c.size) hs).mono ?_
    rintro e w3 ⟨A2, c2, rfl, o, b2⟩
    obtain ⟨fp_u, S'⟩ := S.has b2 o c.size
    replace c := c.trans (b2.mono c.size)
    clear S; have S := S'; clear S' o b2
    have H := jd S.first
    have CC := jd c
    clear S c hel
    go_wp2
    go_ret2
    exact fin_marks HV.out H.out CC.out rfl
   case true =>
    by_cases hy3 : e0 ≤ y
    case pos =>
     have p3 : decide (e0 ≤ y) = true := decide_eq_true hy3
     have HV := jd ((HMK.out false (by rw [HMY.out, p1, p2, decide_eq_false (show ¬ y < e0 by omega), Bool.and_false, Bool.and_false])).trans (if_neg (by decide)))
     refine wp_region_cls (fun v => v.cell? ⟨w.heap.size, 0, none⟩ = some (.int .i64 e0) ∧ v.cell? ⟨w.heap.size, 1, none⟩ = some (.int .i64 e1) ∧ v.cell? ⟨w.heap.size, 2, none⟩ = some (.int .i64 e2) ∧ v.cell? ⟨w.heap.size, 3, none⟩ = some (.int .i64 e3) ∧ v.cell? ⟨w.heap.size, 4, none⟩ = some (.int .i64 e4) ∧ v.cell? ⟨w.heap.size, 5, none⟩ = some (.int .i64 e5) ∧ v.cell? ⟨w.heap.size, 6, none⟩ = some (.int .i64 e6) ∧ v.cell? ⟨w.heap.size, 7, none⟩ = some (.int .i64 e7) ∧ v.cell? ⟨w.heap.size, 8, none⟩ = some (.int .i64 e8) ∧ Rd v B [mrkD l] [.slice A n cc] ∧ B ≤ v.heap.size) (by kernel_rfl) (by kernel_rfl) (fun v hv => ⟨cq hv f0, cq hv f1, cq hv f2, cq hv f3, cq hv f4, cq hv f5, cq hv f6, cq hv f7, cq hv f8, hrd.keep (hv.mono hbs), Nat.le_trans hbs hv.size⟩) ?_
     intro CL HF HC
     repeat
      (first
         | go_big_quiet_skip
         | (go_big_quiet_want
            go_big_quiet_op
            first
             | go_big_quiet_on
             | (apply Exists.intro
                refine ⟨fun v hv => ?_, ?_⟩
                · obtain ⟨a0, a1, a2, a3, a4, a5, a6, a7, a8, a9, a10⟩ := HF v hv
                  first
                   | (go_at_call 110; exact Calls.cls HC hv (sEntryOk_any e0 e1 e2 e3 e4 e5 e6 e7 e8 v) (congrArg Value.bool p1))
                   | (go_at_call 111; exact Calls.cls HC hv (sFresh_any A n cc B l e2 e3 v a9 a10 hs) (congrArg Value.bool p2))
                   | (go_at_call 69; exact Calls.cls HC hv (sLastS_any A n cc B l v a9 a10 hs) (congrArg (Value.int .i64) HY.out.symm))
                   | exact rfl
                   | (go_simp; exact rfl)
                   | (go_simp; exact ⟨rfl, hv⟩)
                go_big_quiet_on)))
     refine wpQuiet_nil ?_
     intro w9 b9
     replace c := c.trans (b9.mono c.size)
     replace S := S.keep b9
     clear b9 hrd hbs f0 f1 f2 f3 f4 f5 f6 f7 f8
     go_wp2_with fail
     refine (sCopyMs_any A n cc B l _ (HH.out.keep (c.mono hB)) (Nat.le_trans hB c.size) hs).mono ?_
     rintro e w3 ⟨A2, c2, rfl, o, b2⟩
     obtain ⟨fp_u, S'⟩ := S.has b2 o c.size
     replace c := c.trans (b2.mono c.size)
     clear S; have S := S'; clear S' o b2
     have H := jd S.first
     have CC := jd c
     clear S c hel
     go_wp2
     go_ret2
     exact fin_marks HV.out H.out CC.out rfl
    case neg =>
     have p3 : decide (e0 ≤ y) = false := decide_eq_false hy3
     refine wp_region_cls (fun v => v.cell? ⟨w.heap.size, 0, none⟩ = some (.int .i64 e0) ∧ v.cell? ⟨w.heap.size, 1, none⟩ = some (.int .i64 e1) ∧ v.cell? ⟨w.heap.size, 2, none⟩ = some (.int .i64 e2) ∧ v.cell? ⟨w.heap.size, 3, none⟩ = some (.int .i64 e3) ∧ v.cell? ⟨w.heap.size, 4, none⟩ = some (.int .i64 e4) ∧ v.cell? ⟨w.heap.size, 5, none⟩ = some (.int .i64 e5) ∧ v.cell? ⟨w.heap.size, 6, none⟩ = some (.int .i64 e6) ∧ v.cell? ⟨w.heap.size, 7, none⟩ = some (.int .i64 e7) ∧ v.cell? ⟨w.heap.size, 8, none⟩ = some (.int .i64 e8) ∧ Rd v B [mrkD l] [.slice A n cc] ∧ B ≤ v.heap.size) (by kernel_rfl) (by kernel_rfl) (fun v hv => ⟨cq hv f0, cq hv f1, cq hv f2, cq hv f3, cq hv f4, cq hv f5, cq hv f6, cq hv f7, cq hv f8, hrd.keep (hv.mono hbs), Nat.le_trans hbs hv.size⟩) ?_
     intro CL HF HC
     repeat
      (first
         | go_big_quiet_skip
         | (go_big_quiet_want
            go_big_quiet_op
            first
             | go_big_quiet_on
             | (apply Exists.intro
                refine ⟨fun v hv => ?_, ?_⟩
                · obtain ⟨a0, a1, a2, a3, a4, a5, a6, a7, a8, a9, a10⟩ := HF v hv
                  first
                   | (go_at_call 110; exact Calls.cls HC hv (sEntryOk_any e0 e1 e2 e3 e4 e5 e6 e7 e8 v) (congrArg Value.bool p1))
                   | (go_at_call 111; exact Calls.cls HC hv (sFresh_any A n cc B l e2 e3 v a9 a10 hs) (congrArg Value.bool p2))
                   | (go_at_call 69; exact Calls.cls HC hv (sLastS_any A n cc B l v a9 a10 hs) (congrArg (Value.int .i64) HY.out.symm))
                   | exact rfl
                   | (go_simp; exact rfl)
                   | (go_simp; exact ⟨rfl, hv⟩)
                go_big_quiet_on)))
     refine wpQuiet_nil ?_
     intro w9 b9
     replace c := c.trans (b9.mono c.size)
     replace S := S.keep b9
     clear b9 hrd hbs f0 f1 f2 f3 f4 f5 f6 f7 f8
     have HV := jd ((HMK.out true (by rw [HMY.out, p1, p2, decide_eq_true (show y < e0 by omega)]; rfl)).trans (if_pos rfl))
     clear p1 p2 p3 hy3
     have f9 := lk S 0 0 rfl rfl
     have f10 := lk S 0 1 rfl rfl
     have f11 := lk S 0 2 rfl rfl
     have f12 := lk S 0 3 rfl rfl
     have f13 := lk S 0 4 rfl rfl
     have f14 := lk S 0 5 rfl rfl
     have f15 := lk S 0 6 rfl rfl
     have f16 := lk S 0 7 rfl rfl
     have f17 := lk S 0 8 rfl rfl
     replace S := S.boxAt c.size (w9.heap.size) rfl #[.int .i64 e2, .int .i64 e3, .int .i64 e0] 114
     replace c := al c S
     replace S := S.boxAt c.size (w9.heap.size + 1) (by simp) #[] 114
     replace c := al c S
     replace S := S.blk0 (k := 3) (f := mrkC)
     go_wp2
     generalize (w9.alloc (.cells #[.int .i64 e2, .int .i64 e3, .int .i64 e0] 114)).alloc (.cells #[] 114) = w3 at *
     clear f9 f10 f11 f12 f13 f14 f15 f16 f17
     obtain ⟨qx, hqx⟩ : ∃ q, q = w9.heap.size := ⟨_, rfl⟩
     rw [← hqx] at S ⊢
     clear hqx
     have S0 := jd S
     have B0 := jd c
     clear S c
     have T0 := jd (outA_zero l (⟨e2, e3, e0⟩ : MarkM))
     have D0 := jd (doneA_zero l e2)
     go_loopw [7, 8, 9] (fun u d i wr => ∃ (j : Nat) (G : Option Addr) (m gc : Nat) (fp : List Nat), j ≤ n ∧ i = .int .i64 (j : Int) ∧ u = .slice G m gc ∧ d = .bool (doneA l e2 j) ∧ m ≤ 2 * j + 1 ∧ Sep wr w.heap.size [.own [mrkD (outA l (⟨e2, e3, e0⟩ : MarkM) j)] [.slice G m gc] fp, .blk qx #[.int .i64 e2, .int .i64 e3, .int .i64 e0] 114, .blk w.heap.size #[.int .i64 e0, .int .i64 e1, .int .i64 e2, .int .i64 e3, .int .i64 e4, .int .i64 e5, .int .i64 e6, .int .i64 e7, .int .i64 e8] 98] ∧ Below w.heap.size w wr) (fun _ _ i _ => n - (intOf i).toNat)
     case atStart => exact ⟨0, _, _, _, _, Nat.zero_le _, rfl, rfl, by rw [D0.out], by omega, by rw [T0.out]; exact S0.out, B0.out⟩
     case round =>
      obtain ⟨j, G, m, gc, fp, hj, rfl, rfl, rfl, hm, S, c⟩ := hrel
      clear S0 B0
      by_cases hlt : j < n
      case neg =>
       obtain rfl : j = n := by omega
       clear hel
       cases hd : doneA l e2 j
       case false =>
        have HO := jd (show outA l (⟨e2, e3, e0⟩ : MarkM) j ++ [(⟨e2, e3, e0⟩ : MarkM)] = insM l (⟨e2, e3, e0⟩ : MarkM) from by rw [← HL.out] at hd ⊢; exact outA_end_no hd)
        clear hd
        have f18 := lk S 1 0 rfl rfl
        have f19 := lk S 1 1 rfl rfl
        have f20 := lk S 1 2 rfl rfl
        replace S := S.boxAt c.size (wr.heap.size) rfl #[.int .i64 e2, .int .i64 e3, .int .i64 e0] 114
        replace c := al c S
        have HC : ∀ i, i < 3 → (wr.alloc (.cells #[.int .i64 e2, .int .i64 e3, .int .i64 e0] 114)).cell? ⟨wr.heap.size, i, none⟩ = [Value.int .i64 e2, Value.int .i64 e3, Value.int .i64 e0][i]? := fun i hi => by
         have h1 := (S.at_ 0 rfl).cell i
         rw [h1]
         simp
        replace S := (S.tail).own0 (ds := mrkC (⟨e2, e3, e0⟩ : MarkM)) (vs := [.int .i64 e2, .int .i64 e3, .int .i64 e0]) (.int (.int (.int .nil)))
        replace S := S.swap
        have hgc := jd c
        go_wp2_with (first
         | (at_builtin
            refine wpList_append_elem (l := outA l (⟨e2, e3, e0⟩ : MarkM) j) (y := (⟨e2, e3, e0⟩ : MarkM)) rfl (.tmp 82) (.tmp 84) (by rfl) Tryz.underlying44 infoMark (by rfl) (by decide) mrkC_len (by rfl) (S.own_ 0 rfl) (S.nodup_own 0 rfl) (by rfl) HC (S.own_ 1 rfl) (S.nodup_own 1 rfl) S.apart (by omega) (by omega) ?_
            intro A9 c9 v9 fp9 o3 n3 s3 t3))
        have S3 := S.merge t3 o3 n3 s3 hgc.out.size
        have C3 := hgc.out.trans (S.below 0 rfl t3 hgc.out.size)
        clear S c o3 n3 s3 t3 HC hgc
        have S := S3
        have c := C3
        clear S3 C3
        rw [HO.out] at S
        have H := jd S.first
        have CC := jd c
        clear S c
        go_ret2
        exact fin_marks HV.out H.out CC.out rfl
       case true =>
        have HO := jd (show outA l (⟨e2, e3, e0⟩ : MarkM) j = insM l (⟨e2, e3, e0⟩ : MarkM) from by rw [← HL.out] at hd ⊢; exact outA_end_yes hd)
        clear hd
        rw [HO.out] at S
        have H := jd S.first
        have CC := jd c
        clear S c
        go_wp2
        go_ret2
        exact fin_marks HV.out H.out CC.out rfl
      case pos =>
       have hjl : j < l.length := by have := HL.out; omega
       obtain ⟨b, off, rfl, hb, hc⟩ := hel (by omega)
       obtain ⟨hc0, hc1, hc2⟩ := hc j hjl
       obtain ⟨z0, hz0⟩ : ∃ q, q = l[j].mc := ⟨_, rfl⟩
       rw [← hz0] at hc0
       obtain ⟨z1, hz1⟩ : ∃ q, q = l[j].ms := ⟨_, rfl⟩
       rw [← hz1] at hc1
       obtain ⟨z2, hz2⟩ : ∃ q, q = l[j].mi := ⟨_, rfl⟩
       rw [← hz2] at hc2
       have hmk : l[j] = ⟨z0, z1, z2⟩ := by rw [hz0, hz1, hz2]
       have j0 : (0 : Int) ≤ (j : Int) := by omega
       have j1 : (j : Int) < (n : Int) := by omega
       have HLT := jd (show z0 < e2 → outA l (⟨e2, e3, e0⟩ : MarkM) (j + 1) = outA l (⟨e2, e3, e0⟩ : MarkM) j ++ [⟨z0, z1, z2⟩] ∧ doneA l e2 j = false ∧ doneA l e2 (j + 1) = false from fun h9 => by rw [← hmk]; exact outA_lt (x := (⟨e2, e3, e0⟩ : MarkM)) HOK.out hjl (by rw [← hz0]; exact h9))
       have HEQ := jd (show z0 = e2 → outA l (⟨e2, e3, e0⟩ : MarkM) (j + 1) = outA l (⟨e2, e3, e0⟩ : MarkM) j ++ [(⟨e2, e3, e0⟩ : MarkM)] ∧ doneA l e2 j = false ∧ doneA l e2 (j + 1) = true from fun h9 => outA_eq (x := (⟨e2, e3, e0⟩ : MarkM)) HOK.out hjl (by rw [← hz0]; exact h9))
       have HGN := jd (show e2 < z0 → doneA l e2 j = false → outA l (⟨e2, e3, e0⟩ : MarkM) (j + 1) = (outA l (⟨e2, e3, e0⟩ : MarkM) j ++ [(⟨e2, e3, e0⟩ : MarkM)]) ++ [⟨z0, z1, z2⟩] ∧ doneA l e2 (j + 1) = true from fun h9 h8 => by rw [← hmk]; exact outA_gt_no (x := (⟨e2, e3, e0⟩ : MarkM)) hjl (by rw [← hz0]; exact h9) h8)
       have HGY := jd (show e2 < z0 → doneA l e2 j = true → outA l (⟨e2, e3, e0⟩ : MarkM) (j + 1) = outA l (⟨e2, e3, e0⟩ : MarkM) j ++ [⟨z0, z1, z2⟩] ∧ doneA l e2 (j + 1) = true from fun h9 h8 => by rw [← hmk]; exact outA_gt_yes (x := (⟨e2, e3, e0⟩ : MarkM)) hjl (by rw [← hz0]; exact h9) h8)
       clear hmk hjl hc hel hz0 hz1 hz2
       by_cases hq : z0 < e2
       case pos =>
        obtain ⟨hn1, hd1, hd2⟩ := HLT.out hq
        have HN := jd hn1
        have HD := jd hd2
        rw [hd1]
        have d1 : decide (z0 ≥ e2) = false := decide_eq_false (by omega)
        have d2 : decide (e2 ≤ z0) = false := decide_eq_false (by omega)
        have d3 : (z0 != e2) = true := by simp; omega
        have d4 : (z0 == e2) = false := by simp; omega
        clear hn1 hd1 hd2 hq HLT HEQ HGN HGY
        have k0 := cu c hc0 (show b < _ by omega)
        have k1 := cu c hc1 (show b < _ by omega)
        have k2 := cu c hc2 (show b < _ by omega)
        have f18 := lk S 2 0 rfl rfl
        have f19 := lk S 2 1 rfl rfl
        have f20 := lk S 2 2 rfl rfl
        have f21 := lk S 2 3 rfl rfl
        have f22 := lk S 2 4 rfl rfl
        have f23 := lk S 2 5 rfl rfl
        have f24 := lk S 2 6 rfl rfl
        have f25 := lk S 2 7 rfl rfl
        have f26 := lk S 2 8 rfl rfl
        go_wp2_with fail
        refine wp_region_cls (fun v => v.cell? ⟨b, off + j * 3, none⟩ = some (.int .i64 z0) ∧ v.cell? ⟨b, off + j * 3 + 1, none⟩ = some (.int .i64 z1) ∧ v.cell? ⟨b, off + j * 3 + 2, none⟩ = some (.int .i64 z2) ∧ v.cell? ⟨w.heap.size, 2, none⟩ = some (.int .i64 e2)) (by kernel_rfl) (by kernel_rfl) (fun v hv => ⟨cq hv k0, cq hv k1, cq hv k2, cq hv f20⟩) ?_
        intro CL HF HC
        repeat
         (first
            | go_big_quiet_skip
            | (go_big_quiet_want
               go_big_quiet_op
               first
                | go_big_quiet_on
                | (apply Exists.intro
                   refine ⟨fun v hv => ?_, ?_⟩
                   · obtain ⟨a0, a1, a2, a3⟩ := HF v hv
                     first
                      | exact rfl
                      | (go_simp; exact rfl)
                      | (go_simp; exact ⟨rfl, hv⟩)
                   go_big_quiet_on)))
        refine wpQuiet_nil ?_
        intro w4 b9
        replace c := c.trans (b9.mono c.size)
        replace S := S.keep b9
        clear b9 k0 k1 k2 f18 f19 f20 f21 f22 f23 f24 f25 f26
        have k0 := cu c hc0 (show b < _ by omega)
        have k1 := cu c hc1 (show b < _ by omega)
        have k2 := cu c hc2 (show b < _ by omega)
        have f27 := lk S 2 0 rfl rfl
        have f28 := lk S 2 1 rfl rfl
        have f29 := lk S 2 2 rfl rfl
        have f30 := lk S 2 3 rfl rfl
        have f31 := lk S 2 4 rfl rfl
        have f32 := lk S 2 5 rfl rfl
        have f33 := lk S 2 6 rfl rfl
        have f34 := lk S 2 7 rfl rfl
        have f35 := lk S 2 8 rfl rfl
        go_wp2_with fail
        refine wp_region_cls (fun v => v.cell? ⟨b, off + j * 3, none⟩ = some (.int .i64 z0) ∧ v.cell? ⟨b, off + j * 3 + 1, none⟩ = some (.int .i64 z1) ∧ v.cell? ⟨b, off + j * 3 + 2, none⟩ = some (.int .i64 z2) ∧ v.cell? ⟨w.heap.size, 2, none⟩ = some (.int .i64 e2)) (by kernel_rfl) (by kernel_rfl) (fun v hv => ⟨cq hv k0, cq hv k1, cq hv k2, cq hv f29⟩) ?_
        intro CL HF HC
        repeat
         (first
            | go_big_quiet_skip
            | (go_big_quiet_want
               go_big_quiet_op
               first
                | go_big_quiet_on
                | (apply Exists.intro
                   refine ⟨fun v hv => ?_, ?_⟩
                   · obtain ⟨a0, a1, a2, a3⟩ := HF v hv
                     first
                      | exact rfl
                      | (go_simp; exact rfl)
                      | (go_simp; exact ⟨rfl, hv⟩)
                   go_big_quiet_on)))
        refine wpQuiet_nil ?_
        intro w5 b9
        replace c := c.trans (b9.mono c.size)
        replace S := S.keep b9
        clear b9 k0 k1 k2 f27 f28 f29 f30 f31 f32 f33 f34 f35
        have k0 := cu c hc0 (show b < _ by omega)
        have k1 := cu c hc1 (show b < _ by omega)
        have k2 := cu c hc2 (show b < _ by omega)
        replace S := S.boxAt c.size (w5.heap.size) rfl #[.int .i64 z0, .int .i64 z1, .int .i64 z2] 114
        replace c := al c S
        have HC : ∀ i, i < 3 → (w5.alloc (.cells #[.int .i64 z0, .int .i64 z1, .int .i64 z2] 114)).cell? ⟨w5.heap.size, i, none⟩ = [Value.int .i64 z0, Value.int .i64 z1, Value.int .i64 z2][i]? := fun i hi => by
         have h1 := (S.at_ 0 rfl).cell i
         rw [h1]
         simp
        replace S := (S.tail).own0 (ds := mrkC (⟨z0, z1, z2⟩ : MarkM)) (vs := [.int .i64 z0, .int .i64 z1, .int .i64 z2]) (.int (.int (.int .nil)))
        replace S := S.swap
        have hgc := jd c
        go_wp2_with (first
         | (at_builtin
            refine wpList_append_elem (l := outA l (⟨e2, e3, e0⟩ : MarkM) j) (y := (⟨z0, z1, z2⟩ : MarkM)) rfl (.tmp 73) (.tmp 78) (by rfl) Tryz.underlying44 infoMark (by rfl) (by decide) mrkC_len (by rfl) (S.own_ 0 rfl) (S.nodup_own 0 rfl) (by rfl) HC (S.own_ 1 rfl) (S.nodup_own 1 rfl) S.apart (by omega) (by omega) ?_
            intro A8 c8 v8 fp8 o3 n3 s3 t3))
        have S3 := S.merge t3 o3 n3 s3 hgc.out.size
        have C3 := hgc.out.trans (S.below 0 rfl t3 hgc.out.size)
        clear S c o3 n3 s3 t3 HC hgc
        have S := S3
        have c := C3
        clear S3 C3
        rw [← HN.out] at S
        have SS := jd S
        have CC := jd c
        clear S c
        go_roundw
        case rel => exact ⟨j + 1, A8, m + 1, c8, fp8, by omega, by go_num, rfl, by rw [HD.out], by omega, SS.out, CC.out⟩
        case measure => simp [intOf]; omega
       case neg =>
        by_cases hq2 : z0 = e2
        case pos =>
         obtain ⟨hn1, hd1, hd2⟩ := HEQ.out hq2
         have HN := jd hn1
         have HD := jd hd2
         rw [hd1]
         have d1 : decide (z0 ≥ e2) = true := decide_eq_true (by omega)
         have d2 : decide (e2 ≤ z0) = true := decide_eq_true (by omega)
         have d3 : (z0 != e2) = false := by simp; omega
         have d4 : (z0 == e2) = true := by simp; omega
         clear hn1 hd1 hd2 hq hq2 HLT HEQ HGN HGY
         have k0 := cu c hc0 (show b < _ by omega)
         have k1 := cu c hc1 (show b < _ by omega)
         have k2 := cu c hc2 (show b < _ by omega)
         have f18 := lk S 2 0 rfl rfl
         have f19 := lk S 2 1 rfl rfl
         have f20 := lk S 2 2 rfl rfl
         have f21 := lk S 2 3 rfl rfl
         have f22 := lk S 2 4 rfl rfl
         have f23 := lk S 2 5 rfl rfl
         have f24 := lk S 2 6 rfl rfl
         have f25 := lk S 2 7 rfl rfl
         have f26 := lk S 2 8 rfl rfl
         go_wp2_with fail
         refine wp_region_cls (fun v => v.cell? ⟨b, off + j * 3, none⟩ = some (.int .i64 z0) ∧ v.cell? ⟨b, off + j * 3 + 1, none⟩ = some (.int .i64 z1) ∧ v.cell? ⟨b, off + j * 3 + 2, none⟩ = some (.int .i64 z2) ∧ v.cell? ⟨w.heap.size, 2, none⟩ = some (.int .i64 e2)) (by kernel_rfl) (by kernel_rfl) (fun v hv => ⟨cq hv k0, cq hv k1, cq hv k2, cq hv f20⟩) ?_
         intro CL HF HC
         repeat
          (first
             | go_big_quiet_skip
             | (go_big_quiet_want
                go_big_quiet_op
                first
                 | go_big_quiet_on
                 | (apply Exists.intro
                    refine ⟨fun v hv => ?_, ?_⟩
                    · obtain ⟨a0, a1, a2, a3⟩ := HF v hv
                      first
                       | exact rfl
                       | (go_simp; exact rfl)
                       | (go_simp; exact ⟨rfl, hv⟩)
                    go_big_quiet_on)))
         refine wpQuiet_nil ?_
         intro w4 b9
         replace c := c.trans (b9.mono c.size)
         replace S := S.keep b9
         clear b9 k0 k1 k2 f18 f19 f20 f21 f22 f23 f24 f25 f26
         have f27 := lk S 1 0 rfl rfl
         have f28 := lk S 1 1 rfl rfl
         have f29 := lk S 1 2 rfl rfl
         replace S := S.boxAt c.size (w4.heap.size) rfl #[.int .i64 e2, .int .i64 e3, .int .i64 e0] 114
         replace c := al c S
         have HC : ∀ i, i < 3 → (w4.alloc (.cells #[.int .i64 e2, .int .i64 e3, .int .i64 e0] 114)).cell? ⟨w4.heap.size, i, none⟩ = [Value.int .i64 e2, Value.int .i64 e3, Value.int .i64 e0][i]? := fun i hi => by
          have h1 := (S.at_ 0 rfl).cell i
          rw [h1]
          simp
         replace S := (S.tail).own0 (ds := mrkC (⟨e2, e3, e0⟩ : MarkM)) (vs := [.int .i64 e2, .int .i64 e3, .int .i64 e0]) (.int (.int (.int .nil)))
         replace S := S.swap
         have hgc := jd c
         go_wp2_with (first
          | (at_builtin
             refine wpList_append_elem (l := outA l (⟨e2, e3, e0⟩ : MarkM) j) (y := (⟨e2, e3, e0⟩ : MarkM)) rfl (.tmp 61) (.tmp 63) (by rfl) Tryz.underlying44 infoMark (by rfl) (by decide) mrkC_len (by rfl) (S.own_ 0 rfl) (S.nodup_own 0 rfl) (by rfl) HC (S.own_ 1 rfl) (S.nodup_own 1 rfl) S.apart (by omega) (by omega) ?_
             intro A8 c8 v8 fp8 o3 n3 s3 t3))
         have S3 := S.merge t3 o3 n3 s3 hgc.out.size
         have C3 := hgc.out.trans (S.below 0 rfl t3 hgc.out.size)
         clear S c o3 n3 s3 t3 HC hgc
         have S := S3
         have c := C3
         clear S3 C3
         have k0 := cu c hc0 (show b < _ by omega)
         have k1 := cu c hc1 (show b < _ by omega)
         have k2 := cu c hc2 (show b < _ by omega)
         have f30 := lk S 2 0 rfl rfl
         have f31 := lk S 2 1 rfl rfl
         have f32 := lk S 2 2 rfl rfl
         have f33 := lk S 2 3 rfl rfl
         have f34 := lk S 2 4 rfl rfl
         have f35 := lk S 2 5 rfl rfl
         have f36 := lk S 2 6 rfl rfl
         have f37 := lk S 2 7 rfl rfl
         have f38 := lk S 2 8 rfl rfl
         go_wp2_with fail
         refine wp_region_cls (fun v => v.cell? ⟨b, off + j * 3, none⟩ = some (.int .i64 z0) ∧ v.cell? ⟨b, off + j * 3 + 1, none⟩ = some (.int .i64 z1) ∧ v.cell? ⟨b, off + j * 3 + 2, none⟩ = some (.int .i64 z2) ∧ v.cell? ⟨w.heap.size, 2, none⟩ = some (.int .i64 e2)) (by kernel_rfl) (by kernel_rfl) (fun v hv => ⟨cq hv k0, cq hv k1, cq hv k2, cq hv f32⟩) ?_
         intro CL HF HC
         repeat
          (first
             | go_big_quiet_skip
             | (go_big_quiet_want
                go_big_quiet_op
                first
                 | go_big_quiet_on
                 | (apply Exists.intro
                    refine ⟨fun v hv => ?_, ?_⟩
                    · obtain ⟨a0, a1, a2, a3⟩ := HF v hv
                      first
                       | exact rfl
                       | (go_simp; exact rfl)
                       | (go_simp; exact ⟨rfl, hv⟩)
                    go_big_quiet_on)))
         refine wpQuiet_nil ?_
         intro w5 b9
         replace c := c.trans (b9.mono c.size)
         replace S := S.keep b9
         clear b9 k0 k1 k2 f30 f31 f32 f33 f34 f35 f36 f37 f38
         rw [← HN.out] at S
         have SS := jd S
         have CC := jd c
         clear S c
         go_wp2
         go_roundw
         case rel => exact ⟨j + 1, A8, m + 1, c8, fp8, by omega, by go_num, rfl, by rw [HD.out], by omega, SS.out, CC.out⟩
         case measure => simp [intOf]; omega
        case neg =>
         have hq3 : e2 < z0 := by omega
         have d1 : decide (z0 ≥ e2) = true := decide_eq_true (by omega)
         have d2 : decide (e2 ≤ z0) = true := decide_eq_true (by omega)
         have d3 : (z0 != e2) = true := by simp; omega
         have d4 : (z0 == e2) = false := by simp; omega
         cases hd : doneA l e2 j
         case false =>
          obtain ⟨hn1, hd2⟩ := HGN.out hq3 hd
          have HN := jd hn1
          have HD := jd hd2
          clear hn1 hd2 hd hq hq2 hq3 HLT HEQ HGN HGY
          have k0 := cu c hc0 (show b < _ by omega)
          have k1 := cu c hc1 (show b < _ by omega)
          have k2 := cu c hc2 (show b < _ by omega)
          have f18 := lk S 2 0 rfl rfl
          have f19 := lk S 2 1 rfl rfl
          have f20 := lk S 2 2 rfl rfl
          have f21 := lk S 2 3 rfl rfl
          have f22 := lk S 2 4 rfl rfl
          have f23 := lk S 2 5 rfl rfl
          have f24 := lk S 2 6 rfl rfl
          have f25 := lk S 2 7 rfl rfl
          have f26 := lk S 2 8 rfl rfl
          go_wp2_with fail
          refine wp_region_cls (fun v => v.cell? ⟨b, off + j * 3, none⟩ = some (.int .i64 z0) ∧ v.cell? ⟨b, off + j * 3 + 1, none⟩ = some (.int .i64 z1) ∧ v.cell? ⟨b, off + j * 3 + 2, none⟩ = some (.int .i64 z2) ∧ v.cell? ⟨w.heap.size, 2, none⟩ = some (.int .i64 e2)) (by kernel_rfl) (by kernel_rfl) (fun v hv => ⟨cq hv k0, cq hv k1, cq hv k2, cq hv f20⟩) ?_
          intro CL HF HC
          repeat
           (first
              | go_big_quiet_skip
              | (go_big_quiet_want
                 go_big_quiet_op
                 first
                  | go_big_quiet_on
                  | (apply Exists.intro
                     refine ⟨fun v hv => ?_, ?_⟩
                     · obtain ⟨a0, a1, a2, a3⟩ := HF v hv
                       first
                        | exact rfl
                        | (go_simp; exact rfl)
                        | (go_simp; exact ⟨rfl, hv⟩)
                     go_big_quiet_on)))
          refine wpQuiet_nil ?_
          intro w4 b9
          replace c := c.trans (b9.mono c.size)
          replace S := S.keep b9
          clear b9 k0 k1 k2 f18 f19 f20 f21 f22 f23 f24 f25 f26
          have f27 := lk S 1 0 rfl rfl
          have f28 := lk S 1 1 rfl rfl
          have f29 := lk S 1 2 rfl rfl
          replace S := S.boxAt c.size (w4.heap.size) rfl #[.int .i64 e2, .int .i64 e3, .int .i64 e0] 114
          replace c := al c S
          have HC : ∀ i, i < 3 → (w4.alloc (.cells #[.int .i64 e2, .int .i64 e3, .int .i64 e0] 114)).cell? ⟨w4.heap.size, i, none⟩ = [Value.int .i64 e2, Value.int .i64 e3, Value.int .i64 e0][i]? := fun i hi => by
           have h1 := (S.at_ 0 rfl).cell i
           rw [h1]
           simp
          replace S := (S.tail).own0 (ds := mrkC (⟨e2, e3, e0⟩ : MarkM)) (vs := [.int .i64 e2, .int .i64 e3, .int .i64 e0]) (.int (.int (.int .nil)))
          replace S := S.swap
          have hgc := jd c
          go_wp2_with (first
           | (at_builtin
              refine wpList_append_elem (l := outA l (⟨e2, e3, e0⟩ : MarkM) j) (y := (⟨e2, e3, e0⟩ : MarkM)) rfl (.tmp 61) (.tmp 63) (by rfl) Tryz.underlying44 infoMark (by rfl) (by decide) mrkC_len (by rfl) (S.own_ 0 rfl) (S.nodup_own 0 rfl) (by rfl) HC (S.own_ 1 rfl) (S.nodup_own 1 rfl) S.apart (by omega) (by omega) ?_
              intro A8 c8 v8 fp8 o3 n3 s3 t3))
          have S3 := S.merge t3 o3 n3 s3 hgc.out.size
          have C3 := hgc.out.trans (S.below 0 rfl t3 hgc.out.size)
          clear S c o3 n3 s3 t3 HC hgc
          have S := S3
          have c := C3
          clear S3 C3
          have k0 := cu c hc0 (show b < _ by omega)
          have k1 := cu c hc1 (show b < _ by omega)
          have k2 := cu c hc2 (show b < _ by omega)
          have f30 := lk S 2 0 rfl rfl
          have f31 := lk S 2 1 rfl rfl
          have f32 := lk S 2 2 rfl rfl
          have f33 := lk S 2 3 rfl rfl
          have f34 := lk S 2 4 rfl rfl
          have f35 := lk S 2 5 rfl rfl
          have f36 := lk S 2 6 rfl rfl
          have f37 := lk S 2 7 rfl rfl
          have f38 := lk S 2 8 rfl rfl
          go_wp2_with fail
          refine wp_region_cls (fun v => v.cell? ⟨b, off + j * 3, none⟩ = some (.int .i64 z0) ∧ v.cell? ⟨b, off + j * 3 + 1, none⟩ = some (.int .i64 z1) ∧ v.cell? ⟨b, off + j * 3 + 2, none⟩ = some (.int .i64 z2) ∧ v.cell? ⟨w.heap.size, 2, none⟩ = some (.int .i64 e2)) (by kernel_rfl) (by kernel_rfl) (fun v hv => ⟨cq hv k0, cq hv k1, cq hv k2, cq hv f32⟩) ?_
          intro CL HF HC
          repeat
           (first
              | go_big_quiet_skip
              | (go_big_quiet_want
                 go_big_quiet_op
                 first
                  | go_big_quiet_on
                  | (apply Exists.intro
                     refine ⟨fun v hv => ?_, ?_⟩
                     · obtain ⟨a0, a1, a2, a3⟩ := HF v hv
                       first
                        | exact rfl
                        | (go_simp; exact rfl)
                        | (go_simp; exact ⟨rfl, hv⟩)
                     go_big_quiet_on)))
          refine wpQuiet_nil ?_
          intro w5 b9
          replace c := c.trans (b9.mono c.size)
          replace S := S.keep b9
          clear b9 k0 k1 k2 f30 f31 f32 f33 f34 f35 f36 f37 f38
          have k0 := cu c hc0 (show b < _ by omega)
          have k1 := cu c hc1 (show b < _ by omega)
          have k2 := cu c hc2 (show b < _ by omega)
          replace S := S.boxAt c.size (w5.heap.size) rfl #[.int .i64 z0, .int .i64 z1, .int .i64 z2] 114
          replace c := al c S
          have HC : ∀ i, i < 3 → (w5.alloc (.cells #[.int .i64 z0, .int .i64 z1, .int .i64 z2] 114)).cell? ⟨w5.heap.size, i, none⟩ = [Value.int .i64 z0, Value.int .i64 z1, Value.int .i64 z2][i]? := fun i hi => by
           have h1 := (S.at_ 0 rfl).cell i
           rw [h1]
           simp
          replace S := (S.tail).own0 (ds := mrkC (⟨z0, z1, z2⟩ : MarkM)) (vs := [.int .i64 z0, .int .i64 z1, .int .i64 z2]) (.int (.int (.int .nil)))
          replace S := S.swap
          have hgc := jd c
          go_wp2_with (first
           | (at_builtin
              refine wpList_append_elem (l := outA l (⟨e2, e3, e0⟩ : MarkM) j ++ [(⟨e2, e3, e0⟩ : MarkM)]) (y := (⟨z0, z1, z2⟩ : MarkM)) rfl (.tmp 73) (.tmp 78) (by rfl) Tryz.underlying44 infoMark (by rfl) (by decide) mrkC_len (by rfl) (S.own_ 0 rfl) (S.nodup_own 0 rfl) (by rfl) HC (S.own_ 1 rfl) (S.nodup_own 1 rfl) S.apart (by omega) (by omega) ?_
              intro A7 c7 v7 fp7 o3 n3 s3 t3))
          have S3 := S.merge t3 o3 n3 s3 hgc.out.size
          have C3 := hgc.out.trans (S.below 0 rfl t3 hgc.out.size)
          clear S c o3 n3 s3 t3 HC hgc
          have S := S3
          have c := C3
          clear S3 C3
          rw [← HN.out] at S
          have SS := jd S
          have CC := jd c
          clear S c
          go_roundw
          case rel => exact ⟨j + 1, A7, m + 1 + 1, c7, fp7, by omega, by go_num, rfl, by rw [HD.out], by omega, SS.out, CC.out⟩
          case measure => simp [intOf]; omega
         case true =>
          obtain ⟨hn1, hd2⟩ := HGY.out hq3 hd
          have HN := jd hn1
          have HD := jd hd2
          clear hn1 hd2 hd hq hq2 hq3 HLT HEQ HGN HGY
          have k0 := cu c hc0 (show b < _ by omega)
          have k1 := cu c hc1 (show b < _ by omega)
          have k2 := cu c hc2 (show b < _ by omega)
          have f18 := lk S 2 0 rfl rfl
          have f19 := lk S 2 1 rfl rfl
          have f20 := lk S 2 2 rfl rfl
          have f21 := lk S 2 3 rfl rfl
          have f22 := lk S 2 4 rfl rfl
          have f23 := lk S 2 5 rfl rfl
          have f24 := lk S 2 6 rfl rfl
          have f25 := lk S 2 7 rfl rfl
          have f26 := lk S 2 8 rfl rfl
          go_wp2_with fail
          refine wp_region_cls (fun v => v.cell? ⟨b, off + j * 3, none⟩ = some (.int .i64 z0) ∧ v.cell? ⟨b, off + j * 3 + 1, none⟩ = some (.int .i64 z1) ∧ v.cell? ⟨b, off + j * 3 + 2, none⟩ = some (.int .i64 z2) ∧ v.cell? ⟨w.heap.size, 2, none⟩ = some (.int .i64 e2)) (by kernel_rfl) (by kernel_rfl) (fun v hv => ⟨cq hv k0, cq hv k1, cq hv k2, cq hv f20⟩) ?_
          intro CL HF HC
          repeat
           (first
              | go_big_quiet_skip
              | (go_big_quiet_want
                 go_big_quiet_op
                 first
                  | go_big_quiet_on
                  | (apply Exists.intro
                     refine ⟨fun v hv => ?_, ?_⟩
                     · obtain ⟨a0, a1, a2, a3⟩ := HF v hv
                       first
                        | exact rfl
                        | (go_simp; exact rfl)
                        | (go_simp; exact ⟨rfl, hv⟩)
                     go_big_quiet_on)))
          refine wpQuiet_nil ?_
          intro w4 b9
          replace c := c.trans (b9.mono c.size)
          replace S := S.keep b9
          clear b9 k0 k1 k2 f18 f19 f20 f21 f22 f23 f24 f25 f26
          have k0 := cu c hc0 (show b < _ by omega)
          have k1 := cu c hc1 (show b < _ by omega)
          have k2 := cu c hc2 (show b < _ by omega)
          have f27 := lk S 2 0 rfl rfl
          have f28 := lk S 2 1 rfl rfl
          have f29 := lk S 2 2 rfl rfl
          have f30 := lk S 2 3 rfl rfl
          have f31 := lk S 2 4 rfl rfl
          have f32 := lk S 2 5 rfl rfl
          have f33 := lk S 2 6 rfl rfl
          have f34 := lk S 2 7 rfl rfl
          have f35 := lk S 2 8 rfl rfl
          go_wp2_with fail
          refine wp_region_cls (fun v => v.cell? ⟨b, off + j * 3, none⟩ = some (.int .i64 z0) ∧ v.cell? ⟨b, off + j * 3 + 1, none⟩ = some (.int .i64 z1) ∧ v.cell? ⟨b, off + j * 3 + 2, none⟩ = some (.int .i64 z2) ∧ v.cell? ⟨w.heap.size, 2, none⟩ = some (.int .i64 e2)) (by kernel_rfl) (by kernel_rfl) (fun v hv => ⟨cq hv k0, cq hv k1, cq hv k2, cq hv f29⟩) ?_
          intro CL HF HC
          repeat
           (first
              | go_big_quiet_skip
              | (go_big_quiet_want
                 go_big_quiet_op
                 first
                  | go_big_quiet_on
                  | (apply Exists.intro
                     refine ⟨fun v hv => ?_, ?_⟩
                     · obtain ⟨a0, a1, a2, a3⟩ := HF v hv
                       first
                        | exact rfl
                        | (go_simp; exact rfl)
                        | (go_simp; exact ⟨rfl, hv⟩)
                     go_big_quiet_on)))
          refine wpQuiet_nil ?_
          intro w5 b9
          replace c := c.trans (b9.mono c.size)
          replace S := S.keep b9
          clear b9 k0 k1 k2 f27 f28 f29 f30 f31 f32 f33 f34 f35
          have k0 := cu c hc0 (show b < _ by omega)
          have k1 := cu c hc1 (show b < _ by omega)
          have k2 := cu c hc2 (show b < _ by omega)
          replace S := S.boxAt c.size (w5.heap.size) rfl #[.int .i64 z0, .int .i64 z1, .int .i64 z2] 114
          replace c := al c S
          have HC : ∀ i, i < 3 → (w5.alloc (.cells #[.int .i64 z0, .int .i64 z1, .int .i64 z2] 114)).cell? ⟨w5.heap.size, i, none⟩ = [Value.int .i64 z0, Value.int .i64 z1, Value.int .i64 z2][i]? := fun i hi => by
           have h1 := (S.at_ 0 rfl).cell i
           rw [h1]
           simp
          replace S := (S.tail).own0 (ds := mrkC (⟨z0, z1, z2⟩ : MarkM)) (vs := [.int .i64 z0, .int .i64 z1, .int .i64 z2]) (.int (.int (.int .nil)))
          replace S := S.swap
          have hgc := jd c
          go_wp2_with (first
           | (at_builtin
              refine wpList_append_elem (l := outA l (⟨e2, e3, e0⟩ : MarkM) j) (y := (⟨z0, z1, z2⟩ : MarkM)) rfl (.tmp 73) (.tmp 78) (by rfl) Tryz.underlying44 infoMark (by rfl) (by decide) mrkC_len (by rfl) (S.own_ 0 rfl) (S.nodup_own 0 rfl) (by rfl) HC (S.own_ 1 rfl) (S.nodup_own 1 rfl) S.apart (by omega) (by omega) ?_
              intro A8 c8 v8 fp8 o3 n3 s3 t3))
          have S3 := S.merge t3 o3 n3 s3 hgc.out.size
          have C3 := hgc.out.trans (S.below 0 rfl t3 hgc.out.size)
          clear S c o3 n3 s3 t3 HC hgc
          have S := S3
          have c := C3
          clear S3 C3
          rw [← HN.out] at S
          have SS := jd S
          have CC := jd c
          clear S c
          go_roundw
          case rel => exact ⟨j + 1, A8, m + 1, c8, fp8, by omega, by go_num, rfl, by rw [HD.out], by omega, SS.out, CC.out⟩
          case measure => simp [intOf]; omega
end Go.Proofs.YthjjdelpdiipdaaGreatDoor
