/- Parts of my texts: TwoI5. -/
import Derived.Test.YtmjifhjhialcbaaT31
import Derived.Test.YtmjifhjhialcbaaT32
namespace Go.Proofs.Ytmjifhjhialcbaa
set_option maxRecDepth 100000
set_option linter.unusedVariables false
open Go.RowKit
def hasRow (l : List (List Int)) (r : List Int) : Bool := l.any (fun x => sameI x r)
theorem hasRow_nil (r : List Int) : hasRow [] r = false := rfl
set_option maxHeartbeats 1600000 in
theorem iHasRow_any (A : Option Addr) (n c : Nat) (l : List (List Int)) (E : Option Addr) (m k : Nat) (r : List Int) (B B' : Nat) (w : World) (h : Rd w B [keptD l] [.slice A n c]) (h2 : Rd w B' (rowCells r) [.slice E m k]) (hs : rowsSz l ≤ 1048577) (hs2 : r.length ≤ 1048577) :
    Calls Try.prog 90 #[.slice A n c, .slice E m k] w fun e w' => e = .returned (.bool (hasRow l r)) ∧ Below w.heap.size w w' := by
 obtain ⟨_, _, _, e, hl, _, _, hel⟩ := h.kept
 injection e with e1 e2 e3
 subst e1 e2 e3
 obtain ⟨h3, _, _⟩ := rdI h2
 have hm : m ≤ 1048577 := by rw [← h3.1]; exact hs2
 have HL := jd hl
 have HS := jd hs
 have R3 := jd h3
 have hn : n ≤ 1048577 := by unfold rowsSz at hs; omega
 clear hl hs h h2 h3
 go_enter Try.func90, Try.ntmps90
 go_wp2
 go_loop [9] (fun i => ∃ j : Nat, j ≤ n ∧ i = .int .i64 (j : Int) ∧ ∀ q (hq : q < l.length), q < j → sameI l[q] r = false) (fun i => n - (intOf i).toNat)
 case atStart => exact ⟨0, Nat.zero_le _, rfl, fun q _ hq => absurd hq (by omega)⟩
 case round =>
  obtain ⟨j, hj, rfl, hno⟩ := hrel
  by_cases hlt : j < n
  · obtain ⟨b, off, rfl, hb, hc⟩ := hel (by omega)
    have hjl : j < l.length := by have := HL.out; omega
    obtain ⟨A1, m1, d1, hcell, hrow, _⟩ := hc j hjl
    have hm1 : m1 ≤ 1048577 := by
     have h1 := pre_at (g := List.length) hjl
     have h2 := HS.out
     have h3 := hrow.1
     unfold rowsSz at h2
     omega
    have i0 : (0 : Int) ≤ (j : Int) := by omega
    have i1 : (j : Int) < (n : Int) := by omega
    have HN := jd hno
    have RR := jd hrow
    clear hc hrow hel hno
    cases hsm : sameI l[j] r
    · have HJ := jd (show ∀ q (hq : q < l.length), q < j + 1 → sameI l[q] r = false from fun q hq h9 => by
        rcases Nat.lt_or_ge q j with h8 | h8
        · exact HN.out q hq h8
        · have : q = j := by omega
          subst this
          exact hsm)
      have HM := jd hsm
      clear hsm
      go_wp2_with fail
      refine (iSame_any A1 E m1 m d1 k _ _ _ r _ RR.out R3.out hm1 hm).mono ?_
      rintro e w1 ⟨rfl, rfl⟩
      rw [HM.out]
      go_wp2
      go_round
      case rel => exact ⟨j + 1, by omega, by go_num, HJ.out⟩
      case measure => simp [intOf]; omega
    · have HR := jd (show hasRow l r = true from List.any_eq_true.2 ⟨l[j], List.getElem_mem hjl, hsm⟩)
      have HM := jd hsm
      clear hsm
      go_wp2_with fail
      refine (iSame_any A1 E m1 m d1 k _ _ _ r _ RR.out R3.out hm1 hm).mono ?_
      rintro e w1 ⟨rfl, rfl⟩
      rw [HM.out]
      go_wp2
      go_ret
      exact ⟨ret_bool HR.out.symm, Below.refl _ _⟩
  · have HR := jd (show hasRow l r = false from by
      unfold hasRow
      rw [List.any_eq_false]
      intro x hx
      obtain ⟨q, hq, rfl⟩ := List.getElem_of_mem hx
      rw [hno q hq (by have := HL.out; omega)]
      simp)
    have i1 : ¬ ((j : Int) < (n : Int)) := by omega
    clear hel hno
    go_wp2
    go_ret
    exact ⟨ret_bool HR.out.symm, Below.refl _ _⟩
theorem read_ok {d : DiskM} (h : diskOk d = true) (i : Int) : (readAt d i).2 = hasS d i := by
 unfold readAt
 cases hh : hasS d i <;> simp [h]
theorem has_same {t : TwoM} (h : t.a.kept.length = t.b.kept.length) (i : Int) : hasS t.b i = hasS t.a i := by unfold hasS; rw [h]
set_option maxHeartbeats 12800000 in
theorem iRightAt_any (Aa0 : Option Addr) (na0 ca0 : Nat) (Aa1 : Option Addr) (na1 ca1 : Nat) (Aa2 : Option Addr) (na2 ca2 : Nat) (Aa3 : Option Addr) (na3 ca3 : Nat) (t : TwoM) (i : Int) (w : World) (h : Rd w w.heap.size t.cells [.slice Aa0 na0 ca0, .slice Aa1 na1 ca1, .slice Aa2 na2 ca2, .slice Aa3 na3 ca3]) (hs : t.sz ≤ 1048576) :
    Calls Try.prog 77 #[.agg #[.slice Aa0 na0 ca0, .slice Aa1 na1 ca1, .slice Aa2 na2 ca2, .slice Aa3 na3 ca3], .int .i64 i] w fun e w' => ∃ A n c, e = .returned (.slice A n c) ∧ Has w' w.heap.size [keptD (rightAt t i)] [.slice A n c] ∧ Below w.heap.size w w' := by
 obtain ⟨ha, hb⟩ := h.halves
 have hsa : t.a.sz ≤ 1048576 := by unfold TwoM.sz at hs; omega
 have hsb : t.b.sz ≤ 1048576 := by unfold TwoM.sz at hs; omega
 cases hok : twoOk t
 case false =>
  have HR := jd (show rightAt t i = [] by simp [rightAt, hok])
  have HT := jd hok
  clear hok
  have S := Sep.nil w w.heap.size
  have c := Below.refl w.heap.size w
  replace S := S.boxAt c.size (w.heap.size) rfl #[.slice Aa0 na0 ca0, .slice Aa1 na1 ca1, .slice Aa2 na2 ca2, .slice Aa3 na3 ca3] 60
  replace c := al c S
  go_enter Try.func77, Try.ntmps77
  have f0 := lk S 0 0 rfl rfl
  have f1 := lk S 0 1 rfl rfl
  have f2 := lk S 0 2 rfl rfl
  have f3 := lk S 0 3 rfl rfl
  go_wp2_with fail
  generalize w.alloc (.cells #[.slice Aa0 na0 ca0, .slice Aa1 na1 ca1, .slice Aa2 na2 ca2, .slice Aa3 na3 ca3] 60) = w1 at *
  refine (iTwoOk_any _ _ _ _ _ _ _ _ _ _ _ _ t _ _ (h.keep c) c.size (by omega)).mono ?_
  rintro e w2 ⟨rfl, b⟩
  replace c := c.trans (b.mono c.size)
  replace S := S.keep b
  clear b f0 f1 f2 f3
  rw [HT.out]
  have C := jd c
  clear S c h ha hb
  go_wp2
  go_ret
  exact ⟨none, 0, 0, rfl, by rw [HR.out]; exact ⟨[], ow_nil_kept _, List.nodup_nil, fun p hp => by cases hp⟩, C.out⟩
 have HT := jd hok
 obtain ⟨k1, k2, k3⟩ := twoOk_iff.1 hok
 cases hh : hasS t.a i
 case false =>
  have HR := jd (show rightAt t i = [] by simp [rightAt, hh])
  have HA := jd (show (readAt t.a i).2 = false by rw [read_ok k1, hh])
  clear hok hh k1 k2 k3
  have S := Sep.nil w w.heap.size
  have c := Below.refl w.heap.size w
  replace S := S.boxAt c.size (w.heap.size) rfl #[.slice Aa0 na0 ca0, .slice Aa1 na1 ca1, .slice Aa2 na2 ca2, .slice Aa3 na3 ca3] 60
  replace c := al c S
  go_enter Try.func77, Try.ntmps77
  have f0 := lk S 0 0 rfl rfl
  have f1 := lk S 0 1 rfl rfl
  have f2 := lk S 0 2 rfl rfl
  have f3 := lk S 0 3 rfl rfl
  go_wp2_with fail
  generalize w.alloc (.cells #[.slice Aa0 na0 ca0, .slice Aa1 na1 ca1, .slice Aa2 na2 ca2, .slice Aa3 na3 ca3] 60) = w1 at *
  refine (iTwoOk_any _ _ _ _ _ _ _ _ _ _ _ _ t _ _ (h.keep c) c.size (by omega)).mono ?_
  rintro e w2 ⟨rfl, b⟩
  replace c := c.trans (b.mono c.size)
  replace S := S.keep b
  clear b f0 f1 f2 f3
  rw [HT.out]
  have hix0 : ∀ w9, (Instr.index 97 (.agg #[.slice Aa0 na0 ca0, .slice Aa1 na1 ca1, .slice Aa2 na2 ca2, .slice Aa3 na3 ca3]) (.int .i64 0)).run Try.prog w9 = .ok (.agg #[.slice Aa0 na0 ca0, .slice Aa1 na1 ca1]) w9 := fun _ => by kernel_rfl
  have hix1 : ∀ w9, (Instr.index 97 (.agg #[.slice Aa0 na0 ca0, .slice Aa1 na1 ca1, .slice Aa2 na2 ca2, .slice Aa3 na3 ca3]) (.int .i64 1)).run Try.prog w9 = .ok (.agg #[.slice Aa2 na2 ca2, .slice Aa3 na3 ca3]) w9 := fun _ => by kernel_rfl
  have f4 := lk S 0 0 rfl rfl
  have f5 := lk S 0 1 rfl rfl
  have f6 := lk S 0 2 rfl rfl
  have f7 := lk S 0 3 rfl rfl
  go_wp2_with fail
  refine (iDisks_any _ _ _ _ _ _ _ _ _ _ _ _ _).mono ?_
  rintro e w3 ⟨rfl, b⟩
  replace c := c.trans (b.mono c.size)
  replace S := S.keep b
  clear b f4 f5 f6 f7
  go_wp2
  refine wp_loop_rounds 3 ?_
  rw [rounds_succ]
  replace S := S.boxAt c.size (w3.heap.size) rfl #[.slice Aa0 na0 ca0, .slice Aa1 na1 ca1] 44
  replace c := al c S
  have f8 := lk S 0 0 rfl rfl
  have f9 := lk S 0 1 rfl rfl
  go_wp2_with fail
  generalize w3.alloc (.cells #[.slice Aa0 na0 ca0, .slice Aa1 na1 ca1] 44) = w4 at *
  refine (iReadAt_any _ _ t.a i _ ((ha.keep c).up c.size) (by omega)).mono ?_
  rintro e w5 ⟨Ax0, nx0, cx0, rfl, o, b⟩
  obtain ⟨fp_x, S'⟩ := S.has b o c.size
  replace c := c.trans (b.mono c.size)
  clear S; have S := S'; clear S' o b f8 f9
  rw [HA.out]
  have C := jd c
  clear S c h ha hb
  go_wp2
  go_ret
  exact ⟨none, 0, 0, rfl, by rw [HR.out]; exact ⟨[], ow_nil_kept _, List.nodup_nil, fun p hp => by cases hp⟩, C.out⟩
 have HA := jd (show (readAt t.a i).2 = true by rw [read_ok k1, hh])
 have HB := jd (show (readAt t.b i).2 = true by rw [read_ok k2, has_same k3, hh])
 have hp1 : (rightOf t.a i).1.length ≤ 1048577 := Nat.le_trans (unsummed_len _) (by omega)
 have hq1 : (rightOf t.b i).1.length ≤ 1048577 := Nat.le_trans (unsummed_len _) (by omega)
 have hl1 : rowsSz ([] ++ [(rightOf t.a i).1]) ≤ 1048577 := by
  have : (rightOf t.a i).1.length ≤ 48 := unsummed_len _
  simp [rowsSz]
  omega
 clear k1 k2 k3
 cases h1 : (rightOf t.a i).2
 case false =>
  have H1 := jd (show (unsummed (readAt t.a i).1).2 = false from h1)
  cases h2 : (rightOf t.b i).2
  case false =>
   have HR := jd (show rightAt t i = [] by simp [rightAt, h1, h2])
   have H2 := jd (show (unsummed (readAt t.b i).1).2 = false from h2)
   clear hok hh h1 h2
   have S := Sep.nil w w.heap.size
   have c := Below.refl w.heap.size w
   replace S := S.boxAt c.size (w.heap.size) rfl #[.slice Aa0 na0 ca0, .slice Aa1 na1 ca1, .slice Aa2 na2 ca2, .slice Aa3 na3 ca3] 60
   replace c := al c S
   go_enter Try.func77, Try.ntmps77
   have f0 := lk S 0 0 rfl rfl
   have f1 := lk S 0 1 rfl rfl
   have f2 := lk S 0 2 rfl rfl
   have f3 := lk S 0 3 rfl rfl
   go_wp2_with fail
   generalize w.alloc (.cells #[.slice Aa0 na0 ca0, .slice Aa1 na1 ca1, .slice Aa2 na2 ca2, .slice Aa3 na3 ca3] 60) = w1 at *
   refine (iTwoOk_any _ _ _ _ _ _ _ _ _ _ _ _ t _ _ (h.keep c) c.size (by omega)).mono ?_
   rintro e w2 ⟨rfl, b⟩
   replace c := c.trans (b.mono c.size)
   replace S := S.keep b
   clear b f0 f1 f2 f3
   rw [HT.out]
   have hix0 : ∀ w9, (Instr.index 97 (.agg #[.slice Aa0 na0 ca0, .slice Aa1 na1 ca1, .slice Aa2 na2 ca2, .slice Aa3 na3 ca3]) (.int .i64 0)).run Try.prog w9 = .ok (.agg #[.slice Aa0 na0 ca0, .slice Aa1 na1 ca1]) w9 := fun _ => by kernel_rfl
   have hix1 : ∀ w9, (Instr.index 97 (.agg #[.slice Aa0 na0 ca0, .slice Aa1 na1 ca1, .slice Aa2 na2 ca2, .slice Aa3 na3 ca3]) (.int .i64 1)).run Try.prog w9 = .ok (.agg #[.slice Aa2 na2 ca2, .slice Aa3 na3 ca3]) w9 := fun _ => by kernel_rfl
   have f4 := lk S 0 0 rfl rfl
   have f5 := lk S 0 1 rfl rfl
   have f6 := lk S 0 2 rfl rfl
   have f7 := lk S 0 3 rfl rfl
   go_wp2_with fail
   refine (iDisks_any _ _ _ _ _ _ _ _ _ _ _ _ _).mono ?_
   rintro e w3 ⟨rfl, b⟩
   replace c := c.trans (b.mono c.size)
   replace S := S.keep b
   clear b f4 f5 f6 f7
   go_wp2
   refine wp_loop_rounds 3 ?_
   rw [rounds_succ]
   replace S := S.boxAt c.size (w3.heap.size) rfl #[.slice Aa0 na0 ca0, .slice Aa1 na1 ca1] 44
   replace c := al c S
   have f8 := lk S 0 0 rfl rfl
   have f9 := lk S 0 1 rfl rfl
   go_wp2_with fail
   generalize w3.alloc (.cells #[.slice Aa0 na0 ca0, .slice Aa1 na1 ca1] 44) = w4 at *
   refine (iReadAt_any _ _ t.a i _ ((ha.keep c).up c.size) (by omega)).mono ?_
   rintro e w5 ⟨Ax0, nx0, cx0, rfl, o, b⟩
   obtain ⟨fp_x, S'⟩ := S.has b o c.size
   replace c := c.trans (b.mono c.size)
   clear S; have S := S'; clear S' o b f8 f9
   rw [HA.out]
   go_wp2_with fail
   refine (iUnsD _ _ _ _ _ ((S.own_ 0 rfl).rd) (readAt_sz _ _ hsa)).mono ?_
   rintro e w6 ⟨Ap0, np0, cp0, rfl, o, b⟩
   obtain ⟨fp_p, S'⟩ := S.has b o c.size
   replace c := c.trans (b.mono c.size)
   clear S; have S := S'; clear S' o b
   rw [H1.out]
   replace S := S.sub (.cons_cons _ (.cons _ (.cons _ (.cons_cons _ (List.nil_sublist _)))))
   change Sep _ _ [.own (rowCells (rightOf t.a i).1) _ _, _] at S
   replace S := S.own0 (ow_nil_kept _)
   go_wp2
   rw [rounds_succ]
   replace S := S.boxAt c.size (w6.heap.size) rfl #[.slice Aa2 na2 ca2, .slice Aa3 na3 ca3] 44
   replace c := al c S
   have f10 := lk S 0 0 rfl rfl
   have f11 := lk S 0 1 rfl rfl
   go_wp2_with fail
   generalize w6.alloc (.cells #[.slice Aa2 na2 ca2, .slice Aa3 na3 ca3] 44) = w7 at *
   refine (iReadAt_any _ _ t.b i _ ((hb.keep c).up c.size) (by omega)).mono ?_
   rintro e w8 ⟨Ay0, ny0, cy0, rfl, o, b⟩
   obtain ⟨fp_y, S'⟩ := S.has b o c.size
   replace c := c.trans (b.mono c.size)
   clear S; have S := S'; clear S' o b f10 f11
   rw [HB.out]
   go_wp2_with fail
   refine (iUnsD _ _ _ _ _ ((S.own_ 0 rfl).rd) (readAt_sz _ _ hsb)).mono ?_
   rintro e w9 ⟨Aq0, nq0, cq0, rfl, o, b⟩
   obtain ⟨fp_q, S'⟩ := S.has b o c.size
   replace c := c.trans (b.mono c.size)
   clear S; have S := S'; clear S' o b
   rw [H2.out]
   replace S := S.sub (.cons _ (.cons _ (.cons _ (.cons_cons _ (List.nil_sublist _)))))
   have H := jd S.first
   have C := jd c
   clear S c h ha hb
   go_wp2
   rw [rounds_succ]
   go_wp2
   go_ret
   exact ⟨_, _, _, rfl, by rw [HR.out]; exact H.out, C.out⟩
  have HR := jd (show rightAt t i = [] ++ [(rightOf t.b i).1] by simp [rightAt, h1, h2, hok, hh])
  have H2 := jd (show (unsummed (readAt t.b i).1).2 = true from h2)
  clear hok hh h1 h2
  have S := Sep.nil w w.heap.size
  have c := Below.refl w.heap.size w
  replace S := S.boxAt c.size (w.heap.size) rfl #[.slice Aa0 na0 ca0, .slice Aa1 na1 ca1, .slice Aa2 na2 ca2, .slice Aa3 na3 ca3] 60
  replace c := al c S
  go_enter Try.func77, Try.ntmps77
  have f0 := lk S 0 0 rfl rfl
  have f1 := lk S 0 1 rfl rfl
  have f2 := lk S 0 2 rfl rfl
  have f3 := lk S 0 3 rfl rfl
  go_wp2_with fail
  generalize w.alloc (.cells #[.slice Aa0 na0 ca0, .slice Aa1 na1 ca1, .slice Aa2 na2 ca2, .slice Aa3 na3 ca3] 60) = w1 at *
  refine (iTwoOk_any _ _ _ _ _ _ _ _ _ _ _ _ t _ _ (h.keep c) c.size (by omega)).mono ?_
  rintro e w2 ⟨rfl, b⟩
  replace c := c.trans (b.mono c.size)
  replace S := S.keep b
  clear b f0 f1 f2 f3
  rw [HT.out]
  have hix0 : ∀ w9, (Instr.index 97 (.agg #[.slice Aa0 na0 ca0, .slice Aa1 na1 ca1, .slice Aa2 na2 ca2, .slice Aa3 na3 ca3]) (.int .i64 0)).run Try.prog w9 = .ok (.agg #[.slice Aa0 na0 ca0, .slice Aa1 na1 ca1]) w9 := fun _ => by kernel_rfl
  have hix1 : ∀ w9, (Instr.index 97 (.agg #[.slice Aa0 na0 ca0, .slice Aa1 na1 ca1, .slice Aa2 na2 ca2, .slice Aa3 na3 ca3]) (.int .i64 1)).run Try.prog w9 = .ok (.agg #[.slice Aa2 na2 ca2, .slice Aa3 na3 ca3]) w9 := fun _ => by kernel_rfl
  have f4 := lk S 0 0 rfl rfl
  have f5 := lk S 0 1 rfl rfl
  have f6 := lk S 0 2 rfl rfl
  have f7 := lk S 0 3 rfl rfl
  go_wp2_with fail
  refine (iDisks_any _ _ _ _ _ _ _ _ _ _ _ _ _).mono ?_
  rintro e w3 ⟨rfl, b⟩
  replace c := c.trans (b.mono c.size)
  replace S := S.keep b
  clear b f4 f5 f6 f7
  go_wp2
  refine wp_loop_rounds 3 ?_
  rw [rounds_succ]
  replace S := S.boxAt c.size (w3.heap.size) rfl #[.slice Aa0 na0 ca0, .slice Aa1 na1 ca1] 44
  replace c := al c S
  have f8 := lk S 0 0 rfl rfl
  have f9 := lk S 0 1 rfl rfl
  go_wp2_with fail
  generalize w3.alloc (.cells #[.slice Aa0 na0 ca0, .slice Aa1 na1 ca1] 44) = w4 at *
  refine (iReadAt_any _ _ t.a i _ ((ha.keep c).up c.size) (by omega)).mono ?_
  rintro e w5 ⟨Ax0, nx0, cx0, rfl, o, b⟩
  obtain ⟨fp_x, S'⟩ := S.has b o c.size
  replace c := c.trans (b.mono c.size)
  clear S; have S := S'; clear S' o b f8 f9
  rw [HA.out]
  go_wp2_with fail
  refine (iUnsD _ _ _ _ _ ((S.own_ 0 rfl).rd) (readAt_sz _ _ hsa)).mono ?_
  rintro e w6 ⟨Ap0, np0, cp0, rfl, o, b⟩
  obtain ⟨fp_p, S'⟩ := S.has b o c.size
  replace c := c.trans (b.mono c.size)
  clear S; have S := S'; clear S' o b
  rw [H1.out]
  replace S := S.sub (.cons_cons _ (.cons _ (.cons _ (.cons_cons _ (List.nil_sublist _)))))
  change Sep _ _ [.own (rowCells (rightOf t.a i).1) _ _, _] at S
  replace S := S.own0 (ow_nil_kept _)
  go_wp2
  rw [rounds_succ]
  replace S := S.boxAt c.size (w6.heap.size) rfl #[.slice Aa2 na2 ca2, .slice Aa3 na3 ca3] 44
  replace c := al c S
  have f10 := lk S 0 0 rfl rfl
  have f11 := lk S 0 1 rfl rfl
  go_wp2_with fail
  generalize w6.alloc (.cells #[.slice Aa2 na2 ca2, .slice Aa3 na3 ca3] 44) = w7 at *
  refine (iReadAt_any _ _ t.b i _ ((hb.keep c).up c.size) (by omega)).mono ?_
  rintro e w8 ⟨Ay0, ny0, cy0, rfl, o, b⟩
  obtain ⟨fp_y, S'⟩ := S.has b o c.size
  replace c := c.trans (b.mono c.size)
  clear S; have S := S'; clear S' o b f10 f11
  rw [HB.out]
  go_wp2_with fail
  refine (iUnsD _ _ _ _ _ ((S.own_ 0 rfl).rd) (readAt_sz _ _ hsb)).mono ?_
  rintro e w9 ⟨Aq0, nq0, cq0, rfl, o, b⟩
  obtain ⟨fp_q, S'⟩ := S.has b o c.size
  replace c := c.trans (b.mono c.size)
  clear S; have S := S'; clear S' o b
  rw [H2.out]
  go_wp2_with fail
  refine (iHasRow_any _ _ _ ([]) _ _ _ (rightOf t.b i).1 _ _ _ ((S.own_ 3 rfl).rd) ((S.own_ 0 rfl).rd) (by decide) hq1).mono ?_
  rintro e w10 ⟨rfl, b⟩
  replace c := c.trans (b.mono c.size)
  replace S := S.keep b
  clear b
  rw [hasRow_nil]
  skip
  replace S := S.boxAt c.size (w10.heap.size) rfl #[.slice Aq0 nq0 cq0] 30
  replace c := al c S
  have HC : ∀ i, i < 1 → (w10.alloc (.cells #[.slice Aq0 nq0 cq0] 30)).cell? ⟨w10.heap.size, i, none⟩ = [Value.slice Aq0 nq0 cq0][i]? := fun i hi => by
   have h1 := (S.at_ 0 rfl).cell i
   have : i = 0 := by omega
   subst this
   exact h1
  replace S := S.pick 1 rfl
  replace S := S.pick 4 rfl
  go_wp2_with (first
   | (at_builtin
      refine wpList_append_elem (l := []) (y := (rightOf t.b i).1) rfl (.tmp 39) (.tmp 41) (by rfl) Try.underlying36 infoRow (by rfl) (by decide) rowC_len (by rfl) (S.own_ 0 rfl) (S.nodup_own 0 rfl) (by rfl) HC (S.own_ 1 rfl) (S.nodup_own 1 rfl) S.apart (by omega) (by omega) ?_
      intro Am0 cm0 w11 fp_m o3 n3 s3 t3))
  have S' := S.merge t3 o3 n3 s3 c.size
  replace c := c.trans (S.below 0 rfl t3 c.size)
  clear S; have S := S'; clear S' o3 n3 s3 t3 HC
  replace S := S.sub (.cons_cons _ (List.nil_sublist _))
  have H := jd S.first
  have C := jd c
  clear S c h ha hb
  rw [rounds_succ]
  go_wp2
  go_ret
  exact ⟨_, _, _, rfl, by rw [HR.out]; exact H.out, C.out⟩
 have H1 := jd (show (unsummed (readAt t.a i).1).2 = true from h1)
 cases h2 : (rightOf t.b i).2
 case false =>
  have HR := jd (show rightAt t i = [] ++ [(rightOf t.a i).1] by simp [rightAt, h1, h2, hok, hh])
  have H2 := jd (show (unsummed (readAt t.b i).1).2 = false from h2)
  clear hok hh h1 h2
  have S := Sep.nil w w.heap.size
  have c := Below.refl w.heap.size w
  replace S := S.boxAt c.size (w.heap.size) rfl #[.slice Aa0 na0 ca0, .slice Aa1 na1 ca1, .slice Aa2 na2 ca2, .slice Aa3 na3 ca3] 60
  replace c := al c S
  go_enter Try.func77, Try.ntmps77
  have f0 := lk S 0 0 rfl rfl
  have f1 := lk S 0 1 rfl rfl
  have f2 := lk S 0 2 rfl rfl
  have f3 := lk S 0 3 rfl rfl
  go_wp2_with fail
  generalize w.alloc (.cells #[.slice Aa0 na0 ca0, .slice Aa1 na1 ca1, .slice Aa2 na2 ca2, .slice Aa3 na3 ca3] 60) = w1 at *
  refine (iTwoOk_any _ _ _ _ _ _ _ _ _ _ _ _ t _ _ (h.keep c) c.size (by omega)).mono ?_
  rintro e w2 ⟨rfl, b⟩
  replace c := c.trans (b.mono c.size)
  replace S := S.keep b
  clear b f0 f1 f2 f3
  rw [HT.out]
  have hix0 : ∀ w9, (Instr.index 97 (.agg #[.slice Aa0 na0 ca0, .slice Aa1 na1 ca1, .slice Aa2 na2 ca2, .slice Aa3 na3 ca3]) (.int .i64 0)).run Try.prog w9 = .ok (.agg #[.slice Aa0 na0 ca0, .slice Aa1 na1 ca1]) w9 := fun _ => by kernel_rfl
  have hix1 : ∀ w9, (Instr.index 97 (.agg #[.slice Aa0 na0 ca0, .slice Aa1 na1 ca1, .slice Aa2 na2 ca2, .slice Aa3 na3 ca3]) (.int .i64 1)).run Try.prog w9 = .ok (.agg #[.slice Aa2 na2 ca2, .slice Aa3 na3 ca3]) w9 := fun _ => by kernel_rfl
  have f4 := lk S 0 0 rfl rfl
  have f5 := lk S 0 1 rfl rfl
  have f6 := lk S 0 2 rfl rfl
  have f7 := lk S 0 3 rfl rfl
  go_wp2_with fail
  refine (iDisks_any _ _ _ _ _ _ _ _ _ _ _ _ _).mono ?_
  rintro e w3 ⟨rfl, b⟩
  replace c := c.trans (b.mono c.size)
  replace S := S.keep b
  clear b f4 f5 f6 f7
  go_wp2
  refine wp_loop_rounds 3 ?_
  rw [rounds_succ]
  replace S := S.boxAt c.size (w3.heap.size) rfl #[.slice Aa0 na0 ca0, .slice Aa1 na1 ca1] 44
  replace c := al c S
  have f8 := lk S 0 0 rfl rfl
  have f9 := lk S 0 1 rfl rfl
  go_wp2_with fail
  generalize w3.alloc (.cells #[.slice Aa0 na0 ca0, .slice Aa1 na1 ca1] 44) = w4 at *
  refine (iReadAt_any _ _ t.a i _ ((ha.keep c).up c.size) (by omega)).mono ?_
  rintro e w5 ⟨Ax0, nx0, cx0, rfl, o, b⟩
  obtain ⟨fp_x, S'⟩ := S.has b o c.size
  replace c := c.trans (b.mono c.size)
  clear S; have S := S'; clear S' o b f8 f9
  rw [HA.out]
  go_wp2_with fail
  refine (iUnsD _ _ _ _ _ ((S.own_ 0 rfl).rd) (readAt_sz _ _ hsa)).mono ?_
  rintro e w6 ⟨Ap0, np0, cp0, rfl, o, b⟩
  obtain ⟨fp_p, S'⟩ := S.has b o c.size
  replace c := c.trans (b.mono c.size)
  clear S; have S := S'; clear S' o b
  rw [H1.out]
  replace S := S.sub (.cons_cons _ (.cons _ (.cons _ (.cons_cons _ (List.nil_sublist _)))))
  change Sep _ _ [.own (rowCells (rightOf t.a i).1) _ _, _] at S
  replace S := S.own0 (ow_nil_kept _)
  go_wp2_with fail
  refine (iHasRow_any _ _ _ [] _ _ _ (rightOf t.a i).1 _ _ _ ((S.own_ 0 rfl).rd) ((S.own_ 1 rfl).rd) (by decide) hp1).mono ?_
  rintro e w7 ⟨rfl, b⟩
  replace c := c.trans (b.mono c.size)
  replace S := S.keep b
  clear b
  rw [hasRow_nil]
  replace S := S.boxAt c.size (w7.heap.size) rfl #[.slice Ap0 np0 cp0] 30
  replace c := al c S
  have HC : ∀ i, i < 1 → (w7.alloc (.cells #[.slice Ap0 np0 cp0] 30)).cell? ⟨w7.heap.size, i, none⟩ = [Value.slice Ap0 np0 cp0][i]? := fun i hi => by
   have h1 := (S.at_ 0 rfl).cell i
   have : i = 0 := by omega
   subst this
   exact h1
  replace S := S.pick 2 rfl
  replace S := S.pick 2 rfl
  go_wp2_with (first
   | (at_builtin
      refine wpList_append_elem (l := []) (y := (rightOf t.a i).1) rfl (.tmp 39) (.tmp 41) (by rfl) Try.underlying36 infoRow (by rfl) (by decide) rowC_len (by rfl) (S.own_ 0 rfl) (S.nodup_own 0 rfl) (by rfl) HC (S.own_ 1 rfl) (S.nodup_own 1 rfl) S.apart (by omega) (by omega) ?_
      intro Al0 cl0 w8 fp_l o3 n3 s3 t3))
  have S' := S.merge t3 o3 n3 s3 c.size
  replace c := c.trans (S.below 0 rfl t3 c.size)
  clear S; have S := S'; clear S' o3 n3 s3 t3 HC
  rw [rounds_succ]
  replace S := S.boxAt c.size (w8.heap.size) rfl #[.slice Aa2 na2 ca2, .slice Aa3 na3 ca3] 44
  replace c := al c S
  have f10 := lk S 0 0 rfl rfl
  have f11 := lk S 0 1 rfl rfl
  go_wp2_with fail
  generalize w8.alloc (.cells #[.slice Aa2 na2 ca2, .slice Aa3 na3 ca3] 44) = w9 at *
  refine (iReadAt_any _ _ t.b i _ ((hb.keep c).up c.size) (by omega)).mono ?_
  rintro e w10 ⟨Ay0, ny0, cy0, rfl, o, b⟩
  obtain ⟨fp_y, S'⟩ := S.has b o c.size
  replace c := c.trans (b.mono c.size)
  clear S; have S := S'; clear S' o b f10 f11
  rw [HB.out]
  go_wp2_with fail
  refine (iUnsD _ _ _ _ _ ((S.own_ 0 rfl).rd) (readAt_sz _ _ hsb)).mono ?_
  rintro e w11 ⟨Aq0, nq0, cq0, rfl, o, b⟩
  obtain ⟨fp_q, S'⟩ := S.has b o c.size
  replace c := c.trans (b.mono c.size)
  clear S; have S := S'; clear S' o b
  rw [H2.out]
  replace S := S.sub (.cons _ (.cons _ (.cons _ (.cons_cons _ (List.nil_sublist _)))))
  have H := jd S.first
  have C := jd c
  clear S c h ha hb
  go_wp2
  rw [rounds_succ]
  go_wp2
  go_ret
  exact ⟨_, _, _, rfl, by rw [HR.out]; exact H.out, C.out⟩
 have H2 := jd (show (unsummed (readAt t.b i).1).2 = true from h2)
 have HS0 : hasRow ([] ++ [(rightOf t.a i).1]) (rightOf t.b i).1 = sameI (rightOf t.a i).1 (rightOf t.b i).1 := by simp [hasRow]
 cases hsm : sameI (rightOf t.a i).1 (rightOf t.b i).1
 case true =>
  have HS := jd (HS0.trans hsm)
  have HR := jd (show rightAt t i = [] ++ [(rightOf t.a i).1] by
   have e : (rightOf t.a i).1 = (rightOf t.b i).1 := by simpa [sameI] using hsm
   simp [rightAt, h1, h2, hok, hh, e])
  clear hok hh h1 h2 hsm HS0
  have S := Sep.nil w w.heap.size
  have c := Below.refl w.heap.size w
  replace S := S.boxAt c.size (w.heap.size) rfl #[.slice Aa0 na0 ca0, .slice Aa1 na1 ca1, .slice Aa2 na2 ca2, .slice Aa3 na3 ca3] 60
  replace c := al c S
  go_enter Try.func77, Try.ntmps77
  have f0 := lk S 0 0 rfl rfl
  have f1 := lk S 0 1 rfl rfl
  have f2 := lk S 0 2 rfl rfl
  have f3 := lk S 0 3 rfl rfl
  go_wp2_with fail
  generalize w.alloc (.cells #[.slice Aa0 na0 ca0, .slice Aa1 na1 ca1, .slice Aa2 na2 ca2, .slice Aa3 na3 ca3] 60) = w1 at *
  refine (iTwoOk_any _ _ _ _ _ _ _ _ _ _ _ _ t _ _ (h.keep c) c.size (by omega)).mono ?_
  rintro e w2 ⟨rfl, b⟩
  replace c := c.trans (b.mono c.size)
  replace S := S.keep b
  clear b f0 f1 f2 f3
  rw [HT.out]
  have hix0 : ∀ w9, (Instr.index 97 (.agg #[.slice Aa0 na0 ca0, .slice Aa1 na1 ca1, .slice Aa2 na2 ca2, .slice Aa3 na3 ca3]) (.int .i64 0)).run Try.prog w9 = .ok (.agg #[.slice Aa0 na0 ca0, .slice Aa1 na1 ca1]) w9 := fun _ => by kernel_rfl
  have hix1 : ∀ w9, (Instr.index 97 (.agg #[.slice Aa0 na0 ca0, .slice Aa1 na1 ca1, .slice Aa2 na2 ca2, .slice Aa3 na3 ca3]) (.int .i64 1)).run Try.prog w9 = .ok (.agg #[.slice Aa2 na2 ca2, .slice Aa3 na3 ca3]) w9 := fun _ => by kernel_rfl
  have f4 := lk S 0 0 rfl rfl
  have f5 := lk S 0 1 rfl rfl
  have f6 := lk S 0 2 rfl rfl
  have f7 := lk S 0 3 rfl rfl
  go_wp2_with fail
  refine (iDisks_any _ _ _ _ _ _ _ _ _ _ _ _ _).mono ?_
  rintro e w3 ⟨rfl, b⟩
  replace c := c.trans (b.mono c.size)
  replace S := S.keep b
  clear b f4 f5 f6 f7
  go_wp2
  refine wp_loop_rounds 3 ?_
  rw [rounds_succ]
  replace S := S.boxAt c.size (w3.heap.size) rfl #[.slice Aa0 na0 ca0, .slice Aa1 na1 ca1] 44
  replace c := al c S
  have f8 := lk S 0 0 rfl rfl
  have f9 := lk S 0 1 rfl rfl
  go_wp2_with fail
  generalize w3.alloc (.cells #[.slice Aa0 na0 ca0, .slice Aa1 na1 ca1] 44) = w4 at *
  refine (iReadAt_any _ _ t.a i _ ((ha.keep c).up c.size) (by omega)).mono ?_
  rintro e w5 ⟨Ax0, nx0, cx0, rfl, o, b⟩
  obtain ⟨fp_x, S'⟩ := S.has b o c.size
  replace c := c.trans (b.mono c.size)
  clear S; have S := S'; clear S' o b f8 f9
  rw [HA.out]
  go_wp2_with fail
  refine (iUnsD _ _ _ _ _ ((S.own_ 0 rfl).rd) (readAt_sz _ _ hsa)).mono ?_
  rintro e w6 ⟨Ap0, np0, cp0, rfl, o, b⟩
  obtain ⟨fp_p, S'⟩ := S.has b o c.size
  replace c := c.trans (b.mono c.size)
  clear S; have S := S'; clear S' o b
  rw [H1.out]
  replace S := S.sub (.cons_cons _ (.cons _ (.cons _ (.cons_cons _ (List.nil_sublist _)))))
  change Sep _ _ [.own (rowCells (rightOf t.a i).1) _ _, _] at S
  replace S := S.own0 (ow_nil_kept _)
  go_wp2_with fail
  refine (iHasRow_any _ _ _ [] _ _ _ (rightOf t.a i).1 _ _ _ ((S.own_ 0 rfl).rd) ((S.own_ 1 rfl).rd) (by decide) hp1).mono ?_
  rintro e w7 ⟨rfl, b⟩
  replace c := c.trans (b.mono c.size)
  replace S := S.keep b
  clear b
  rw [hasRow_nil]
  replace S := S.boxAt c.size (w7.heap.size) rfl #[.slice Ap0 np0 cp0] 30
  replace c := al c S
  have HC : ∀ i, i < 1 → (w7.alloc (.cells #[.slice Ap0 np0 cp0] 30)).cell? ⟨w7.heap.size, i, none⟩ = [Value.slice Ap0 np0 cp0][i]? := fun i hi => by
   have h1 := (S.at_ 0 rfl).cell i
   have : i = 0 := by omega
   subst this
   exact h1
  replace S := S.pick 2 rfl
  replace S := S.pick 2 rfl
  go_wp2_with (first
   | (at_builtin
      refine wpList_append_elem (l := []) (y := (rightOf t.a i).1) rfl (.tmp 39) (.tmp 41) (by rfl) Try.underlying36 infoRow (by rfl) (by decide) rowC_len (by rfl) (S.own_ 0 rfl) (S.nodup_own 0 rfl) (by rfl) HC (S.own_ 1 rfl) (S.nodup_own 1 rfl) S.apart (by omega) (by omega) ?_
      intro Al0 cl0 w8 fp_l o3 n3 s3 t3))
  have S' := S.merge t3 o3 n3 s3 c.size
  replace c := c.trans (S.below 0 rfl t3 c.size)
  clear S; have S := S'; clear S' o3 n3 s3 t3 HC
  rw [rounds_succ]
  replace S := S.boxAt c.size (w8.heap.size) rfl #[.slice Aa2 na2 ca2, .slice Aa3 na3 ca3] 44
  replace c := al c S
  have f10 := lk S 0 0 rfl rfl
  have f11 := lk S 0 1 rfl rfl
  go_wp2_with fail
  generalize w8.alloc (.cells #[.slice Aa2 na2 ca2, .slice Aa3 na3 ca3] 44) = w9 at *
  refine (iReadAt_any _ _ t.b i _ ((hb.keep c).up c.size) (by omega)).mono ?_
  rintro e w10 ⟨Ay0, ny0, cy0, rfl, o, b⟩
  obtain ⟨fp_y, S'⟩ := S.has b o c.size
  replace c := c.trans (b.mono c.size)
  clear S; have S := S'; clear S' o b f10 f11
  rw [HB.out]
  go_wp2_with fail
  refine (iUnsD _ _ _ _ _ ((S.own_ 0 rfl).rd) (readAt_sz _ _ hsb)).mono ?_
  rintro e w11 ⟨Aq0, nq0, cq0, rfl, o, b⟩
  obtain ⟨fp_q, S'⟩ := S.has b o c.size
  replace c := c.trans (b.mono c.size)
  clear S; have S := S'; clear S' o b
  rw [H2.out]
  go_wp2_with fail
  refine (iHasRow_any _ _ _ ([] ++ [(rightOf t.a i).1]) _ _ _ (rightOf t.b i).1 _ _ _ ((S.own_ 3 rfl).rd) ((S.own_ 0 rfl).rd) hl1 hq1).mono ?_
  rintro e w12 ⟨rfl, b⟩
  replace c := c.trans (b.mono c.size)
  replace S := S.keep b
  clear b
  rw [HS.out]
  replace S := S.sub (.cons _ (.cons _ (.cons _ (.cons_cons _ (List.nil_sublist _)))))
  have H := jd S.first
  have C := jd c
  clear S c h ha hb
  go_wp2
  rw [rounds_succ]
  go_wp2
  go_ret
  exact ⟨_, _, _, rfl, by rw [HR.out]; exact H.out, C.out⟩
 have HS := jd (HS0.trans hsm)
 have HR := jd (show rightAt t i = [] ++ [(rightOf t.a i).1] ++ [(rightOf t.b i).1] by
  have e : ¬ ((rightOf t.a i).1 = (rightOf t.b i).1) := by simpa [sameI] using hsm
  simp [rightAt, h1, h2, hok, hh, e])
 clear hok hh h1 h2 hsm HS0
 have S := Sep.nil w w.heap.size
 have c := Below.refl w.heap.size w
 replace S := S.boxAt c.size (w.heap.size) rfl #[.slice Aa0 na0 ca0, .slice Aa1 na1 ca1, .slice Aa2 na2 ca2, .slice Aa3 na3 ca3] 60
 replace c := al c S
 go_enter Try.func77, Try.ntmps77
 have f0 := lk S 0 0 rfl rfl
 have f1 := lk S 0 1 rfl rfl
 have f2 := lk S 0 2 rfl rfl
 have f3 := lk S 0 3 rfl rfl
 go_wp2_with fail
 generalize w.alloc (.cells #[.slice Aa0 na0 ca0, .slice Aa1 na1 ca1, .slice Aa2 na2 ca2, .slice Aa3 na3 ca3] 60) = w1 at *
 refine (iTwoOk_any _ _ _ _ _ _ _ _ _ _ _ _ t _ _ (h.keep c) c.size (by omega)).mono ?_
 rintro e w2 ⟨rfl, b⟩
 replace c := c.trans (b.mono c.size)
 replace S := S.keep b
 clear b f0 f1 f2 f3
 rw [HT.out]
 have hix0 : ∀ w9, (Instr.index 97 (.agg #[.slice Aa0 na0 ca0, .slice Aa1 na1 ca1, .slice Aa2 na2 ca2, .slice Aa3 na3 ca3]) (.int .i64 0)).run Try.prog w9 = .ok (.agg #[.slice Aa0 na0 ca0, .slice Aa1 na1 ca1]) w9 := fun _ => by kernel_rfl
 have hix1 : ∀ w9, (Instr.index 97 (.agg #[.slice Aa0 na0 ca0, .slice Aa1 na1 ca1, .slice Aa2 na2 ca2, .slice Aa3 na3 ca3]) (.int .i64 1)).run Try.prog w9 = .ok (.agg #[.slice Aa2 na2 ca2, .slice Aa3 na3 ca3]) w9 := fun _ => by kernel_rfl
 have f4 := lk S 0 0 rfl rfl
 have f5 := lk S 0 1 rfl rfl
 have f6 := lk S 0 2 rfl rfl
 have f7 := lk S 0 3 rfl rfl
 go_wp2_with fail
 refine (iDisks_any _ _ _ _ _ _ _ _ _ _ _ _ _).mono ?_
 rintro e w3 ⟨rfl, b⟩
 replace c := c.trans (b.mono c.size)
 replace S := S.keep b
 clear b f4 f5 f6 f7
 go_wp2
 refine wp_loop_rounds 3 ?_
 rw [rounds_succ]
 replace S := S.boxAt c.size (w3.heap.size) rfl #[.slice Aa0 na0 ca0, .slice Aa1 na1 ca1] 44
 replace c := al c S
 have f8 := lk S 0 0 rfl rfl
 have f9 := lk S 0 1 rfl rfl
 go_wp2_with fail
 generalize w3.alloc (.cells #[.slice Aa0 na0 ca0, .slice Aa1 na1 ca1] 44) = w4 at *
 refine (iReadAt_any _ _ t.a i _ ((ha.keep c).up c.size) (by omega)).mono ?_
 rintro e w5 ⟨Ax0, nx0, cx0, rfl, o, b⟩
 obtain ⟨fp_x, S'⟩ := S.has b o c.size
 replace c := c.trans (b.mono c.size)
 clear S; have S := S'; clear S' o b f8 f9
 rw [HA.out]
 go_wp2_with fail
 refine (iUnsD _ _ _ _ _ ((S.own_ 0 rfl).rd) (readAt_sz _ _ hsa)).mono ?_
 rintro e w6 ⟨Ap0, np0, cp0, rfl, o, b⟩
 obtain ⟨fp_p, S'⟩ := S.has b o c.size
 replace c := c.trans (b.mono c.size)
 clear S; have S := S'; clear S' o b
 rw [H1.out]
 replace S := S.sub (.cons_cons _ (.cons _ (.cons _ (.cons_cons _ (List.nil_sublist _)))))
 change Sep _ _ [.own (rowCells (rightOf t.a i).1) _ _, _] at S
 replace S := S.own0 (ow_nil_kept _)
 go_wp2_with fail
 refine (iHasRow_any _ _ _ [] _ _ _ (rightOf t.a i).1 _ _ _ ((S.own_ 0 rfl).rd) ((S.own_ 1 rfl).rd) (by decide) hp1).mono ?_
 rintro e w7 ⟨rfl, b⟩
 replace c := c.trans (b.mono c.size)
 replace S := S.keep b
 clear b
 rw [hasRow_nil]
 replace S := S.boxAt c.size (w7.heap.size) rfl #[.slice Ap0 np0 cp0] 30
 replace c := al c S
 have HC : ∀ i, i < 1 → (w7.alloc (.cells #[.slice Ap0 np0 cp0] 30)).cell? ⟨w7.heap.size, i, none⟩ = [Value.slice Ap0 np0 cp0][i]? := fun i hi => by
  have h1 := (S.at_ 0 rfl).cell i
  have : i = 0 := by omega
  subst this
  exact h1
 replace S := S.pick 2 rfl
 replace S := S.pick 2 rfl
 go_wp2_with (first
  | (at_builtin
     refine wpList_append_elem (l := []) (y := (rightOf t.a i).1) rfl (.tmp 39) (.tmp 41) (by rfl) Try.underlying36 infoRow (by rfl) (by decide) rowC_len (by rfl) (S.own_ 0 rfl) (S.nodup_own 0 rfl) (by rfl) HC (S.own_ 1 rfl) (S.nodup_own 1 rfl) S.apart (by omega) (by omega) ?_
     intro Al0 cl0 w8 fp_l o3 n3 s3 t3))
 have S' := S.merge t3 o3 n3 s3 c.size
 replace c := c.trans (S.below 0 rfl t3 c.size)
 clear S; have S := S'; clear S' o3 n3 s3 t3 HC
 rw [rounds_succ]
 replace S := S.boxAt c.size (w8.heap.size) rfl #[.slice Aa2 na2 ca2, .slice Aa3 na3 ca3] 44
 replace c := al c S
 have f10 := lk S 0 0 rfl rfl
 have f11 := lk S 0 1 rfl rfl
 go_wp2_with fail
 generalize w8.alloc (.cells #[.slice Aa2 na2 ca2, .slice Aa3 na3 ca3] 44) = w9 at *
 refine (iReadAt_any _ _ t.b i _ ((hb.keep c).up c.size) (by omega)).mono ?_
 rintro e w10 ⟨Ay0, ny0, cy0, rfl, o, b⟩
 obtain ⟨fp_y, S'⟩ := S.has b o c.size
 replace c := c.trans (b.mono c.size)
 clear S; have S := S'; clear S' o b f10 f11
 rw [HB.out]
 go_wp2_with fail
 refine (iUnsD _ _ _ _ _ ((S.own_ 0 rfl).rd) (readAt_sz _ _ hsb)).mono ?_
 rintro e w11 ⟨Aq0, nq0, cq0, rfl, o, b⟩
 obtain ⟨fp_q, S'⟩ := S.has b o c.size
 replace c := c.trans (b.mono c.size)
 clear S; have S := S'; clear S' o b
 rw [H2.out]
 go_wp2_with fail
 refine (iHasRow_any _ _ _ ([] ++ [(rightOf t.a i).1]) _ _ _ (rightOf t.b i).1 _ _ _ ((S.own_ 3 rfl).rd) ((S.own_ 0 rfl).rd) hl1 hq1).mono ?_
 rintro e w12 ⟨rfl, b⟩
 replace c := c.trans (b.mono c.size)
 replace S := S.keep b
 clear b
 rw [HS.out]
 skip
 replace S := S.boxAt c.size (w12.heap.size) rfl #[.slice Aq0 nq0 cq0] 30
 replace c := al c S
 have HC : ∀ i, i < 1 → (w12.alloc (.cells #[.slice Aq0 nq0 cq0] 30)).cell? ⟨w12.heap.size, i, none⟩ = [Value.slice Aq0 nq0 cq0][i]? := fun i hi => by
  have h1 := (S.at_ 0 rfl).cell i
  have : i = 0 := by omega
  subst this
  exact h1
 replace S := S.pick 1 rfl
 replace S := S.pick 4 rfl
 go_wp2_with (first
  | (at_builtin
     refine wpList_append_elem (l := [] ++ [(rightOf t.a i).1]) (y := (rightOf t.b i).1) rfl (.tmp 39) (.tmp 41) (by rfl) Try.underlying36 infoRow (by rfl) (by decide) rowC_len (by rfl) (S.own_ 0 rfl) (S.nodup_own 0 rfl) (by rfl) HC (S.own_ 1 rfl) (S.nodup_own 1 rfl) S.apart (by omega) (by omega) ?_
     intro Am0 cm0 w13 fp_m o3 n3 s3 t3))
 have S' := S.merge t3 o3 n3 s3 c.size
 replace c := c.trans (S.below 0 rfl t3 c.size)
 clear S; have S := S'; clear S' o3 n3 s3 t3 HC
 replace S := S.sub (.cons_cons _ (List.nil_sublist _))
 have H := jd S.first
 have C := jd c
 clear S c h ha hb
 rw [rounds_succ]
 go_wp2
 go_ret
 exact ⟨_, _, _, rfl, by rw [HR.out]; exact H.out, C.out⟩
end Go.Proofs.Ytmjifhjhialcbaa
