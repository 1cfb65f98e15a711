/- Parts of my texts: KI. -/
import Derived.Test.YtmjifhjhialcbaaU19
namespace Go.Proofs.Ytmjifhjhialcbaa
set_option maxRecDepth 100000
set_option linter.unusedVariables false
open Go.RowKit
set_option maxHeartbeats 800000 in
theorem iHas_any (A A' : Option Addr) (n c n' c' : Nat) (d : DiskM) (i : Int) (w : World) (hl : d.kept.length = n) (_hn : n ≤ 1048577) :
    Calls Try.prog 37 #[.agg #[.slice A n c, .slice A' n' c'], .int .i64 i] w fun e w' => e = .returned (.bool (hasS d i)) ∧ Below w.heap.size w w' := by
 have B0 := jd ((Below.refl w.heap.size w).alloc (Nat.le_refl _) (.cells #[.slice A n c, .slice A' n' c'] 44))
 by_cases hi : 0 ≤ i
 · have HH := jd (show hasS d i = decide (i < (n : Int)) by
     unfold hasS
     rw [hl, decide_eq_true hi, Bool.true_and]
     exact decide_eq_decide.2 (by omega))
   clear hl
   go_enter Try.func37, Try.ntmps37
   go_wp2
   go_ret
   exact ⟨ret_bool HH.out.symm, B0.out⟩
 · have HH := jd (show hasS d i = false by
     unfold hasS
     rw [decide_eq_false hi, Bool.false_and])
   clear hl
   go_enter Try.func37, Try.ntmps37
   go_wp2
   go_ret
   exact ⟨ret_bool HH.out.symm, B0.out⟩
set_option maxHeartbeats 3200000 in
theorem iDiskOk_any (v0 v1 : Value) (d : DiskM) (B : Nat) (w : World) (h : Rd w B d.cells [v0, v1]) (hB : B ≤ w.heap.size) (hs : d.sz ≤ 1048577) :
    Calls Try.prog 35 #[.agg #[v0, v1]] w fun e w' => e = .returned (.bool (diskOk d)) ∧ Below w.heap.size w w' := by
 obtain ⟨A, n, c, A', n', c', rfl, rfl, h1, h2⟩ := h.disk
 obtain ⟨_, _, _, e, hl1, _, _, hel1⟩ := h1.kept
 injection e with e1 e2 e3
 subst e1 e2 e3
 obtain ⟨_, _, _, e, hl2, _, _, hel2⟩ := h2.wait
 injection e with e1 e2 e3
 subst e1 e2 e3
 have hn : n ≤ 1048577 := by unfold DiskM.sz rowsSz at hs; omega
 have hn' : n' ≤ 1048577 := by unfold DiskM.sz waitSz at hs; omega
 have HS := jd hs
 have HL1 := jd hl1
 have HL2 := jd hl2
 clear h h1 h2 hs hl1 hl2
 by_cases hbad : n < 1 ∨ 40 < n ∨ 60 < n'
 · have HD := jd (show diskOk d = false from diskOk_no fun h' => by
     have a1 := HL1.out
     have a2 := HL2.out
     omega)
   have B0 := jd ((Below.refl w.heap.size w).alloc (Nat.le_refl _) (.cells #[.slice A n c, .slice A' n' c'] 44))
   clear hel1 hel2
   rcases Nat.lt_or_ge n 1 with g1 | g1
   · go_enter Try.func35, Try.ntmps35
     go_wp2
     go_ret
     exact ⟨ret_bool HD.out.symm, B0.out⟩
   · rcases Nat.lt_or_ge 40 n with g2 | g2
     · go_enter Try.func35, Try.ntmps35
       go_wp2
       go_ret
       exact ⟨ret_bool HD.out.symm, B0.out⟩
     · have g3 : 60 < n' := by omega
       go_enter Try.func35, Try.ntmps35
       go_wp2
       go_ret
       exact ⟨ret_bool HD.out.symm, B0.out⟩
 have g1 : 1 ≤ n := by omega
 have g2 : n ≤ 40 := by omega
 have g3 : n' ≤ 60 := by omega
 clear hbad
 obtain ⟨w0, hw0⟩ : ∃ w0, w0 = w.alloc (.cells #[.slice A n c, .slice A' n' c'] 44) := ⟨_, rfl⟩
 have b0 : Below w.heap.size w w0 := by rw [hw0]; exact (Below.refl _ w).alloc (Nat.le_refl _) _
 have p0 : Blk w0 w.heap.size #[.slice A n c, .slice A' n' c'] 44 := by rw [hw0]; exact Blk.new w _ _
 have HW := jd hw0
 have k0 : w0.cell? ⟨w.heap.size, 0, none⟩ = some (.slice A n c) := p0.cell 0
 have k1 : w0.cell? ⟨w.heap.size, 1, none⟩ = some (.slice A' n' c') := p0.cell 1
 have P0 := jd p0
 have B0 := jd b0
 clear hw0 p0 b0
 go_enter Try.func35, Try.ntmps35
 go_wp2
 rw [← HW.out]
 go_loop [26] (fun i => ∃ j : Nat, j ≤ n ∧ i = .int .i64 (j : Int) ∧ (d.kept.take j).all rowOk = true) (fun i => n - (intOf i).toNat)
 case atStart => exact ⟨0, Nat.zero_le _, rfl, by simp⟩
 case round =>
  obtain ⟨j, hj, rfl, hall⟩ := hrel
  by_cases hlt : j < n
  · obtain ⟨b, off, rfl, hb, hc⟩ := hel1 (by omega)
    have hjl : j < d.kept.length := by have := HL1.out; omega
    obtain ⟨A1, m1, d1, hcell, hrow, hm1, hm2⟩ := hc j hjl
    have hm : m1 ≤ 1048577 := by
     have h1 := pre_at (g := List.length) hjl
     have h2 := HS.out
     have h3 := hrow.1
     unfold DiskM.sz rowsSz at h2
     omega
    have hr := hrow.below (B0.out.mono hB)
    have ce := (B0.out.cell (p := ⟨b, off + j, none⟩) (show b < _ by omega)).trans hcell
    cases hok : rowOk d.kept[j]
    · have HD := jd (ok_kept_bad hjl hok)
      have HO := jd hok
      clear hc hrow hcell hel1 hel2 hok
      go_wp2_with fail
      refine (iRowOk_any A1 m1 d1 _ _ _ hr hm).mono ?_
      rintro e w1 ⟨rfl, rfl⟩
      rw [HO.out]
      go_wp2
      go_ret
      exact ⟨ret_bool HD.out.symm, B0.out⟩
    · have HA := jd (all_step hjl hall hok)
      have HO := jd hok
      clear hc hrow hcell hel1 hel2 hok hall
      go_wp2_with fail
      refine (iRowOk_any A1 m1 d1 _ _ _ hr hm).mono ?_
      rintro e w1 ⟨rfl, rfl⟩
      rw [HO.out]
      go_wp2
      go_round
      case rel => exact ⟨j + 1, by omega, by go_num, HA.out⟩
      case measure => simp [intOf]; omega
  · have hjn : j = d.kept.length := by have := HL1.out; omega
    have HK := jd (show d.kept.all rowOk = true by rw [hjn, List.take_of_length_le (Nat.le_refl _)] at hall; exact hall)
    clear hjn hall hel1 k0 k1
    have hi : ¬ ((j : Int) < (n : Int)) := by omega
    have k0 : w0.cell? ⟨w.heap.size, 0, none⟩ = some (.slice A n c) := P0.out.cell 0
    have k1 : w0.cell? ⟨w.heap.size, 1, none⟩ = some (.slice A' n' c') := P0.out.cell 1
    go_wp2
    go_loopw [37] (fun i wr => ∃ j : Nat, j ≤ n' ∧ i = .int .i64 (j : Int) ∧ (d.wait.take j).all (wrOk d) = true ∧ Below w0.heap.size w0 wr) (fun i _ => n' - (intOf i).toNat)
    case atStart => exact ⟨0, Nat.zero_le _, rfl, by simp, Below.refl _ _⟩
    case round =>
     obtain ⟨j2, hj2, rfl, hall2, hbel⟩ := hrel
     have pr := P0.out.keep hbel P0.out.lt
     have BR := jd (B0.out.trans (hbel.mono B0.out.size))
     have RR := jd hbel
     by_cases hlt2 : j2 < n'
     · obtain ⟨b, off, rfl, hb, hc⟩ := hel2 (by omega)
       have hjl : j2 < d.wait.length := by have := HL2.out; omega
       obtain ⟨A1, m1, d1, hcell, hcell2, hrow, hm1, hm2⟩ := hc j2 hjl
       have hm : m1 ≤ 1048577 := by
        have h1 := pre_at (g := wrSz) hjl
        have h2 := HS.out
        have h3 : wrSz d.wait[j2] = m1 := hrow.1
        unfold DiskM.sz waitSz at h2
        omega
       have ce := (BR.out.cell (p := ⟨b, off + j2 * 2, none⟩) (show b < _ by omega)).trans hcell
       have ce2 := (BR.out.cell (p := ⟨b, off + j2 * 2 + 1, none⟩) (show b < _ by omega)).trans hcell2
       obtain ⟨x, hx⟩ : ∃ x, x = d.wait[j2].1 := ⟨_, rfl⟩
       obtain ⟨xr, hxr⟩ : ∃ xr, xr = d.wait[j2].2 := ⟨_, rfl⟩
       have hwr : wrOk d d.wait[j2] = (hasS d x && rowOk xr) := by rw [hx, hxr]; rfl
       rw [← hx] at ce
       have hrw : IRow w B A1 m1 xr := by rw [hxr]; exact hrow
       have i0 : (0 : Int) ≤ (j2 : Int) := by omega
       have i1 : (j2 : Int) < (n' : Int) := by omega
       have b2 : Below wr.heap.size wr (wr.alloc (.cells #[.int .i64 x, .slice A1 m1 d1] 84)) := (Below.refl _ _).alloc (Nat.le_refl _) _
       have p2 : Blk (wr.alloc (.cells #[.int .i64 x, .slice A1 m1 d1] 84)) wr.heap.size #[.int .i64 x, .slice A1 m1 d1] 84 := Blk.new wr _ _
       have pr2 := pr.keep b2 pr.lt
       have r0 : (wr.alloc (.cells #[.int .i64 x, .slice A1 m1 d1] 84)).cell? ⟨w.heap.size, 0, none⟩ = some (.slice A n c) := pr2.cell 0
       have r1 : (wr.alloc (.cells #[.int .i64 x, .slice A1 m1 d1] 84)).cell? ⟨w.heap.size, 1, none⟩ = some (.slice (some ⟨b, off, none⟩) n' c') := pr2.cell 1
       have q0 : (wr.alloc (.cells #[.int .i64 x, .slice A1 m1 d1] 84)).cell? ⟨wr.heap.size, 0, none⟩ = some (.int .i64 x) := p2.cell 0
       have q1 : (wr.alloc (.cells #[.int .i64 x, .slice A1 m1 d1] 84)).cell? ⟨wr.heap.size, 1, none⟩ = some (.slice A1 m1 d1) := p2.cell 1
       have R2 := jd (RR.out.trans (b2.mono RR.out.size))
       have HP2 := jd p2
       have HALL := jd hall2
       have HWR := jd hwr
       clear hx hxr hc hrow hcell hcell2 hel2 pr hbel hall2 hwr pr2 p2 b2 k0 k1 RR BR
       cases hhas : hasS d x
       · have HH := jd hhas
         have HD := jd (ok_wait_bad hjl (by rw [HWR.out, hhas]; rfl))
         clear hhas
         go_wp2_with fail
         generalize wr.alloc (.cells #[.int .i64 x, .slice A1 m1 d1] 84) = w2 at *
         refine (iHas_any A (some ⟨b, off, none⟩) n c n' c' d x _ HL1.out hn).mono ?_
         rintro e w3 ⟨rfl, b3⟩
         rw [HH.out]
         have B3 := jd (B0.out.trans ((R2.out.trans (b3.mono R2.out.size)).mono B0.out.size))
         clear b3 r0 r1 q0 q1
         go_wp2
         go_ret
         exact ⟨ret_bool HD.out.symm, B3.out⟩
       · cases hrok : rowOk xr
         · have HH := jd hhas
           have HO := jd hrok
           have HD := jd (ok_wait_bad hjl (by rw [HWR.out, hhas, hrok]; rfl))
           clear hhas hrok
           go_wp2_with fail
           generalize wr.alloc (.cells #[.int .i64 x, .slice A1 m1 d1] 84) = w2 at *
           refine (iHas_any A (some ⟨b, off, none⟩) n c n' c' d x _ HL1.out hn).mono ?_
           rintro e w3 ⟨rfl, b3⟩
           rw [HH.out]
           have b03 := R2.out.trans (b3.mono R2.out.size)
           have B3 := jd (B0.out.trans (b03.mono B0.out.size))
           have p3 := HP2.out.keep b3 HP2.out.lt
           have s1 : w3.cell? ⟨wr.heap.size, 1, none⟩ = some (.slice A1 m1 d1) := p3.cell 1
           have hr := hrw.below (B3.out.mono hB)
           clear b3 b03 r0 r1 q0 q1 p3
           go_wp2_with fail
           refine (iRowOk_any A1 m1 d1 B xr _ hr hm).mono ?_
           rintro e w4 ⟨rfl, rfl⟩
           rw [HO.out]
           clear hr
           go_wp2
           go_ret
           exact ⟨ret_bool HD.out.symm, B3.out⟩
         · have HH := jd hhas
           have HO := jd hrok
           have HA := jd (all_step hjl HALL.out (by rw [HWR.out, hhas, hrok]; rfl))
           clear hhas hrok
           go_wp2_with fail
           generalize wr.alloc (.cells #[.int .i64 x, .slice A1 m1 d1] 84) = w2 at *
           refine (iHas_any A (some ⟨b, off, none⟩) n c n' c' d x _ HL1.out hn).mono ?_
           rintro e w3 ⟨rfl, b3⟩
           rw [HH.out]
           have b03 := R2.out.trans (b3.mono R2.out.size)
           have B3 := jd (B0.out.trans (b03.mono B0.out.size))
           have R3 := jd b03
           have p3 := HP2.out.keep b3 HP2.out.lt
           have s1 : w3.cell? ⟨wr.heap.size, 1, none⟩ = some (.slice A1 m1 d1) := p3.cell 1
           have hr := hrw.below (B3.out.mono hB)
           clear b3 b03 r0 r1 q0 q1 p3
           go_wp2_with fail
           refine (iRowOk_any A1 m1 d1 B xr _ hr hm).mono ?_
           rintro e w4 ⟨rfl, rfl⟩
           rw [HO.out]
           clear hr
           go_wp2
           go_roundw
           case rel => exact ⟨j2 + 1, by omega, by go_num, HA.out, R3.out⟩
           case measure => simp [intOf]; omega
     · have hi2 : ¬ ((j2 : Int) < (n' : Int)) := by omega
       have HD := jd (show diskOk d = true from diskOk_iff.2 ⟨⟨by rw [HL1.out]; exact g1, by rw [HL1.out]; exact g2⟩, by rw [HL2.out]; exact g3, HK.out, by
        rw [List.take_of_length_le (by have := HL2.out; omega)] at hall2
        exact hall2⟩)
       go_wp2
       go_ret
       exact ⟨ret_bool HD.out.symm, BR.out⟩
end Go.Proofs.Ytmjifhjhialcbaa
namespace Go.Proofs.Ytmjifhjhialcbaa
set_option maxRecDepth 100000
open Go.RowKit
set_option maxHeartbeats 1600000 in
theorem iRows_any (A : Option Addr) (n c : Nat) (l : List (List Int)) (w : World) (h : Rd w w.heap.size [keptD l] [.slice A n c]) (hs : rowsSz l ≤ 1048577) :
    Calls Try.prog 42 #[.slice A n c] w fun e w' => ∃ c', e = .returned (.slice (some ⟨w.heap.size, 0, none⟩) n c') ∧ Has w' w.heap.size [keptD l] [.slice (some ⟨w.heap.size, 0, none⟩) n c'] ∧ Below w.heap.size w w' := by
 obtain ⟨A', n', c', e, hl, hnc, hcm, hel⟩ := h.kept
 injection e with e1 e2 e3
 subst e1 e2 e3
 have hn : n ≤ 1048577 := by unfold rowsSz at hs; omega
 have HS := jd hs
 have HL := jd hl
 have hmk := run_make_k (P := Try.prog) 36 30 (.slice none 0 0) #[.slice none 0 0] 1 24 Try.underlying36 infoRow rfl .i64 .i64 n (by omega) (by omega)
 rw [Nat.mul_one] at hmk
 have hmd := ow_made (w := w) (e := 30) (f := rowC) (x0 := ([] : List Int)) (zc := #[.slice none 0 0]) (k := 1) rfl (by decide) n (by simp only [maxLen]; omega) ow_nil_row
 rw [Nat.mul_one] at hmd
 have O0 := jd hmd
 have B0 := jd ((Below.refl w.heap.size w).alloc (Nat.le_refl _) (.cells (madeCells #[.slice none 0 0] n) 30))
 clear hl hs h hmd
 go_enter Try.func42, Try.ntmps42
 go_wp2
 go_loopw [11] (fun i wr => ∃ (j : Nat) (fp : List Nat), j ≤ n ∧ i = .int .i64 (j : Int) ∧ Ow wr [keptD (l.take j ++ List.replicate (n - j) [])] [.slice (some ⟨w.heap.size, 0, none⟩) n n] fp ∧ fp.Nodup ∧ (∀ p ∈ fp, w.heap.size ≤ p) ∧ Below w.heap.size w wr) (fun i _ => n - (intOf i).toNat)
 case atStart => exact ⟨0, _, Nat.zero_le _, rfl, O0.out, by simp, by simp, B0.out⟩
 case round =>
  obtain ⟨j, fp, hj, rfl, hown, hnd, hge, hbel⟩ := hrel
  clear hmk O0 B0
  by_cases hlt : j < n
  · obtain ⟨b, off, rfl, hb, hc⟩ := hel (by omega)
    have hjl : j < l.length := by have := HL.out; omega
    obtain ⟨A1, m1, d1, hc0, hrow, _⟩ := hc j hjl
    have cs0 := (hbel.cell (p := ⟨b, off + j, none⟩) hb).trans hc0
    have hr1 := (hrow.below hbel).up hbel.size
    have hm1 : m1 ≤ 1048577 := by
     have h1 := pre_at (g := List.length) hjl
     have h2 := HS.out
     have h3 := hrow.1
     unfold rowsSz at h2
     omega
    obtain ⟨xs, hxs⟩ : ∃ xs, xs = l[j] := ⟨_, rfl⟩
    rw [← hxs] at hr1
    have HX := jd hxs.symm
    clear hxs hc hc0 hrow
    go_wp2_with fail
    refine (iCopy_any A1 m1 d1 xs _ hr1 hm1).mono ?_
    rintro e w1 ⟨R, rn, rc, rfl, o1, b1⟩
    have hown1 := hown.keep b1
    have hl2 : (l.take j ++ List.replicate (n - j) ([] : List Int)).length = n := by simp; have := HL.out; omega
    obtain ⟨es, he, hcell, hfr⟩ := Ow.slots (k := 1) rowC_len (by decide) hown1 (j := j) (by omega)
    have ck0 := hcell 0 (by decide)
    rw [Nat.add_zero, Nat.mul_one] at ck0
    match es, he with
    | [y0], _ =>
    have ck0' : w1.cell? ⟨w.heap.size, j, none⟩ = some y0 := ck0
    have fk0 := hfr j
    have hfresh : ∀ p ∈ (Value.slice R rn rc).ownBlock.toList, wr.heap.size ≤ p := fun p hp => (o1.ge p (by simpa using hp)).1
    have hold := hown.lt
    obtain ⟨ht, fp', hfin, hnd', hsub⟩ := Ow.store (k := 1) rowC_len (by decide) hown1 hnd (j := j) (x := xs) (by omega) o1.ow (by cases (Value.slice R rn rc).ownBlock <;> simp) (fun p hp hm => by have := hfresh p hp; have := hold p hm; omega)
    rw [Nat.mul_one] at ht hfin
    have z := hbel.size
    have R1 := jd (show Ow (puts w1 w.heap.size j [.slice R rn rc]) [keptD (l.take (j + 1) ++ List.replicate (n - (j + 1)) [])] [.slice (some ⟨w.heap.size, 0, none⟩) n n] fp' by
     have h1 := fill_step (x0 := ([] : List Int)) HL.out hjl
     rw [HX.out] at h1
     rw [← h1]
     exact hfin)
    have R2 := jd (show ∀ p ∈ fp', w.heap.size ≤ p from fun p hp => by
     rcases hsub p hp with h | h
     · exact hge p h
     · have := hfresh p h; omega)
    have b01 := hbel.trans (b1.mono hbel.size)
    have R3 := jd (show Below w.heap.size w (puts w1 w.heap.size j [.slice R rn rc]) from b01.trans (ht.below (by simp) b01.size))
    have R4 := jd hnd'
    clear hown hown1 hfin hnd' hsub ht o1 b1 b01 hcell hfr ck0 hbel hl2 hfresh hold hr1
    go_wp2
    go_roundw
    case rel => exact ⟨j + 1, fp', by omega, by go_num, R1.out, R4.out, R2.out, R3.out⟩
    case measure => simp [intOf]; omega
  · go_wp2
    go_ret
    refine ⟨n, rfl, ⟨fp, ?_, hnd, hge⟩, hbel⟩
    have e : n - j = 0 := by omega
    rw [e, List.replicate_zero, List.append_nil, List.take_of_length_le (by have := HL.out; omega)] at hown
    exact hown
set_option maxHeartbeats 6400000 in
theorem iCopyD_any (v0 v1 : Value) (d : DiskM) (w : World) (h : Rd w w.heap.size d.cells [v0, v1]) (hs : d.sz ≤ 1048577) :
    Calls Try.prog 36 #[.agg #[v0, v1]] w (MadeD w d) := by
 obtain ⟨A, n, c, A', n', c', rfl, rfl, h1, h2⟩ := h.disk
 obtain ⟨_, _, _, e, hl1, _, _, _⟩ := h1.kept
 injection e with e1 e2 e3
 subst e1 e2 e3
 obtain ⟨_, _, _, e, hl2, _, _, hel2⟩ := h2.wait
 injection e with e1 e2 e3
 subst e1 e2 e3
 have hn : n ≤ 1048577 := by unfold DiskM.sz rowsSz at hs; omega
 have hn' : n' ≤ 1048577 := by unfold DiskM.sz waitSz at hs; omega
 have hks : rowsSz d.kept ≤ 1048577 := by unfold DiskM.sz at hs; omega
 have HS := jd hs
 have HL2 := jd hl2
 clear h hs hl1 hl2
 have hmk := run_make_k (P := Try.prog) 42 84 (.agg #[.int .i64 0, .slice none 0 0]) #[.int .i64 0, .slice none 0 0] 2 32 Try.underlying42 infoWrite rfl .i64 .i64 n' (by omega) (by omega)
 have S0 := ((Sep.nil w w.heap.size).box (Nat.le_refl _) #[.slice A n c, .slice A' n' c'] 44).box (by simp) #[.slice none 0 0, .slice none 0 0] 44
 have e1 : (w.alloc (.cells #[.slice A n c, .slice A' n' c'] 44)).heap.size = w.heap.size + 1 := by simp
 have e2 : ((w.alloc (.cells #[.slice A n c, .slice A' n' c'] 44)).alloc (.cells #[.slice none 0 0, .slice none 0 0] 44)).heap.size = w.heap.size + 1 + 1 := by simp
 rw [e1] at S0
 have b0 : Below w.heap.size w ((w.alloc (.cells #[.slice A n c, .slice A' n' c'] 44)).alloc (.cells #[.slice none 0 0, .slice none 0 0] 44)) :=
  ((Below.refl _ w).alloc (Nat.le_refl _) _).alloc (by simp) _
 have O0 := ow_made (w := (w.alloc (.cells #[.slice A n c, .slice A' n' c'] 44)).alloc (.cells #[.slice none 0 0, .slice none 0 0] 44)) (e := 84) (f := wrC) (x0 := ((0 : Int), ([] : List Int))) (zc := #[.int .i64 0, .slice none 0 0]) (k := 2) rfl (by decide) n' (by simp only [maxLen]; omega) ow_zero_write
 rw [e2] at O0
 have bm : Below ((w.alloc (.cells #[.slice A n c, .slice A' n' c'] 44)).alloc (.cells #[.slice none 0 0, .slice none 0 0] 44)).heap.size ((w.alloc (.cells #[.slice A n c, .slice A' n' c'] 44)).alloc (.cells #[.slice none 0 0, .slice none 0 0] 44)) (((w.alloc (.cells #[.slice A n c, .slice A' n' c'] 44)).alloc (.cells #[.slice none 0 0, .slice none 0 0] 44)).alloc (.cells (madeCells #[.int .i64 0, .slice none 0 0] (n' * 2)) 84)) := (Below.refl _ _).alloc (Nat.le_refl _) _
 obtain ⟨fp0, S1⟩ := S0.has bm (⟨_, O0, by simp, fun p hp => by have h9 : p = w.heap.size + 1 + 1 := by simpa using hp
                                                                rw [h9, e2]; exact Nat.le_refl _⟩) (by rw [e2]; omega)
 have S1H := jd S1
 have B0 := jd (b0.trans (bm.mono b0.size))
 clear S0 S1 b0 bm O0 e1 e2
 go_enter Try.func36, Try.ntmps36
 go_wp2
 go_loopw [13] (fun i wr => ∃ (j : Nat) (fp : List Nat), j ≤ n' ∧ i = .int .i64 (j : Int) ∧ Sep wr w.heap.size [.own [waitD (d.wait.take j ++ List.replicate (n' - j) (0, []))] [.slice (some ⟨w.heap.size + 1 + 1, 0, none⟩) n' n'] fp, .blk (w.heap.size + 1) #[.slice none 0 0, .slice none 0 0] 44, .blk w.heap.size #[.slice A n c, .slice A' n' c'] 44] ∧ Below w.heap.size w wr) (fun i _ => n' - (intOf i).toNat)
 case atStart => exact ⟨0, fp0, Nat.zero_le _, rfl, S1H.out, B0.out⟩
 case round =>
  obtain ⟨j, fp, hj, rfl, S, hbel⟩ := hrel
  clear S1H B0 hmk
  have zw := hbel.size
  by_cases hlt : j < n'
  · obtain ⟨b, off, rfl, hb, hc⟩ := hel2 (by omega)
    have hjl : j < d.wait.length := by have := HL2.out; omega
    obtain ⟨A1, m1, d1, hcell, hcell2, hrow, hm1, hm2⟩ := hc j hjl
    have hm : m1 ≤ 1048577 := by
     have h1 := pre_at (g := wrSz) hjl
     have h2 := HS.out
     have h3 : wrSz d.wait[j] = m1 := hrow.1
     unfold DiskM.sz waitSz at h2
     omega
    have ce := (hbel.cell (p := ⟨b, off + j * 2, none⟩) hb).trans hcell
    have ce2 := (hbel.cell (p := ⟨b, off + j * 2 + 1, none⟩) hb).trans hcell2
    obtain ⟨x, hx⟩ : ∃ x, x = d.wait[j].1 := ⟨_, rfl⟩
    obtain ⟨xr, hxr⟩ : ∃ xr, xr = d.wait[j].2 := ⟨_, rfl⟩
    rw [← hx] at ce
    have HN := jd (show d.wait.take (j + 1) ++ List.replicate (n' - (j + 1)) (0, []) = (d.wait.take j ++ List.replicate (n' - j) (0, [])).set j (x, xr) by
     rw [← fill_step (x0 := ((0 : Int), ([] : List Int))) HL2.out hjl, hx, hxr])
    have hbx := hbel.alloc zw (.cells #[.int .i64 x, .slice A1 m1 d1] 84)
    have hr := jd (show IRow (wr.alloc (.cells #[.int .i64 x, .slice A1 m1 d1] 84)) (wr.alloc (.cells #[.int .i64 x, .slice A1 m1 d1] 84)).heap.size A1 m1 xr by rw [hxr]; exact (hrow.below hbx).up hbx.size)
    have SX := S.box zw #[.int .i64 x, .slice A1 m1 d1] 84
    have SH := jd SX
    have f0 : (wr.alloc (.cells #[.int .i64 x, .slice A1 m1 d1] 84)).cell? ⟨wr.heap.size, 0, none⟩ = some (.int .i64 x) := (SX.at_ 0 rfl).cell 0
    have f1 : (wr.alloc (.cells #[.int .i64 x, .slice A1 m1 d1] 84)).cell? ⟨wr.heap.size, 1, none⟩ = some (.slice A1 m1 d1) := (SX.at_ 0 rfl).cell 1
    have zwa := hbx.size
    have BH := jd hbx
    have i0 : (0 : Int) ≤ (j : Int) := by omega
    have i1 : (j : Int) < (n' : Int) := by omega
    have HKL := jd (show (d.wait.take j ++ List.replicate (n' - j) ((0 : Int), ([] : List Int))).length = n' by simp; have := HL2.out; omega)
    clear hx hxr hc hrow hcell hcell2 hel2 hbel S SX hbx
    go_wp2_with fail
    generalize wr.alloc (.cells #[.int .i64 x, .slice A1 m1 d1] 84) = wa at *
    refine wp_region_L (fun v => v.cell? ⟨wr.heap.size, 0, none⟩ = some (.int .i64 x) ∧ v.cell? ⟨wr.heap.size, 1, none⟩ = some (.slice A1 m1 d1)) 9 (by kernel_rfl) ?_
    have HF : wa.drew.cell? ⟨wr.heap.size, 0, none⟩ = some (.int .i64 x) ∧ wa.drew.cell? ⟨wr.heap.size, 1, none⟩ = some (.slice A1 m1 d1) := ⟨f0, f1⟩
    refine tk 0 (v := ?_) rfl rfl HF (.inl ⟨by rfl, ?_⟩) ?_
    rotate_left 1
    · (rintro v ⟨a0, a1⟩; go_simp; try with_reducible rfl)
    try simp only [Act.put]
    refine tk 1 (v := ?_) rfl rfl HF (.inl ⟨by rfl, ?_⟩) ?_
    rotate_left 1
    · (rintro v ⟨a0, a1⟩; go_simp; try with_reducible rfl)
    try simp only [Act.put]
    refine tk 2 (v := ?_) rfl rfl HF (.inl ⟨by rfl, ?_⟩) ?_
    rotate_left 1
    · (rintro v ⟨a0, a1⟩; go_simp; try with_reducible rfl)
    try simp only [Act.put]
    refine tk 3 (v := ?_) rfl rfl HF (.inl ⟨by rfl, ?_⟩) ?_
    rotate_left 1
    · (rintro v ⟨a0, a1⟩; go_simp; try with_reducible rfl)
    try simp only [Act.put]
    refine tk 4 (v := ?_) rfl rfl HF (.inl ⟨by rfl, ?_⟩) ?_
    rotate_left 1
    · (rintro v ⟨a0, a1⟩; go_simp; try with_reducible rfl)
    try simp only [Act.put]
    refine tk 5 (v := ?_) rfl rfl HF (.inl ⟨by rfl, ?_⟩) ?_
    rotate_left 1
    · (rintro v ⟨a0, a1⟩; go_simp; try with_reducible rfl)
    try simp only [Act.put]
    refine wpAnyL_step (i := 6) (by kernel_rfl) rfl rfl ?_
    intro K hK
    go_simp
    refine (iCopy_any A1 m1 d1 xr wa.drew hr.out hm).mono ?_
    rintro e w5 ⟨R, rn, rc, rfl, o1, b1⟩
    obtain ⟨fr, S2⟩ := (SH.out.keep ((Below.refl _ _).drew)).has b1 o1.has zwa
    have zz : w.heap.size ≤ w5.heap.size := Nat.le_trans zwa b1.size
    have HF1 : w5.cell? ⟨wr.heap.size, 0, none⟩ = some (.int .i64 x) ∧ w5.cell? ⟨wr.heap.size, 1, none⟩ = some (.slice A1 m1 d1) := ⟨(S2.at_ 1 rfl).cell 0, (S2.at_ 1 rfl).cell 1⟩
    have B2 := BH.out.drew.trans (b1.mono zwa)
    have S2' := S2.third.int_ x
    obtain ⟨fp', S3, t3⟩ := Sep.store (k := 2) (j := j) (x := (x, xr)) (es := [.int .i64 x, .slice R rn rc]) wrC_len (by decide) S2' (by rw [HKL.out]; exact hlt) zz
    have B3 := jd (B2.trans (S2'.below 0 rfl t3 zz))
    obtain ⟨es, he, hcell, hfr⟩ := Sep.slot (k := 2) (j := j) wrC_len (by decide) S2' (by rw [HKL.out]; exact hlt)
    match es, he with
    | [y0, y1], _ =>
    have ck := hcell 0 (by decide)
    rw [Nat.add_zero] at ck
    have ck0 : w5.cell? ⟨w.heap.size + 1 + 1, j * 2, none⟩ = some y0 := ck
    have ck1 : w5.cell? ⟨w.heap.size + 1 + 1, j * 2 + 1, none⟩ = some y1 := hcell 1 (by decide)
    have fk0 := hfr (j * 2)
    have fk1 := hfr (j * 2 + 1)
    have S4 := jd (show Sep ((w5.setCell ⟨w.heap.size + 1 + 1, j * 2, none⟩ (.int .i64 x)).setCell ⟨w.heap.size + 1 + 1, j * 2 + 1, none⟩ (.slice R rn rc)) w.heap.size [.own [waitD ((d.wait.take j ++ List.replicate (n' - j) ((0 : Int), ([] : List Int))).set j (x, xr))] [.slice (some ⟨w.heap.size + 1 + 1, 0, none⟩) n' n'] fp', .blk (w.heap.size + 1) #[.slice none 0 0, .slice none 0 0] 44, .blk w.heap.size #[.slice A n c, .slice (some ⟨b, off, none⟩) n' c'] 44] from S3.swap.tail)
    refine hK _ _ (fun _ => HF1) ?_
    clear S2 S2' S3 t3 o1 b1 hcell hfr ck B2
    clear hK K
    try simp only [Act.put]
    refine wpAnyL_step (i := 7) (by kernel_rfl) rfl rfl ?_
    intro K hK
    go_simp
    refine hK _ _ (fun _ => HF1) ?_
    clear hK K
    try simp only [Act.put]
    refine wpAnyL_step (i := 8) (by kernel_rfl) rfl rfl ?_
    intro K hK
    go_simp
    refine hK _ _ (fun _ => HF1) ?_
    clear hK K
    try simp only [Act.put]
    refine wpAnyL_step (i := 9) (by kernel_rfl) rfl rfl ?_
    intro K hK
    go_simp
    refine hK _ _ (fun h => nomatch (show true = false from h)) ?_
    clear hK K
    try simp only [Act.put]
    refine wpAnyL_done (by kernel_rfl) ?_ _
    go_wp2
    go_roundw
    case rel => exact ⟨j + 1, fp', by omega, by go_num, by rw [HN.out]; exact S4.out, B3.out⟩
    case measure => simp [intOf]; omega
  · have hi : ¬ ((j : Int) < (n' : Int)) := by omega
    have hw : d.wait.take j ++ List.replicate (n' - j) (0, []) = d.wait := by
     rw [show n' - j = 0 by omega, List.replicate_zero, List.append_nil, List.take_of_length_le (by have := HL2.out; omega)]
    rw [hw] at S
    have k0 := lk S 2 0 rfl rfl
    have hk := (h1.keep hbel).up zw
    clear hel2 hw
    go_wp2_with fail
    refine (iRows_any A n c d.kept _ hk hks).mono ?_
    rintro e w2 ⟨kc, rfl, o2, b2⟩
    obtain ⟨fk, S2⟩ := S.has b2 o2 zw
    have B2 := hbel.trans (b2.mono zw)
    have p0 : w2.cell? ⟨w.heap.size + 1, 0, none⟩ = some (.slice none 0 0) := (S2.at_ 2 rfl).cell 0
    have p1 : w2.cell? ⟨w.heap.size + 1, 1, none⟩ = some (.slice none 0 0) := (S2.at_ 2 rfl).cell 1
    have q0 := (S2.at_ 2 rfl).free 0
    have q1 := (S2.at_ 2 rfl).free 1
    have S5 := jd ((S2.put 2 rfl 0 (.slice (some ⟨wr.heap.size, 0, none⟩) n kc)).put 2 rfl 1 (.slice (some ⟨w.heap.size + 1 + 1, 0, none⟩) n' n')).swap.pair
    have B5 := jd ((B2.setCell (p := ⟨w.heap.size + 1, 0, none⟩) (by simp) (.slice (some ⟨wr.heap.size, 0, none⟩) n kc)).setCell (p := ⟨w.heap.size + 1, 1, none⟩) (by simp) (.slice (some ⟨w.heap.size + 1 + 1, 0, none⟩) n' n'))
    clear S2 B2 o2 b2 S hk hbel k0
    go_wp2
    refine bodyPost_ret (v := .agg #[.slice (some ⟨wr.heap.size, 0, none⟩) n kc, .slice (some ⟨w.heap.size + 1 + 1, 0, none⟩) n' n']) (by simp [results, Try.results36, go_sem, p0, p1]) rfl ⟨_, n, kc, _, n', n', rfl, S5.out, B5.out⟩
end Go.Proofs.Ytmjifhjhialcbaa
namespace Go.Proofs.Ytmjifhjhialcbaa
set_option maxRecDepth 100000
open Go.RowKit
set_option maxHeartbeats 1600000 in
theorem iNewDisk_any (x : Int) (w : World) : Calls Try.prog 13 #[.int .i64 x] w (MadeD w (newDisk x)) := by
 have b0 : Below w.heap.size w (w.alloc (.cells #[.slice none 0 0, .slice none 0 0] 44)) := (Below.refl _ w).alloc (Nat.le_refl _) _
 by_cases hlo : x < 1
 · have HR := jd (show newDisk x = zeroD by unfold newDisk; rw [if_neg (by unfold secOk; simp; omega)])
   go_enter Try.func13, Try.ntmps13
   go_wp2
   refine bodyPost_ret (v := .agg #[.slice none 0 0, .slice none 0 0]) (by simp [results, Try.results13, go_sem]) rfl ⟨none, 0, 0, none, 0, 0, rfl, by rw [HR.out]; exact has_zero _ _, ?_⟩
   exact b0
 by_cases hhi : 40 < x
 · have HR := jd (show newDisk x = zeroD by unfold newDisk; rw [if_neg (by unfold secOk; simp; omega)])
   go_enter Try.func13, Try.ntmps13
   go_wp2
   refine bodyPost_ret (v := .agg #[.slice none 0 0, .slice none 0 0]) (by simp [results, Try.results13, go_sem]) rfl ⟨none, 0, 0, none, 0, 0, rfl, by rw [HR.out]; exact has_zero _ _, ?_⟩
   exact b0
 obtain ⟨n, rfl⟩ := Int.eq_ofNat_of_zero_le (show 0 ≤ x by omega)
 have hok : secOk (n : Int) = true := by unfold secOk; simp; omega
 have HR := jd (show newDisk (n : Int) = ⟨List.replicate n [], []⟩ by simp [newDisk, hok])
 have hmk := run_make_k (P := Try.prog) 36 30 (.slice none 0 0) #[.slice none 0 0] 1 24 Try.underlying36 infoRow rfl .i64 .i64 n (by omega) (by omega)
 rw [Nat.mul_one] at hmk
 have hmd := ow_made (w := w.alloc (.cells #[.slice (some ⟨w.heap.size + 1, 0, none⟩) n n, .slice none 0 0] 44)) (e := 30) (f := rowC) (x0 := ([] : List Int)) (zc := #[.slice none 0 0]) (k := 1) rfl (by decide) n (by simp only [maxLen]; omega) ow_nil_row
 rw [Nat.mul_one] at hmd
 have hsz : (w.alloc (.cells #[.slice (some ⟨w.heap.size + 1, 0, none⟩) n n, .slice none 0 0] 44)).heap.size = w.heap.size + 1 := by simp
 rw [hsz] at hmd
 have M := jd hmd
 have b2 : Below w.heap.size w (w.alloc (.cells #[.slice (some ⟨w.heap.size + 1, 0, none⟩) n n, .slice none 0 0] 44)) := (Below.refl _ w).alloc (Nat.le_refl _) _
 have B1 := jd (b2.alloc b2.size (.cells (madeCells #[.slice none 0 0] n) 30))
 clear hok hmd hsz b2
 go_enter Try.func13, Try.ntmps13
 go_wp2
 refine bodyPost_ret (v := .agg #[.slice (some ⟨w.heap.size + 1, 0, none⟩) n n, .slice none 0 0]) (by simp [results, Try.results13, go_sem]) rfl ⟨_, n, n, none, 0, 0, rfl, ?_, B1.out⟩
 rw [HR.out]
 refine ⟨_, M.out.append (ow_nil_wait _), by simp, fun p hp => ?_⟩
 have h9 : p = w.heap.size + 1 := by simpa using hp
 omega
set_option maxHeartbeats 1600000 in
theorem iTorn_any (A : Option Addr) (n c : Nat) (xs : List Int) (E : Option Addr) (o co : Nat) (os : List Int) (w : World) (h : IRow w w.heap.size A n xs) (hn : n ≤ 1048577) (hc : n ≤ c) (hcm : c ≤ maxLen) (k : IRow w w.heap.size E o os) (ho : o ≤ 1048577) (hco : o ≤ co) (hcom : co ≤ maxLen) :
    Calls Try.prog 44 #[.slice A n c, .slice E o co] w (MadeRow w (torn xs os)) := by
 unfold maxLen at hcm hcom
 have hl := jd h.1
 have hlo := jd k.1
 obtain ⟨half, hhalf⟩ : ∃ half, half = n / 2 := ⟨_, rfl⟩
 have hh : half ≤ n := by omega
 have hq : ((n : Int)).tdiv 2 = (half : Int) := by rw [Int.tdiv_eq_ediv_of_nonneg (by omega)]; omega
 have HT := jd (show torn xs os = xs.take half ++ os.drop half by unfold torn; rw [hl.out, hhalf])
 have i0 : (0 : Int) ≤ (half : Int) := by omega
 have i1 : (half : Int) ≤ (c : Int) := by omega
 have hmod : n / 2 = half := hhalf.symm
 clear hhalf
 by_cases hlt : half < o
 · obtain ⟨b, off, rfl, hb, _⟩ := k.2 (by omega)
   have j1 : (half : Int) < (o : Int) := by omega
   have j2 : (half : Int) ≤ (co : Int) := by omega
   have j3 : ¬ ((co : Int) ≤ (half : Int)) := by omega
   go_enter Try.func44, Try.ntmps44
   go_wp2_with fail
   refine (iCopy_any A half c (xs.take half) w (h.take_ hh) (by omega)).mono ?_
   rintro e w1 ⟨Q, qn, qc, rfl, o1, b1⟩
   have hqn : qn = half := by rw [← o1.len, List.length_take, hl.out]; omega
   subst hqn
   have kr := (k.drop_ hlt).below b1
   have HB := jd b1
   have z1 := b1.size
   clear h k b1
   go_wp2_with (first
    | (at_builtin
       refine wpList_append_ints rfl (.tmp 18) (.tmp 21) rfl rfl o1 rfl kr (by omega) (by omega) ?_
       intro Q2 c2 w2 o2 g2 e2))
   go_ret
   refine ⟨Q2, _, c2, rfl, ?_, HB.out.grown g2 HB.out.size (fun p hp => (o1.ge p hp).1)⟩
   rw [HT.out]
   exact o2
 · have HE := jd (show torn xs os = xs.take half by rw [HT.out, List.drop_eq_nil_of_le (by have := hlo.out; omega), List.append_nil])
   have j1 : ¬ ((half : Int) < (o : Int)) := by omega
   go_enter Try.func44, Try.ntmps44
   go_wp2_with fail
   refine (iCopy_any A half c (xs.take half) w (h.take_ hh) (by omega)).mono ?_
   rintro e w1 ⟨Q, qn, qc, rfl, o1, b1⟩
   have O1 := jd o1
   have HB := jd b1
   clear h k o1 b1
   go_wp2
   go_ret
   refine ⟨Q, qn, qc, rfl, ?_, HB.out⟩
   rw [HE.out]
   exact O1.out
set_option maxHeartbeats 800000 in
theorem iFate_any (A : Option Addr) (n c B : Nat) (fs : List Int) (i : Nat) (w : World) (h : IRow w B A n fs) (hn : n ≤ 1048577) (hi : i ≤ 1048577) :
    Calls Try.prog 43 #[.slice A n c, .int .i64 (i : Int)] w fun e w' => e = .returned (.int .i64 (fs.getD i 0)) ∧ w = w' := by
 by_cases hlt : i < n
 · obtain ⟨b, off, rfl, hb, hc⟩ := h.2 (by omega)
   have ce := hc i hlt
   generalize fs.getD i 0 = f at *
   have i0 : (0 : Int) ≤ (i : Int) := by omega
   have i1 : (i : Int) < (n : Int) := by omega
   clear hc h
   go_enter Try.func43, Try.ntmps43
   go_wp2
   go_ret
   exact ⟨rfl, rfl⟩
 · have HR := jd (show fs.getD i 0 = 0 by rw [List.getD_eq_getElem?_getD, List.getElem?_eq_none (by rw [h.1]; omega)]; rfl)
   have i1 : (n : Int) ≤ (i : Int) := by omega
   clear h
   go_enter Try.func43, Try.ntmps43
   go_wp2
   go_ret
   exact ⟨by rw [HR.out]; rfl, rfl⟩
theorem has_nil_row (w : World) (base : Nat) : Has w base (rowCells []) [.slice none 0 0] := ⟨[], ow_nil_row w, List.nodup_nil, fun p hp => by cases hp⟩
def rowTo (d : DiskM) (I j : Nat) : List Int := (lastTo d.wait (I : Int) j).getD (d.kept.getD I [])
theorem rowTo_hit {d : DiskM} {I j : Nat} {x : List Int} (hj : j < d.wait.length) (hx : d.wait[j] = ((I : Int), x)) : rowTo d I (j + 1) = x := by
 unfold rowTo; rw [lastTo_le hj hx, if_pos rfl]; rfl
theorem rowTo_miss {d : DiskM} {I j : Nat} {y : Int} {x : List Int} (hj : j < d.wait.length) (hx : d.wait[j] = (y, x)) (hy : y ≠ (I : Int)) : rowTo d I (j + 1) = rowTo d I j := by
 unfold rowTo; rw [lastTo_le hj hx, if_neg hy]
set_option maxHeartbeats 3200000 in
theorem iReadAt_any (v0 v1 : Value) (d : DiskM) (i : Int) (w : World) (h : Rd w w.heap.size d.cells [v0, v1]) (hs : d.sz ≤ 1048577) :
    Calls Try.prog 18 #[.agg #[v0, v1], .int .i64 i] w fun e w' => ∃ A n c, e = .returned (.tuple #[.slice A n c, .bool (readAt d i).2]) ∧ Has w' w.heap.size (rowCells (readAt d i).1) [.slice A n c] ∧ Below w.heap.size w w' := by
 obtain ⟨A, n, c, A', n', c', rfl, rfl, h1, h2⟩ := h.disk
 obtain ⟨_, _, _, e, hl1, _, _, hel1⟩ := h1.kept
 injection e with e1 e2 e3
 subst e1 e2 e3
 obtain ⟨_, _, _, e, hl2, _, _, hel2⟩ := h2.wait
 injection e with e1 e2 e3
 subst e1 e2 e3
 have hn : n ≤ 1048577 := by unfold DiskM.sz rowsSz at hs; omega
 have hn' : n' ≤ 1048577 := by unfold DiskM.sz waitSz at hs; omega
 obtain ⟨w0, hw0⟩ : ∃ w0, w0 = w.alloc (.cells #[.slice A n c, .slice A' n' c'] 44) := ⟨_, rfl⟩
 have b0 : Below w.heap.size w w0 := by rw [hw0]; exact (Below.refl _ w).alloc (Nat.le_refl _) _
 have p0 : Blk w0 w.heap.size #[.slice A n c, .slice A' n' c'] 44 := by rw [hw0]; exact Blk.new w _ _
 have hr := (h.keep b0)
 have HW := jd hw0
 have HS := jd hs
 have HL1 := jd hl1
 have HL2 := jd hl2
 clear h h1 h2 hl1 hl2 hw0
 cases hd : diskOk d
 · have HR := jd (show readAt d i = ([], false) by simp [readAt, hd])
   go_enter Try.func18, Try.ntmps18
   go_wp2_with fail
   rw [← HW.out]
   refine (iDiskOk_any _ _ d _ _ hr b0.size HS.out).mono ?_
   rintro e w1 ⟨rfl, b1⟩
   rw [hd]
   have B := jd (b0.trans (b1.mono b0.size))
   clear b1 hr b0 p0
   go_wp2
   go_ret2
   refine ⟨none, 0, 0, by rw [HR.out]; rfl, ?_, B.out⟩
   rw [HR.out]
   exact has_nil_row _ _
 cases hh : hasS d i
 · have HR := jd (show readAt d i = ([], false) by simp [readAt, hd, hh])
   go_enter Try.func18, Try.ntmps18
   go_wp2_with fail
   rw [← HW.out]
   refine (iDiskOk_any _ _ d _ _ hr b0.size HS.out).mono ?_
   rintro e w1 ⟨rfl, b1⟩
   rw [hd]
   have b01 := b0.trans (b1.mono b0.size)
   have p1 := p0.keep b1 p0.lt
   have k0 : w1.cell? ⟨w.heap.size, 0, none⟩ = some (.slice A n c) := p1.cell 0
   have k1 : w1.cell? ⟨w.heap.size, 1, none⟩ = some (.slice A' n' c') := p1.cell 1
   clear b1 hr p0 b0
   go_wp2_with fail
   refine (iHas_any A A' n c n' c' d i _ HL1.out hn).mono ?_
   rintro e w2 ⟨rfl, b2⟩
   rw [hh]
   have B := jd (b01.trans (b2.mono b01.size))
   clear b2 b01 k0 k1 p1
   go_wp2
   go_ret2
   refine ⟨none, 0, 0, by rw [HR.out]; rfl, ?_, B.out⟩
   rw [HR.out]
   exact has_nil_row _ _
 obtain ⟨i0, i1⟩ : 0 ≤ i ∧ i ≤ (n : Int) - 1 := by
  have := hh
  unfold hasS at this
  rw [HL1.out] at this
  simpa using this
 obtain ⟨I, rfl⟩ := Int.eq_ofNat_of_zero_le i0
 have HR := jd (show readAt d (I : Int) = (rowTo d I d.wait.length, true) by simp [readAt, hd, hh, rowTo])
 go_enter Try.func18, Try.ntmps18
 go_wp2_with fail
 rw [← HW.out]
 refine (iDiskOk_any _ _ d _ _ hr b0.size HS.out).mono ?_
 rintro e w1 ⟨rfl, b1⟩
 rw [hd]
 have b01 := b0.trans (b1.mono b0.size)
 have p1 := p0.keep b1 p0.lt
 have k0 : w1.cell? ⟨w.heap.size, 0, none⟩ = some (.slice A n c) := p1.cell 0
 have k1 : w1.cell? ⟨w.heap.size, 1, none⟩ = some (.slice A' n' c') := p1.cell 1
 clear b1 hr p0 b0
 go_wp2_with fail
 refine (iHas_any A A' n c n' c' d (I : Int) _ HL1.out hn).mono ?_
 rintro e w2 ⟨rfl, b2⟩
 rw [hh]
 have b02 := b01.trans (b2.mono b01.size)
 have p2 := p1.keep b2 p1.lt
 have r0 : w2.cell? ⟨w.heap.size, 0, none⟩ = some (.slice A n c) := p2.cell 0
 have r1 : w2.cell? ⟨w.heap.size, 1, none⟩ = some (.slice A' n' c') := p2.cell 1
 have z2 := b02.size
 obtain ⟨b, off, rfl, hb, hcc⟩ := hel1 (by omega)
 have hIl : I < d.kept.length := by have := HL1.out; omega
 obtain ⟨K1, km, kd, hkc, hkr, hkm1, hkm2⟩ := hcc I hIl
 have hkm : km ≤ 1048577 := by
  have h1 := pre_at (g := List.length) hIl
  have h2 := HS.out
  have h3 := hkr.1
  unfold DiskM.sz rowsSz at h2
  omega
 have ck := (b02.cell (p := ⟨b, off + I, none⟩) hb).trans hkc
 have R0 := jd (show IRow w2 w.heap.size K1 km (rowTo d I 0) by
  have e0 : rowTo d I 0 = d.kept[I] := by simp [rowTo, lastTo, List.getD, List.getElem?_eq_getElem hIl]
  rw [e0]
  exact hkr.below b02)
 have B2 := jd b02
 have a0 : (0 : Int) ≤ (I : Int) := by omega
 have a1 : (I : Int) < (n : Int) := by omega
 clear b2 b01 b02 k0 k1 p1 p2 hd hh hcc hkc hkr hel1
 go_wp2
 go_loopw [6, 26] (fun r q wr => ∃ (j rm rc : Nat) (Q : Option Addr), j ≤ n' ∧ q = .int .i64 (j : Int) ∧ r = .slice Q rm rc ∧ rm ≤ 1048577 ∧ IRow wr w.heap.size Q rm (rowTo d I j) ∧ Below w.heap.size w wr) (fun _ q _ => n' - (intOf q).toNat)
 case atStart => exact ⟨0, km, kd, K1, Nat.zero_le _, rfl, rfl, hkm, R0.out, B2.out⟩
 case round =>
  obtain ⟨j, rm, rc, Q, hj, rfl, rfl, hrm, hir, hbel⟩ := hrel
  clear R0 B2 ck r0 r1
  by_cases hlt : j < n'
  · obtain ⟨b', off', rfl, hb', hcc⟩ := hel2 (by omega)
    have hjl : j < d.wait.length := by have := HL2.out; omega
    obtain ⟨A1, m1, d1, hcell, hcell2, hrow, hm1, hm2⟩ := hcc j hjl
    have hm : m1 ≤ 1048577 := by
     have h1 := pre_at (g := wrSz) hjl
     have h2 := HS.out
     have h3 : wrSz d.wait[j] = m1 := hrow.1
     unfold DiskM.sz waitSz at h2
     omega
    have ce := (hbel.cell (p := ⟨b', off' + j * 2, none⟩) hb').trans hcell
    have ce2 := (hbel.cell (p := ⟨b', off' + j * 2 + 1, none⟩) hb').trans hcell2
    obtain ⟨x, hx⟩ : ∃ x, x = d.wait[j].1 := ⟨_, rfl⟩
    obtain ⟨xr, hxr⟩ : ∃ xr, xr = d.wait[j].2 := ⟨_, rfl⟩
    rw [← hx] at ce
    have hwj : d.wait[j] = (x, xr) := by rw [hx, hxr]
    have hbx := hbel.alloc hbel.size (.cells #[.int .i64 x, .slice A1 m1 d1] 84)
    have hr1 : IRow (wr.alloc (.cells #[.int .i64 x, .slice A1 m1 d1] 84)) w.heap.size A1 m1 xr := by rw [hxr]; exact hrow.below hbx
    have hr2 := hir.below ((Below.refl w.heap.size wr).alloc hbel.size (.cells #[.int .i64 x, .slice A1 m1 d1] 84))
    have p9 := Blk.new wr #[.int .i64 x, .slice A1 m1 d1] 84
    have f0 : (wr.alloc (.cells #[.int .i64 x, .slice A1 m1 d1] 84)).cell? ⟨wr.heap.size, 0, none⟩ = some (.int .i64 x) := p9.cell 0
    have f1 : (wr.alloc (.cells #[.int .i64 x, .slice A1 m1 d1] 84)).cell? ⟨wr.heap.size, 1, none⟩ = some (.slice A1 m1 d1) := p9.cell 1
    have i3 : (0 : Int) ≤ (j : Int) := by omega
    have i4 : (j : Int) < (n' : Int) := by omega
    have BX := jd hbx
    clear hx hxr hcc hrow hcell hcell2 hel2 hir hbel hbx p9
    by_cases hxi : x = (I : Int)
    · have HE := jd (show IRow (wr.alloc (.cells #[.int .i64 x, .slice A1 m1 d1] 84)) w.heap.size A1 m1 (rowTo d I (j + 1)) by rw [rowTo_hit hjl (by rw [hwj, hxi])]; exact hr1)
      clear hr1 hr2 hwj
      have hxb : (x == (I : Int)) = true := by simp [hxi]
      have hxd : decide (x = (I : Int)) = true := by simp [hxi]
      clear hxi
      go_wp2
      go_roundw
      case rel => exact ⟨j + 1, m1, d1, A1, by omega, by go_num, rfl, hm, HE.out, BX.out⟩
      case measure => simp [intOf]; omega
    · have HE := jd (show IRow (wr.alloc (.cells #[.int .i64 x, .slice A1 m1 d1] 84)) w.heap.size Q rm (rowTo d I (j + 1)) by rw [rowTo_miss hjl hwj hxi]; exact hr2)
      clear hr1 hr2 hwj
      have hxb : (x == (I : Int)) = false := by simp [hxi]
      have hxd : decide (x = (I : Int)) = false := by simp [hxi]
      clear hxi
      go_wp2
      go_roundw
      case rel => exact ⟨j + 1, rm, rc, Q, by omega, by go_num, rfl, hrm, HE.out, BX.out⟩
      case measure => simp [intOf]; omega
  · have hi9 : ¬ ((j : Int) < (n' : Int)) := by omega
    have HE := jd (show readAt d (I : Int) = (rowTo d I j, true) by
     rw [HR.out, show d.wait.length = j by have := HL2.out; omega])
    generalize rowTo d I j = xr at *
    have z := hbel.size
    have hrw := hir.up z
    clear hel2 hir
    go_wp2_with fail
    refine (iCopy_any Q rm rc xr _ hrw hrm).mono ?_
    rintro e w3 ⟨R, rn, rc, rfl, o3, b3⟩
    have O := jd (o3.has.up z)
    have B := jd (hbel.trans (b3.mono z))
    clear o3 b3 hrw hbel
    go_wp2
    go_ret2
    refine ⟨R, rn, rc, by rw [HE.out]; rfl, ?_, B.out⟩
    rw [HE.out]
    exact O.out
end Go.Proofs.Ytmjifhjhialcbaa
namespace Go.Proofs.Ytmjifhjhialcbaa
set_option maxRecDepth 100000
open Go.RowKit
end Go.Proofs.Ytmjifhjhialcbaa
