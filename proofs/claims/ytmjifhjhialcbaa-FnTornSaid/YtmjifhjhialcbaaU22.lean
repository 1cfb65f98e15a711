/- Parts of my texts: KJ. -/
import Derived.Test.YtmjifhjhialcbaaU20
import Derived.Test.YtmjifhjhialcbaaU21
namespace Go.Proofs.Ytmjifhjhialcbaa
set_option maxRecDepth 100000
set_option linter.unusedVariables false
open Go.RowKit
set_option maxHeartbeats 6400000 in
theorem iWrote_any (A : Option Addr) (n c : Nat) (A' : Option Addr) (n' c' : Nat) (d : DiskM) (i : Int) (R : Option Addr) (m k : Nat) (r : List Int) (w : World) (h : Rd w w.heap.size d.cells [.slice A n c, .slice A' n' c']) (hs : d.sz ≤ 1048576) (h2 : Rd w w.heap.size (rowCells r) [.slice R m k]) (hs2 : r.length ≤ 1048576) :
    Calls Try.prog 12 #[.agg #[.slice A n c, .slice A' n' c'], .int .i64 i, .slice R m k] w fun e w' => ∃ (B1 : Option Addr) (b1 b2 : Nat) (B2 : Option Addr) (b3 b4 : Nat), e = .returned (.tuple #[.agg #[.slice B1 b1 b2, .slice B2 b3 b4], .bool (wrote d i r).2]) ∧ Has w' w.heap.size (wrote d i r).1.cells [.slice B1 b1 b2, .slice B2 b3 b4] ∧ Below w.heap.size w w' := by
 obtain ⟨_, _, _, e, h2i, _⟩ := h2.irow
 injection e with e1 e2 e3
 subst e1 e2 e3
 obtain ⟨_, _, _, _, _, _, e, e', q1, q2⟩ := h.disk
 injection e with e1 e2 e3
 subst e1 e2 e3
 injection e' with e1 e2 e3
 subst e1 e2 e3
 obtain ⟨_, _, _, e, hl1, _⟩ := q1.kept
 injection e with e1 e2 e3
 subst e1 e2 e3
 obtain ⟨_, _, _, e, hl2, _⟩ := q2.wait
 injection e with e1 e2 e3
 subst e1 e2 e3
 have hn : n ≤ 1048576 := by unfold DiskM.sz rowsSz at hs; omega
 have hn' : n' ≤ 1048576 := by unfold DiskM.sz waitSz at hs; omega
 have hm : m ≤ 1048576 := by have := h2i.1; omega
 have HL1 := jd hl1
 have HL2 := jd hl2
 obtain ⟨w0, hw0⟩ : ∃ w0, w0 = (w.alloc (.cells #[.slice A n c, .slice A' n' c'] 44)).alloc (.cells #[.slice none 0 0, .slice none 0 0] 44) := ⟨_, rfl⟩
 have S : Sep w0 w.heap.size [.blk (w.heap.size + 1) #[.slice none 0 0, .slice none 0 0] 44, .blk w.heap.size #[.slice A n c, .slice A' n' c'] 44] := by
  rw [hw0]
  have := ((Sep.nil w w.heap.size).box (Nat.le_refl _) #[.slice A n c, .slice A' n' c'] 44).box (by simp) #[.slice none 0 0, .slice none 0 0] 44
  simpa using this
 have c0 : Below w.heap.size w w0 := by
  rw [hw0]
  exact ((Below.refl _ w).alloc (Nat.le_refl _) _).alloc (by simp) _
 have HW := jd hw0
 clear hw0 q1 q2 hl1 hl2
 cases hd : diskOk d
 · have HR := jd (show wrote d i r = (zeroD, false) by simp [wrote, hd])
   go_enter Try.func12, Try.ntmps12
   go_wp2_with fail
   rw [← HW.out]
   refine (iDiskOk_any _ _ d _ _ (h.keep c0) c0.size (by omega)).mono ?_
   rintro e w1 ⟨rfl, b⟩
   rw [hd]
   replace c0 := c0.trans (b.mono c0.size)
   replace S := S.keep b
   clear b
   have p0 := lk S 0 0 rfl rfl
   have p1 := lk S 0 1 rfl rfl
   have f0 := (S.at_ 0 rfl).free 0
   have f1 := (S.at_ 0 rfl).free 1
   have B5 := jd ((c0.setCell (p := ⟨w.heap.size + 1, 0, none⟩) (by simp) (.slice none 0 0)).setCell (p := ⟨w.heap.size + 1, 1, none⟩) (by simp) (.slice none 0 0))
   clear S c0
   go_wp2
   refine bodyPost_ret (v := .tuple #[.agg #[.slice none 0 0, .slice none 0 0], .bool false]) (by simp [results, Try.results12, go_sem, p0, p1]) rfl ⟨none, 0, 0, none, 0, 0, by rw [HR.out], ?_, B5.out⟩
   rw [HR.out]
   exact has_zero _ _
 cases hh : hasS d i
 · have HR := jd (show wrote d i r = (d, false) by simp [wrote, hd, hh])
   go_enter Try.func12, Try.ntmps12
   go_wp2_with fail
   rw [← HW.out]
   refine (iDiskOk_any _ _ d _ _ (h.keep c0) c0.size (by omega)).mono ?_
   rintro e w1 ⟨rfl, b⟩
   rw [hd]
   replace c0 := c0.trans (b.mono c0.size)
   replace S := S.keep b
   clear b
   have k0 := lk S 1 0 rfl rfl
   have k1 := lk S 1 1 rfl rfl
   go_wp2_with fail
   refine (iCopyD_any _ _ d _ ((h.keep c0).up c0.size) (by omega)).mono ?_
   rintro e w2 ⟨G, j, g, H, q, hc, rfl, o, b⟩
   obtain ⟨fp, S'⟩ := S.has b o c0.size
   replace c0 := c0.trans (b.mono c0.size)
   clear S; have S := S'; clear S' o b k0 k1
   have zw2 := c0.size
   replace S := S.box c0.size #[.slice G j g, .slice H q hc] 44
   replace c0 := c0.alloc c0.size (.cells #[.slice G j g, .slice H q hc] 44)
   have k0 := lk S 3 0 rfl rfl
   have k1 := lk S 3 1 rfl rfl
   go_wp2_with fail
   generalize w2.alloc (.cells #[.slice G j g, .slice H q hc] 44) = w3 at *
   refine (iHas_any A A' n c n' c' d i _ HL1.out (by omega)).mono ?_
   rintro e w4 ⟨rfl, b⟩
   rw [hh]
   replace c0 := c0.trans (b.mono c0.size)
   replace S := S.keep b
   clear b k0 k1
   have k0 := lk S 3 1 rfl rfl
   have o0 := lk S 0 0 rfl rfl
   have o1 := lk S 0 1 rfl rfl
   have p0 := lk S 2 0 rfl rfl
   have p1 := lk S 2 1 rfl rfl
   have f0 := (S.at_ 2 rfl).free 0
   have f1 := (S.at_ 2 rfl).free 1
   have S5 := jd (((S.put 2 rfl 0 (.slice G j g)).put 2 rfl 1 (.slice H q hc)).drop 1).first
   have B5 := jd ((c0.setCell (p := ⟨w.heap.size + 1, 0, none⟩) (by simp) (.slice G j g)).setCell (p := ⟨w.heap.size + 1, 1, none⟩) (by simp) (.slice H q hc))
   clear S c0
   go_wp2
   refine bodyPost_ret (v := .tuple #[.agg #[.slice G j g, .slice H q hc], .bool false]) (by simp [results, Try.results12, go_sem, p0, p1]) rfl ⟨G, j, g, H, q, hc, by rw [HR.out], ?_, B5.out⟩
   rw [HR.out]
   exact S5.out
 cases hk : rowOk r
 · have HR := jd (show wrote d i r = (d, false) by simp [wrote, hd, hh, hk])
   go_enter Try.func12, Try.ntmps12
   go_wp2_with fail
   rw [← HW.out]
   refine (iDiskOk_any _ _ d _ _ (h.keep c0) c0.size (by omega)).mono ?_
   rintro e w1 ⟨rfl, b⟩
   rw [hd]
   replace c0 := c0.trans (b.mono c0.size)
   replace S := S.keep b
   clear b
   have k0 := lk S 1 0 rfl rfl
   have k1 := lk S 1 1 rfl rfl
   go_wp2_with fail
   refine (iCopyD_any _ _ d _ ((h.keep c0).up c0.size) (by omega)).mono ?_
   rintro e w2 ⟨G, j, g, H, q, hc, rfl, o, b⟩
   obtain ⟨fp, S'⟩ := S.has b o c0.size
   replace c0 := c0.trans (b.mono c0.size)
   clear S; have S := S'; clear S' o b k0 k1
   have zw2 := c0.size
   replace S := S.box c0.size #[.slice G j g, .slice H q hc] 44
   replace c0 := c0.alloc c0.size (.cells #[.slice G j g, .slice H q hc] 44)
   have k0 := lk S 3 0 rfl rfl
   have k1 := lk S 3 1 rfl rfl
   go_wp2_with fail
   generalize w2.alloc (.cells #[.slice G j g, .slice H q hc] 44) = w3 at *
   refine (iHas_any A A' n c n' c' d i _ HL1.out (by omega)).mono ?_
   rintro e w4 ⟨rfl, b⟩
   rw [hh]
   replace c0 := c0.trans (b.mono c0.size)
   replace S := S.keep b
   clear b k0 k1
   go_wp2_with fail
   refine (iRowOk_any R m k _ r _ (h2i.below c0) (by omega)).mono ?_
   rintro e w5 ⟨rfl, rfl⟩
   rw [hk]
   have k0 := lk S 3 1 rfl rfl
   have o0 := lk S 0 0 rfl rfl
   have o1 := lk S 0 1 rfl rfl
   have p0 := lk S 2 0 rfl rfl
   have p1 := lk S 2 1 rfl rfl
   have f0 := (S.at_ 2 rfl).free 0
   have f1 := (S.at_ 2 rfl).free 1
   have S5 := jd (((S.put 2 rfl 0 (.slice G j g)).put 2 rfl 1 (.slice H q hc)).drop 1).first
   have B5 := jd ((c0.setCell (p := ⟨w.heap.size + 1, 0, none⟩) (by simp) (.slice G j g)).setCell (p := ⟨w.heap.size + 1, 1, none⟩) (by simp) (.slice H q hc))
   clear S c0
   go_wp2
   refine bodyPost_ret (v := .tuple #[.agg #[.slice G j g, .slice H q hc], .bool false]) (by simp [results, Try.results12, go_sem, p0, p1]) rfl ⟨G, j, g, H, q, hc, by rw [HR.out], ?_, B5.out⟩
   rw [HR.out]
   exact S5.out
 have hn60 : n' ≤ 60 := by have := (diskOk_iff.1 hd).2.1; have := HL2.out; omega
 by_cases h60 : 60 ≤ n'
 · have HR := jd (show wrote d i r = (d, false) by
     unfold wrote
     rw [if_pos hd, if_neg]
     rintro ⟨_, _, h9⟩
     rw [HL2.out] at h9
     omega)
   have e60 : (n' : Int) = 60 := by omega
   have e61 : decide ((n' : Int) = 60) = true := by simp [e60]
   have e62 : ((n' : Int) == 60) = true := by simp [e60]
   clear e60
   go_enter Try.func12, Try.ntmps12
   go_wp2_with fail
   rw [← HW.out]
   refine (iDiskOk_any _ _ d _ _ (h.keep c0) c0.size (by omega)).mono ?_
   rintro e w1 ⟨rfl, b⟩
   rw [hd]
   replace c0 := c0.trans (b.mono c0.size)
   replace S := S.keep b
   clear b
   have k0 := lk S 1 0 rfl rfl
   have k1 := lk S 1 1 rfl rfl
   go_wp2_with fail
   refine (iCopyD_any _ _ d _ ((h.keep c0).up c0.size) (by omega)).mono ?_
   rintro e w2 ⟨G, j, g, H, q, hc, rfl, o, b⟩
   obtain ⟨fp, S'⟩ := S.has b o c0.size
   replace c0 := c0.trans (b.mono c0.size)
   clear S; have S := S'; clear S' o b k0 k1
   have zw2 := c0.size
   replace S := S.box c0.size #[.slice G j g, .slice H q hc] 44
   replace c0 := c0.alloc c0.size (.cells #[.slice G j g, .slice H q hc] 44)
   have k0 := lk S 3 0 rfl rfl
   have k1 := lk S 3 1 rfl rfl
   go_wp2_with fail
   generalize w2.alloc (.cells #[.slice G j g, .slice H q hc] 44) = w3 at *
   refine (iHas_any A A' n c n' c' d i _ HL1.out (by omega)).mono ?_
   rintro e w4 ⟨rfl, b⟩
   rw [hh]
   replace c0 := c0.trans (b.mono c0.size)
   replace S := S.keep b
   clear b k0 k1
   go_wp2_with fail
   refine (iRowOk_any R m k _ r _ (h2i.below c0) (by omega)).mono ?_
   rintro e w5 ⟨rfl, rfl⟩
   rw [hk]
   have k0 := lk S 3 1 rfl rfl
   have o0 := lk S 0 0 rfl rfl
   have o1 := lk S 0 1 rfl rfl
   have p0 := lk S 2 0 rfl rfl
   have p1 := lk S 2 1 rfl rfl
   have f0 := (S.at_ 2 rfl).free 0
   have f1 := (S.at_ 2 rfl).free 1
   have S5 := jd (((S.put 2 rfl 0 (.slice G j g)).put 2 rfl 1 (.slice H q hc)).drop 1).first
   have B5 := jd ((c0.setCell (p := ⟨w.heap.size + 1, 0, none⟩) (by simp) (.slice G j g)).setCell (p := ⟨w.heap.size + 1, 1, none⟩) (by simp) (.slice H q hc))
   clear S c0
   go_wp2
   refine bodyPost_ret (v := .tuple #[.agg #[.slice G j g, .slice H q hc], .bool false]) (by simp [results, Try.results12, go_sem, p0, p1]) rfl ⟨G, j, g, H, q, hc, by rw [HR.out], ?_, B5.out⟩
   rw [HR.out]
   exact S5.out
 · have HR := jd (show wrote d i r = (⟨d.kept, d.wait ++ [(i, r)]⟩, true) by
     unfold wrote
     rw [if_pos hd, if_pos ⟨hh, hk, by rw [HL2.out]; omega⟩])
   have e60 : ¬ ((n' : Int) = 60) := by omega
   have e61 : decide ((n' : Int) = 60) = false := by simp [e60]
   have e62 : ((n' : Int) == 60) = false := by simp [e60]
   go_enter Try.func12, Try.ntmps12
   go_wp2_with fail
   rw [← HW.out]
   refine (iDiskOk_any _ _ d _ _ (h.keep c0) c0.size (by omega)).mono ?_
   rintro e w1 ⟨rfl, b⟩
   rw [hd]
   replace c0 := c0.trans (b.mono c0.size)
   replace S := S.keep b
   clear b
   have k0 := lk S 1 0 rfl rfl
   have k1 := lk S 1 1 rfl rfl
   go_wp2_with fail
   refine (iCopyD_any _ _ d _ ((h.keep c0).up c0.size) (by omega)).mono ?_
   rintro e w2 ⟨G, j, g, H, q, hc, rfl, o, b⟩
   obtain ⟨fp, S'⟩ := S.has b o c0.size
   replace c0 := c0.trans (b.mono c0.size)
   clear S; have S := S'; clear S' o b k0 k1
   have zw2 := c0.size
   replace S := S.box c0.size #[.slice G j g, .slice H q hc] 44
   replace c0 := c0.alloc c0.size (.cells #[.slice G j g, .slice H q hc] 44)
   have k0 := lk S 3 0 rfl rfl
   have k1 := lk S 3 1 rfl rfl
   go_wp2_with fail
   generalize w2.alloc (.cells #[.slice G j g, .slice H q hc] 44) = w3 at *
   refine (iHas_any A A' n c n' c' d i _ HL1.out (by omega)).mono ?_
   rintro e w4 ⟨rfl, b⟩
   rw [hh]
   replace c0 := c0.trans (b.mono c0.size)
   replace S := S.keep b
   clear b k0 k1
   go_wp2_with fail
   refine (iRowOk_any R m k _ r _ (h2i.below c0) (by omega)).mono ?_
   rintro e w5 ⟨rfl, rfl⟩
   rw [hk]
   have k0 := lk S 3 1 rfl rfl
   have o0 := lk S 0 0 rfl rfl
   have o1 := lk S 0 1 rfl rfl
   have p0 := lk S 2 0 rfl rfl
   have p1 := lk S 2 1 rfl rfl
   have f0 := (S.at_ 2 rfl).free 0
   have f1 := (S.at_ 2 rfl).free 1
   obtain ⟨v1, v2, fk, fw, ev, SX⟩ := Sep.split (d1 := [keptD d.kept]) (d2 := [waitD d.wait]) S.swap
   obtain ⟨ev1, ev2⟩ : v1 = [.slice G j g] ∧ v2 = [.slice H q hc] := by
    have l1 := (SX.own_ 1 rfl).len
    have l2 := (SX.own_ 0 rfl).len
    match v1, v2, l1, l2 with
    | [y1], [y2], _, _ =>
     injection ev with a1 a2
     injection a2 with a2 _
     subst a1 a2
     exact ⟨rfl, rfl⟩
   subst ev1 ev2
   have hql : q ≤ 1048577 := by
    have h8 := waitD_len (SX.own_ 0 rfl)
    have h9 := HL2.out
    omega
   have hri := jd ((h2i.below c0).up c0.size)
   have SH := jd SX
   have BH := jd c0
   have zw := c0.size
   clear S SX c0 ev f0 f1 p0 p1 o0
   go_wp2_with fail
   go_region_law (first
    | (
       refine step_append_elem (l := d.wait) (y := (i, r)) (fp := fw) (es := [.int .i64 i, .slice Q qn qc]) (by rfl) _ _ (by rfl) Try.underlying42 infoWrite (by rfl) (by decide) wrC_len (by rfl) (SA.out.own_ 1 rfl) (SA.out.nodup_own 1 rfl) (by rfl) HC.out (.int (SA.out.own_ 2 rfl)) (SA.out.nodup_own 2 rfl) HD.out (by omega) (by omega) ?_
       intro G3 g3 w6 fp3 o3 n3 s3 t3
       have SD : Sep (w5.alloc (.cells #[.int .i64 i, .slice Q qn qc] 84)) w.heap.size [.own [waitD d.wait] [.slice H q hc] fw, .own [rowD r] [.slice Q qn qc] f2, .own [keptD d.kept] [.slice G j g] fk, .blk w2.heap.size #[.slice G j g, .slice H q hc] 44, .blk (w.heap.size + 1) #[.slice none 0 0, .slice none 0 0] 44, .blk w.heap.size #[.slice A n c, .slice A' n' c'] 44] := SA.out.drop 1
       have S3 := SD.merge t3 o3 n3 s3 BA.out.size
       have B3 := jd (BA.out.trans (SD.below 0 rfl t3 BA.out.size))
       have q1 : w6.cell? ⟨w2.heap.size, 1, none⟩ = some (.slice H q hc) := (S3.at_ 2 rfl).cell 1
       have q2 := (S3.at_ 2 rfl).free 1
       have S4 := S3.put 2 rfl 1 (.slice G3 (q + 1) g3)
       have u0 : (w6.setCell ⟨w2.heap.size, 1, none⟩ (.slice G3 (q + 1) g3)).cell? ⟨w2.heap.size, 0, none⟩ = some (.slice G j g) := (S4.at_ 2 rfl).cell 0
       have u1 : (w6.setCell ⟨w2.heap.size, 1, none⟩ (.slice G3 (q + 1) g3)).cell? ⟨w2.heap.size, 1, none⟩ = some (.slice G3 (q + 1) g3) := (S4.at_ 2 rfl).cell 1
       have u2 : (w6.setCell ⟨w2.heap.size, 1, none⟩ (.slice G3 (q + 1) g3)).cell? ⟨w.heap.size + 1, 0, none⟩ = some (.slice none 0 0) := (S4.at_ 3 rfl).cell 0
       have u3 : (w6.setCell ⟨w2.heap.size, 1, none⟩ (.slice G3 (q + 1) g3)).cell? ⟨w.heap.size + 1, 1, none⟩ = some (.slice none 0 0) := (S4.at_ 3 rfl).cell 1
       have y2 := (S4.at_ 3 rfl).free 0
       have y3 := (S4.at_ 3 rfl).free 1
       have S5 := jd ((S4.put 3 rfl 0 (.slice G j g)).put 3 rfl 1 (.slice G3 (q + 1) g3)).pair
       clear S3 S4 SD o3 n3 s3 t3)
    | (go_simp; go_at_call 39
       refine (iCopy_any R m k r w4.drew hri.out (by omega)).mono ?_
       rintro e w5 ⟨Q, qn, qc, rfl, o1, b1⟩
       obtain ⟨f2, S2⟩ := (SH.out.keep ((Below.refl _ _).drew)).has b1 o1.has zw
       have g1 : w5.cell? ⟨w2.heap.size, 1, none⟩ = some (.slice H q hc) := (S2.at_ 3 rfl).cell 1
       have zz : w.heap.size ≤ w5.heap.size := Nat.le_trans zw b1.size
       have HD := jd S2.swap.apart
       have SA := jd (S2.swap.box zz #[.int .i64 i, .slice Q qn qc] 84)
       have HC := jd (show ∀ t, t < 2 → (w5.alloc (.cells #[.int .i64 i, .slice Q qn qc] 84)).cell? ⟨w5.heap.size, t, none⟩ = [Value.int .i64 i, Value.slice Q qn qc][t]? from fun t ht => by
        have h1 := (SA.out.at_ 0 rfl).cell t
        have h3 : t = 0 ∨ t = 1 := by omega
        rcases h3 with rfl | rfl
        · exact h1
        · exact h1)
       have BA := jd ((BH.out.drew.trans (b1.mono zw)).alloc zz (.cells #[.int .i64 i, .slice Q qn qc] 84))
       have g2 : (w5.alloc (.cells #[.int .i64 i, .slice Q qn qc] 84)).cell? ⟨w2.heap.size, 1, none⟩ = some (.slice H q hc) := (SA.out.at_ 4 rfl).cell 1
       clear S2 o1 b1))
   all_goals
    go_wp2
    refine bodyPost_ret (v := .tuple #[.agg #[.slice G j g, .slice G3 (q + 1) g3], .bool true]) (by simp [results, Try.results12, go_sem, u2, u3]) rfl ⟨G, j, g, G3, q + 1, g3, by rw [HR.out], ?_, ((B3.out.setCell (p := ⟨w2.heap.size, 1, none⟩) (by show w.heap.size ≤ w2.heap.size; omega) _).setCell (p := ⟨w.heap.size + 1, 0, none⟩) (by simp) _).setCell (p := ⟨w.heap.size + 1, 1, none⟩) (by simp) _⟩
    rw [HR.out]
    exact S5.out
end Go.Proofs.Ytmjifhjhialcbaa
namespace Go.Proofs.Ytmjifhjhialcbaa
set_option maxRecDepth 100000
open Go.RowKit
set_option maxHeartbeats 6400000 in
theorem iSynced_any (A : Option Addr) (n c : Nat) (A' : Option Addr) (n' c' : Nat) (d : DiskM) (w : World) (h : Rd w w.heap.size d.cells [.slice A n c, .slice A' n' c']) (hs : d.sz ≤ 1048576) :
    Calls Try.prog 16 #[.agg #[.slice A n c, .slice A' n' c']] w (MadeD w (synced d)) := by
 obtain ⟨_, _, _, _, _, _, e, e', q1, q2⟩ := h.disk
 injection e with e1 e2 e3
 subst e1 e2 e3
 injection e' with e1 e2 e3
 subst e1 e2 e3
 obtain ⟨_, _, _, e, hl1, _⟩ := q1.kept
 injection e with e1 e2 e3
 subst e1 e2 e3
 obtain ⟨_, _, _, e, hl2, _, _, hel2⟩ := q2.wait
 injection e with e1 e2 e3
 subst e1 e2 e3
 have hks : rowsSz d.kept ≤ 1048577 := by unfold DiskM.sz at hs; omega
 obtain ⟨w0, hw0⟩ : ∃ w0, w0 = (w.alloc (.cells #[.slice A n c, .slice A' n' c'] 44)).alloc (.cells #[.slice none 0 0, .slice none 0 0] 44) := ⟨_, rfl⟩
 have S : Sep w0 w.heap.size [.blk (w.heap.size + 1) #[.slice none 0 0, .slice none 0 0] 44, .blk w.heap.size #[.slice A n c, .slice A' n' c'] 44] := by
  rw [hw0]
  have := ((Sep.nil w w.heap.size).box (Nat.le_refl _) #[.slice A n c, .slice A' n' c'] 44).box (by simp) #[.slice none 0 0, .slice none 0 0] 44
  simpa using this
 have c0 : Below w.heap.size w w0 := by
  rw [hw0]
  exact ((Below.refl _ w).alloc (Nat.le_refl _) _).alloc (by simp) _
 have HL1 := jd hl1
 have HL2 := jd hl2
 have HW := jd hw0
 clear hw0 q2 hl1 hl2
 cases hd : diskOk d
 · have HR := jd (show synced d = zeroD by simp [synced, hd])
   go_enter Try.func16, Try.ntmps16
   go_wp2_with fail
   rw [← HW.out]
   refine (iDiskOk_any _ _ d _ _ (h.keep c0) c0.size (by omega)).mono ?_
   rintro e w1 ⟨rfl, b⟩
   rw [hd]
   replace c0 := c0.trans (b.mono c0.size)
   replace S := S.keep b
   clear b
   have p0 := lk S 0 0 rfl rfl
   have p1 := lk S 0 1 rfl rfl
   have f0 := (S.at_ 0 rfl).free 0
   have f1 := (S.at_ 0 rfl).free 1
   have B5 := jd ((c0.setCell (p := ⟨w.heap.size + 1, 0, none⟩) (by simp) (.slice none 0 0)).setCell (p := ⟨w.heap.size + 1, 1, none⟩) (by simp) (.slice none 0 0))
   clear S c0 hel2
   go_wp2
   refine bodyPost_ret (v := .agg #[.slice none 0 0, .slice none 0 0]) (by simp [results, Try.results16, go_sem, p0, p1]) rfl ⟨none, 0, 0, none, 0, 0, rfl, ?_, B5.out⟩
   rw [HR.out]
   exact has_zero _ _
 have HR := jd (show synced d = fall true d [] by simp [synced, hd])
 have hok := diskOk_iff.1 hd
 have hn1 : 1 ≤ n := by have := hok.1.1; have := HL1.out; omega
 have hn40 : n ≤ 40 := by have := hok.1.2; have := HL1.out; omega
 have hn60 : n' ≤ 60 := by have := hok.2.1; have := HL2.out; omega
 have HOK := jd (ok_wait hd)
 have HK0 := jd (ok_kept_len hd)
 go_enter Try.func16, Try.ntmps16
 go_wp2_with fail
 rw [← HW.out]
 refine (iDiskOk_any _ _ d _ _ (h.keep c0) c0.size (by omega)).mono ?_
 rintro e w1 ⟨rfl, b⟩
 rw [hd]
 replace c0 := c0.trans (b.mono c0.size)
 replace S := S.keep b
 clear b hok hd
 have k0 := lk S 1 0 rfl rfl
 go_wp2_with fail
 refine (iRows_any A n c d.kept _ ((q1.keep c0).up c0.size) hks).mono ?_
 rintro e w2 ⟨g, rfl, ow, b⟩
 obtain ⟨fk, S1⟩ := S.has b ow c0.size
 have c1 := c0.trans (b.mono c0.size)
 have k1 : w2.cell? ⟨w.heap.size, 1, none⟩ = some (.slice A' n' c') := (S1.at_ 2 rfl).cell 1
 have S1' := jd S1
 have C1 := jd c1
 clear S c0 ow b h q1 k0 S1 c1
 go_wp2
 go_loopw [16] (fun i wr => ∃ (q : Nat) (fp : List Nat), q ≤ n' ∧ i = .int .i64 (q : Int) ∧ Sep wr w.heap.size [.own [keptD (fellTo true [] d.kept d.wait q)] [.slice (some ⟨w1.heap.size, 0, none⟩) n g] fp, .blk (w.heap.size + 1) #[.slice none 0 0, .slice none 0 0] 44, .blk w.heap.size #[.slice A n c, .slice A' n' c'] 44] ∧ Below w.heap.size w wr) (fun i _ => n' - (intOf i).toNat)
 case atStart => exact ⟨0, fk, Nat.zero_le _, rfl, S1'.out, C1.out⟩
 case round =>
  obtain ⟨q, fp, hq, rfl, S, hbel⟩ := hrel
  clear S1' C1 k1
  have zw := hbel.size
  by_cases hlt : q < n'
  · obtain ⟨b, off, rfl, hb, hcc⟩ := hel2 (by omega)
    have hjl : q < d.wait.length := by have := HL2.out; omega
    obtain ⟨A1, m1, d1, hcell, hcell2, hrow, hm1, hm2⟩ := hcc q hjl
    obtain ⟨⟨x0, x1⟩, x48⟩ := HOK.out _ (List.getElem_mem hjl)
    obtain ⟨X, hXe⟩ := Int.eq_ofNat_of_zero_le x0
    have hX : X < n := by have := HL1.out; omega
    have hm : m1 ≤ 1048577 := by have := hrow.1; omega
    obtain ⟨xr, hxr⟩ : ∃ xr, xr = d.wait[q].2 := ⟨_, rfl⟩
    rw [hXe] at hcell
    rw [← hxr] at hrow
    have HXL := jd (show xr.length ≤ 48 by rw [hxr]; exact x48)
    have hwq : d.wait.getD q (0, []) = ((X : Int), xr) := by
     simp only [List.getD, List.getElem?_eq_getElem hjl, Option.getD_some]
     rw [← hXe, hxr]
    have HN0 := jd (show fellTo true [] d.kept d.wait (q + 1) = fell true (([] : List Int).getD q 0) (fellTo true [] d.kept d.wait q) ((X : Int), xr) by rw [fellTo, hwq])
    have HKL := jd (show (fellTo true [] d.kept d.wait q).length = n by rw [fellTo_len]; exact HL1.out)
    have HK48 := jd (fellTo_rows (all := true) (fs := []) HK0.out (fun p hp => (HOK.out p hp).2) q)
    have ce := (hbel.cell (p := ⟨b, off + q * 2, none⟩) hb).trans hcell
    have ce2 := (hbel.cell (p := ⟨b, off + q * 2 + 1, none⟩) hb).trans hcell2
    have i0 : (0 : Int) ≤ (q : Int) := by omega
    have i1 : (q : Int) < (n' : Int) := by omega
    have j0 : (0 : Int) ≤ (X : Int) := by omega
    have j1 : (X : Int) < (n : Int) := by omega
    have SB := S.box zw #[.int .i64 (X : Int), .slice A1 m1 d1] 84
    have cb := hbel.alloc zw (.cells #[.int .i64 (X : Int), .slice A1 m1 d1] 84)
    have f1 : (wr.alloc (.cells #[.int .i64 (X : Int), .slice A1 m1 d1] 84)).cell? ⟨wr.heap.size, 0, none⟩ = some (.int .i64 (X : Int)) := (SB.at_ 0 rfl).cell 0
    have f2 : (wr.alloc (.cells #[.int .i64 (X : Int), .slice A1 m1 d1] 84)).cell? ⟨wr.heap.size, 1, none⟩ = some (.slice A1 m1 d1) := (SB.at_ 0 rfl).cell 1
    have hr := jd ((hrow.below cb).up cb.size)
    have zwa := cb.size
    have SH := jd SB
    have BH := jd cb
    clear hcc hrow hcell hcell2 hel2 hbel S SB cb hXe hxr hwq x0 x1 x48
    have HN := jd (show _ = (fellTo true [] d.kept d.wait q).set X xr from HN0.out.trans (fell_keep (.inl rfl)))
    go_wp2_with fail
    generalize wr.alloc (.cells #[.int .i64 (X : Int), .slice A1 m1 d1] 84) = wa at *
    refine wp_region_L (fun v => v.cell? ⟨wr.heap.size, 0, none⟩ = some (.int .i64 (X : Int)) ∧ v.cell? ⟨wr.heap.size, 1, none⟩ = some (.slice A1 m1 d1)) 7 (by kernel_rfl) ?_
    have HF : wa.drew.cell? ⟨wr.heap.size, 0, none⟩ = some (.int .i64 (X : Int)) ∧ wa.drew.cell? ⟨wr.heap.size, 1, none⟩ = some (.slice A1 m1 d1) := ⟨f1, f2⟩
    refine tk 0 (v := ?_) rfl rfl HF (.inl ⟨by rfl, ?_⟩) ?_
    rotate_left 1
    · (rintro v ⟨a0, a1⟩; go_simp; try with_reducible rfl)
    try simp only [Act.put]
    refine tk 1 (v := ?_) rfl rfl HF (.inl ⟨by rfl, ?_⟩) ?_
    rotate_left 1
    · (rintro v ⟨a0, a1⟩; go_simp; try with_reducible rfl)
    try simp only [Act.put]
    refine tk 2 (v := ?_) rfl rfl HF (.inl ⟨by rfl, ?_⟩) ?_
    rotate_left 1
    · (rintro v ⟨a0, a1⟩; go_simp; try with_reducible rfl)
    try simp only [Act.put]
    refine tk 3 (v := ?_) rfl rfl HF (.inl ⟨by rfl, ?_⟩) ?_
    rotate_left 1
    · (rintro v ⟨a0, a1⟩; go_simp; try with_reducible rfl)
    try simp only [Act.put]
    refine tk 4 (v := ?_) rfl rfl HF (.inl ⟨by rfl, ?_⟩) ?_
    rotate_left 1
    · (rintro v ⟨a0, a1⟩; go_simp; try with_reducible rfl)
    try simp only [Act.put]
    refine wpAnyL_step (i := 5) (by kernel_rfl) rfl rfl ?_
    intro K hK
    go_simp
    refine (iCopy_any A1 m1 d1 xr wa.drew hr.out hm).mono ?_
    rintro e w5 ⟨R, rn, rc, rfl, o1, b1⟩
    obtain ⟨fr, S2⟩ := (SH.out.keep ((Below.refl _ _).drew)).has b1 o1.has zwa
    have zz : w.heap.size ≤ w5.heap.size := Nat.le_trans zwa b1.size
    have HF1 : w5.cell? ⟨wr.heap.size, 0, none⟩ = some (.int .i64 (X : Int)) ∧ w5.cell? ⟨wr.heap.size, 1, none⟩ = some (.slice A1 m1 d1) := ⟨(S2.at_ 1 rfl).cell 0, (S2.at_ 1 rfl).cell 1⟩
    have B2 := BH.out.drew.trans (b1.mono zwa)
    obtain ⟨fp', S3, t3⟩ := Sep.store (k := 1) (j := X) rowC_len (by decide) S2.third (by rw [HKL.out]; exact hX) zz
    rw [Nat.mul_one] at S3 t3
    have B3 := jd (B2.trans (S2.third.below 0 rfl t3 zz))
    obtain ⟨es, he, hcell, hfr⟩ := Sep.slot (k := 1) (j := X) rowC_len (by decide) S2.third (by rw [HKL.out]; exact hX)
    match es, he with
    | [y0], _ =>
    have ck := hcell 0 (by decide)
    rw [Nat.add_zero, Nat.mul_one] at ck
    have ck0 : w5.cell? ⟨w1.heap.size, X, none⟩ = some y0 := ck
    have fk := hfr X
    have S4 := jd (show Sep (w5.setCell ⟨w1.heap.size, X, none⟩ (.slice R rn rc)) w.heap.size [.own [keptD ((fellTo true [] d.kept d.wait q).set X xr)] [.slice (some ⟨w1.heap.size, 0, none⟩) n g] fp', .blk (w.heap.size + 1) #[.slice none 0 0, .slice none 0 0] 44, .blk w.heap.size #[.slice A n c, .slice (some ⟨b, off, none⟩) n' c'] 44] from S3.swap.tail)
    refine hK _ _ (fun _ => HF1) ?_
    clear S2 S3 t3 o1 b1 hcell hfr ck B2
    clear hK K
    try simp only [Act.put]
    refine wpAnyL_step (i := 6) (by kernel_rfl) rfl rfl ?_
    intro K hK
    go_simp
    refine hK _ _ (fun _ => HF1) ?_
    clear hK K
    try simp only [Act.put]
    refine wpAnyL_step (i := 7) (by kernel_rfl) rfl rfl ?_
    intro K hK
    go_simp
    refine hK _ _ (fun h => nomatch (show true = false from h)) ?_
    clear hK K
    try simp only [Act.put]
    refine wpAnyL_done (by kernel_rfl) ?_ _
    go_wp2
    go_roundw
    case rel => exact ⟨q + 1, fp', by omega, by go_num, by rw [HN.out]; exact S4.out, B3.out⟩
    case measure => simp [intOf]; omega
  · have hi2 : ¬ ((q : Int) < (n' : Int)) := by omega
    have p0 := lk S 1 0 rfl rfl
    have p1 := lk S 1 1 rfl rfl
    have f0 := (S.at_ 1 rfl).free 0
    have f1 := (S.at_ 1 rfl).free 1
    have eq : q = d.wait.length := by have := HL2.out; omega
    have S5 := jd (show Has _ w.heap.size (fall true d []).cells [.slice (some ⟨w1.heap.size, 0, none⟩) n g, .slice none 0 0] from by
     have h9 := has_kept_nil ((S.put 1 rfl 0 (.slice (some ⟨w1.heap.size, 0, none⟩) n g)).put 1 rfl 1 (.slice none 0 0)).first
     rw [eq] at h9
     exact h9)
    have B5 := jd ((hbel.setCell (p := ⟨w.heap.size + 1, 0, none⟩) (by simp) (.slice (some ⟨w1.heap.size, 0, none⟩) n g)).setCell (p := ⟨w.heap.size + 1, 1, none⟩) (by simp) (.slice none 0 0))
    clear S hbel eq hel2
    go_wp2
    refine bodyPost_ret (v := .agg #[.slice (some ⟨w1.heap.size, 0, none⟩) n g, .slice none 0 0]) (by simp [results, Try.results16, go_sem, p0, p1]) rfl ⟨_, n, g, none, 0, 0, rfl, ?_, B5.out⟩
    rw [HR.out]
    exact S5.out
set_option maxHeartbeats 6400000 in
theorem iFallen_any (A : Option Addr) (n c : Nat) (A' : Option Addr) (n' c' : Nat) (d : DiskM) (E : Option Addr) (o co : Nat) (fs : List Int) (w : World) (h : Rd w w.heap.size d.cells [.slice A n c, .slice A' n' c']) (hs : d.sz ≤ 1048576) (h2 : Rd w w.heap.size (rowCells fs) [.slice E o co]) (hs2 : fs.length ≤ 1048576) :
    Calls Try.prog 17 #[.agg #[.slice A n c, .slice A' n' c'], .slice E o co] w (MadeD w (fallen d fs)) := by
 obtain ⟨_, _, _, e, h2i, _⟩ := h2.irow
 injection e with e1 e2 e3
 subst e1 e2 e3
 have ho : o ≤ 1048577 := by have := h2i.1; omega
 obtain ⟨_, _, _, _, _, _, e, e', q1, q2⟩ := h.disk
 injection e with e1 e2 e3
 subst e1 e2 e3
 injection e' with e1 e2 e3
 subst e1 e2 e3
 obtain ⟨_, _, _, e, hl1, _⟩ := q1.kept
 injection e with e1 e2 e3
 subst e1 e2 e3
 obtain ⟨_, _, _, e, hl2, _, _, hel2⟩ := q2.wait
 injection e with e1 e2 e3
 subst e1 e2 e3
 have hks : rowsSz d.kept ≤ 1048577 := by unfold DiskM.sz at hs; omega
 obtain ⟨w0, hw0⟩ : ∃ w0, w0 = (w.alloc (.cells #[.slice A n c, .slice A' n' c'] 44)).alloc (.cells #[.slice none 0 0, .slice none 0 0] 44) := ⟨_, rfl⟩
 have S : Sep w0 w.heap.size [.blk (w.heap.size + 1) #[.slice none 0 0, .slice none 0 0] 44, .blk w.heap.size #[.slice A n c, .slice A' n' c'] 44] := by
  rw [hw0]
  have := ((Sep.nil w w.heap.size).box (Nat.le_refl _) #[.slice A n c, .slice A' n' c'] 44).box (by simp) #[.slice none 0 0, .slice none 0 0] 44
  simpa using this
 have c0 : Below w.heap.size w w0 := by
  rw [hw0]
  exact ((Below.refl _ w).alloc (Nat.le_refl _) _).alloc (by simp) _
 have HL1 := jd hl1
 have HL2 := jd hl2
 have HW := jd hw0
 clear hw0 q2 hl1 hl2
 cases hd : diskOk d
 · have HR := jd (show fallen d fs = zeroD by simp [fallen, hd])
   go_enter Try.func17, Try.ntmps17
   go_wp2_with fail
   rw [← HW.out]
   refine (iDiskOk_any _ _ d _ _ (h.keep c0) c0.size (by omega)).mono ?_
   rintro e w1 ⟨rfl, b⟩
   rw [hd]
   replace c0 := c0.trans (b.mono c0.size)
   replace S := S.keep b
   clear b
   have p0 := lk S 0 0 rfl rfl
   have p1 := lk S 0 1 rfl rfl
   have f0 := (S.at_ 0 rfl).free 0
   have f1 := (S.at_ 0 rfl).free 1
   have B5 := jd ((c0.setCell (p := ⟨w.heap.size + 1, 0, none⟩) (by simp) (.slice none 0 0)).setCell (p := ⟨w.heap.size + 1, 1, none⟩) (by simp) (.slice none 0 0))
   clear S c0 hel2
   go_wp2
   refine bodyPost_ret (v := .agg #[.slice none 0 0, .slice none 0 0]) (by simp [results, Try.results17, go_sem, p0, p1]) rfl ⟨none, 0, 0, none, 0, 0, rfl, ?_, B5.out⟩
   rw [HR.out]
   exact has_zero _ _
 have HR := jd (show fallen d fs = fall false d fs by simp [fallen, hd])
 have hok := diskOk_iff.1 hd
 have hn1 : 1 ≤ n := by have := hok.1.1; have := HL1.out; omega
 have hn40 : n ≤ 40 := by have := hok.1.2; have := HL1.out; omega
 have hn60 : n' ≤ 60 := by have := hok.2.1; have := HL2.out; omega
 have HOK := jd (ok_wait hd)
 have HK0 := jd (ok_kept_len hd)
 go_enter Try.func17, Try.ntmps17
 go_wp2_with fail
 rw [← HW.out]
 refine (iDiskOk_any _ _ d _ _ (h.keep c0) c0.size (by omega)).mono ?_
 rintro e w1 ⟨rfl, b⟩
 rw [hd]
 replace c0 := c0.trans (b.mono c0.size)
 replace S := S.keep b
 clear b hok hd
 have k0 := lk S 1 0 rfl rfl
 go_wp2_with fail
 refine (iRows_any A n c d.kept _ ((q1.keep c0).up c0.size) hks).mono ?_
 rintro e w2 ⟨g, rfl, ow, b⟩
 obtain ⟨fk, S1⟩ := S.has b ow c0.size
 have c1 := c0.trans (b.mono c0.size)
 have k1 : w2.cell? ⟨w.heap.size, 1, none⟩ = some (.slice A' n' c') := (S1.at_ 2 rfl).cell 1
 have S1' := jd S1
 have C1 := jd c1
 clear S c0 ow b h q1 k0 S1 c1
 go_wp2
 go_loopw [19] (fun i wr => ∃ (q : Nat) (fp : List Nat), q ≤ n' ∧ i = .int .i64 (q : Int) ∧ Sep wr w.heap.size [.own [keptD (fellTo false fs d.kept d.wait q)] [.slice (some ⟨w1.heap.size, 0, none⟩) n g] fp, .blk (w.heap.size + 1) #[.slice none 0 0, .slice none 0 0] 44, .blk w.heap.size #[.slice A n c, .slice A' n' c'] 44] ∧ Below w.heap.size w wr) (fun i _ => n' - (intOf i).toNat)
 case atStart => exact ⟨0, fk, Nat.zero_le _, rfl, S1'.out, C1.out⟩
 case round =>
  obtain ⟨q, fp, hq, rfl, S, hbel⟩ := hrel
  clear S1' C1 k1
  have zw := hbel.size
  by_cases hlt : q < n'
  · obtain ⟨b, off, rfl, hb, hcc⟩ := hel2 (by omega)
    have hjl : q < d.wait.length := by have := HL2.out; omega
    obtain ⟨A1, m1, d1, hcell, hcell2, hrow, hm1, hm2⟩ := hcc q hjl
    obtain ⟨⟨x0, x1⟩, x48⟩ := HOK.out _ (List.getElem_mem hjl)
    obtain ⟨X, hXe⟩ := Int.eq_ofNat_of_zero_le x0
    have hX : X < n := by have := HL1.out; omega
    have hm : m1 ≤ 1048577 := by have := hrow.1; omega
    obtain ⟨xr, hxr⟩ : ∃ xr, xr = d.wait[q].2 := ⟨_, rfl⟩
    rw [hXe] at hcell
    rw [← hxr] at hrow
    have HXL := jd (show xr.length ≤ 48 by rw [hxr]; exact x48)
    have hwq : d.wait.getD q (0, []) = ((X : Int), xr) := by
     simp only [List.getD, List.getElem?_eq_getElem hjl, Option.getD_some]
     rw [← hXe, hxr]
    have HN0 := jd (show fellTo false fs d.kept d.wait (q + 1) = fell false ((fs : List Int).getD q 0) (fellTo false fs d.kept d.wait q) ((X : Int), xr) by rw [fellTo, hwq])
    have HKL := jd (show (fellTo false fs d.kept d.wait q).length = n by rw [fellTo_len]; exact HL1.out)
    have HK48 := jd (fellTo_rows (all := false) (fs := fs) HK0.out (fun p hp => (HOK.out p hp).2) q)
    have ce := (hbel.cell (p := ⟨b, off + q * 2, none⟩) hb).trans hcell
    have ce2 := (hbel.cell (p := ⟨b, off + q * 2 + 1, none⟩) hb).trans hcell2
    have i0 : (0 : Int) ≤ (q : Int) := by omega
    have i1 : (q : Int) < (n' : Int) := by omega
    have j0 : (0 : Int) ≤ (X : Int) := by omega
    have j1 : (X : Int) < (n : Int) := by omega
    have SB := S.box zw #[.int .i64 (X : Int), .slice A1 m1 d1] 84
    have cb := hbel.alloc zw (.cells #[.int .i64 (X : Int), .slice A1 m1 d1] 84)
    have f1 : (wr.alloc (.cells #[.int .i64 (X : Int), .slice A1 m1 d1] 84)).cell? ⟨wr.heap.size, 0, none⟩ = some (.int .i64 (X : Int)) := (SB.at_ 0 rfl).cell 0
    have f2 : (wr.alloc (.cells #[.int .i64 (X : Int), .slice A1 m1 d1] 84)).cell? ⟨wr.heap.size, 1, none⟩ = some (.slice A1 m1 d1) := (SB.at_ 0 rfl).cell 1
    have hr := jd ((hrow.below cb).up cb.size)
    have zwa := cb.size
    have SH := jd SB
    have BH := jd cb
    obtain ⟨_, _, _, e9, _, _, _, hok9⟩ := (SB.own_ 1 rfl).rd.kept
    injection e9 with e9a e9b e9c
    subst e9a e9b e9c
    have hfr := jd (h2i.below cb)
    clear hcc hrow hcell hcell2 hel2 hbel S SB cb hXe hxr hwq x0 x1 x48
    obtain ⟨ft, hft⟩ : ∃ ft, fs.getD q 0 = ft := ⟨_, rfl⟩
    by_cases h2f : ft = 2
    · subst h2f
      have HN := jd (show _ = (fellTo false fs d.kept d.wait q).set X (torn xr ((fellTo false fs d.kept d.wait q).getD X [])) from HN0.out.trans (by rw [hft]; exact fell_torn rfl))
      obtain ⟨g9, off9, e9, hg9, hk9⟩ := hok9 (by omega)
      injection e9 with e9
      injection e9 with e9a e9b
      subst e9a e9b
      obtain ⟨E1, eo, ec, hce1, hrow1, hce2, hce3⟩ := hk9 X (by rw [HKL.out]; exact hX)
      rw [Nat.zero_add] at hce1
      have hlo : eo ≤ 48 := by rw [← hrow1.1]; exact HK48.out _ (List.getElem_mem _)
      have hgd : (fellTo false fs d.kept d.wait q)[X]'(by rw [HKL.out]; exact hX) = (fellTo false fs d.kept d.wait q).getD X [] := by simp [List.getD, List.getElem?_eq_getElem (show X < (fellTo false fs d.kept d.wait q).length by rw [HKL.out]; exact hX)]
      rw [hgd] at hrow1
      have f3 := hce1
      have hr1 := jd hrow1
      clear hgd hce1 hrow1 hk9
      go_wp2_with fail
      generalize wr.alloc (.cells #[.int .i64 (X : Int), .slice A1 m1 d1] 84) = wa at *
      refine (iFate_any E o co _ fs q _ hfr.out ho (by omega)).mono ?_
      rintro e w8 ⟨rfl, rfl⟩
      rw [hft]
      clear hft
      go_wp2_with fail
      refine (iTorn_any A1 m1 d1 xr E1 eo ec _ wa hr.out (by omega) hm1 hm2 hr1.out (by omega) hce2 hce3).mono ?_
      rintro e wt ⟨U, un, uc, rfl, ot, bt⟩
      have ST := jd (SH.out.keep bt)
      have BT := jd (BH.out.trans (bt.mono zwa))
      have zt := BT.out.size
      have hrt := jd ot.irow
      have hun : un ≤ 1048577 := by
          have h7 := ot.irow.1
          have h8 := HXL.out
          unfold torn at h7
          rw [List.length_append, List.length_take, List.length_drop, hr1.out.1] at h7
          omega
      have t1 : wt.cell? ⟨wr.heap.size, 0, none⟩ = some (.int .i64 (X : Int)) := (ST.out.at_ 0 rfl).cell 0
      generalize htr : torn xr ((fellTo false fs d.kept d.wait q).getD X []) = tr at *
      clear htr
      clear ot bt f1 f2 f3 hr hr1
      go_wp2_with fail
      refine wp_region_L (fun v => v.cell? ⟨wr.heap.size, 0, none⟩ = some (.int .i64 (X : Int))) 6 (by kernel_rfl) ?_
      have HF : wt.drew.cell? ⟨wr.heap.size, 0, none⟩ = some (.int .i64 (X : Int)) := t1
      refine tk 0 (v := ?_) rfl rfl HF (.inl ⟨by rfl, ?_⟩) ?_
      rotate_left 1
      · (intro v a0; go_simp; try with_reducible rfl)
      try simp only [Act.put]
      refine tk 1 (v := ?_) rfl rfl HF (.inl ⟨by rfl, ?_⟩) ?_
      rotate_left 1
      · (intro v a0; go_simp; try with_reducible rfl)
      try simp only [Act.put]
      refine tk 2 (v := ?_) rfl rfl HF (.inl ⟨by rfl, ?_⟩) ?_
      rotate_left 1
      · (intro v a0; go_simp; try with_reducible rfl)
      try simp only [Act.put]
      refine tk 3 (v := ?_) rfl rfl HF (.inl ⟨by rfl, ?_⟩) ?_
      rotate_left 1
      · (intro v a0; go_simp; try with_reducible rfl)
      try simp only [Act.put]
      refine wpAnyL_step (i := 4) (by kernel_rfl) rfl rfl ?_
      intro K hK
      go_simp
      refine (iCopy_any U un uc tr wt.drew hrt.out hun).mono ?_
      rintro e w5 ⟨R, rn, rc, rfl, o1, b1⟩
      obtain ⟨fr, S2⟩ := (ST.out.keep ((Below.refl _ _).drew)).has b1 o1.has zt
      have zz : w.heap.size ≤ w5.heap.size := Nat.le_trans zt b1.size
      have HF1 : w5.cell? ⟨wr.heap.size, 0, none⟩ = some (.int .i64 (X : Int)) := (S2.at_ 1 rfl).cell 0
      have B2 := BT.out.drew.trans (b1.mono zt)
      obtain ⟨fp', S3, t3⟩ := Sep.store (k := 1) (j := X) rowC_len (by decide) S2.third (by rw [HKL.out]; exact hX) zz
      rw [Nat.mul_one] at S3 t3
      have B3 := jd (B2.trans (S2.third.below 0 rfl t3 zz))
      obtain ⟨es, he, hcell, hfr⟩ := Sep.slot (k := 1) (j := X) rowC_len (by decide) S2.third (by rw [HKL.out]; exact hX)
      match es, he with
      | [y0], _ =>
      have ck := hcell 0 (by decide)
      rw [Nat.add_zero, Nat.mul_one] at ck
      have ck0 : w5.cell? ⟨w1.heap.size, X, none⟩ = some y0 := ck
      have fk := hfr X
      have S4 := jd (show Sep (w5.setCell ⟨w1.heap.size, X, none⟩ (.slice R rn rc)) w.heap.size [.own [keptD ((fellTo false fs d.kept d.wait q).set X tr)] [.slice (some ⟨w1.heap.size, 0, none⟩) n g] fp', .blk (w.heap.size + 1) #[.slice none 0 0, .slice none 0 0] 44, .blk w.heap.size #[.slice A n c, .slice (some ⟨b, off, none⟩) n' c'] 44] from S3.swap.tail)
      refine hK _ _ (fun _ => HF1) ?_
      clear S2 S3 t3 o1 b1 hcell hfr ck B2
      clear hK K
      try simp only [Act.put]
      refine wpAnyL_step (i := 5) (by kernel_rfl) rfl rfl ?_
      intro K hK
      go_simp
      refine hK _ _ (fun _ => HF1) ?_
      clear hK K
      try simp only [Act.put]
      refine wpAnyL_step (i := 6) (by kernel_rfl) rfl rfl ?_
      intro K hK
      go_simp
      refine hK _ _ (fun h => nomatch (show true = false from h)) ?_
      clear hK K
      try simp only [Act.put]
      refine wpAnyL_done (by kernel_rfl) ?_ _
      go_wp2
      go_roundw
      case rel => exact ⟨q + 1, fp', by omega, by go_num, by rw [HN.out]; exact S4.out, B3.out⟩
      case measure => simp [intOf]; omega
    by_cases h1 : ft = 1
    · subst h1
      clear hok9
      have HN := jd (show _ = (fellTo false fs d.kept d.wait q).set X xr from HN0.out.trans (by rw [hft]; exact fell_keep (.inr rfl)))
      go_wp2_with fail
      generalize wr.alloc (.cells #[.int .i64 (X : Int), .slice A1 m1 d1] 84) = wa at *
      refine (iFate_any E o co _ fs q _ hfr.out ho (by omega)).mono ?_
      rintro e w8 ⟨rfl, rfl⟩
      rw [hft]
      clear hft f2
      go_wp2_with fail
      refine wp_region_L (fun v => v.cell? ⟨wr.heap.size, 0, none⟩ = some (.int .i64 (X : Int))) 6 (by kernel_rfl) ?_
      have HF : wa.drew.cell? ⟨wr.heap.size, 0, none⟩ = some (.int .i64 (X : Int)) := f1
      refine tk 0 (v := ?_) rfl rfl HF (.inl ⟨by rfl, ?_⟩) ?_
      rotate_left 1
      · (intro v a0; go_simp; try with_reducible rfl)
      try simp only [Act.put]
      refine tk 1 (v := ?_) rfl rfl HF (.inl ⟨by rfl, ?_⟩) ?_
      rotate_left 1
      · (intro v a0; go_simp; try with_reducible rfl)
      try simp only [Act.put]
      refine tk 2 (v := ?_) rfl rfl HF (.inl ⟨by rfl, ?_⟩) ?_
      rotate_left 1
      · (intro v a0; go_simp; try with_reducible rfl)
      try simp only [Act.put]
      refine tk 3 (v := ?_) rfl rfl HF (.inl ⟨by rfl, ?_⟩) ?_
      rotate_left 1
      · (intro v a0; go_simp; try with_reducible rfl)
      try simp only [Act.put]
      refine wpAnyL_step (i := 4) (by kernel_rfl) rfl rfl ?_
      intro K hK
      go_simp
      refine (iCopy_any A1 m1 d1 xr wa.drew hr.out hm).mono ?_
      rintro e w5 ⟨R, rn, rc, rfl, o1, b1⟩
      obtain ⟨fr, S2⟩ := (SH.out.keep ((Below.refl _ _).drew)).has b1 o1.has zwa
      have zz : w.heap.size ≤ w5.heap.size := Nat.le_trans zwa b1.size
      have HF1 : w5.cell? ⟨wr.heap.size, 0, none⟩ = some (.int .i64 (X : Int)) := (S2.at_ 1 rfl).cell 0
      have B2 := BH.out.drew.trans (b1.mono zwa)
      obtain ⟨fp', S3, t3⟩ := Sep.store (k := 1) (j := X) rowC_len (by decide) S2.third (by rw [HKL.out]; exact hX) zz
      rw [Nat.mul_one] at S3 t3
      have B3 := jd (B2.trans (S2.third.below 0 rfl t3 zz))
      obtain ⟨es, he, hcell, hfr⟩ := Sep.slot (k := 1) (j := X) rowC_len (by decide) S2.third (by rw [HKL.out]; exact hX)
      match es, he with
      | [y0], _ =>
      have ck := hcell 0 (by decide)
      rw [Nat.add_zero, Nat.mul_one] at ck
      have ck0 : w5.cell? ⟨w1.heap.size, X, none⟩ = some y0 := ck
      have fk := hfr X
      have S4 := jd (show Sep (w5.setCell ⟨w1.heap.size, X, none⟩ (.slice R rn rc)) w.heap.size [.own [keptD ((fellTo false fs d.kept d.wait q).set X xr)] [.slice (some ⟨w1.heap.size, 0, none⟩) n g] fp', .blk (w.heap.size + 1) #[.slice none 0 0, .slice none 0 0] 44, .blk w.heap.size #[.slice A n c, .slice (some ⟨b, off, none⟩) n' c'] 44] from S3.swap.tail)
      refine hK _ _ (fun _ => HF1) ?_
      clear S2 S3 t3 o1 b1 hcell hfr ck B2
      clear hK K
      try simp only [Act.put]
      refine wpAnyL_step (i := 5) (by kernel_rfl) rfl rfl ?_
      intro K hK
      go_simp
      refine hK _ _ (fun _ => HF1) ?_
      clear hK K
      try simp only [Act.put]
      refine wpAnyL_step (i := 6) (by kernel_rfl) rfl rfl ?_
      intro K hK
      go_simp
      refine hK _ _ (fun h => nomatch (show true = false from h)) ?_
      clear hK K
      try simp only [Act.put]
      refine wpAnyL_done (by kernel_rfl) ?_ _
      go_wp2
      go_roundw
      case rel => exact ⟨q + 1, fp', by omega, by go_num, by rw [HN.out]; exact S4.out, B3.out⟩
      case measure => simp [intOf]; omega
    have HN := jd (show _ = fellTo false fs d.kept d.wait q from HN0.out.trans (by rw [hft]; exact fell_lost h1 h2f))
    have e1 : decide (ft = 1) = false := by simp [h1]
    have e2 : decide (ft = 2) = false := by simp [h2f]
    have e3 : (ft == 1) = false := by simp [h1]
    have e4 : (ft == 2) = false := by simp [h2f]
    have S4 := jd SH.out.tail
    go_wp2_with fail
    generalize wr.alloc (.cells #[.int .i64 (X : Int), .slice A1 m1 d1] 84) = wa at *
    refine (iFate_any E o co _ fs q _ hfr.out ho (by omega)).mono ?_
    rintro e w8 ⟨rfl, rfl⟩
    rw [hft]
    clear hft f1 f2 hok9
    go_wp2
    go_roundw
    case rel => exact ⟨q + 1, fp, by omega, by go_num, by rw [HN.out]; exact S4.out, BH.out⟩
    case measure => simp [intOf]; omega
  · have hi2 : ¬ ((q : Int) < (n' : Int)) := by omega
    have p0 := lk S 1 0 rfl rfl
    have p1 := lk S 1 1 rfl rfl
    have f0 := (S.at_ 1 rfl).free 0
    have f1 := (S.at_ 1 rfl).free 1
    have eq : q = d.wait.length := by have := HL2.out; omega
    have S5 := jd (show Has _ w.heap.size (fall false d fs).cells [.slice (some ⟨w1.heap.size, 0, none⟩) n g, .slice none 0 0] from by
     have h9 := has_kept_nil ((S.put 1 rfl 0 (.slice (some ⟨w1.heap.size, 0, none⟩) n g)).put 1 rfl 1 (.slice none 0 0)).first
     rw [eq] at h9
     exact h9)
    have B5 := jd ((hbel.setCell (p := ⟨w.heap.size + 1, 0, none⟩) (by simp) (.slice (some ⟨w1.heap.size, 0, none⟩) n g)).setCell (p := ⟨w.heap.size + 1, 1, none⟩) (by simp) (.slice none 0 0))
    clear S hbel eq hel2
    go_wp2
    refine bodyPost_ret (v := .agg #[.slice (some ⟨w1.heap.size, 0, none⟩) n g, .slice none 0 0]) (by simp [results, Try.results17, go_sem, p0, p1]) rfl ⟨_, n, g, none, 0, 0, rfl, ?_, B5.out⟩
    rw [HR.out]
    exact S5.out
end Go.Proofs.Ytmjifhjhialcbaa
namespace Go.Proofs.Ytmjifhjhialcbaa
set_option maxRecDepth 100000
open Go.RowKit
def hasN (d : DiskM) (at_ i : Int) : Bool := hasS d at_ && (decide (0 ≤ i) && decide (i < ((d.kept.getD at_.toNat []).length : Int)))
theorem hasN_iff {d : DiskM} {at_ i : Int} : hasN d at_ i = true ↔ hasS d at_ = true ∧ 0 ≤ i ∧ i < ((d.kept.getD at_.toNat []).length : Int) := by
 unfold hasN
 simp only [Bool.and_eq_true, decide_eq_true_eq]
set_option maxHeartbeats 1600000 in
theorem iHasN_any (A : Option Addr) (n c : Nat) (A' : Option Addr) (n' c' : Nat) (d : DiskM) (at_ i : Int) (B : Nat) (w : World) (h : Rd w B d.cells [.slice A n c, .slice A' n' c']) (hs : d.sz ≤ 1048577) :
    Calls Try.prog 41 #[.agg #[.slice A n c, .slice A' n' c'], .int .i64 at_, .int .i64 i] w fun e w' => e = .returned (.bool (hasN d at_ i)) ∧ Below w.heap.size w w' := by
 obtain ⟨_, _, _, _, _, _, e, e', q1, q2⟩ := h.disk
 injection e with e1 e2 e3
 subst e1 e2 e3
 injection e' with e1 e2 e3
 subst e1 e2 e3
 obtain ⟨_, _, _, e, hl1, _, _, hel1⟩ := q1.kept
 injection e with e1 e2 e3
 subst e1 e2 e3
 have hn : n ≤ 1048577 := by unfold DiskM.sz rowsSz at hs; omega
 have b0 : Below w.heap.size w (w.alloc (.cells #[.slice A n c, .slice A' n' c'] 44)) := (Below.refl _ w).alloc (Nat.le_refl _) _
 have p0 := Blk.new w #[.slice A n c, .slice A' n' c'] 44
 have HL1 := jd hl1
 have HS := jd hs
 clear h q1 q2 hl1 hs
 cases hh : hasS d at_
 · have HR := jd (show hasN d at_ i = false by simp [hasN, hh])
   clear hel1
   go_enter Try.func41, Try.ntmps41
   go_wp2_with fail
   refine (iHas_any A A' n c n' c' d at_ _ HL1.out hn).mono ?_
   rintro e w1 ⟨rfl, b1⟩
   rw [hh]
   have B1 := jd (b0.trans (b1.mono b0.size))
   clear b1 p0 b0
   go_wp2
   go_ret
   exact ⟨ret_bool HR.out.symm, B1.out⟩
 obtain ⟨z0, z1⟩ : 0 ≤ at_ ∧ at_ ≤ (n : Int) - 1 := by
  have := hh
  unfold hasS at this
  rw [HL1.out] at this
  simpa using this
 obtain ⟨X, rfl⟩ := Int.eq_ofNat_of_zero_le z0
 have hjl : X < d.kept.length := by have := HL1.out; omega
 obtain ⟨b9, off9, rfl, hb9, hcc⟩ := hel1 (by omega)
 obtain ⟨A1, m1, d1, hcell, hrow, hm1, hm2⟩ := hcc X hjl
 have hm : m1 ≤ 1048577 := by
  have h1 := pre_at (g := List.length) hjl
  have h2 := HS.out
  have h3 := hrow.1
  unfold DiskM.sz rowsSz at h2
  omega
 have HGD := jd (show hasN d (X : Int) i = (decide (0 ≤ i) && decide (i < (m1 : Int))) by
  unfold hasN
  rw [hh, Bool.true_and, Int.toNat_natCast, show d.kept.getD X [] = d.kept[X] by simp [List.getD, List.getElem?_eq_getElem hjl], hrow.1])
 have hb9w : b9 < w.heap.size := by
  rcases Nat.lt_or_ge b9 w.heap.size with h9 | h9
  · exact h9
  · have hcl : w.cell? ⟨b9, off9 + X, none⟩ = none := by
      simp only [World.cell?]
      rw [Array.getElem?_eq_none h9]
    rw [hcl] at hcell
    cases hcell
 have a0 : (0 : Int) ≤ (X : Int) := by omega
 have a1 : (X : Int) < (n : Int) := by omega
 clear hcc hel1 hrow
 by_cases hi : 0 ≤ i
 · have HR := jd (show hasN d (X : Int) i = decide (i < (m1 : Int)) by rw [HGD.out, decide_eq_true hi, Bool.true_and])
   go_enter Try.func41, Try.ntmps41
   go_wp2_with fail
   refine (iHas_any _ A' n c n' c' d (X : Int) _ HL1.out hn).mono ?_
   rintro e w1 ⟨rfl, b1⟩
   rw [hh]
   have b01 := b0.trans (b1.mono b0.size)
   have p1 := p0.keep b1 p0.lt
   have k0 : w1.cell? ⟨w.heap.size, 0, none⟩ = some (.slice (some ⟨b9, off9, none⟩) n c) := p1.cell 0
   have k2 : w1.cell? ⟨b9, off9 + X, none⟩ = some (.slice A1 m1 d1) := (b01.cell (p := ⟨b9, off9 + X, none⟩) hb9w).trans hcell
   have B1 := jd b01
   clear b1 p0 b0 b01 p1
   go_wp2
   go_ret
   exact ⟨ret_bool HR.out.symm, B1.out⟩
 · have HR := jd (show hasN d (X : Int) i = false by rw [HGD.out, decide_eq_false hi, Bool.false_and])
   go_enter Try.func41, Try.ntmps41
   go_wp2_with fail
   refine (iHas_any _ A' n c n' c' d (X : Int) _ HL1.out hn).mono ?_
   rintro e w1 ⟨rfl, b1⟩
   rw [hh]
   have B1 := jd (b0.trans (b1.mono b0.size))
   clear b1 p0 b0
   go_wp2
   go_ret
   exact ⟨ret_bool HR.out.symm, B1.out⟩
set_option maxHeartbeats 6400000 in
theorem iRotted_any (A : Option Addr) (n c : Nat) (A' : Option Addr) (n' c' : Nat) (d : DiskM) (at_ i x : Int) (w : World) (h : Rd w w.heap.size d.cells [.slice A n c, .slice A' n' c']) (hs : d.sz ≤ 1048576) :
    Calls Try.prog 15 #[.agg #[.slice A n c, .slice A' n' c'], .int .i64 at_, .int .i64 i, .int .i64 x] w fun e w' => ∃ (B1 : Option Addr) (b1 b2 : Nat) (B2 : Option Addr) (b3 b4 : Nat), e = .returned (.tuple #[.agg #[.slice B1 b1 b2, .slice B2 b3 b4], .bool (rotted d at_ i x).2]) ∧ Has w' w.heap.size (rotted d at_ i x).1.cells [.slice B1 b1 b2, .slice B2 b3 b4] ∧ Below w.heap.size w w' := by
 obtain ⟨_, _, _, _, _, _, e, e', q1, q2⟩ := h.disk
 injection e with e1 e2 e3
 subst e1 e2 e3
 injection e' with e1 e2 e3
 subst e1 e2 e3
 obtain ⟨_, _, _, e, hl1, _, _, hel1⟩ := q1.kept
 injection e with e1 e2 e3
 subst e1 e2 e3
 have hn : n ≤ 1048576 := by unfold DiskM.sz rowsSz at hs; omega
 have HL1 := jd hl1
 obtain ⟨w0, hw0⟩ : ∃ w0, w0 = (w.alloc (.cells #[.slice A n c, .slice A' n' c'] 44)).alloc (.cells #[.slice none 0 0, .slice none 0 0] 44) := ⟨_, rfl⟩
 have S : Sep w0 w.heap.size [.blk (w.heap.size + 1) #[.slice none 0 0, .slice none 0 0] 44, .blk w.heap.size #[.slice A n c, .slice A' n' c'] 44] := by
  rw [hw0]
  have := ((Sep.nil w w.heap.size).box (Nat.le_refl _) #[.slice A n c, .slice A' n' c'] 44).box (by simp) #[.slice none 0 0, .slice none 0 0] 44
  simpa using this
 have c0 : Below w.heap.size w w0 := by
  rw [hw0]
  exact ((Below.refl _ w).alloc (Nat.le_refl _) _).alloc (by simp) _
 have HW := jd hw0
 clear hw0 q1 q2 hl1
 cases hd : diskOk d
 · have HR := jd (show rotted d at_ i x = (zeroD, false) by simp [rotted, hd])
   clear hel1
   go_enter Try.func15, Try.ntmps15
   go_wp2_with fail
   rw [← HW.out]
   refine (iDiskOk_any _ _ d _ _ (h.keep c0) c0.size (by omega)).mono ?_
   rintro e w1 ⟨rfl, b⟩
   rw [hd]
   replace c0 := c0.trans (b.mono c0.size)
   replace S := S.keep b
   clear b
   have p0 := lk S 0 0 rfl rfl
   have p1 := lk S 0 1 rfl rfl
   have f0 := (S.at_ 0 rfl).free 0
   have f1 := (S.at_ 0 rfl).free 1
   have B5 := jd ((c0.setCell (p := ⟨w.heap.size + 1, 0, none⟩) (by simp) (.slice none 0 0)).setCell (p := ⟨w.heap.size + 1, 1, none⟩) (by simp) (.slice none 0 0))
   clear S c0
   go_wp2
   refine bodyPost_ret (v := .tuple #[.agg #[.slice none 0 0, .slice none 0 0], .bool false]) (by simp [results, Try.results15, go_sem, p0, p1]) rfl ⟨none, 0, 0, none, 0, 0, by rw [HR.out], ?_, B5.out⟩
   rw [HR.out]
   exact has_zero _ _
 cases hh : hasN d at_ i
 · have HR := jd (show rotted d at_ i x = (d, false) by
     unfold rotted
     rw [if_pos hd, if_neg (fun h9 => by rw [hasN_iff.2 ⟨h9.1, h9.2.1⟩] at hh; cases hh)])
   clear hel1
   go_enter Try.func15, Try.ntmps15
   go_wp2_with fail
   rw [← HW.out]
   refine (iDiskOk_any _ _ d _ _ (h.keep c0) c0.size (by omega)).mono ?_
   rintro e w1 ⟨rfl, b⟩
   rw [hd]
   replace c0 := c0.trans (b.mono c0.size)
   replace S := S.keep b
   clear b
   have k0 := lk S 1 0 rfl rfl
   have k1 := lk S 1 1 rfl rfl
   go_wp2_with fail
   refine (iCopyD_any _ _ d _ ((h.keep c0).up c0.size) (by omega)).mono ?_
   rintro e w2 ⟨G, j, g, H, q, hc, rfl, o, b⟩
   obtain ⟨fp, S'⟩ := S.has b o c0.size
   replace c0 := c0.trans (b.mono c0.size)
   clear S; have S := S'; clear S' o b k0 k1
   have zw2 := c0.size
   replace S := S.box c0.size #[.slice G j g, .slice H q hc] 44
   replace c0 := c0.alloc c0.size (.cells #[.slice G j g, .slice H q hc] 44)
   have k0 := lk S 3 0 rfl rfl
   have k1 := lk S 3 1 rfl rfl
   go_wp2_with fail
   generalize w2.alloc (.cells #[.slice G j g, .slice H q hc] 44) = w3 at *
   refine (iHasN_any A n c A' n' c' d _ _ w.heap.size _ (h.keep c0) (by omega)).mono ?_
   rintro e w4 ⟨rfl, b⟩
   rw [hh]
   replace c0 := c0.trans (b.mono c0.size)
   replace S := S.keep b
   clear b k0 k1
   have o0 := lk S 0 0 rfl rfl
   have o1 := lk S 0 1 rfl rfl
   have p0 := lk S 2 0 rfl rfl
   have p1 := lk S 2 1 rfl rfl
   have f0 := (S.at_ 2 rfl).free 0
   have f1 := (S.at_ 2 rfl).free 1
   have S5 := jd (((S.put 2 rfl 0 (.slice G j g)).put 2 rfl 1 (.slice H q hc)).drop 1).first
   have B5 := jd ((c0.setCell (p := ⟨w.heap.size + 1, 0, none⟩) (by simp) (.slice G j g)).setCell (p := ⟨w.heap.size + 1, 1, none⟩) (by simp) (.slice H q hc))
   clear S c0
   go_wp2
   refine bodyPost_ret (v := .tuple #[.agg #[.slice G j g, .slice H q hc], .bool false]) (by simp [results, Try.results15, go_sem, p0, p1]) rfl ⟨G, j, g, H, q, hc, by rw [HR.out], ?_, B5.out⟩
   rw [HR.out]
   exact S5.out
 obtain ⟨hh1, hi⟩ := hasN_iff.1 hh
 by_cases hx0 : 0 ≤ x
 case neg =>
  have HR := jd (show rotted d at_ i x = (d, false) by
   unfold rotted
   rw [if_pos hd, if_neg (fun h9 => hx0 h9.2.2.1)])
  clear hel1
  go_enter Try.func15, Try.ntmps15
  go_wp2_with fail
  rw [← HW.out]
  refine (iDiskOk_any _ _ d _ _ (h.keep c0) c0.size (by omega)).mono ?_
  rintro e w1 ⟨rfl, b⟩
  rw [hd]
  replace c0 := c0.trans (b.mono c0.size)
  replace S := S.keep b
  clear b
  have k0 := lk S 1 0 rfl rfl
  have k1 := lk S 1 1 rfl rfl
  go_wp2_with fail
  refine (iCopyD_any _ _ d _ ((h.keep c0).up c0.size) (by omega)).mono ?_
  rintro e w2 ⟨G, j, g, H, q, hc, rfl, o, b⟩
  obtain ⟨fp, S'⟩ := S.has b o c0.size
  replace c0 := c0.trans (b.mono c0.size)
  clear S; have S := S'; clear S' o b k0 k1
  have zw2 := c0.size
  replace S := S.box c0.size #[.slice G j g, .slice H q hc] 44
  replace c0 := c0.alloc c0.size (.cells #[.slice G j g, .slice H q hc] 44)
  have k0 := lk S 3 0 rfl rfl
  have k1 := lk S 3 1 rfl rfl
  go_wp2_with fail
  generalize w2.alloc (.cells #[.slice G j g, .slice H q hc] 44) = w3 at *
  refine (iHasN_any A n c A' n' c' d _ _ w.heap.size _ (h.keep c0) (by omega)).mono ?_
  rintro e w4 ⟨rfl, b⟩
  rw [hh]
  replace c0 := c0.trans (b.mono c0.size)
  replace S := S.keep b
  clear b k0 k1
  have o0 := lk S 0 0 rfl rfl
  have o1 := lk S 0 1 rfl rfl
  have p0 := lk S 2 0 rfl rfl
  have p1 := lk S 2 1 rfl rfl
  have f0 := (S.at_ 2 rfl).free 0
  have f1 := (S.at_ 2 rfl).free 1
  have S5 := jd (((S.put 2 rfl 0 (.slice G j g)).put 2 rfl 1 (.slice H q hc)).drop 1).first
  have B5 := jd ((c0.setCell (p := ⟨w.heap.size + 1, 0, none⟩) (by simp) (.slice G j g)).setCell (p := ⟨w.heap.size + 1, 1, none⟩) (by simp) (.slice H q hc))
  clear S c0
  go_wp2
  refine bodyPost_ret (v := .tuple #[.agg #[.slice G j g, .slice H q hc], .bool false]) (by simp [results, Try.results15, go_sem, p0, p1]) rfl ⟨G, j, g, H, q, hc, by rw [HR.out], ?_, B5.out⟩
  rw [HR.out]
  exact S5.out
 by_cases hx1 : x ≤ 1000000000
 case neg =>
  have HR := jd (show rotted d at_ i x = (d, false) by
   unfold rotted
   rw [if_pos hd, if_neg (fun h9 => hx1 h9.2.2.2)])
  clear hel1
  go_enter Try.func15, Try.ntmps15
  go_wp2_with fail
  rw [← HW.out]
  refine (iDiskOk_any _ _ d _ _ (h.keep c0) c0.size (by omega)).mono ?_
  rintro e w1 ⟨rfl, b⟩
  rw [hd]
  replace c0 := c0.trans (b.mono c0.size)
  replace S := S.keep b
  clear b
  have k0 := lk S 1 0 rfl rfl
  have k1 := lk S 1 1 rfl rfl
  go_wp2_with fail
  refine (iCopyD_any _ _ d _ ((h.keep c0).up c0.size) (by omega)).mono ?_
  rintro e w2 ⟨G, j, g, H, q, hc, rfl, o, b⟩
  obtain ⟨fp, S'⟩ := S.has b o c0.size
  replace c0 := c0.trans (b.mono c0.size)
  clear S; have S := S'; clear S' o b k0 k1
  have zw2 := c0.size
  replace S := S.box c0.size #[.slice G j g, .slice H q hc] 44
  replace c0 := c0.alloc c0.size (.cells #[.slice G j g, .slice H q hc] 44)
  have k0 := lk S 3 0 rfl rfl
  have k1 := lk S 3 1 rfl rfl
  go_wp2_with fail
  generalize w2.alloc (.cells #[.slice G j g, .slice H q hc] 44) = w3 at *
  refine (iHasN_any A n c A' n' c' d _ _ w.heap.size _ (h.keep c0) (by omega)).mono ?_
  rintro e w4 ⟨rfl, b⟩
  rw [hh]
  replace c0 := c0.trans (b.mono c0.size)
  replace S := S.keep b
  clear b k0 k1
  have o0 := lk S 0 0 rfl rfl
  have o1 := lk S 0 1 rfl rfl
  have p0 := lk S 2 0 rfl rfl
  have p1 := lk S 2 1 rfl rfl
  have f0 := (S.at_ 2 rfl).free 0
  have f1 := (S.at_ 2 rfl).free 1
  have S5 := jd (((S.put 2 rfl 0 (.slice G j g)).put 2 rfl 1 (.slice H q hc)).drop 1).first
  have B5 := jd ((c0.setCell (p := ⟨w.heap.size + 1, 0, none⟩) (by simp) (.slice G j g)).setCell (p := ⟨w.heap.size + 1, 1, none⟩) (by simp) (.slice H q hc))
  clear S c0
  go_wp2
  refine bodyPost_ret (v := .tuple #[.agg #[.slice G j g, .slice H q hc], .bool false]) (by simp [results, Try.results15, go_sem, p0, p1]) rfl ⟨G, j, g, H, q, hc, by rw [HR.out], ?_, B5.out⟩
  rw [HR.out]
  exact S5.out
 obtain ⟨z0, z1⟩ : 0 ≤ at_ ∧ at_ ≤ (n : Int) - 1 := by
  have := hh1
  unfold hasS at this
  rw [HL1.out] at this
  simpa using this
 obtain ⟨X, rfl⟩ := Int.eq_ofNat_of_zero_le z0
 have hjl : X < d.kept.length := by have := HL1.out; omega
 have HGD := jd (show d.kept.getD X [] = d.kept[X] by simp [List.getD, List.getElem?_eq_getElem hjl])
 rw [Int.toNat_natCast] at hi
 have HR := jd (show rotted d (X : Int) i x = (⟨d.kept.set X ((d.kept.getD X []).set i.toNat x), d.wait⟩, true) by
  unfold rotted
  rw [if_pos hd, if_pos ⟨hh1, hi, hx0, hx1⟩]
  rfl)
 obtain ⟨b9, off9, rfl, hb9, hcc⟩ := hel1 (by omega)
 obtain ⟨A1, m1, d1, hcell, hrow, hm1, hm2⟩ := hcc X hjl
 have hm48 : m1 ≤ 48 := by rw [← hrow.1]; exact ok_kept_len hd _ (List.getElem_mem hjl)
 have hlen : ((d.kept.getD X []).length : Int) = (m1 : Int) := by rw [HGD.out, hrow.1]
 have a0 : (0 : Int) ≤ (X : Int) := by omega
 have a1 : (X : Int) < (n : Int) := by omega
 clear hcc hel1
 obtain ⟨I, rfl⟩ := Int.eq_ofNat_of_zero_le hi.1
 rw [Int.toNat_natCast] at HR
 have hIm : I < m1 := by have := hi.2; omega
 go_enter Try.func15, Try.ntmps15
 go_wp2_with fail
 rw [← HW.out]
 refine (iDiskOk_any _ _ d _ _ (h.keep c0) c0.size (by omega)).mono ?_
 rintro e w1 ⟨rfl, b⟩
 rw [hd]
 replace c0 := c0.trans (b.mono c0.size)
 replace S := S.keep b
 clear b
 have k0 := lk S 1 0 rfl rfl
 have k1 := lk S 1 1 rfl rfl
 go_wp2_with fail
 refine (iCopyD_any _ _ d _ ((h.keep c0).up c0.size) (by omega)).mono ?_
 rintro e w2 ⟨G, j, g, H, q, hc, rfl, o, b⟩
 obtain ⟨fp, S'⟩ := S.has b o c0.size
 replace c0 := c0.trans (b.mono c0.size)
 clear S; have S := S'; clear S' o b k0 k1
 have zw2 := c0.size
 replace S := S.box c0.size #[.slice G j g, .slice H q hc] 44
 replace c0 := c0.alloc c0.size (.cells #[.slice G j g, .slice H q hc] 44)
 have k0 := lk S 3 0 rfl rfl
 have k1 := lk S 3 1 rfl rfl
 go_wp2_with fail
 generalize w2.alloc (.cells #[.slice G j g, .slice H q hc] 44) = w3 at *
 refine (iHasN_any _ n c A' n' c' d _ _ w.heap.size _ (h.keep c0) (by omega)).mono ?_
 rintro e w4 ⟨rfl, b⟩
 rw [hh]
 replace c0 := c0.trans (b.mono c0.size)
 replace S := S.keep b
 clear b k0 k1
 have o0 := lk S 0 0 rfl rfl
 have o1 := lk S 0 1 rfl rfl
 have p0 := lk S 2 0 rfl rfl
 have p1 := lk S 2 1 rfl rfl
 have f0 := (S.at_ 2 rfl).free 0
 have f1 := (S.at_ 2 rfl).free 1
 obtain ⟨v1, v2, fk, fw, ev, SX⟩ := Sep.split (d1 := [keptD d.kept]) (d2 := [waitD d.wait]) S.swap
 obtain ⟨ev1, ev2⟩ : v1 = [.slice G j g] ∧ v2 = [.slice H q hc] := by
  have l1 := (SX.own_ 1 rfl).len
  have l2 := (SX.own_ 0 rfl).len
  match v1, v2, l1, l2 with
  | [y1], [y2], _, _ =>
   injection ev with a1 a2
   injection a2 with a2 _
   subst a1 a2
   exact ⟨rfl, rfl⟩
 subst ev1 ev2
 have SY := SX.swap
 obtain ⟨g0, cg, es, f2, ee, _, _, he, hcl, hfr, hel, hnd2, hg2, hgf, hsub, hin, _⟩ := Ow.elem (k := 1) rowC_len (by decide) (SY.own_ 0 rfl) (SY.nodup_own 0 rfl) (j := X) hjl
 injection ee with e1 e2 e3
 subst e1 e3
 match es, he with
 | [y0], _ =>
 obtain ⟨R1, rn, rc, rfl, o1', rfl⟩ := hel.own
 have rnl : rn = m1 := by rw [← o1'.len, ← hrow.1]
 subst rnl
 have cy := hcl 0 (by decide)
 rw [Nat.add_zero, Nat.mul_one] at cy
 have cy0 : w4.cell? ⟨g0, X, none⟩ = some (.slice R1 rn rc) := cy
 obtain ⟨r0, rfl, _⟩ := o1'.at_ (by omega)
 have co := o1'.cell_ (j := I) hIm
 have fo : w4.frozen? ⟨r0, I, none⟩ = false := World.ownsRow.frozenAt o1' I
 have op := o1'.put_ I x
 have tt : Touch (Value.slice (some ⟨r0, 0, none⟩) rn rc).ownBlock.toList w4 (w4.setCell ⟨r0, I, none⟩ (.int .i64 x)) := Touch.of_set (by simp [Value.ownBlock])
 have okk := hin _ _ tt op.ow
 have S6 := SY.mark 0 rfl (tt.mono hsub) okk
 have c6 := c0.trans (SY.below 0 rfl (tt.mono hsub) c0.size)
 have u0 : (w4.setCell ⟨r0, I, none⟩ (.int .i64 x)).cell? ⟨w2.heap.size, 0, none⟩ = some (.slice (some ⟨g0, 0, none⟩) j g) := (S6.at_ 2 rfl).cell 0
 have u1 : (w4.setCell ⟨r0, I, none⟩ (.int .i64 x)).cell? ⟨w2.heap.size, 1, none⟩ = some (.slice H q hc) := (S6.at_ 2 rfl).cell 1
 have u2 : (w4.setCell ⟨r0, I, none⟩ (.int .i64 x)).cell? ⟨w.heap.size + 1, 0, none⟩ = some (.slice none 0 0) := (S6.at_ 3 rfl).cell 0
 have u3 : (w4.setCell ⟨r0, I, none⟩ (.int .i64 x)).cell? ⟨w.heap.size + 1, 1, none⟩ = some (.slice none 0 0) := (S6.at_ 3 rfl).cell 1
 have y2 := (S6.at_ 3 rfl).free 0
 have y3 := (S6.at_ 3 rfl).free 1
 have S7 := jd ((S6.put 3 rfl 0 (.slice (some ⟨g0, 0, none⟩) j g)).put 3 rfl 1 (.slice H q hc)).swap.pair
 have B7 := jd ((c6.setCell (p := ⟨w.heap.size + 1, 0, none⟩) (by simp) (.slice (some ⟨g0, 0, none⟩) j g)).setCell (p := ⟨w.heap.size + 1, 1, none⟩) (by simp) (.slice H q hc))
 have b0 : (0 : Int) ≤ (I : Int) := by omega
 have b1 : (I : Int) < (rn : Int) := by omega
 have hjn : (X : Int) < (j : Int) := by have := keptD_len (SY.own_ 0 rfl); have := HL1.out; omega
 have HGK := jd (show d.kept[X] = d.kept.getD X [] from HGD.out.symm)
 clear S SX SY S6 c0 c6 ev hin hsub hgf hg2 hnd2 hfr hcl hel okk op tt o1' cy f0 f1 p0 p1 e2 hrow
 go_wp2
 refine bodyPost_ret (v := .tuple #[.agg #[.slice (some ⟨g0, 0, none⟩) j g, .slice H q hc], .bool true]) (by simp [results, Try.results15, go_sem, u2, u3]) rfl ⟨_, j, g, H, q, hc, by rw [HR.out], ?_, B7.out⟩
 rw [HR.out, ← HGK.out]
 exact S7.out
end Go.Proofs.Ytmjifhjhialcbaa
