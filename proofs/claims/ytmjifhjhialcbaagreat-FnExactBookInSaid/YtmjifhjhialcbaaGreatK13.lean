/- Parts of my texts: KS2 TwoS1. -/
import Derived.Test.YtmjifhjhialcbaaGreatK4
import Derived.Test.YtmjifhjhialcbaaGreatK12
import Derived.Deep.RegionLaw
namespace Go.Proofs.YtmjifhjhialcbaaGreat
set_option maxRecDepth 100000
set_option linter.unusedVariables false
open Go.RowKit
theorem ow_nil_kept (w : World) : Ow w [keptD []] [.slice none 0 0] [] := Ow.row (n := 0) (us := []) (fp1 := []) (fp2 := []) (World.ownsRow_nil w 0 _ _) .nil .nil
theorem ow_nil_wait (w : World) : Ow w [waitD []] [.slice none 0 0] [] := Ow.row (n := 0) (us := []) (fp1 := []) (fp2 := []) (World.ownsRow_nil w 0 _ _) .nil .nil
set_option maxHeartbeats 6400000 in
theorem sCopyD_any (v0 v1 : Value) (d : DiskM) (w : World) (h : Rd w w.heap.size d.cells [v0, v1]) (hs : d.sz ≤ 1048577) :
    Calls Tryz.prog 224 #[.agg #[v0, v1]] w (MadeD w d) := by
 obtain ⟨A, n, c, A', n', c', rfl, rfl, h1, h2⟩ := h.disk
 obtain ⟨_, _, _, e, hl1, _, _, hel1⟩ := h1.kept
 injection e with e1 e2 e3
 subst e1 e2 e3
 obtain ⟨_, _, _, e, hl2, _, _, hel2⟩ := h2.wait
 injection e with e1 e2 e3
 subst e1 e2 e3
 have hn : n ≤ 1048577 := by unfold DiskM.sz rowsSz at hs; omega
 have hn' : n' ≤ 1048577 := by unfold DiskM.sz waitSz at hs; omega
 have HS := jd hs
 have HL1 := jd hl1
 have HL2 := jd hl2
 clear h h1 h2 hs hl1 hl2
 have S0 := (((Sep.nil w w.heap.size).box (Nat.le_refl _) #[.slice A n c, .slice A' n' c'] 33).box (by simp) #[.slice none 0 0, .slice none 0 0] 33).box (by simp; omega) #[.slice none 0 0, .slice none 0 0] 33
 have b0 : Below w.heap.size w (((w.alloc (.cells #[.slice A n c, .slice A' n' c'] 33)).alloc (.cells #[.slice none 0 0, .slice none 0 0] 33)).alloc (.cells #[.slice none 0 0, .slice none 0 0] 33)) :=
  (((Below.refl _ w).alloc (Nat.le_refl _) _).alloc (by simp) _).alloc (by simp; omega) _
 have e1 : (w.alloc (.cells #[.slice A n c, .slice A' n' c'] 33)).heap.size = w.heap.size + 1 := by simp
 have e2 : ((w.alloc (.cells #[.slice A n c, .slice A' n' c'] 33)).alloc (.cells #[.slice none 0 0, .slice none 0 0] 33)).heap.size = w.heap.size + 1 + 1 := by simp
 rw [e1, e2] at S0
 have S1 := jd (S0.own0 (ow_nil_kept _))
 have B0 := jd b0
 clear S0 b0 e1 e2
 go_enter Tryz.func224, Tryz.ntmps224
 go_wp2
 go_loopw [4] (fun i wr => ∃ (j : Nat) (G : Option Addr) (g : Nat) (fp : List Nat), j ≤ n ∧ i = .int .i64 (j : Int) ∧ Sep wr w.heap.size [.own [keptD (d.kept.take j)] [.slice G j g] fp, .blk (w.heap.size + 1 + 1) #[.slice G j g, .slice none 0 0] 33, .blk (w.heap.size + 1) #[.slice none 0 0, .slice none 0 0] 33, .blk w.heap.size #[.slice A n c, .slice A' n' c'] 33] ∧ Below w.heap.size w wr) (fun i _ => n - (intOf i).toNat)
 case atStart => exact ⟨0, none, 0, [], Nat.zero_le _, rfl, S1.out, B0.out⟩
 case round =>
  obtain ⟨j, G, g, fp, hj, rfl, S, hbel⟩ := hrel
  clear S1 B0
  have zb := (S.at_ 1 rfl).lt
  have zw := hbel.size
  have k0 := lk S 3 0 rfl rfl
  have k1 := lk S 1 0 rfl rfl
  by_cases hlt : j < n
  · obtain ⟨b, off, rfl, hb, hc⟩ := hel1 (by omega)
    have hjl : j < d.kept.length := by have := HL1.out; omega
    obtain ⟨A1, m1, d1, hcell, hrow, hm1, hm2⟩ := hc j hjl
    have hm : m1 ≤ 1048577 := by
     have h1 := pre_at (g := List.length) hjl
     have h2 := HS.out
     have h3 := hrow.1
     unfold DiskM.sz rowsSz at h2
     omega
    have hr := jd ((hrow.below hbel).up hbel.size)
    have ce := (hbel.cell (p := ⟨b, off + j, none⟩) hb).trans hcell
    obtain ⟨xr, hxr⟩ : ∃ xr, xr = d.kept[j] := ⟨_, rfl⟩
    rw [← hxr] at hr
    have HX := jd (show d.kept.take (j + 1) = d.kept.take j ++ [xr] by rw [List.take_succ_eq_append_getElem hjl, hxr])
    have i0 : (0 : Int) ≤ (j : Int) := by omega
    have i1 : (j : Int) < (n : Int) := by omega
    have SH := jd S
    have BH := jd hbel
    clear hxr hc hrow hcell hel1 hel2 hbel S
    go_wp2_with fail
    refine wp_region_L (fun v => v.cell? ⟨w.heap.size, 0, none⟩ = some (.slice (some ⟨b, off, none⟩) n c) ∧ v.cell? ⟨w.heap.size + 1 + 1, 0, none⟩ = some (.slice G j g) ∧ v.cell? ⟨b, off + j, none⟩ = some (.slice A1 m1 d1)) 11 (by kernel_rfl) ?_
    have HF : wr.drew.cell? ⟨w.heap.size, 0, none⟩ = some (.slice (some ⟨b, off, none⟩) n c) ∧ wr.drew.cell? ⟨w.heap.size + 1 + 1, 0, none⟩ = some (.slice G j g) ∧ wr.drew.cell? ⟨b, off + j, none⟩ = some (.slice A1 m1 d1) := ⟨k0, k1, ce⟩
    refine tk 0 (v := ?_) rfl rfl HF (.inl ⟨by rfl, ?_⟩) ?_
    rotate_left 1
    · (rintro v ⟨a0, a1, a2⟩; go_simp; try with_reducible rfl)
    try simp only [Act.put]
    refine tk 1 (v := ?_) rfl rfl HF (.inl ⟨by rfl, ?_⟩) ?_
    rotate_left 1
    · (rintro v ⟨a0, a1, a2⟩; go_simp; try with_reducible rfl)
    try simp only [Act.put]
    refine tk 2 (v := ?_) rfl rfl HF (.inl ⟨by rfl, ?_⟩) ?_
    rotate_left 1
    · (rintro v ⟨a0, a1, a2⟩; go_simp; try with_reducible rfl)
    try simp only [Act.put]
    refine tk 3 (v := ?_) rfl rfl HF (.inl ⟨by rfl, ?_⟩) ?_
    rotate_left 1
    · (rintro v ⟨a0, a1, a2⟩; go_simp; try with_reducible rfl)
    try simp only [Act.put]
    refine tk 4 (v := ?_) rfl rfl HF (.inl ⟨by rfl, ?_⟩) ?_
    rotate_left 1
    · (rintro v ⟨a0, a1, a2⟩; go_simp; try with_reducible rfl)
    try simp only [Act.put]
    refine tk 5 (v := ?_) rfl rfl HF (.inl ⟨by rfl, ?_⟩) ?_
    rotate_left 1
    · (rintro v ⟨a0, a1, a2⟩; go_simp; try with_reducible rfl)
    try simp only [Act.put]
    refine tk 6 (v := ?_) rfl rfl HF (.inl ⟨by rfl, ?_⟩) ?_
    rotate_left 1
    · (rintro v ⟨a0, a1, a2⟩; go_simp; try with_reducible rfl)
    try simp only [Act.put]
    refine wpAnyL_step (i := 7) (by kernel_rfl) rfl rfl ?_
    intro K hK
    go_simp
    refine (sCopy_any A1 m1 d1 xr wr.drew hr.out hm).mono ?_
    rintro e w1 ⟨R, rn, rc, rfl, o1, b1⟩
    obtain ⟨f2, S2⟩ := (SH.out.keep ((Below.refl _ _).drew)).has b1 o1.has (by show w.heap.size ≤ wr.heap.size; omega)
    have hbw : b < wr.heap.size := by omega
    have HF1 : w1.cell? ⟨w.heap.size, 0, none⟩ = some (.slice (some ⟨b, off, none⟩) n c) ∧ w1.cell? ⟨w.heap.size + 1 + 1, 0, none⟩ = some (.slice G j g) ∧ w1.cell? ⟨b, off + j, none⟩ = some (.slice A1 m1 d1) :=
     ⟨(S2.at_ 4 rfl).cell 0, (S2.at_ 2 rfl).cell 0, (b1.cell (p := ⟨b, off + j, none⟩) hbw).trans ce⟩
    have zz : w.heap.size ≤ w1.heap.size := by have := (S2.at_ 2 rfl).lt; omega
    have HD := S2.swap.apart
    have SA := S2.swap.box zz #[.slice R rn rc] 39
    have bA := Below.alloc (Below.refl w1.heap.size w1) (Nat.le_refl _) (.cells #[.slice R rn rc] 39)
    have HF2 : (w1.alloc (.cells #[.slice R rn rc] 39)).cell? ⟨w.heap.size, 0, none⟩ = some (.slice (some ⟨b, off, none⟩) n c) ∧ (w1.alloc (.cells #[.slice R rn rc] 39)).cell? ⟨w.heap.size + 1 + 1, 0, none⟩ = some (.slice G j g) ∧ (w1.alloc (.cells #[.slice R rn rc] 39)).cell? ⟨b, off + j, none⟩ = some (.slice A1 m1 d1) :=
     ⟨(SA.at_ 5 rfl).cell 0, (SA.at_ 3 rfl).cell 0, (bA.cell (p := ⟨b, off + j, none⟩) (Nat.lt_of_lt_of_le hbw b1.size)).trans HF1.2.2⟩
    have HC : ∀ i, i < 1 → (w1.alloc (.cells #[.slice R rn rc] 39)).cell? ⟨w1.heap.size, i, none⟩ = [Value.slice R rn rc][i]? := fun i hi => by
     have h1 := (SA.at_ 0 rfl).cell i
     have : i = 0 := by omega
     subst this
     exact h1
    have BA := (BH.out.drew.trans (b1.mono (by show w.heap.size ≤ wr.heap.size; omega))).alloc zz (.cells #[.slice R rn rc] 39)
    refine hK _ _ (fun _ => HF1) ?_
    clear hK K
    try simp only [Act.put]
    refine wpAnyL_step (i := 8) (by kernel_rfl) rfl rfl ?_
    intro K hK
    go_simp
    refine hK _ _ (fun _ => HF2) ?_
    clear hK K
    try simp only [Act.put]
    refine wpAnyL_step (i := 9) (by kernel_rfl) rfl rfl ?_
    intro K hK
    refine wp_append_elem (l := d.kept.take j) (y := xr) (fp := fp) _ _ (by rfl) Tryz.underlying30 infoRow (by rfl) (by decide) rowC_len (by rfl) (SA.own_ 1 rfl) (SA.nodup_own 1 rfl) (by rfl) HC (SA.own_ 2 rfl) (SA.nodup_own 2 rfl) HD (by omega) (by omega) ?_
    intro G3 g3 w3 fp3 o3 n3 s3 t3
    have SD : Sep (w1.alloc (.cells #[.slice R rn rc] 39)) w.heap.size [.own [keptD (d.kept.take j)] [.slice G j g] fp, .own [rowD xr] [.slice R rn rc] f2, .blk (w.heap.size + 1 + 1) #[.slice G j g, .slice none 0 0] 33, .blk (w.heap.size + 1) #[.slice none 0 0, .slice none 0 0] 33, .blk w.heap.size #[.slice (some ⟨b, off, none⟩) n c, .slice A' n' c'] 33] := SA.drop 1
    have S3 := SD.merge t3 o3 n3 s3 BA.size
    have bS := SD.below 0 rfl t3 BA.size
    have B3 := jd (BA.trans bS)
    have HF3 : w3.cell? ⟨w.heap.size, 0, none⟩ = some (.slice (some ⟨b, off, none⟩) n c) ∧ w3.cell? ⟨w.heap.size + 1 + 1, 0, none⟩ = some (.slice G j g) ∧ w3.cell? ⟨b, off + j, none⟩ = some (.slice A1 m1 d1) :=
     ⟨(S3.at_ 3 rfl).cell 0, (S3.at_ 1 rfl).cell 0, (bS.cell (p := ⟨b, off + j, none⟩) hb).trans HF2.2.2⟩
    have q1 := HF3.2.1
    have q2 := (S3.at_ 1 rfl).free 0
    have S4 := jd (S3.put 1 rfl 0 (.slice G3 (j + 1) g3))
    refine hK _ _ (fun _ => HF3) ?_
    clear hK K S3 SD o3 n3 s3 t3 SA S2 HC HD BA bA bS HF HF1 HF2 o1 b1
    try simp only [Act.put]
    refine wpAnyL_step (i := 10) (by kernel_rfl) rfl rfl ?_
    intro K hK
    go_simp
    refine hK _ _ (fun _ => HF3) ?_
    clear hK K
    try simp only [Act.put]
    refine wpAnyL_step (i := 11) (by kernel_rfl) rfl rfl ?_
    intro K hK
    go_simp
    refine hK _ _ (fun h => nomatch (show true = false from h)) ?_
    clear hK K
    try simp only [Act.put]
    refine wpAnyL_done (by kernel_rfl) ?_ _
    go_wp2
    go_roundw
    case rel => exact ⟨j + 1, G3, g3, fp3, by omega, by go_num, by rw [HX.out]; exact S4.out, B3.out.setCell (p := ⟨w.heap.size + 1 + 1, 0, none⟩) (by show w.heap.size ≤ w.heap.size + 1 + 1; omega) _⟩
    case measure => simp [intOf]; omega
  · have hjn : j = n := by omega
    have S2 := jd (show Sep wr w.heap.size [.own [waitD (d.wait.take 0)] [.slice none 0 0] [], .own [keptD d.kept] [.slice G j g] fp, .blk (w.heap.size + 1 + 1) #[.slice G j g, .slice none 0 0] 33, .blk (w.heap.size + 1) #[.slice none 0 0, .slice none 0 0] 33, .blk w.heap.size #[.slice A n c, .slice A' n' c'] 33] by
     have e : d.kept.take j = d.kept := List.take_of_length_le (by have := HL1.out; omega)
     rw [e] at S
     exact S.own0 (ow_nil_wait _))
    have B2 := jd hbel
    have hi : ¬ ((j : Int) < (n : Int)) := by omega
    clear hjn S hbel hel1
    go_wp2
    go_loopw [5] (fun i wx => ∃ (q : Nat) (H : Option Addr) (hc : Nat) (fq : List Nat), q ≤ n' ∧ i = .int .i64 (q : Int) ∧ Sep wx w.heap.size [.own [waitD (d.wait.take q)] [.slice H q hc] fq, .own [keptD d.kept] [.slice G j g] fp, .blk (w.heap.size + 1 + 1) #[.slice G j g, .slice H q hc] 33, .blk (w.heap.size + 1) #[.slice none 0 0, .slice none 0 0] 33, .blk w.heap.size #[.slice A n c, .slice A' n' c'] 33] ∧ Below w.heap.size w wx) (fun i _ => n' - (intOf i).toNat)
    case atStart => exact ⟨0, none, 0, [], Nat.zero_le _, rfl, S2.out, B2.out⟩
    case round =>
     obtain ⟨q, H, hc, fq, hq, rfl, S, hbel⟩ := hrel
     clear S2 B2 k0 k1
     have zb := (S.at_ 2 rfl).lt
     have zw := hbel.size
     by_cases hlt2 : q < n'
     · obtain ⟨b, off, rfl, hb, hcc⟩ := hel2 (by omega)
       have hjl : q < d.wait.length := by have := HL2.out; omega
       obtain ⟨A1, m1, d1, hcell, hcell2, hrow, hm1, hm2⟩ := hcc q hjl
       have hm : m1 ≤ 1048577 := by
        have h1 := pre_at (g := wrSz) hjl
        have h2 := HS.out
        have h3 : wrSz d.wait[q] = m1 := hrow.1
        unfold DiskM.sz waitSz at h2
        omega
       have k0 := lk S 4 1 rfl rfl
       have k1 := lk S 2 1 rfl rfl
       have hr := jd ((hrow.below hbel).up hbel.size)
       have ce := (hbel.cell (p := ⟨b, off + q * 2, none⟩) hb).trans hcell
       have ce2 := (hbel.cell (p := ⟨b, off + q * 2 + 1, none⟩) hb).trans hcell2
       obtain ⟨x, hx⟩ : ∃ x, x = d.wait[q].1 := ⟨_, rfl⟩
       obtain ⟨xr, hxr⟩ : ∃ xr, xr = d.wait[q].2 := ⟨_, rfl⟩
       rw [← hx] at ce
       rw [← hxr] at hr
       have HX := jd (show d.wait.take (q + 1) = d.wait.take q ++ [(x, xr)] by rw [List.take_succ_eq_append_getElem hjl, hx, hxr])
       have i0 : (0 : Int) ≤ (q : Int) := by omega
       have i1 : (q : Int) < (n' : Int) := by omega
       have hbw : b < wr.heap.size := by omega
       have SH := jd S
       have BH := jd hbel
       clear hx hxr hcc hrow hcell hcell2 hel2 hbel S
       go_wp2_with fail
       refine wp_region_L (fun v => v.cell? ⟨w.heap.size, 1, none⟩ = some (.slice (some ⟨b, off, none⟩) n' c') ∧ v.cell? ⟨w.heap.size + 1 + 1, 1, none⟩ = some (.slice H q hc) ∧ v.cell? ⟨b, off + q * 2, none⟩ = some (.int .i64 x) ∧ v.cell? ⟨b, off + q * 2 + 1, none⟩ = some (.slice A1 m1 d1)) 19 (by kernel_rfl) ?_
       have HF : wr.drew.cell? ⟨w.heap.size, 1, none⟩ = some (.slice (some ⟨b, off, none⟩) n' c') ∧ wr.drew.cell? ⟨w.heap.size + 1 + 1, 1, none⟩ = some (.slice H q hc) ∧ wr.drew.cell? ⟨b, off + q * 2, none⟩ = some (.int .i64 x) ∧ wr.drew.cell? ⟨b, off + q * 2 + 1, none⟩ = some (.slice A1 m1 d1) := ⟨k0, k1, ce, ce2⟩
       refine tk 0 (v := ?_) rfl rfl HF (.inl ⟨by rfl, ?_⟩) ?_
       rotate_left 1
       · (rintro v ⟨a0, a1, a2, a3⟩; go_simp; try with_reducible rfl)
       try simp only [Act.put]
       refine tk 1 (v := ?_) rfl rfl HF (.inl ⟨by rfl, ?_⟩) ?_
       rotate_left 1
       · (rintro v ⟨a0, a1, a2, a3⟩; go_simp; try with_reducible rfl)
       try simp only [Act.put]
       refine tk 2 (v := ?_) rfl rfl HF (.inl ⟨by rfl, ?_⟩) ?_
       rotate_left 1
       · (rintro v ⟨a0, a1, a2, a3⟩; go_simp; try with_reducible rfl)
       try simp only [Act.put]
       refine tk 3 (v := ?_) rfl rfl HF (.inl ⟨by rfl, ?_⟩) ?_
       rotate_left 1
       · (rintro v ⟨a0, a1, a2, a3⟩; go_simp; try with_reducible rfl)
       try simp only [Act.put]
       refine tk 4 (v := ?_) rfl rfl HF (.inl ⟨by rfl, ?_⟩) ?_
       rotate_left 1
       · (rintro v ⟨a0, a1, a2, a3⟩; go_simp; try with_reducible rfl)
       try simp only [Act.put]
       refine tk 5 (v := ?_) rfl rfl HF (.inl ⟨by rfl, ?_⟩) ?_
       rotate_left 1
       · (rintro v ⟨a0, a1, a2, a3⟩; go_simp; try with_reducible rfl)
       try simp only [Act.put]
       refine tk 6 (v := ?_) rfl rfl HF (.inl ⟨by rfl, ?_⟩) ?_
       rotate_left 1
       · (rintro v ⟨a0, a1, a2, a3⟩; go_simp; try with_reducible rfl)
       try simp only [Act.put]
       refine tk 7 (v := ?_) rfl rfl HF (.inl ⟨by rfl, ?_⟩) ?_
       rotate_left 1
       · (rintro v ⟨a0, a1, a2, a3⟩; go_simp; try with_reducible rfl)
       try simp only [Act.put]
       refine tk 8 (v := ?_) rfl rfl HF (.inl ⟨by rfl, ?_⟩) ?_
       rotate_left 1
       · (rintro v ⟨a0, a1, a2, a3⟩; go_simp; try with_reducible rfl)
       try simp only [Act.put]
       refine tk 9 (v := ?_) rfl rfl HF (.inl ⟨by rfl, ?_⟩) ?_
       rotate_left 1
       · (rintro v ⟨a0, a1, a2, a3⟩; go_simp; try with_reducible rfl)
       try simp only [Act.put]
       refine tk 10 (v := ?_) rfl rfl HF (.inl ⟨by rfl, ?_⟩) ?_
       rotate_left 1
       · (rintro v ⟨a0, a1, a2, a3⟩; go_simp; try with_reducible rfl)
       try simp only [Act.put]
       refine tk 11 (v := ?_) rfl rfl HF (.inl ⟨by rfl, ?_⟩) ?_
       rotate_left 1
       · (rintro v ⟨a0, a1, a2, a3⟩; go_simp; try with_reducible rfl)
       try simp only [Act.put]
       refine tk 12 (v := ?_) rfl rfl HF (.inl ⟨by rfl, ?_⟩) ?_
       rotate_left 1
       · (rintro v ⟨a0, a1, a2, a3⟩; go_simp; try with_reducible rfl)
       try simp only [Act.put]
       refine tk 13 (v := ?_) rfl rfl HF (.inl ⟨by rfl, ?_⟩) ?_
       rotate_left 1
       · (rintro v ⟨a0, a1, a2, a3⟩; go_simp; try with_reducible rfl)
       try simp only [Act.put]
       refine wpAnyL_step (i := 14) (by kernel_rfl) rfl rfl ?_
       intro K hK
       go_simp
       refine (sCopy_any A1 m1 d1 xr wr.drew hr.out hm).mono ?_
       rintro e w1 ⟨R, rn, rc, rfl, o1, b1⟩
       obtain ⟨f2, S2⟩ := (SH.out.keep ((Below.refl _ _).drew)).has b1 o1.has (by show w.heap.size ≤ wr.heap.size; omega)
       have HF1 : w1.cell? ⟨w.heap.size, 1, none⟩ = some (.slice (some ⟨b, off, none⟩) n' c') ∧ w1.cell? ⟨w.heap.size + 1 + 1, 1, none⟩ = some (.slice H q hc) ∧ w1.cell? ⟨b, off + q * 2, none⟩ = some (.int .i64 x) ∧ w1.cell? ⟨b, off + q * 2 + 1, none⟩ = some (.slice A1 m1 d1) := ⟨(S2.at_ 5 rfl).cell 1, (S2.at_ 3 rfl).cell 1, (b1.cell (p := ⟨b, off + q * 2, none⟩) hbw).trans ce, (b1.cell (p := ⟨b, off + q * 2 + 1, none⟩) hbw).trans ce2⟩
       have zz : w.heap.size ≤ w1.heap.size := by have := (S2.at_ 3 rfl).lt; omega
       have HD := S2.swap.apart
       have SA := S2.swap.box zz #[.int .i64 x, .slice R rn rc] 141
       have bA := Below.alloc (Below.refl w1.heap.size w1) (Nat.le_refl _) (.cells #[.int .i64 x, .slice R rn rc] 141)
       have hb1 := Nat.lt_of_lt_of_le hbw b1.size
       have HF2 : (w1.alloc (.cells #[.int .i64 x, .slice R rn rc] 141)).cell? ⟨w.heap.size, 1, none⟩ = some (.slice (some ⟨b, off, none⟩) n' c') ∧ (w1.alloc (.cells #[.int .i64 x, .slice R rn rc] 141)).cell? ⟨w.heap.size + 1 + 1, 1, none⟩ = some (.slice H q hc) ∧ (w1.alloc (.cells #[.int .i64 x, .slice R rn rc] 141)).cell? ⟨b, off + q * 2, none⟩ = some (.int .i64 x) ∧ (w1.alloc (.cells #[.int .i64 x, .slice R rn rc] 141)).cell? ⟨b, off + q * 2 + 1, none⟩ = some (.slice A1 m1 d1) := ⟨(SA.at_ 6 rfl).cell 1, (SA.at_ 4 rfl).cell 1, (bA.cell (p := ⟨b, off + q * 2, none⟩) hb1).trans HF1.2.2.1, (bA.cell (p := ⟨b, off + q * 2 + 1, none⟩) hb1).trans HF1.2.2.2⟩
       have HC : ∀ i, i < 2 → (w1.alloc (.cells #[.int .i64 x, .slice R rn rc] 141)).cell? ⟨w1.heap.size, i, none⟩ = [Value.int .i64 x, Value.slice R rn rc][i]? := fun i hi => by
        have h1 := (SA.at_ 0 rfl).cell i
        have h3 : i = 0 ∨ i = 1 := by omega
        rcases h3 with rfl | rfl
        · exact h1
        · exact h1
       have BA := (BH.out.drew.trans (b1.mono (by show w.heap.size ≤ wr.heap.size; omega))).alloc zz (.cells #[.int .i64 x, .slice R rn rc] 141)
       refine hK _ _ (fun _ => HF1) ?_
       clear hK K
       try simp only [Act.put]
       refine wpAnyL_step (i := 15) (by kernel_rfl) rfl rfl ?_
       intro K hK
       go_simp
       refine hK _ _ (fun _ => HF1) ?_
       clear hK K
       try simp only [Act.put]
       refine wpAnyL_step (i := 16) (by kernel_rfl) rfl rfl ?_
       intro K hK
       go_simp
       refine hK _ _ (fun _ => HF2) ?_
       clear hK K
       try simp only [Act.put]
       refine wpAnyL_step (i := 17) (by kernel_rfl) rfl rfl ?_
       intro K hK
       refine wp_append_elem (l := d.wait.take q) (y := (x, xr)) (fp := fq) (es := [.int .i64 x, .slice R rn rc]) _ _ (by rfl) Tryz.underlying31 infoWrite (by rfl) (by decide) wrC_len (by rfl) (SA.own_ 1 rfl) (SA.nodup_own 1 rfl) (by rfl) HC (.int (SA.own_ 2 rfl)) (SA.nodup_own 2 rfl) HD (by omega) (by omega) ?_
       intro G3 g3 w3 fp3 o3 n3 s3 t3
       have SD : Sep (w1.alloc (.cells #[.int .i64 x, .slice R rn rc] 141)) w.heap.size [.own [waitD (d.wait.take q)] [.slice H q hc] fq, .own [rowD xr] [.slice R rn rc] f2, .own [keptD d.kept] [.slice G j g] fp, .blk (w.heap.size + 1 + 1) #[.slice G j g, .slice H q hc] 33, .blk (w.heap.size + 1) #[.slice none 0 0, .slice none 0 0] 33, .blk w.heap.size #[.slice A n c, .slice (some ⟨b, off, none⟩) n' c'] 33] := SA.drop 1
       have S3 := SD.merge t3 o3 n3 s3 BA.size
       have bS := SD.below 0 rfl t3 BA.size
       have B3 := jd (BA.trans bS)
       have HF3 : w3.cell? ⟨w.heap.size, 1, none⟩ = some (.slice (some ⟨b, off, none⟩) n' c') ∧ w3.cell? ⟨w.heap.size + 1 + 1, 1, none⟩ = some (.slice H q hc) ∧ w3.cell? ⟨b, off + q * 2, none⟩ = some (.int .i64 x) ∧ w3.cell? ⟨b, off + q * 2 + 1, none⟩ = some (.slice A1 m1 d1) := ⟨(S3.at_ 4 rfl).cell 1, (S3.at_ 2 rfl).cell 1, (bS.cell (p := ⟨b, off + q * 2, none⟩) hb).trans HF2.2.2.1, (bS.cell (p := ⟨b, off + q * 2 + 1, none⟩) hb).trans HF2.2.2.2⟩
       have q1 := HF3.2.1
       have q2 := (S3.at_ 2 rfl).free 1
       have S4 := jd (S3.put 2 rfl 1 (.slice G3 (q + 1) g3))
       refine hK _ _ (fun _ => HF3) ?_
       clear hK K S3 SD o3 n3 s3 t3 SA S2 HC HD BA bA bS HF HF1 HF2 o1 b1 hb1
       try simp only [Act.put]
       refine wpAnyL_step (i := 18) (by kernel_rfl) rfl rfl ?_
       intro K hK
       go_simp
       refine hK _ _ (fun _ => HF3) ?_
       clear hK K
       try simp only [Act.put]
       refine wpAnyL_step (i := 19) (by kernel_rfl) rfl rfl ?_
       intro K hK
       go_simp
       refine hK _ _ (fun h => nomatch (show true = false from h)) ?_
       clear hK K
       try simp only [Act.put]
       refine wpAnyL_done (by kernel_rfl) ?_ _
       go_wp2
       go_roundw
       case rel => exact ⟨q + 1, G3, g3, fp3, by omega, by go_num, by rw [HX.out]; exact S4.out, B3.out.setCell (p := ⟨w.heap.size + 1 + 1, 1, none⟩) (by show w.heap.size ≤ w.heap.size + 1 + 1; omega) _⟩
       case measure => simp [intOf]; omega
     · have hi2 : ¬ ((q : Int) < (n' : Int)) := by omega
       have k0 := lk S 4 1 rfl rfl
       have k1 := lk S 2 0 rfl rfl
       have k2 := lk S 2 1 rfl rfl
       have k3 := lk S 3 0 rfl rfl
       have k4 := lk S 3 1 rfl rfl
       have f3 := (S.at_ 3 rfl).free 0
       have f4 := (S.at_ 3 rfl).free 1
       have e : d.wait.take q = d.wait := List.take_of_length_le (by have := HL2.out; omega)
       rw [e] at S
       have S5 := jd ((S.put 3 rfl 0 (.slice G j g)).put 3 rfl 1 (.slice H q hc)).pair
       have B5 := jd ((hbel.setCell (p := ⟨w.heap.size + 1, 0, none⟩) (by simp) (.slice G j g)).setCell (p := ⟨w.heap.size + 1, 1, none⟩) (by simp) (.slice H q hc))
       clear S hbel e
       go_wp2
       refine bodyPost_ret (v := .agg #[.slice G j g, .slice H q hc]) (by simp [results, Tryz.results224, go_sem, k3, k4]) rfl ⟨G, j, g, H, q, hc, rfl, S5.out, B5.out⟩
end Go.Proofs.YtmjifhjhialcbaaGreat
namespace Go.Proofs.YtmjifhjhialcbaaGreat
set_option maxRecDepth 100000
open Go.RowKit
theorem lastTo_le {l : List (Int × List Int)} {i : Int} {j : Nat} {x : Int × List Int} (hj : j < l.length) (hx : l[j] = x) : lastTo l i (j + 1) = if x.1 = i then some x.2 else lastTo l i j := by
 have : l.getD j (0, []) = x := by simp [List.getD, List.getElem?_eq_getElem hj, hx]
 rw [lastTo, this]
set_option maxHeartbeats 3200000 in
theorem sReadAt_any (v0 v1 : Value) (d : DiskM) (i : Int) (w : World) (h : Rd w w.heap.size d.cells [v0, v1]) (hs : d.sz ≤ 1048577) :
    Calls Tryz.prog 123 #[.agg #[v0, v1], .int .i64 i] w fun e w' => ∃ A n c, e = .returned (.tuple #[.slice A n c, .bool (readAt d i).2]) ∧ Has w' w.heap.size (rowCells (readAt d i).1) [.slice A n c] ∧ Below w.heap.size w w' := by
 obtain ⟨A, n, c, A', n', c', rfl, rfl, h1, h2⟩ := h.disk
 obtain ⟨_, _, _, e, hl1, _, _, hel1⟩ := h1.kept
 injection e with e1 e2 e3
 subst e1 e2 e3
 obtain ⟨_, _, _, e, hl2, _, _, hel2⟩ := h2.wait
 injection e with e1 e2 e3
 subst e1 e2 e3
 have hn : n ≤ 1048577 := by unfold DiskM.sz rowsSz at hs; omega
 have hn' : n' ≤ 1048577 := by unfold DiskM.sz waitSz at hs; omega
 obtain ⟨w0, hw0⟩ : ∃ w0, w0 = w.alloc (.cells #[.slice A n c, .slice A' n' c'] 33) := ⟨_, rfl⟩
 have b0 : Below w.heap.size w w0 := by rw [hw0]; exact (Below.refl _ w).alloc (Nat.le_refl _) _
 have p0 : Blk w0 w.heap.size #[.slice A n c, .slice A' n' c'] 33 := by rw [hw0]; exact Blk.new w _ _
 have hr := (h.keep b0)
 have HW := jd hw0
 have HS := jd hs
 have HL1 := jd hl1
 have HL2 := jd hl2
 clear h h1 h2 hl1 hl2 hw0
 cases hd : diskOk d
 · have HR := jd (show readAt d i = ([], false) by simp [readAt, hd])
   go_enter Tryz.func123, Tryz.ntmps123
   go_wp2_with fail
   rw [← HW.out]
   refine (sDiskOk_any _ _ d _ _ hr b0.size HS.out).mono ?_
   rintro e w1 ⟨rfl, b1⟩
   rw [hd]
   have b01 := b0.trans (b1.mono b0.size)
   have O := jd (own_empty w1).has
   have B := jd (b01.alloc b01.size (.cells #[] 2))
   have z := b01.size
   clear b1 hr b01 b0 p0
   go_wp2
   go_ret2
   refine ⟨some ⟨w1.heap.size, 0, none⟩, 0, 0, by rw [HR.out]; rfl, ?_, B.out⟩
   rw [HR.out]
   exact O.out.up z
 cases hh : hasS d i
 · have HR := jd (show readAt d i = ([], false) by simp [readAt, hd, hh])
   go_enter Tryz.func123, Tryz.ntmps123
   go_wp2_with fail
   rw [← HW.out]
   refine (sDiskOk_any _ _ d _ _ hr b0.size HS.out).mono ?_
   rintro e w1 ⟨rfl, b1⟩
   rw [hd]
   have b01 := b0.trans (b1.mono b0.size)
   have p1 := p0.keep b1 p0.lt
   have k0 : w1.cell? ⟨w.heap.size, 0, none⟩ = some (.slice A n c) := p1.cell 0
   have k1 : w1.cell? ⟨w.heap.size, 1, none⟩ = some (.slice A' n' c') := p1.cell 1
   clear b1 hr p0 b0
   go_wp2_with fail
   refine (sHas_any A A' n c n' c' d i _ HL1.out hn).mono ?_
   rintro e w2 ⟨rfl, b2⟩
   rw [hh]
   have b02 := b01.trans (b2.mono b01.size)
   have O := jd (own_empty w2).has
   have B := jd (b02.alloc b02.size (.cells #[] 2))
   have z := b02.size
   clear b2 b01 b02 k0 k1 p1
   go_wp2
   go_ret2
   refine ⟨some ⟨w2.heap.size, 0, none⟩, 0, 0, by rw [HR.out]; rfl, ?_, B.out⟩
   rw [HR.out]
   exact O.out.up z
 obtain ⟨i0, i1⟩ : 0 ≤ i ∧ i ≤ (n : Int) - 1 := by
  have := hh
  unfold hasS at this
  rw [HL1.out] at this
  simpa using this
 obtain ⟨I, rfl⟩ := Int.eq_ofNat_of_zero_le i0
 have HR := jd (show readAt d (I : Int) = ((lastTo d.wait (I : Int) d.wait.length).getD (d.kept.getD I []), true) by simp [readAt, hd, hh])
 go_enter Tryz.func123, Tryz.ntmps123
 go_wp2_with fail
 rw [← HW.out]
 refine (sDiskOk_any _ _ d _ _ hr b0.size HS.out).mono ?_
 rintro e w1 ⟨rfl, b1⟩
 rw [hd]
 have b01 := b0.trans (b1.mono b0.size)
 have p1 := p0.keep b1 p0.lt
 have k0 : w1.cell? ⟨w.heap.size, 0, none⟩ = some (.slice A n c) := p1.cell 0
 have k1 : w1.cell? ⟨w.heap.size, 1, none⟩ = some (.slice A' n' c') := p1.cell 1
 clear b1 hr p0 b0
 go_wp2_with fail
 refine (sHas_any A A' n c n' c' d (I : Int) _ HL1.out hn).mono ?_
 rintro e w2 ⟨rfl, b2⟩
 rw [hh]
 have b02 := b01.trans (b2.mono b01.size)
 have p2 := p1.keep b2 p1.lt
 have r0 : w2.cell? ⟨w.heap.size, 0, none⟩ = some (.slice A n c) := p2.cell 0
 have r1 : w2.cell? ⟨w.heap.size, 1, none⟩ = some (.slice A' n' c') := p2.cell 1
 have B2 := jd b02
 have z2 := b02.size
 clear b2 b01 b02 k0 k1 p1 p2 hd hh
 go_wp2
 go_loop [6] (fun q => ∃ j : Nat, j ≤ n' ∧ q = .int .i64 ((j : Int) - 1) ∧ lastTo d.wait (I : Int) n' = lastTo d.wait (I : Int) j) (fun q => ((intOf q) + 1).toNat)
 case atStart => exact ⟨n', Nat.le_refl _, by go_num, rfl⟩
 case round =>
  obtain ⟨j, hj, rfl, hlast⟩ := hrel
  by_cases hlt : 0 < j
  · obtain ⟨q, rfl⟩ : ∃ q, j = q + 1 := ⟨j - 1, by omega⟩
    obtain ⟨b, off, rfl, hb, hcc⟩ := hel2 (by omega)
    have hjl : q < d.wait.length := by have := HL2.out; omega
    obtain ⟨A1, m1, d1, hcell, hcell2, hrow, hm1, hm2⟩ := hcc q hjl
    have hm : m1 ≤ 1048577 := by
     have h1 := pre_at (g := wrSz) hjl
     have h2 := HS.out
     have h3 : wrSz d.wait[q] = m1 := hrow.1
     unfold DiskM.sz waitSz at h2
     omega
    have hrw := jd ((hrow.below B2.out).up B2.out.size)
    have ce := (B2.out.cell (p := ⟨b, off + q * 2, none⟩) hb).trans hcell
    have ce2 := (B2.out.cell (p := ⟨b, off + q * 2 + 1, none⟩) hb).trans hcell2
    obtain ⟨x, hx⟩ : ∃ x, x = d.wait[q].1 := ⟨_, rfl⟩
    obtain ⟨xr, hxr⟩ : ∃ xr, xr = d.wait[q].2 := ⟨_, rfl⟩
    rw [← hx] at ce
    rw [← hxr] at hrw
    have HX := jd (lastTo_le (i := (I : Int)) hjl (show d.wait[q] = (x, xr) by rw [hx, hxr]))
    have hq1 : ((q + 1 : Nat) : Int) - 1 = (q : Int) := by omega
    have HLA := jd hlast
    rw [hq1]
    clear hx hxr hcc hrow hcell hcell2 hel1 hel2 hlast hq1
    by_cases hxi : x = (I : Int)
    · have HE := jd (show readAt d (I : Int) = (xr, true) by
        rw [HR.out, HL2.out, HLA.out, HX.out, if_pos hxi]
        rfl)
      subst hxi
      go_wp2_with fail
      refine (sCopy_any A1 m1 d1 xr _ hrw.out hm).mono ?_
      rintro e w3 ⟨R, rn, rc, rfl, o3, b3⟩
      have O := jd (o3.has.up z2)
      have B := jd (B2.out.trans (b3.mono z2))
      clear o3 b3
      go_wp2
      go_ret2
      refine ⟨R, rn, rc, by rw [HE.out]; rfl, ?_, B.out⟩
      rw [HE.out]
      exact O.out
    · have HE := jd (show lastTo d.wait (I : Int) n' = lastTo d.wait (I : Int) q by rw [HLA.out, HX.out, if_neg hxi])
      have hxb : (x == (I : Int)) = false := by simp [hxi]
      have hxd : decide (x = (I : Int)) = false := by simp [hxi]
      go_wp2
      go_round
      case rel => exact ⟨q, by omega, by go_num, HE.out⟩
      case measure => simp [intOf] <;> omega
  · have hj0 : j = 0 := by omega
    subst hj0
    obtain ⟨b, off, rfl, hb, hcc⟩ := hel1 (by omega)
    have hjl : I < d.kept.length := by have := HL1.out; omega
    obtain ⟨A1, m1, d1, hcell, hrow, hm1, hm2⟩ := hcc I hjl
    have hm : m1 ≤ 1048577 := by
     have h1 := pre_at (g := List.length) hjl
     have h2 := HS.out
     have h3 := hrow.1
     unfold DiskM.sz rowsSz at h2
     omega
    have hrw := jd ((hrow.below B2.out).up B2.out.size)
    have ce := (B2.out.cell (p := ⟨b, off + I, none⟩) hb).trans hcell
    have HE := jd (show readAt d (I : Int) = (d.kept[I], true) by
     rw [HR.out, HL2.out, hlast]
     simp [lastTo, List.getD, List.getElem?_eq_getElem hjl])
    generalize d.kept[I] = xr at *
    have a0 : (0 : Int) ≤ (I : Int) := by omega
    have a1 : (I : Int) < (n : Int) := by omega
    clear hcc hrow hcell hel1 hel2 hlast
    go_wp2_with fail
    refine (sCopy_any A1 m1 d1 xr _ hrw.out hm).mono ?_
    rintro e w3 ⟨R, rn, rc, rfl, o3, b3⟩
    have O := jd (o3.has.up z2)
    have B := jd (B2.out.trans (b3.mono z2))
    clear o3 b3
    go_wp2
    go_ret2
    refine ⟨R, rn, rc, by rw [HE.out]; rfl, ?_, B.out⟩
    rw [HE.out]
    exact O.out
end Go.Proofs.YtmjifhjhialcbaaGreat
namespace Go.Proofs.YtmjifhjhialcbaaGreat
set_option maxRecDepth 100000
open Go.RowKit
end Go.Proofs.YtmjifhjhialcbaaGreat
namespace Go.Proofs.YtmjifhjhialcbaaGreat
set_option maxRecDepth 100000
open Go.RowKit
end Go.Proofs.YtmjifhjhialcbaaGreat
namespace Go.Proofs.YtmjifhjhialcbaaGreat
set_option maxRecDepth 100000
set_option linter.unusedVariables false
open Go.RowKit
theorem rdKeptLen {w : World} {B : Nat} {d : DiskM} {A : Option Addr} {n c : Nat} {v : Value} (h : Rd w B d.cells [.slice A n c, v]) : d.kept.length = n := by
 obtain ⟨_, _, _, _, _, _, e, _, h1, _⟩ := h.disk
 injection e with e1 e2 e3
 subst e1 e2 e3
 obtain ⟨_, _, _, e, hl, _⟩ := h1.kept
 injection e with e1 e2 e3
 subst e1 e2 e3
 exact hl
set_option maxHeartbeats 3200000 in
theorem sTwoOk_any (Aa0 : Option Addr) (na0 ca0 : Nat) (Aa1 : Option Addr) (na1 ca1 : Nat) (Aa2 : Option Addr) (na2 ca2 : Nat) (Aa3 : Option Addr) (na3 ca3 : Nat) (t : TwoM) (B : Nat) (w : World) (h : Rd w B t.cells [.slice Aa0 na0 ca0, .slice Aa1 na1 ca1, .slice Aa2 na2 ca2, .slice Aa3 na3 ca3]) (hB : B ≤ w.heap.size) (hs : t.sz ≤ 1048577) :
    Calls Tryz.prog 121 #[.agg #[.slice Aa0 na0 ca0, .slice Aa1 na1 ca1, .slice Aa2 na2 ca2, .slice Aa3 na3 ca3]] w fun e w' => e = .returned (.bool (twoOk t)) ∧ Below w.heap.size w w' := by
 obtain ⟨ha, hb⟩ := h.halves
 have hsa : t.a.sz ≤ 1048577 := by unfold TwoM.sz at hs; omega
 have hsb : t.b.sz ≤ 1048577 := by unfold TwoM.sz at hs; omega
 cases hda : diskOk t.a
 case false =>
  have HT := jd (show twoOk t = false from twoOk_no (by simp [hda]))
  have HA := jd hda
  clear hda
  have S := Sep.nil w w.heap.size
  have c := Below.refl w.heap.size w
  replace S := S.boxAt c.size (w.heap.size) rfl #[.slice Aa0 na0 ca0, .slice Aa1 na1 ca1, .slice Aa2 na2 ca2, .slice Aa3 na3 ca3] 35
  replace c := al c S
  go_enter Tryz.func121, Tryz.ntmps121
  go_wp2_with fail
  generalize w.alloc (.cells #[.slice Aa0 na0 ca0, .slice Aa1 na1 ca1, .slice Aa2 na2 ca2, .slice Aa3 na3 ca3] 35) = w1 at *
  refine (sDiskOk_any _ _ t.a _ _ (ha.keep (c.mono hB)) (Nat.le_trans hB c.size) hsa).mono ?_
  rintro e w2 ⟨rfl, b⟩
  replace c := c.trans (b.mono c.size)
  replace S := S.keep b
  clear b
  rw [HA.out]
  have C := jd c
  clear S c ha hb h
  go_wp2
  go_ret
  exact ⟨ret_bool HT.out.symm, C.out⟩
 have HA := jd hda
 clear hda
 cases hdb : diskOk t.b
 case false =>
  have HT := jd (show twoOk t = false from twoOk_no (by simp [hdb]))
  have HB := jd hdb
  clear hdb
  have S := Sep.nil w w.heap.size
  have c := Below.refl w.heap.size w
  replace S := S.boxAt c.size (w.heap.size) rfl #[.slice Aa0 na0 ca0, .slice Aa1 na1 ca1, .slice Aa2 na2 ca2, .slice Aa3 na3 ca3] 35
  replace c := al c S
  go_enter Tryz.func121, Tryz.ntmps121
  go_wp2_with fail
  generalize w.alloc (.cells #[.slice Aa0 na0 ca0, .slice Aa1 na1 ca1, .slice Aa2 na2 ca2, .slice Aa3 na3 ca3] 35) = w1 at *
  refine (sDiskOk_any _ _ t.a _ _ (ha.keep (c.mono hB)) (Nat.le_trans hB c.size) hsa).mono ?_
  rintro e w2 ⟨rfl, b⟩
  replace c := c.trans (b.mono c.size)
  replace S := S.keep b
  clear b
  rw [HA.out]
  have f0 := lk S 0 2 rfl rfl
  have f1 := lk S 0 3 rfl rfl
  go_wp2_with fail
  refine (sDiskOk_any _ _ t.b _ _ (hb.keep (c.mono hB)) (Nat.le_trans hB c.size) hsb).mono ?_
  rintro e w3 ⟨rfl, b⟩
  replace c := c.trans (b.mono c.size)
  replace S := S.keep b
  clear b f0 f1
  rw [HB.out]
  have C := jd c
  clear S c ha hb h
  go_wp2
  go_ret
  exact ⟨ret_bool HT.out.symm, C.out⟩
 case true =>
  have hl0 := rdKeptLen ha
  have hl2 := rdKeptLen hb
  have hn0 : na0 ≤ 1048577 := by unfold DiskM.sz rowsSz at hsa; omega
  have hn2 : na2 ≤ 1048577 := by unfold DiskM.sz rowsSz at hsb; omega
  have HT := jd (show twoOk t = decide ((na0 : Int) = (na2 : Int)) by
   unfold twoOk
   rw [HA.out, hdb, hl0, hl2]
   simp only [Bool.true_and]
   exact decide_eq_decide.2 (by omega))
  have HB := jd hdb
  clear hdb hl0 hl2
  have S := Sep.nil w w.heap.size
  have c := Below.refl w.heap.size w
  replace S := S.boxAt c.size (w.heap.size) rfl #[.slice Aa0 na0 ca0, .slice Aa1 na1 ca1, .slice Aa2 na2 ca2, .slice Aa3 na3 ca3] 35
  replace c := al c S
  go_enter Tryz.func121, Tryz.ntmps121
  go_wp2_with fail
  generalize w.alloc (.cells #[.slice Aa0 na0 ca0, .slice Aa1 na1 ca1, .slice Aa2 na2 ca2, .slice Aa3 na3 ca3] 35) = w1 at *
  refine (sDiskOk_any _ _ t.a _ _ (ha.keep (c.mono hB)) (Nat.le_trans hB c.size) hsa).mono ?_
  rintro e w2 ⟨rfl, b⟩
  replace c := c.trans (b.mono c.size)
  replace S := S.keep b
  clear b
  rw [HA.out]
  have f0 := lk S 0 2 rfl rfl
  have f1 := lk S 0 3 rfl rfl
  go_wp2_with fail
  refine (sDiskOk_any _ _ t.b _ _ (hb.keep (c.mono hB)) (Nat.le_trans hB c.size) hsb).mono ?_
  rintro e w3 ⟨rfl, b⟩
  replace c := c.trans (b.mono c.size)
  replace S := S.keep b
  clear b f0 f1
  rw [HB.out]
  have f2 := lk S 0 0 rfl rfl
  have f3 := lk S 0 2 rfl rfl
  have C := jd c
  clear S c ha hb h
  go_wp2
  go_ret
  exact ⟨ret_bool HT.out.symm, C.out⟩
end Go.Proofs.YtmjifhjhialcbaaGreat
