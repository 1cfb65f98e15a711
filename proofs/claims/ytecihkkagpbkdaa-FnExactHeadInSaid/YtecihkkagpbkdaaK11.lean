/- Parts of my texts: KS2. -/
import Derived.Test.YtecihkkagpbkdaaK3
import Derived.Test.YtecihkkagpbkdaaK10
import Derived.Deep.RegionLaw
namespace Go.Proofs.Ytecihkkagpbkdaa
set_option maxRecDepth 100000
set_option linter.unusedVariables false
open Go.RowKit
theorem ow_nil_kept (w : World) : Ow w [keptD []] [.slice none 0 0] [] := Ow.row (n := 0) (us := []) (fp1 := []) (fp2 := []) (World.ownsRow_nil w 0 _ _) .nil .nil
theorem ow_nil_wait (w : World) : Ow w [waitD []] [.slice none 0 0] [] := Ow.row (n := 0) (us := []) (fp1 := []) (fp2 := []) (World.ownsRow_nil w 0 _ _) .nil .nil
theorem keptD_len {w : World} {l : List (List Int)} {A : Option Addr} {n c : Nat} {fp : List Nat} (h : Ow w [keptD l] [.slice A n c] fp) : l.length = n := by
 obtain ⟨_, _, _, e, hl, _⟩ := h.rd.kept
 injection e with _ e2 _
 omega
theorem waitD_len {w : World} {l : List (Int × List Int)} {A : Option Addr} {n c : Nat} {fp : List Nat} (h : Ow w [waitD l] [.slice A n c] fp) : l.length = n := by
 obtain ⟨_, _, _, e, hl, _⟩ := h.rd.wait
 injection e with _ e2 _
 omega
set_option maxHeartbeats 6400000 in
theorem sCopyD_any (v0 v1 : Value) (d : DiskM) (w : World) (h : Rd w w.heap.size d.cells [v0, v1]) (hs : d.sz ≤ 1048577) :
    Calls Try.prog 89 #[.agg #[v0, v1]] w (MadeD w d) := by
 obtain ⟨A, n, c, A', n', c', rfl, rfl, h1, h2⟩ := h.disk
 obtain ⟨_, _, _, e, hl1, _, _, hel1⟩ := h1.kept
 injection e with e1 e2 e3
 subst e1 e2 e3
 obtain ⟨_, _, _, e, hl2, _, _, hel2⟩ := h2.wait
 injection e with e1 e2 e3
 subst e1 e2 e3
 have hn : n ≤ 1048577 := by unfold DiskM.sz rowsSz at hs; omega
 have hn' : n' ≤ 1048577 := by unfold DiskM.sz waitSz at hs; omega
 have HS := jd hs
 have HL1 := jd hl1
 have HL2 := jd hl2
 clear h h1 h2 hs hl1 hl2
 have S0 := (((Sep.nil w w.heap.size).box (Nat.le_refl _) #[.slice A n c, .slice A' n' c'] 32).box (by simp) #[.slice none 0 0, .slice none 0 0] 32).box (by simp; omega) #[.slice none 0 0, .slice none 0 0] 32
 have b0 : Below w.heap.size w (((w.alloc (.cells #[.slice A n c, .slice A' n' c'] 32)).alloc (.cells #[.slice none 0 0, .slice none 0 0] 32)).alloc (.cells #[.slice none 0 0, .slice none 0 0] 32)) :=
  (((Below.refl _ w).alloc (Nat.le_refl _) _).alloc (by simp) _).alloc (by simp; omega) _
 have e1 : (w.alloc (.cells #[.slice A n c, .slice A' n' c'] 32)).heap.size = w.heap.size + 1 := by simp
 have e2 : ((w.alloc (.cells #[.slice A n c, .slice A' n' c'] 32)).alloc (.cells #[.slice none 0 0, .slice none 0 0] 32)).heap.size = w.heap.size + 1 + 1 := by simp
 rw [e1, e2] at S0
 have S1 := jd (S0.own0 (ow_nil_kept _))
 have B0 := jd b0
 clear S0 b0 e1 e2
 go_enter Try.func89, Try.ntmps89
 go_wp2
 go_loopw [4] (fun i wr => ∃ (j : Nat) (G : Option Addr) (g : Nat) (fp : List Nat), j ≤ n ∧ i = .int .i64 (j : Int) ∧ Sep wr w.heap.size [.own [keptD (d.kept.take j)] [.slice G j g] fp, .blk (w.heap.size + 1 + 1) #[.slice G j g, .slice none 0 0] 32, .blk (w.heap.size + 1) #[.slice none 0 0, .slice none 0 0] 32, .blk w.heap.size #[.slice A n c, .slice A' n' c'] 32] ∧ Below w.heap.size w wr) (fun i _ => n - (intOf i).toNat)
 case atStart => exact ⟨0, none, 0, [], Nat.zero_le _, rfl, S1.out, B0.out⟩
 case round =>
  obtain ⟨j, G, g, fp, hj, rfl, S, hbel⟩ := hrel
  clear S1 B0
  have zb := (S.at_ 1 rfl).lt
  have zw := hbel.size
  have k0 := lk S 3 0 rfl rfl
  have k1 := lk S 1 0 rfl rfl
  by_cases hlt : j < n
  · obtain ⟨b, off, rfl, hb, hc⟩ := hel1 (by omega)
    have hjl : j < d.kept.length := by have := HL1.out; omega
    obtain ⟨A1, m1, d1, hcell, hrow, hm1, hm2⟩ := hc j hjl
    have hm : m1 ≤ 1048577 := by
     have h1 := pre_at (g := List.length) hjl
     have h2 := HS.out
     have h3 := hrow.1
     unfold DiskM.sz rowsSz at h2
     omega
    have hr := jd ((hrow.below hbel).up hbel.size)
    have ce := (hbel.cell (p := ⟨b, off + j, none⟩) hb).trans hcell
    obtain ⟨xr, hxr⟩ : ∃ xr, xr = d.kept[j] := ⟨_, rfl⟩
    rw [← hxr] at hr
    have HX := jd (show d.kept.take (j + 1) = d.kept.take j ++ [xr] by rw [List.take_succ_eq_append_getElem hjl, hxr])
    have i0 : (0 : Int) ≤ (j : Int) := by omega
    have i1 : (j : Int) < (n : Int) := by omega
    have SH := jd S
    have BH := jd hbel
    clear hxr hc hrow hcell hel1 hel2 hbel S
    go_wp2_with fail
    refine wp_region_L (fun v => v.cell? ⟨w.heap.size, 0, none⟩ = some (.slice (some ⟨b, off, none⟩) n c) ∧ v.cell? ⟨w.heap.size + 1 + 1, 0, none⟩ = some (.slice G j g) ∧ v.cell? ⟨b, off + j, none⟩ = some (.slice A1 m1 d1)) 11 (by kernel_rfl) ?_
    have HF : wr.drew.cell? ⟨w.heap.size, 0, none⟩ = some (.slice (some ⟨b, off, none⟩) n c) ∧ wr.drew.cell? ⟨w.heap.size + 1 + 1, 0, none⟩ = some (.slice G j g) ∧ wr.drew.cell? ⟨b, off + j, none⟩ = some (.slice A1 m1 d1) := ⟨k0, k1, ce⟩
    refine tk 0 (v := ?_) rfl rfl HF (.inl ⟨by rfl, ?_⟩) ?_
    rotate_left 1
    · (rintro v ⟨a0, a1, a2⟩; go_simp; try with_reducible rfl)
    try simp only [Act.put]
    refine tk 1 (v := ?_) rfl rfl HF (.inl ⟨by rfl, ?_⟩) ?_
    rotate_left 1
    · (rintro v ⟨a0, a1, a2⟩; go_simp; try with_reducible rfl)
    try simp only [Act.put]
    refine tk 2 (v := ?_) rfl rfl HF (.inl ⟨by rfl, ?_⟩) ?_
    rotate_left 1
    · (rintro v ⟨a0, a1, a2⟩; go_simp; try with_reducible rfl)
    try simp only [Act.put]
    refine tk 3 (v := ?_) rfl rfl HF (.inl ⟨by rfl, ?_⟩) ?_
    rotate_left 1
    · (rintro v ⟨a0, a1, a2⟩; go_simp; try with_reducible rfl)
    try simp only [Act.put]
    refine tk 4 (v := ?_) rfl rfl HF (.inl ⟨by rfl, ?_⟩) ?_
    rotate_left 1
    · (rintro v ⟨a0, a1, a2⟩; go_simp; try with_reducible rfl)
    try simp only [Act.put]
    refine tk 5 (v := ?_) rfl rfl HF (.inl ⟨by rfl, ?_⟩) ?_
    rotate_left 1
    · (rintro v ⟨a0, a1, a2⟩; go_simp; try with_reducible rfl)
    try simp only [Act.put]
    refine tk 6 (v := ?_) rfl rfl HF (.inl ⟨by rfl, ?_⟩) ?_
    rotate_left 1
    · (rintro v ⟨a0, a1, a2⟩; go_simp; try with_reducible rfl)
    try simp only [Act.put]
    refine wpAnyL_step (i := 7) (by kernel_rfl) rfl rfl ?_
    intro K hK
    go_simp
    refine (sCopy_any A1 m1 d1 xr wr.drew hr.out hm).mono ?_
    rintro e w1 ⟨R, rn, rc, rfl, o1, b1⟩
    obtain ⟨f2, S2⟩ := (SH.out.keep ((Below.refl _ _).drew)).has b1 o1.has (by show w.heap.size ≤ wr.heap.size; omega)
    have hbw : b < wr.heap.size := by omega
    have HF1 : w1.cell? ⟨w.heap.size, 0, none⟩ = some (.slice (some ⟨b, off, none⟩) n c) ∧ w1.cell? ⟨w.heap.size + 1 + 1, 0, none⟩ = some (.slice G j g) ∧ w1.cell? ⟨b, off + j, none⟩ = some (.slice A1 m1 d1) :=
     ⟨(S2.at_ 4 rfl).cell 0, (S2.at_ 2 rfl).cell 0, (b1.cell (p := ⟨b, off + j, none⟩) hbw).trans ce⟩
    have zz : w.heap.size ≤ w1.heap.size := by have := (S2.at_ 2 rfl).lt; omega
    have HD := S2.swap.apart
    have SA := S2.swap.box zz #[.slice R rn rc] 71
    have bA := Below.alloc (Below.refl w1.heap.size w1) (Nat.le_refl _) (.cells #[.slice R rn rc] 71)
    have HF2 : (w1.alloc (.cells #[.slice R rn rc] 71)).cell? ⟨w.heap.size, 0, none⟩ = some (.slice (some ⟨b, off, none⟩) n c) ∧ (w1.alloc (.cells #[.slice R rn rc] 71)).cell? ⟨w.heap.size + 1 + 1, 0, none⟩ = some (.slice G j g) ∧ (w1.alloc (.cells #[.slice R rn rc] 71)).cell? ⟨b, off + j, none⟩ = some (.slice A1 m1 d1) :=
     ⟨(SA.at_ 5 rfl).cell 0, (SA.at_ 3 rfl).cell 0, (bA.cell (p := ⟨b, off + j, none⟩) (Nat.lt_of_lt_of_le hbw b1.size)).trans HF1.2.2⟩
    have HC : ∀ i, i < 1 → (w1.alloc (.cells #[.slice R rn rc] 71)).cell? ⟨w1.heap.size, i, none⟩ = [Value.slice R rn rc][i]? := fun i hi => by
     have h1 := (SA.at_ 0 rfl).cell i
     have : i = 0 := by omega
     subst this
     exact h1
    have BA := (BH.out.drew.trans (b1.mono (by show w.heap.size ≤ wr.heap.size; omega))).alloc zz (.cells #[.slice R rn rc] 71)
    refine hK _ _ (fun _ => HF1) ?_
    clear hK K
    try simp only [Act.put]
    refine wpAnyL_step (i := 8) (by kernel_rfl) rfl rfl ?_
    intro K hK
    go_simp
    refine hK _ _ (fun _ => HF2) ?_
    clear hK K
    try simp only [Act.put]
    refine wpAnyL_step (i := 9) (by kernel_rfl) rfl rfl ?_
    intro K hK
    refine wp_append_elem (l := d.kept.take j) (y := xr) (fp := fp) _ _ (by rfl) Try.underlying22 infoRow (by rfl) (by decide) rowC_len (by rfl) (SA.own_ 1 rfl) (SA.nodup_own 1 rfl) (by rfl) HC (SA.own_ 2 rfl) (SA.nodup_own 2 rfl) HD (by omega) (by omega) ?_
    intro G3 g3 w3 fp3 o3 n3 s3 t3
    have SD : Sep (w1.alloc (.cells #[.slice R rn rc] 71)) w.heap.size [.own [keptD (d.kept.take j)] [.slice G j g] fp, .own [rowD xr] [.slice R rn rc] f2, .blk (w.heap.size + 1 + 1) #[.slice G j g, .slice none 0 0] 32, .blk (w.heap.size + 1) #[.slice none 0 0, .slice none 0 0] 32, .blk w.heap.size #[.slice (some ⟨b, off, none⟩) n c, .slice A' n' c'] 32] := SA.drop 1
    have S3 := SD.merge t3 o3 n3 s3 BA.size
    have bS := SD.below 0 rfl t3 BA.size
    have B3 := jd (BA.trans bS)
    have HF3 : w3.cell? ⟨w.heap.size, 0, none⟩ = some (.slice (some ⟨b, off, none⟩) n c) ∧ w3.cell? ⟨w.heap.size + 1 + 1, 0, none⟩ = some (.slice G j g) ∧ w3.cell? ⟨b, off + j, none⟩ = some (.slice A1 m1 d1) :=
     ⟨(S3.at_ 3 rfl).cell 0, (S3.at_ 1 rfl).cell 0, (bS.cell (p := ⟨b, off + j, none⟩) hb).trans HF2.2.2⟩
    have q1 := HF3.2.1
    have q2 := (S3.at_ 1 rfl).free 0
    have S4 := jd (S3.put 1 rfl 0 (.slice G3 (j + 1) g3))
    refine hK _ _ (fun _ => HF3) ?_
    clear hK K S3 SD o3 n3 s3 t3 SA S2 HC HD BA bA bS HF HF1 HF2 o1 b1
    try simp only [Act.put]
    refine wpAnyL_step (i := 10) (by kernel_rfl) rfl rfl ?_
    intro K hK
    go_simp
    refine hK _ _ (fun _ => HF3) ?_
    clear hK K
    try simp only [Act.put]
    refine wpAnyL_step (i := 11) (by kernel_rfl) rfl rfl ?_
    intro K hK
    go_simp
    refine hK _ _ (fun h => nomatch (show true = false from h)) ?_
    clear hK K
    try simp only [Act.put]
    refine wpAnyL_done (by kernel_rfl) ?_ _
    go_wp2
    go_roundw
    case rel => exact ⟨j + 1, G3, g3, fp3, by omega, by go_num, by rw [HX.out]; exact S4.out, B3.out.setCell (p := ⟨w.heap.size + 1 + 1, 0, none⟩) (by show w.heap.size ≤ w.heap.size + 1 + 1; omega) _⟩
    case measure => simp [intOf]; omega
  · have hjn : j = n := by omega
    have S2 := jd (show Sep wr w.heap.size [.own [waitD (d.wait.take 0)] [.slice none 0 0] [], .own [keptD d.kept] [.slice G j g] fp, .blk (w.heap.size + 1 + 1) #[.slice G j g, .slice none 0 0] 32, .blk (w.heap.size + 1) #[.slice none 0 0, .slice none 0 0] 32, .blk w.heap.size #[.slice A n c, .slice A' n' c'] 32] by
     have e : d.kept.take j = d.kept := List.take_of_length_le (by have := HL1.out; omega)
     rw [e] at S
     exact S.own0 (ow_nil_wait _))
    have B2 := jd hbel
    have hi : ¬ ((j : Int) < (n : Int)) := by omega
    clear hjn S hbel hel1
    go_wp2
    go_loopw [5] (fun i wx => ∃ (q : Nat) (H : Option Addr) (hc : Nat) (fq : List Nat), q ≤ n' ∧ i = .int .i64 (q : Int) ∧ Sep wx w.heap.size [.own [waitD (d.wait.take q)] [.slice H q hc] fq, .own [keptD d.kept] [.slice G j g] fp, .blk (w.heap.size + 1 + 1) #[.slice G j g, .slice H q hc] 32, .blk (w.heap.size + 1) #[.slice none 0 0, .slice none 0 0] 32, .blk w.heap.size #[.slice A n c, .slice A' n' c'] 32] ∧ Below w.heap.size w wx) (fun i _ => n' - (intOf i).toNat)
    case atStart => exact ⟨0, none, 0, [], Nat.zero_le _, rfl, S2.out, B2.out⟩
    case round =>
     obtain ⟨q, H, hc, fq, hq, rfl, S, hbel⟩ := hrel
     clear S2 B2 k0 k1
     have zb := (S.at_ 2 rfl).lt
     have zw := hbel.size
     by_cases hlt2 : q < n'
     · obtain ⟨b, off, rfl, hb, hcc⟩ := hel2 (by omega)
       have hjl : q < d.wait.length := by have := HL2.out; omega
       obtain ⟨A1, m1, d1, hcell, hcell2, hrow, hm1, hm2⟩ := hcc q hjl
       have hm : m1 ≤ 1048577 := by
        have h1 := pre_at (g := wrSz) hjl
        have h2 := HS.out
        have h3 : wrSz d.wait[q] = m1 := hrow.1
        unfold DiskM.sz waitSz at h2
        omega
       have k0 := lk S 4 1 rfl rfl
       have k1 := lk S 2 1 rfl rfl
       have hr := jd ((hrow.below hbel).up hbel.size)
       have ce := (hbel.cell (p := ⟨b, off + q * 2, none⟩) hb).trans hcell
       have ce2 := (hbel.cell (p := ⟨b, off + q * 2 + 1, none⟩) hb).trans hcell2
       obtain ⟨x, hx⟩ : ∃ x, x = d.wait[q].1 := ⟨_, rfl⟩
       obtain ⟨xr, hxr⟩ : ∃ xr, xr = d.wait[q].2 := ⟨_, rfl⟩
       rw [← hx] at ce
       rw [← hxr] at hr
       have HX := jd (show d.wait.take (q + 1) = d.wait.take q ++ [(x, xr)] by rw [List.take_succ_eq_append_getElem hjl, hx, hxr])
       have i0 : (0 : Int) ≤ (q : Int) := by omega
       have i1 : (q : Int) < (n' : Int) := by omega
       have hbw : b < wr.heap.size := by omega
       have SH := jd S
       have BH := jd hbel
       clear hx hxr hcc hrow hcell hcell2 hel2 hbel S
       go_wp2_with fail
       refine wp_region_L (fun v => v.cell? ⟨w.heap.size, 1, none⟩ = some (.slice (some ⟨b, off, none⟩) n' c') ∧ v.cell? ⟨w.heap.size + 1 + 1, 1, none⟩ = some (.slice H q hc) ∧ v.cell? ⟨b, off + q * 2, none⟩ = some (.int .i64 x) ∧ v.cell? ⟨b, off + q * 2 + 1, none⟩ = some (.slice A1 m1 d1)) 19 (by kernel_rfl) ?_
       have HF : wr.drew.cell? ⟨w.heap.size, 1, none⟩ = some (.slice (some ⟨b, off, none⟩) n' c') ∧ wr.drew.cell? ⟨w.heap.size + 1 + 1, 1, none⟩ = some (.slice H q hc) ∧ wr.drew.cell? ⟨b, off + q * 2, none⟩ = some (.int .i64 x) ∧ wr.drew.cell? ⟨b, off + q * 2 + 1, none⟩ = some (.slice A1 m1 d1) := ⟨k0, k1, ce, ce2⟩
       refine tk 0 (v := ?_) rfl rfl HF (.inl ⟨by rfl, ?_⟩) ?_
       rotate_left 1
       · (rintro v ⟨a0, a1, a2, a3⟩; go_simp; try with_reducible rfl)
       try simp only [Act.put]
       refine tk 1 (v := ?_) rfl rfl HF (.inl ⟨by rfl, ?_⟩) ?_
       rotate_left 1
       · (rintro v ⟨a0, a1, a2, a3⟩; go_simp; try with_reducible rfl)
       try simp only [Act.put]
       refine tk 2 (v := ?_) rfl rfl HF (.inl ⟨by rfl, ?_⟩) ?_
       rotate_left 1
       · (rintro v ⟨a0, a1, a2, a3⟩; go_simp; try with_reducible rfl)
       try simp only [Act.put]
       refine tk 3 (v := ?_) rfl rfl HF (.inl ⟨by rfl, ?_⟩) ?_
       rotate_left 1
       · (rintro v ⟨a0, a1, a2, a3⟩; go_simp; try with_reducible rfl)
       try simp only [Act.put]
       refine tk 4 (v := ?_) rfl rfl HF (.inl ⟨by rfl, ?_⟩) ?_
       rotate_left 1
       · (rintro v ⟨a0, a1, a2, a3⟩; go_simp; try with_reducible rfl)
       try simp only [Act.put]
       refine tk 5 (v := ?_) rfl rfl HF (.inl ⟨by rfl, ?_⟩) ?_
       rotate_left 1
       · (rintro v ⟨a0, a1, a2, a3⟩; go_simp; try with_reducible rfl)
       try simp only [Act.put]
       refine tk 6 (v := ?_) rfl rfl HF (.inl ⟨by rfl, ?_⟩) ?_
       rotate_left 1
       · (rintro v ⟨a0, a1, a2, a3⟩; go_simp; try with_reducible rfl)
       try simp only [Act.put]
       refine tk 7 (v := ?_) rfl rfl HF (.inl ⟨by rfl, ?_⟩) ?_
       rotate_left 1
       · (rintro v ⟨a0, a1, a2, a3⟩; go_simp; try with_reducible rfl)
       try simp only [Act.put]
       refine tk 8 (v := ?_) rfl rfl HF (.inl ⟨by rfl, ?_⟩) ?_
       rotate_left 1
       · (rintro v ⟨a0, a1, a2, a3⟩; go_simp; try with_reducible rfl)
       try simp only [Act.put]
       refine tk 9 (v := ?_) rfl rfl HF (.inl ⟨by rfl, ?_⟩) ?_
       rotate_left 1
       · (rintro v ⟨a0, a1, a2, a3⟩; go_simp; try with_reducible rfl)
       try simp only [Act.put]
       refine tk 10 (v := ?_) rfl rfl HF (.inl ⟨by rfl, ?_⟩) ?_
       rotate_left 1
       · (rintro v ⟨a0, a1, a2, a3⟩; go_simp; try with_reducible rfl)
       try simp only [Act.put]
       refine tk 11 (v := ?_) rfl rfl HF (.inl ⟨by rfl, ?_⟩) ?_
       rotate_left 1
       · (rintro v ⟨a0, a1, a2, a3⟩; go_simp; try with_reducible rfl)
       try simp only [Act.put]
       refine tk 12 (v := ?_) rfl rfl HF (.inl ⟨by rfl, ?_⟩) ?_
       rotate_left 1
       · (rintro v ⟨a0, a1, a2, a3⟩; go_simp; try with_reducible rfl)
       try simp only [Act.put]
       refine tk 13 (v := ?_) rfl rfl HF (.inl ⟨by rfl, ?_⟩) ?_
       rotate_left 1
       · (rintro v ⟨a0, a1, a2, a3⟩; go_simp; try with_reducible rfl)
       try simp only [Act.put]
       refine wpAnyL_step (i := 14) (by kernel_rfl) rfl rfl ?_
       intro K hK
       go_simp
       refine (sCopy_any A1 m1 d1 xr wr.drew hr.out hm).mono ?_
       rintro e w1 ⟨R, rn, rc, rfl, o1, b1⟩
       obtain ⟨f2, S2⟩ := (SH.out.keep ((Below.refl _ _).drew)).has b1 o1.has (by show w.heap.size ≤ wr.heap.size; omega)
       have HF1 : w1.cell? ⟨w.heap.size, 1, none⟩ = some (.slice (some ⟨b, off, none⟩) n' c') ∧ w1.cell? ⟨w.heap.size + 1 + 1, 1, none⟩ = some (.slice H q hc) ∧ w1.cell? ⟨b, off + q * 2, none⟩ = some (.int .i64 x) ∧ w1.cell? ⟨b, off + q * 2 + 1, none⟩ = some (.slice A1 m1 d1) := ⟨(S2.at_ 5 rfl).cell 1, (S2.at_ 3 rfl).cell 1, (b1.cell (p := ⟨b, off + q * 2, none⟩) hbw).trans ce, (b1.cell (p := ⟨b, off + q * 2 + 1, none⟩) hbw).trans ce2⟩
       have zz : w.heap.size ≤ w1.heap.size := by have := (S2.at_ 3 rfl).lt; omega
       have HD := S2.swap.apart
       have SA := S2.swap.box zz #[.int .i64 x, .slice R rn rc] 129
       have bA := Below.alloc (Below.refl w1.heap.size w1) (Nat.le_refl _) (.cells #[.int .i64 x, .slice R rn rc] 129)
       have hb1 := Nat.lt_of_lt_of_le hbw b1.size
       have HF2 : (w1.alloc (.cells #[.int .i64 x, .slice R rn rc] 129)).cell? ⟨w.heap.size, 1, none⟩ = some (.slice (some ⟨b, off, none⟩) n' c') ∧ (w1.alloc (.cells #[.int .i64 x, .slice R rn rc] 129)).cell? ⟨w.heap.size + 1 + 1, 1, none⟩ = some (.slice H q hc) ∧ (w1.alloc (.cells #[.int .i64 x, .slice R rn rc] 129)).cell? ⟨b, off + q * 2, none⟩ = some (.int .i64 x) ∧ (w1.alloc (.cells #[.int .i64 x, .slice R rn rc] 129)).cell? ⟨b, off + q * 2 + 1, none⟩ = some (.slice A1 m1 d1) := ⟨(SA.at_ 6 rfl).cell 1, (SA.at_ 4 rfl).cell 1, (bA.cell (p := ⟨b, off + q * 2, none⟩) hb1).trans HF1.2.2.1, (bA.cell (p := ⟨b, off + q * 2 + 1, none⟩) hb1).trans HF1.2.2.2⟩
       have HC : ∀ i, i < 2 → (w1.alloc (.cells #[.int .i64 x, .slice R rn rc] 129)).cell? ⟨w1.heap.size, i, none⟩ = [Value.int .i64 x, Value.slice R rn rc][i]? := fun i hi => by
        have h1 := (SA.at_ 0 rfl).cell i
        have h3 : i = 0 ∨ i = 1 := by omega
        rcases h3 with rfl | rfl
        · exact h1
        · exact h1
       have BA := (BH.out.drew.trans (b1.mono (by show w.heap.size ≤ wr.heap.size; omega))).alloc zz (.cells #[.int .i64 x, .slice R rn rc] 129)
       refine hK _ _ (fun _ => HF1) ?_
       clear hK K
       try simp only [Act.put]
       refine wpAnyL_step (i := 15) (by kernel_rfl) rfl rfl ?_
       intro K hK
       go_simp
       refine hK _ _ (fun _ => HF1) ?_
       clear hK K
       try simp only [Act.put]
       refine wpAnyL_step (i := 16) (by kernel_rfl) rfl rfl ?_
       intro K hK
       go_simp
       refine hK _ _ (fun _ => HF2) ?_
       clear hK K
       try simp only [Act.put]
       refine wpAnyL_step (i := 17) (by kernel_rfl) rfl rfl ?_
       intro K hK
       refine wp_append_elem (l := d.wait.take q) (y := (x, xr)) (fp := fq) (es := [.int .i64 x, .slice R rn rc]) _ _ (by rfl) Try.underlying30 infoWrite (by rfl) (by decide) wrC_len (by rfl) (SA.own_ 1 rfl) (SA.nodup_own 1 rfl) (by rfl) HC (.int (SA.own_ 2 rfl)) (SA.nodup_own 2 rfl) HD (by omega) (by omega) ?_
       intro G3 g3 w3 fp3 o3 n3 s3 t3
       have SD : Sep (w1.alloc (.cells #[.int .i64 x, .slice R rn rc] 129)) w.heap.size [.own [waitD (d.wait.take q)] [.slice H q hc] fq, .own [rowD xr] [.slice R rn rc] f2, .own [keptD d.kept] [.slice G j g] fp, .blk (w.heap.size + 1 + 1) #[.slice G j g, .slice H q hc] 32, .blk (w.heap.size + 1) #[.slice none 0 0, .slice none 0 0] 32, .blk w.heap.size #[.slice A n c, .slice (some ⟨b, off, none⟩) n' c'] 32] := SA.drop 1
       have S3 := SD.merge t3 o3 n3 s3 BA.size
       have bS := SD.below 0 rfl t3 BA.size
       have B3 := jd (BA.trans bS)
       have HF3 : w3.cell? ⟨w.heap.size, 1, none⟩ = some (.slice (some ⟨b, off, none⟩) n' c') ∧ w3.cell? ⟨w.heap.size + 1 + 1, 1, none⟩ = some (.slice H q hc) ∧ w3.cell? ⟨b, off + q * 2, none⟩ = some (.int .i64 x) ∧ w3.cell? ⟨b, off + q * 2 + 1, none⟩ = some (.slice A1 m1 d1) := ⟨(S3.at_ 4 rfl).cell 1, (S3.at_ 2 rfl).cell 1, (bS.cell (p := ⟨b, off + q * 2, none⟩) hb).trans HF2.2.2.1, (bS.cell (p := ⟨b, off + q * 2 + 1, none⟩) hb).trans HF2.2.2.2⟩
       have q1 := HF3.2.1
       have q2 := (S3.at_ 2 rfl).free 1
       have S4 := jd (S3.put 2 rfl 1 (.slice G3 (q + 1) g3))
       refine hK _ _ (fun _ => HF3) ?_
       clear hK K S3 SD o3 n3 s3 t3 SA S2 HC HD BA bA bS HF HF1 HF2 o1 b1 hb1
       try simp only [Act.put]
       refine wpAnyL_step (i := 18) (by kernel_rfl) rfl rfl ?_
       intro K hK
       go_simp
       refine hK _ _ (fun _ => HF3) ?_
       clear hK K
       try simp only [Act.put]
       refine wpAnyL_step (i := 19) (by kernel_rfl) rfl rfl ?_
       intro K hK
       go_simp
       refine hK _ _ (fun h => nomatch (show true = false from h)) ?_
       clear hK K
       try simp only [Act.put]
       refine wpAnyL_done (by kernel_rfl) ?_ _
       go_wp2
       go_roundw
       case rel => exact ⟨q + 1, G3, g3, fp3, by omega, by go_num, by rw [HX.out]; exact S4.out, B3.out.setCell (p := ⟨w.heap.size + 1 + 1, 1, none⟩) (by show w.heap.size ≤ w.heap.size + 1 + 1; omega) _⟩
       case measure => simp [intOf]; omega
     · have hi2 : ¬ ((q : Int) < (n' : Int)) := by omega
       have k0 := lk S 4 1 rfl rfl
       have k1 := lk S 2 0 rfl rfl
       have k2 := lk S 2 1 rfl rfl
       have k3 := lk S 3 0 rfl rfl
       have k4 := lk S 3 1 rfl rfl
       have f3 := (S.at_ 3 rfl).free 0
       have f4 := (S.at_ 3 rfl).free 1
       have e : d.wait.take q = d.wait := List.take_of_length_le (by have := HL2.out; omega)
       rw [e] at S
       have S5 := jd ((S.put 3 rfl 0 (.slice G j g)).put 3 rfl 1 (.slice H q hc)).pair
       have B5 := jd ((hbel.setCell (p := ⟨w.heap.size + 1, 0, none⟩) (by simp) (.slice G j g)).setCell (p := ⟨w.heap.size + 1, 1, none⟩) (by simp) (.slice H q hc))
       clear S hbel e
       go_wp2
       refine bodyPost_ret (v := .agg #[.slice G j g, .slice H q hc]) (by simp [results, Try.results89, go_sem, k3, k4]) rfl ⟨G, j, g, H, q, hc, rfl, S5.out, B5.out⟩
end Go.Proofs.Ytecihkkagpbkdaa
namespace Go.Proofs.Ytecihkkagpbkdaa
set_option maxRecDepth 100000
open Go.RowKit
theorem has_zero (w : World) (base : Nat) : Has w base zeroD.cells [.slice none 0 0, .slice none 0 0] :=
 ⟨[], (ow_nil_kept w).append (ow_nil_wait w), List.nodup_nil, fun p hp => by cases hp⟩
set_option maxHeartbeats 1600000 in
theorem sNewDisk_any (x : Int) (w : World) : Calls Try.prog 72 #[.int .i64 x] w (MadeD w (newDisk x)) := by
 have b0 : Below w.heap.size w (w.alloc (.cells #[.slice none 0 0, .slice none 0 0] 32)) := (Below.refl _ w).alloc (Nat.le_refl _) _
 cases hok : secOk x
 · have HR := jd (show newDisk x = zeroD by simp [newDisk, hok])
   have HO := jd (show (decide (1 ≤ x) && decide (x ≤ 40)) = false from hok)
   clear hok
   go_enter Try.func72, Try.ntmps72
   go_wp2_with fail
   refine (in_any _ _ _ _).mono ?_
   rintro e w1 ⟨rfl, rfl⟩
   rw [HO.out]
   go_wp2
   refine bodyPost_ret (v := .agg #[.slice none 0 0, .slice none 0 0]) (by simp [results, Try.results72, go_sem]) rfl ⟨none, 0, 0, none, 0, 0, rfl, by rw [HR.out]; exact has_zero _ _, ?_⟩
   exact b0
 · obtain ⟨x0, x1⟩ : 1 ≤ x ∧ x ≤ 40 := by simpa [secOk] using hok
   obtain ⟨n, rfl⟩ := Int.eq_ofNat_of_zero_le (show 0 ≤ x by omega)
   have HR := jd (show newDisk (n : Int) = ⟨List.replicate n [], []⟩ by simp [newDisk, hok])
   have HO := jd (show (decide (1 ≤ (n : Int)) && decide ((n : Int) ≤ 40)) = true from hok)
   have hmk := run_make_k (P := Try.prog) 22 71 (.slice none 0 0) #[.slice none 0 0] 1 24 Try.underlying22 infoRow rfl .i64 .i64 n (by omega) (by omega)
   rw [Nat.mul_one] at hmk
   have hmd := ow_made (w := w.alloc (.cells #[.slice (some ⟨w.heap.size + 1, 0, none⟩) n n, .slice none 0 0] 32)) (e := 71) (f := rowC) (x0 := ([] : List Int)) (zc := #[.slice none 0 0]) (k := 1) rfl (by decide) n (by simp only [maxLen]; omega) ow_nil_row
   rw [Nat.mul_one] at hmd
   have hsz : (w.alloc (.cells #[.slice (some ⟨w.heap.size + 1, 0, none⟩) n n, .slice none 0 0] 32)).heap.size = w.heap.size + 1 := by simp
   rw [hsz] at hmd
   have M := jd hmd
   have b2 : Below w.heap.size w (w.alloc (.cells #[.slice (some ⟨w.heap.size + 1, 0, none⟩) n n, .slice none 0 0] 32)) := (Below.refl _ w).alloc (Nat.le_refl _) _
   have B1 := jd (b2.alloc b2.size (.cells (madeCells #[.slice none 0 0] n) 71))
   clear hok hmd hsz b2
   go_enter Try.func72, Try.ntmps72
   go_wp2_with fail
   refine (in_any _ _ _ _).mono ?_
   rintro e w1 ⟨rfl, rfl⟩
   rw [HO.out]
   go_wp2
   refine bodyPost_ret (v := .agg #[.slice (some ⟨w.heap.size + 1, 0, none⟩) n n, .slice none 0 0]) (by simp [results, Try.results72, go_sem]) rfl ⟨_, n, n, none, 0, 0, rfl, ?_, B1.out⟩
   rw [HR.out]
   refine ⟨_, M.out.append (ow_nil_wait _), by simp, fun p hp => ?_⟩
   have h9 : p = w.heap.size + 1 := by simpa using hp
   omega
theorem lastTo_le {l : List (Int × List Int)} {i : Int} {j : Nat} {x : Int × List Int} (hj : j < l.length) (hx : l[j] = x) : lastTo l i (j + 1) = if x.1 = i then some x.2 else lastTo l i j := by
 have : l.getD j (0, []) = x := by simp [List.getD, List.getElem?_eq_getElem hj, hx]
 rw [lastTo, this]
set_option maxHeartbeats 3200000 in
theorem sReadAt_any (v0 v1 : Value) (d : DiskM) (i : Int) (w : World) (h : Rd w w.heap.size d.cells [v0, v1]) (hs : d.sz ≤ 1048577) :
    Calls Try.prog 103 #[.agg #[v0, v1], .int .i64 i] w fun e w' => ∃ A n c, e = .returned (.tuple #[.slice A n c, .bool (readAt d i).2]) ∧ Has w' w.heap.size (rowCells (readAt d i).1) [.slice A n c] ∧ Below w.heap.size w w' := by
 obtain ⟨A, n, c, A', n', c', rfl, rfl, h1, h2⟩ := h.disk
 obtain ⟨_, _, _, e, hl1, _, _, hel1⟩ := h1.kept
 injection e with e1 e2 e3
 subst e1 e2 e3
 obtain ⟨_, _, _, e, hl2, _, _, hel2⟩ := h2.wait
 injection e with e1 e2 e3
 subst e1 e2 e3
 have hn : n ≤ 1048577 := by unfold DiskM.sz rowsSz at hs; omega
 have hn' : n' ≤ 1048577 := by unfold DiskM.sz waitSz at hs; omega
 obtain ⟨w0, hw0⟩ : ∃ w0, w0 = w.alloc (.cells #[.slice A n c, .slice A' n' c'] 32) := ⟨_, rfl⟩
 have b0 : Below w.heap.size w w0 := by rw [hw0]; exact (Below.refl _ w).alloc (Nat.le_refl _) _
 have p0 : Blk w0 w.heap.size #[.slice A n c, .slice A' n' c'] 32 := by rw [hw0]; exact Blk.new w _ _
 have hr := (h.keep b0)
 have HW := jd hw0
 have HS := jd hs
 have HL1 := jd hl1
 have HL2 := jd hl2
 clear h h1 h2 hl1 hl2 hw0
 cases hd : diskOk d
 · have HR := jd (show readAt d i = ([], false) by simp [readAt, hd])
   go_enter Try.func103, Try.ntmps103
   go_wp2_with fail
   rw [← HW.out]
   refine (sDiskOk_any _ _ d _ _ hr b0.size HS.out).mono ?_
   rintro e w1 ⟨rfl, b1⟩
   rw [hd]
   have b01 := b0.trans (b1.mono b0.size)
   have O := jd (own_empty w1).has
   have B := jd (b01.alloc b01.size (.cells #[] 2))
   have z := b01.size
   clear b1 hr b01 b0 p0
   go_wp2
   go_ret2
   refine ⟨some ⟨w1.heap.size, 0, none⟩, 0, 0, by rw [HR.out]; rfl, ?_, B.out⟩
   rw [HR.out]
   exact O.out.up z
 cases hh : hasS d i
 · have HR := jd (show readAt d i = ([], false) by simp [readAt, hd, hh])
   go_enter Try.func103, Try.ntmps103
   go_wp2_with fail
   rw [← HW.out]
   refine (sDiskOk_any _ _ d _ _ hr b0.size HS.out).mono ?_
   rintro e w1 ⟨rfl, b1⟩
   rw [hd]
   have b01 := b0.trans (b1.mono b0.size)
   have p1 := p0.keep b1 p0.lt
   have k0 : w1.cell? ⟨w.heap.size, 0, none⟩ = some (.slice A n c) := p1.cell 0
   have k1 : w1.cell? ⟨w.heap.size, 1, none⟩ = some (.slice A' n' c') := p1.cell 1
   clear b1 hr p0 b0
   go_wp2_with fail
   refine (sHas_any A A' n c n' c' d i _ HL1.out hn).mono ?_
   rintro e w2 ⟨rfl, b2⟩
   rw [hh]
   have b02 := b01.trans (b2.mono b01.size)
   have O := jd (own_empty w2).has
   have B := jd (b02.alloc b02.size (.cells #[] 2))
   have z := b02.size
   clear b2 b01 b02 k0 k1 p1
   go_wp2
   go_ret2
   refine ⟨some ⟨w2.heap.size, 0, none⟩, 0, 0, by rw [HR.out]; rfl, ?_, B.out⟩
   rw [HR.out]
   exact O.out.up z
 obtain ⟨i0, i1⟩ : 0 ≤ i ∧ i ≤ (n : Int) - 1 := by
  have := hh
  unfold hasS at this
  rw [HL1.out] at this
  simpa using this
 obtain ⟨I, rfl⟩ := Int.eq_ofNat_of_zero_le i0
 have HR := jd (show readAt d (I : Int) = ((lastTo d.wait (I : Int) d.wait.length).getD (d.kept.getD I []), true) by simp [readAt, hd, hh])
 go_enter Try.func103, Try.ntmps103
 go_wp2_with fail
 rw [← HW.out]
 refine (sDiskOk_any _ _ d _ _ hr b0.size HS.out).mono ?_
 rintro e w1 ⟨rfl, b1⟩
 rw [hd]
 have b01 := b0.trans (b1.mono b0.size)
 have p1 := p0.keep b1 p0.lt
 have k0 : w1.cell? ⟨w.heap.size, 0, none⟩ = some (.slice A n c) := p1.cell 0
 have k1 : w1.cell? ⟨w.heap.size, 1, none⟩ = some (.slice A' n' c') := p1.cell 1
 clear b1 hr p0 b0
 go_wp2_with fail
 refine (sHas_any A A' n c n' c' d (I : Int) _ HL1.out hn).mono ?_
 rintro e w2 ⟨rfl, b2⟩
 rw [hh]
 have b02 := b01.trans (b2.mono b01.size)
 have p2 := p1.keep b2 p1.lt
 have r0 : w2.cell? ⟨w.heap.size, 0, none⟩ = some (.slice A n c) := p2.cell 0
 have r1 : w2.cell? ⟨w.heap.size, 1, none⟩ = some (.slice A' n' c') := p2.cell 1
 have B2 := jd b02
 have z2 := b02.size
 clear b2 b01 b02 k0 k1 p1 p2 hd hh
 go_wp2
 go_loop [6] (fun q => ∃ j : Nat, j ≤ n' ∧ q = .int .i64 ((j : Int) - 1) ∧ lastTo d.wait (I : Int) n' = lastTo d.wait (I : Int) j) (fun q => ((intOf q) + 1).toNat)
 case atStart => exact ⟨n', Nat.le_refl _, by go_num, rfl⟩
 case round =>
  obtain ⟨j, hj, rfl, hlast⟩ := hrel
  by_cases hlt : 0 < j
  · obtain ⟨q, rfl⟩ : ∃ q, j = q + 1 := ⟨j - 1, by omega⟩
    obtain ⟨b, off, rfl, hb, hcc⟩ := hel2 (by omega)
    have hjl : q < d.wait.length := by have := HL2.out; omega
    obtain ⟨A1, m1, d1, hcell, hcell2, hrow, hm1, hm2⟩ := hcc q hjl
    have hm : m1 ≤ 1048577 := by
     have h1 := pre_at (g := wrSz) hjl
     have h2 := HS.out
     have h3 : wrSz d.wait[q] = m1 := hrow.1
     unfold DiskM.sz waitSz at h2
     omega
    have hrw := jd ((hrow.below B2.out).up B2.out.size)
    have ce := (B2.out.cell (p := ⟨b, off + q * 2, none⟩) hb).trans hcell
    have ce2 := (B2.out.cell (p := ⟨b, off + q * 2 + 1, none⟩) hb).trans hcell2
    obtain ⟨x, hx⟩ : ∃ x, x = d.wait[q].1 := ⟨_, rfl⟩
    obtain ⟨xr, hxr⟩ : ∃ xr, xr = d.wait[q].2 := ⟨_, rfl⟩
    rw [← hx] at ce
    rw [← hxr] at hrw
    have HX := jd (lastTo_le (i := (I : Int)) hjl (show d.wait[q] = (x, xr) by rw [hx, hxr]))
    have hq1 : ((q + 1 : Nat) : Int) - 1 = (q : Int) := by omega
    have HLA := jd hlast
    rw [hq1]
    clear hx hxr hcc hrow hcell hcell2 hel1 hel2 hlast hq1
    by_cases hxi : x = (I : Int)
    · have HE := jd (show readAt d (I : Int) = (xr, true) by
        rw [HR.out, HL2.out, HLA.out, HX.out, if_pos hxi]
        rfl)
      subst hxi
      go_wp2_with fail
      refine (sCopy_any A1 m1 d1 xr _ hrw.out hm).mono ?_
      rintro e w3 ⟨R, rn, rc, rfl, o3, b3⟩
      have O := jd (o3.has.up z2)
      have B := jd (B2.out.trans (b3.mono z2))
      clear o3 b3
      go_wp2
      go_ret2
      refine ⟨R, rn, rc, by rw [HE.out]; rfl, ?_, B.out⟩
      rw [HE.out]
      exact O.out
    · have HE := jd (show lastTo d.wait (I : Int) n' = lastTo d.wait (I : Int) q by rw [HLA.out, HX.out, if_neg hxi])
      have hxb : (x == (I : Int)) = false := by simp [hxi]
      have hxd : decide (x = (I : Int)) = false := by simp [hxi]
      go_wp2
      go_round
      case rel => exact ⟨q, by omega, by go_num, HE.out⟩
      case measure => simp [intOf] <;> omega
  · have hj0 : j = 0 := by omega
    subst hj0
    obtain ⟨b, off, rfl, hb, hcc⟩ := hel1 (by omega)
    have hjl : I < d.kept.length := by have := HL1.out; omega
    obtain ⟨A1, m1, d1, hcell, hrow, hm1, hm2⟩ := hcc I hjl
    have hm : m1 ≤ 1048577 := by
     have h1 := pre_at (g := List.length) hjl
     have h2 := HS.out
     have h3 := hrow.1
     unfold DiskM.sz rowsSz at h2
     omega
    have hrw := jd ((hrow.below B2.out).up B2.out.size)
    have ce := (B2.out.cell (p := ⟨b, off + I, none⟩) hb).trans hcell
    have HE := jd (show readAt d (I : Int) = (d.kept[I], true) by
     rw [HR.out, HL2.out, hlast]
     simp [lastTo, List.getD, List.getElem?_eq_getElem hjl])
    generalize d.kept[I] = xr at *
    have a0 : (0 : Int) ≤ (I : Int) := by omega
    have a1 : (I : Int) < (n : Int) := by omega
    clear hcc hrow hcell hel1 hel2 hlast
    go_wp2_with fail
    refine (sCopy_any A1 m1 d1 xr _ hrw.out hm).mono ?_
    rintro e w3 ⟨R, rn, rc, rfl, o3, b3⟩
    have O := jd (o3.has.up z2)
    have B := jd (B2.out.trans (b3.mono z2))
    clear o3 b3
    go_wp2
    go_ret2
    refine ⟨R, rn, rc, by rw [HE.out]; rfl, ?_, B.out⟩
    rw [HE.out]
    exact O.out
end Go.Proofs.Ytecihkkagpbkdaa
namespace Go.Proofs.Ytecihkkagpbkdaa
set_option maxRecDepth 100000
open Go.RowKit
set_option maxHeartbeats 6400000 in
theorem sWrote_any (A : Option Addr) (n c : Nat) (A' : Option Addr) (n' c' : Nat) (d : DiskM) (i : Int) (R : Option Addr) (m k : Nat) (r : List Int) (w : World) (h : Rd w w.heap.size d.cells [.slice A n c, .slice A' n' c']) (hs : d.sz ≤ 1048576) (h2 : Rd w w.heap.size (rowCells r) [.slice R m k]) (hs2 : r.length ≤ 1048576) :
    Calls Try.prog 91 #[.agg #[.slice A n c, .slice A' n' c'], .int .i64 i, .slice R m k] w fun e w' => ∃ (B1 : Option Addr) (b1 b2 : Nat) (B2 : Option Addr) (b3 b4 : Nat), e = .returned (.tuple #[.agg #[.slice B1 b1 b2, .slice B2 b3 b4], .bool (wrote d i r).2]) ∧ Has w' w.heap.size (wrote d i r).1.cells [.slice B1 b1 b2, .slice B2 b3 b4] ∧ Below w.heap.size w w' := by
 obtain ⟨_, _, _, e, h2i, _⟩ := h2.irow
 injection e with e1 e2 e3
 subst e1 e2 e3
 obtain ⟨_, _, _, _, _, _, e, e', q1, q2⟩ := h.disk
 injection e with e1 e2 e3
 subst e1 e2 e3
 injection e' with e1 e2 e3
 subst e1 e2 e3
 obtain ⟨_, _, _, e, hl1, _⟩ := q1.kept
 injection e with e1 e2 e3
 subst e1 e2 e3
 obtain ⟨_, _, _, e, hl2, _⟩ := q2.wait
 injection e with e1 e2 e3
 subst e1 e2 e3
 have hn : n ≤ 1048576 := by unfold DiskM.sz rowsSz at hs; omega
 have hn' : n' ≤ 1048576 := by unfold DiskM.sz waitSz at hs; omega
 have hm : m ≤ 1048576 := by have := h2i.1; omega
 have HL1 := jd hl1
 have HL2 := jd hl2
 obtain ⟨w0, hw0⟩ : ∃ w0, w0 = (w.alloc (.cells #[.slice A n c, .slice A' n' c'] 32)).alloc (.cells #[.slice none 0 0, .slice none 0 0] 32) := ⟨_, rfl⟩
 have S : Sep w0 w.heap.size [.blk (w.heap.size + 1) #[.slice none 0 0, .slice none 0 0] 32, .blk w.heap.size #[.slice A n c, .slice A' n' c'] 32] := by
  rw [hw0]
  have := ((Sep.nil w w.heap.size).box (Nat.le_refl _) #[.slice A n c, .slice A' n' c'] 32).box (by simp) #[.slice none 0 0, .slice none 0 0] 32
  simpa using this
 have c0 : Below w.heap.size w w0 := by
  rw [hw0]
  exact ((Below.refl _ w).alloc (Nat.le_refl _) _).alloc (by simp) _
 have HW := jd hw0
 clear hw0 q1 q2 hl1 hl2
 cases hd : diskOk d
 · have HR := jd (show wrote d i r = (zeroD, false) by simp [wrote, hd])
   go_enter Try.func91, Try.ntmps91
   go_wp2_with fail
   rw [← HW.out]
   refine (sDiskOk_any _ _ d _ _ (h.keep c0) c0.size (by omega)).mono ?_
   rintro e w1 ⟨rfl, b⟩
   rw [hd]
   replace c0 := c0.trans (b.mono c0.size)
   replace S := S.keep b
   clear b
   have p0 := lk S 0 0 rfl rfl
   have p1 := lk S 0 1 rfl rfl
   have f0 := (S.at_ 0 rfl).free 0
   have f1 := (S.at_ 0 rfl).free 1
   have B5 := jd ((c0.setCell (p := ⟨w.heap.size + 1, 0, none⟩) (by simp) (.slice none 0 0)).setCell (p := ⟨w.heap.size + 1, 1, none⟩) (by simp) (.slice none 0 0))
   clear S c0
   go_wp2
   refine bodyPost_ret (v := .tuple #[.agg #[.slice none 0 0, .slice none 0 0], .bool false]) (by simp [results, Try.results91, go_sem, p0, p1]) rfl ⟨none, 0, 0, none, 0, 0, by rw [HR.out], ?_, B5.out⟩
   rw [HR.out]
   exact has_zero _ _
 cases hh : hasS d i
 · have HR := jd (show wrote d i r = (d, false) by simp [wrote, hd, hh])
   go_enter Try.func91, Try.ntmps91
   go_wp2_with fail
   rw [← HW.out]
   refine (sDiskOk_any _ _ d _ _ (h.keep c0) c0.size (by omega)).mono ?_
   rintro e w1 ⟨rfl, b⟩
   rw [hd]
   replace c0 := c0.trans (b.mono c0.size)
   replace S := S.keep b
   clear b
   have k0 := lk S 1 0 rfl rfl
   have k1 := lk S 1 1 rfl rfl
   go_wp2_with fail
   refine (sCopyD_any _ _ d _ ((h.keep c0).up c0.size) (by omega)).mono ?_
   rintro e w2 ⟨G, j, g, H, q, hc, rfl, o, b⟩
   obtain ⟨fp, S'⟩ := S.has b o c0.size
   replace c0 := c0.trans (b.mono c0.size)
   clear S; have S := S'; clear S' o b k0 k1
   have zw2 := c0.size
   replace S := S.box c0.size #[.slice G j g, .slice H q hc] 32
   replace c0 := c0.alloc c0.size (.cells #[.slice G j g, .slice H q hc] 32)
   have k0 := lk S 3 0 rfl rfl
   have k1 := lk S 3 1 rfl rfl
   go_wp2_with fail
   generalize w2.alloc (.cells #[.slice G j g, .slice H q hc] 32) = w3 at *
   refine (sHas_any A A' n c n' c' d i _ HL1.out (by omega)).mono ?_
   rintro e w4 ⟨rfl, b⟩
   rw [hh]
   replace c0 := c0.trans (b.mono c0.size)
   replace S := S.keep b
   clear b k0 k1
   have k0 := lk S 3 1 rfl rfl
   have o0 := lk S 0 0 rfl rfl
   have o1 := lk S 0 1 rfl rfl
   have p0 := lk S 2 0 rfl rfl
   have p1 := lk S 2 1 rfl rfl
   have f0 := (S.at_ 2 rfl).free 0
   have f1 := (S.at_ 2 rfl).free 1
   have S5 := jd (((S.put 2 rfl 0 (.slice G j g)).put 2 rfl 1 (.slice H q hc)).drop 1).first
   have B5 := jd ((c0.setCell (p := ⟨w.heap.size + 1, 0, none⟩) (by simp) (.slice G j g)).setCell (p := ⟨w.heap.size + 1, 1, none⟩) (by simp) (.slice H q hc))
   clear S c0
   go_wp2
   refine bodyPost_ret (v := .tuple #[.agg #[.slice G j g, .slice H q hc], .bool false]) (by simp [results, Try.results91, go_sem, p0, p1]) rfl ⟨G, j, g, H, q, hc, by rw [HR.out], ?_, B5.out⟩
   rw [HR.out]
   exact S5.out
 cases hk : rowOk r
 · have HR := jd (show wrote d i r = (d, false) by simp [wrote, hd, hh, hk])
   go_enter Try.func91, Try.ntmps91
   go_wp2_with fail
   rw [← HW.out]
   refine (sDiskOk_any _ _ d _ _ (h.keep c0) c0.size (by omega)).mono ?_
   rintro e w1 ⟨rfl, b⟩
   rw [hd]
   replace c0 := c0.trans (b.mono c0.size)
   replace S := S.keep b
   clear b
   have k0 := lk S 1 0 rfl rfl
   have k1 := lk S 1 1 rfl rfl
   go_wp2_with fail
   refine (sCopyD_any _ _ d _ ((h.keep c0).up c0.size) (by omega)).mono ?_
   rintro e w2 ⟨G, j, g, H, q, hc, rfl, o, b⟩
   obtain ⟨fp, S'⟩ := S.has b o c0.size
   replace c0 := c0.trans (b.mono c0.size)
   clear S; have S := S'; clear S' o b k0 k1
   have zw2 := c0.size
   replace S := S.box c0.size #[.slice G j g, .slice H q hc] 32
   replace c0 := c0.alloc c0.size (.cells #[.slice G j g, .slice H q hc] 32)
   have k0 := lk S 3 0 rfl rfl
   have k1 := lk S 3 1 rfl rfl
   go_wp2_with fail
   generalize w2.alloc (.cells #[.slice G j g, .slice H q hc] 32) = w3 at *
   refine (sHas_any A A' n c n' c' d i _ HL1.out (by omega)).mono ?_
   rintro e w4 ⟨rfl, b⟩
   rw [hh]
   replace c0 := c0.trans (b.mono c0.size)
   replace S := S.keep b
   clear b k0 k1
   go_wp2_with fail
   refine (sRowOk_any R m k _ r _ (h2i.below c0) (by omega)).mono ?_
   rintro e w5 ⟨rfl, rfl⟩
   rw [hk]
   have k0 := lk S 3 1 rfl rfl
   have o0 := lk S 0 0 rfl rfl
   have o1 := lk S 0 1 rfl rfl
   have p0 := lk S 2 0 rfl rfl
   have p1 := lk S 2 1 rfl rfl
   have f0 := (S.at_ 2 rfl).free 0
   have f1 := (S.at_ 2 rfl).free 1
   have S5 := jd (((S.put 2 rfl 0 (.slice G j g)).put 2 rfl 1 (.slice H q hc)).drop 1).first
   have B5 := jd ((c0.setCell (p := ⟨w.heap.size + 1, 0, none⟩) (by simp) (.slice G j g)).setCell (p := ⟨w.heap.size + 1, 1, none⟩) (by simp) (.slice H q hc))
   clear S c0
   go_wp2
   refine bodyPost_ret (v := .tuple #[.agg #[.slice G j g, .slice H q hc], .bool false]) (by simp [results, Try.results91, go_sem, p0, p1]) rfl ⟨G, j, g, H, q, hc, by rw [HR.out], ?_, B5.out⟩
   rw [HR.out]
   exact S5.out
 by_cases h60 : 60 ≤ n'
 · have HR := jd (show wrote d i r = (d, false) by
     unfold wrote
     rw [if_pos hd, if_neg]
     rintro ⟨_, _, h9⟩
     rw [HL2.out] at h9
     omega)
   go_enter Try.func91, Try.ntmps91
   go_wp2_with fail
   rw [← HW.out]
   refine (sDiskOk_any _ _ d _ _ (h.keep c0) c0.size (by omega)).mono ?_
   rintro e w1 ⟨rfl, b⟩
   rw [hd]
   replace c0 := c0.trans (b.mono c0.size)
   replace S := S.keep b
   clear b
   have k0 := lk S 1 0 rfl rfl
   have k1 := lk S 1 1 rfl rfl
   go_wp2_with fail
   refine (sCopyD_any _ _ d _ ((h.keep c0).up c0.size) (by omega)).mono ?_
   rintro e w2 ⟨G, j, g, H, q, hc, rfl, o, b⟩
   obtain ⟨fp, S'⟩ := S.has b o c0.size
   replace c0 := c0.trans (b.mono c0.size)
   clear S; have S := S'; clear S' o b k0 k1
   have zw2 := c0.size
   replace S := S.box c0.size #[.slice G j g, .slice H q hc] 32
   replace c0 := c0.alloc c0.size (.cells #[.slice G j g, .slice H q hc] 32)
   have k0 := lk S 3 0 rfl rfl
   have k1 := lk S 3 1 rfl rfl
   go_wp2_with fail
   generalize w2.alloc (.cells #[.slice G j g, .slice H q hc] 32) = w3 at *
   refine (sHas_any A A' n c n' c' d i _ HL1.out (by omega)).mono ?_
   rintro e w4 ⟨rfl, b⟩
   rw [hh]
   replace c0 := c0.trans (b.mono c0.size)
   replace S := S.keep b
   clear b k0 k1
   go_wp2_with fail
   refine (sRowOk_any R m k _ r _ (h2i.below c0) (by omega)).mono ?_
   rintro e w5 ⟨rfl, rfl⟩
   rw [hk]
   have k0 := lk S 3 1 rfl rfl
   have o0 := lk S 0 0 rfl rfl
   have o1 := lk S 0 1 rfl rfl
   have p0 := lk S 2 0 rfl rfl
   have p1 := lk S 2 1 rfl rfl
   have f0 := (S.at_ 2 rfl).free 0
   have f1 := (S.at_ 2 rfl).free 1
   have S5 := jd (((S.put 2 rfl 0 (.slice G j g)).put 2 rfl 1 (.slice H q hc)).drop 1).first
   have B5 := jd ((c0.setCell (p := ⟨w.heap.size + 1, 0, none⟩) (by simp) (.slice G j g)).setCell (p := ⟨w.heap.size + 1, 1, none⟩) (by simp) (.slice H q hc))
   clear S c0
   go_wp2
   refine bodyPost_ret (v := .tuple #[.agg #[.slice G j g, .slice H q hc], .bool false]) (by simp [results, Try.results91, go_sem, p0, p1]) rfl ⟨G, j, g, H, q, hc, by rw [HR.out], ?_, B5.out⟩
   rw [HR.out]
   exact S5.out
 · have HR := jd (show wrote d i r = (⟨d.kept, d.wait ++ [(i, r)]⟩, true) by
     unfold wrote
     rw [if_pos hd, if_pos ⟨hh, hk, by rw [HL2.out]; omega⟩])
   go_enter Try.func91, Try.ntmps91
   go_wp2_with fail
   rw [← HW.out]
   refine (sDiskOk_any _ _ d _ _ (h.keep c0) c0.size (by omega)).mono ?_
   rintro e w1 ⟨rfl, b⟩
   rw [hd]
   replace c0 := c0.trans (b.mono c0.size)
   replace S := S.keep b
   clear b
   have k0 := lk S 1 0 rfl rfl
   have k1 := lk S 1 1 rfl rfl
   go_wp2_with fail
   refine (sCopyD_any _ _ d _ ((h.keep c0).up c0.size) (by omega)).mono ?_
   rintro e w2 ⟨G, j, g, H, q, hc, rfl, o, b⟩
   obtain ⟨fp, S'⟩ := S.has b o c0.size
   replace c0 := c0.trans (b.mono c0.size)
   clear S; have S := S'; clear S' o b k0 k1
   have zw2 := c0.size
   replace S := S.box c0.size #[.slice G j g, .slice H q hc] 32
   replace c0 := c0.alloc c0.size (.cells #[.slice G j g, .slice H q hc] 32)
   have k0 := lk S 3 0 rfl rfl
   have k1 := lk S 3 1 rfl rfl
   go_wp2_with fail
   generalize w2.alloc (.cells #[.slice G j g, .slice H q hc] 32) = w3 at *
   refine (sHas_any A A' n c n' c' d i _ HL1.out (by omega)).mono ?_
   rintro e w4 ⟨rfl, b⟩
   rw [hh]
   replace c0 := c0.trans (b.mono c0.size)
   replace S := S.keep b
   clear b k0 k1
   go_wp2_with fail
   refine (sRowOk_any R m k _ r _ (h2i.below c0) (by omega)).mono ?_
   rintro e w5 ⟨rfl, rfl⟩
   rw [hk]
   have k0 := lk S 3 1 rfl rfl
   have o0 := lk S 0 0 rfl rfl
   have o1 := lk S 0 1 rfl rfl
   have p0 := lk S 2 0 rfl rfl
   have p1 := lk S 2 1 rfl rfl
   have f0 := (S.at_ 2 rfl).free 0
   have f1 := (S.at_ 2 rfl).free 1
   obtain ⟨v1, v2, fk, fw, ev, SX⟩ := Sep.split (d1 := [keptD d.kept]) (d2 := [waitD d.wait]) S.swap
   obtain ⟨ev1, ev2⟩ : v1 = [.slice G j g] ∧ v2 = [.slice H q hc] := by
    have l1 := (SX.own_ 1 rfl).len
    have l2 := (SX.own_ 0 rfl).len
    match v1, v2, l1, l2 with
    | [y1], [y2], _, _ =>
     injection ev with a1 a2
     injection a2 with a2 _
     subst a1 a2
     exact ⟨rfl, rfl⟩
   subst ev1 ev2
   have hql : q ≤ 1048577 := by
    have h8 := waitD_len (SX.own_ 0 rfl)
    have h9 := HL2.out
    omega
   have hri := jd ((h2i.below c0).up c0.size)
   have SH := jd SX
   have BH := jd c0
   have zw := c0.size
   clear S SX c0 ev f0 f1 p0 p1 o0
   go_wp2_with fail
   go_region_law (first
    | (
       refine step_append_elem (l := d.wait) (y := (i, r)) (fp := fw) (es := [.int .i64 i, .slice Q qn qc]) (by rfl) _ _ (by rfl) Try.underlying30 infoWrite (by rfl) (by decide) wrC_len (by rfl) (SA.out.own_ 1 rfl) (SA.out.nodup_own 1 rfl) (by rfl) HC.out (.int (SA.out.own_ 2 rfl)) (SA.out.nodup_own 2 rfl) HD.out (by omega) (by omega) ?_
       intro G3 g3 w6 fp3 o3 n3 s3 t3
       have SD : Sep (w5.alloc (.cells #[.int .i64 i, .slice Q qn qc] 129)) w.heap.size [.own [waitD d.wait] [.slice H q hc] fw, .own [rowD r] [.slice Q qn qc] f2, .own [keptD d.kept] [.slice G j g] fk, .blk w2.heap.size #[.slice G j g, .slice H q hc] 32, .blk (w.heap.size + 1) #[.slice none 0 0, .slice none 0 0] 32, .blk w.heap.size #[.slice A n c, .slice A' n' c'] 32] := SA.out.drop 1
       have S3 := SD.merge t3 o3 n3 s3 BA.out.size
       have B3 := jd (BA.out.trans (SD.below 0 rfl t3 BA.out.size))
       have q1 : w6.cell? ⟨w2.heap.size, 1, none⟩ = some (.slice H q hc) := (S3.at_ 2 rfl).cell 1
       have q2 := (S3.at_ 2 rfl).free 1
       have S4 := S3.put 2 rfl 1 (.slice G3 (q + 1) g3)
       have u0 : (w6.setCell ⟨w2.heap.size, 1, none⟩ (.slice G3 (q + 1) g3)).cell? ⟨w2.heap.size, 0, none⟩ = some (.slice G j g) := (S4.at_ 2 rfl).cell 0
       have u1 : (w6.setCell ⟨w2.heap.size, 1, none⟩ (.slice G3 (q + 1) g3)).cell? ⟨w2.heap.size, 1, none⟩ = some (.slice G3 (q + 1) g3) := (S4.at_ 2 rfl).cell 1
       have u2 : (w6.setCell ⟨w2.heap.size, 1, none⟩ (.slice G3 (q + 1) g3)).cell? ⟨w.heap.size + 1, 0, none⟩ = some (.slice none 0 0) := (S4.at_ 3 rfl).cell 0
       have u3 : (w6.setCell ⟨w2.heap.size, 1, none⟩ (.slice G3 (q + 1) g3)).cell? ⟨w.heap.size + 1, 1, none⟩ = some (.slice none 0 0) := (S4.at_ 3 rfl).cell 1
       have y2 := (S4.at_ 3 rfl).free 0
       have y3 := (S4.at_ 3 rfl).free 1
       have S5 := jd ((S4.put 3 rfl 0 (.slice G j g)).put 3 rfl 1 (.slice G3 (q + 1) g3)).pair
       clear S3 S4 SD o3 n3 s3 t3)
    | (go_simp; go_at_call 132
       refine (sCopy_any R m k r w4.drew hri.out (by omega)).mono ?_
       rintro e w5 ⟨Q, qn, qc, rfl, o1, b1⟩
       obtain ⟨f2, S2⟩ := (SH.out.keep ((Below.refl _ _).drew)).has b1 o1.has zw
       have g1 : w5.cell? ⟨w2.heap.size, 1, none⟩ = some (.slice H q hc) := (S2.at_ 3 rfl).cell 1
       have zz : w.heap.size ≤ w5.heap.size := Nat.le_trans zw b1.size
       have HD := jd S2.swap.apart
       have SA := jd (S2.swap.box zz #[.int .i64 i, .slice Q qn qc] 129)
       have HC := jd (show ∀ t, t < 2 → (w5.alloc (.cells #[.int .i64 i, .slice Q qn qc] 129)).cell? ⟨w5.heap.size, t, none⟩ = [Value.int .i64 i, Value.slice Q qn qc][t]? from fun t ht => by
        have h1 := (SA.out.at_ 0 rfl).cell t
        have h3 : t = 0 ∨ t = 1 := by omega
        rcases h3 with rfl | rfl
        · exact h1
        · exact h1)
       have BA := jd ((BH.out.drew.trans (b1.mono zw)).alloc zz (.cells #[.int .i64 i, .slice Q qn qc] 129))
       have g2 : (w5.alloc (.cells #[.int .i64 i, .slice Q qn qc] 129)).cell? ⟨w2.heap.size, 1, none⟩ = some (.slice H q hc) := (SA.out.at_ 4 rfl).cell 1
       clear S2 o1 b1))
   all_goals
    go_wp2
    refine bodyPost_ret (v := .tuple #[.agg #[.slice G j g, .slice G3 (q + 1) g3], .bool true]) (by simp [results, Try.results91, go_sem, u2, u3]) rfl ⟨G, j, g, G3, q + 1, g3, by rw [HR.out], ?_, ((B3.out.setCell (p := ⟨w2.heap.size, 1, none⟩) (by show w.heap.size ≤ w2.heap.size; omega) _).setCell (p := ⟨w.heap.size + 1, 0, none⟩) (by simp) _).setCell (p := ⟨w.heap.size + 1, 1, none⟩) (by simp) _⟩
    rw [HR.out]
    exact S5.out
end Go.Proofs.Ytecihkkagpbkdaa
namespace Go.Proofs.Ytecihkkagpbkdaa
set_option maxRecDepth 100000
open Go.RowKit
theorem IRow.take_ {w : World} {B : Nat} {A : Option Addr} {n m : Nat} {xs : List Int} (h : IRow w B A n xs) (hm : m ≤ n) : IRow w B A m (xs.take m) := by
 refine ⟨by rw [List.length_take, h.1]; omega, fun h0 => ?_⟩
 obtain ⟨b, off, rfl, hb, hc⟩ := h.2 (by omega)
 refine ⟨b, off, rfl, hb, fun j hj => ?_⟩
 rw [hc j (by omega)]
 simp [List.getD, hj]
theorem IRow.drop_ {w : World} {B b off n m : Nat} {xs : List Int} (h : IRow w B (some ⟨b, off, none⟩) n xs) (hm : m < n) : IRow w B (some ⟨b, off + m, none⟩) (n - m) (xs.drop m) := by
 refine ⟨by rw [List.length_drop, h.1], fun _ => ?_⟩
 obtain ⟨b', off', e, hb, hc⟩ := h.2 (by omega)
 injection e with e
 injection e with e1 e2
 subst e1 e2
 refine ⟨b, off + m, rfl, hb, fun j hj => ?_⟩
 have := hc (m + j) (by omega)
 rw [Nat.add_assoc, this]
 simp [List.getD, List.getElem?_drop]
set_option maxHeartbeats 1600000 in
theorem sTorn_any (A : Option Addr) (n c : Nat) (xs : List Int) (E : Option Addr) (o co : Nat) (os : List Int) (w : World) (h : IRow w w.heap.size A n xs) (hn : n ≤ 1048577) (hc : n ≤ c) (hcm : c ≤ maxLen) (k : IRow w w.heap.size E o os) (ho : o ≤ 1048577) (hco : o ≤ co) (hcom : co ≤ maxLen) :
    Calls Try.prog 156 #[.slice A n c, .slice E o co] w (MadeRow w (torn xs os)) := by
 unfold maxLen at hcm hcom
 have hl := jd h.1
 have hlo := jd k.1
 obtain ⟨half, hhalf⟩ : ∃ half, half = n / 2 := ⟨_, rfl⟩
 have hh : half ≤ n := by omega
 have hq : ((n : Int)).tdiv 2 = (half : Int) := by rw [Int.tdiv_eq_ediv_of_nonneg (by omega)]; omega
 have HT := jd (show torn xs os = xs.take half ++ os.drop half by unfold torn; rw [hl.out, hhalf])
 have i0 : (0 : Int) ≤ (half : Int) := by omega
 have i1 : (half : Int) ≤ (c : Int) := by omega
 have hmod : n / 2 = half := hhalf.symm
 clear hhalf
 by_cases hlt : half < o
 · obtain ⟨b, off, rfl, hb, _⟩ := k.2 (by omega)
   have j1 : (half : Int) < (o : Int) := by omega
   have j2 : (half : Int) ≤ (co : Int) := by omega
   have j3 : ¬ ((co : Int) ≤ (half : Int)) := by omega
   go_enter Try.func156, Try.ntmps156
   go_wp2_with fail
   refine (sCopy_any A half c (xs.take half) w (h.take_ hh) (by omega)).mono ?_
   rintro e w1 ⟨Q, qn, qc, rfl, o1, b1⟩
   have hqn : qn = half := by rw [← o1.len, List.length_take, hl.out]; omega
   subst hqn
   have kr := (k.drop_ hlt).below b1
   have HB := jd b1
   have z1 := b1.size
   clear h k b1
   go_wp2_with (first
    | (at_builtin
       refine wpList_append_ints rfl (.tmp 18) (.tmp 21) rfl rfl o1 rfl kr (by omega) (by omega) ?_
       intro Q2 c2 w2 o2 g2 e2))
   go_ret
   refine ⟨Q2, _, c2, rfl, ?_, HB.out.grown g2 HB.out.size (fun p hp => (o1.ge p hp).1)⟩
   rw [HT.out]
   exact o2
 · have HE := jd (show torn xs os = xs.take half by rw [HT.out, List.drop_eq_nil_of_le (by have := hlo.out; omega), List.append_nil])
   have j1 : ¬ ((half : Int) < (o : Int)) := by omega
   go_enter Try.func156, Try.ntmps156
   go_wp2_with fail
   refine (sCopy_any A half c (xs.take half) w (h.take_ hh) (by omega)).mono ?_
   rintro e w1 ⟨Q, qn, qc, rfl, o1, b1⟩
   have O1 := jd o1
   have HB := jd b1
   clear h k o1 b1
   go_wp2
   go_ret
   refine ⟨Q, qn, qc, rfl, ?_, HB.out⟩
   rw [HE.out]
   exact O1.out
end Go.Proofs.Ytecihkkagpbkdaa
