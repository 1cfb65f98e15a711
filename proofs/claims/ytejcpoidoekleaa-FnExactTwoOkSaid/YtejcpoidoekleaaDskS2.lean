/-
  The model of chapter 3: a disk copied, row by row and write by write.
-/
import Derived.Test.YtejcpoidoekleaaDskM
import Derived.Test.YtejcpoidoekleaaDskTo
import Derived.Test.YtejcpoidoekleaaDskW
import Derived.Test.YtejcpoidoekleaaSep
import Derived.Test.YtejcpoidoekleaaCopyS
import Derived.Test.YtejcpoidoekleaaOrdL
namespace Go.Proofs.Ytejcpoidoekleaa
set_option maxRecDepth 100000
open Go.RowKit

theorem ow_nil_kept (w : World) : Ow w [keptD []] [.slice none 0 0] [] := Ow.row (n := 0) (us := []) (fp1 := []) (fp2 := []) (World.ownsRow_nil w 0 _ _) .nil .nil
theorem ow_nil_wait (w : World) : Ow w [waitD []] [.slice none 0 0] [] := Ow.row (n := 0) (us := []) (fp1 := []) (fp2 := []) (World.ownsRow_nil w 0 _ _) .nil .nil
theorem keptD_len {w : World} {l : List (List Int)} {A : Option Addr} {n c : Nat} {fp : List Nat} (h : Ow w [keptD l] [.slice A n c] fp) : l.length = n := by
  obtain ⟨_, _, _, e, hl, _⟩ := h.rd.kept
  injection e with _ e2 _
  omega
theorem waitD_len {w : World} {l : List (Int × List Int)} {A : Option Addr} {n c : Nat} {fp : List Nat} (h : Ow w [waitD l] [.slice A n c] fp) : l.length = n := by
  obtain ⟨_, _, _, e, hl, _⟩ := h.rd.wait
  injection e with _ e2 _
  omega

set_option maxHeartbeats 6400000 in
theorem sCopyD_any (v0 v1 : Value) (d : DiskM) (w : World) (h : Rd w w.heap.size d.cells [v0, v1]) (hs : d.sz ≤ 1048577) :
    Calls Try.prog 109 #[.agg #[v0, v1]] w (MadeD w d) := by
  obtain ⟨A, n, c, A', n', c', rfl, rfl, h1, h2⟩ := h.disk
  obtain ⟨_, _, _, e, hl1, _, _, hel1⟩ := h1.kept
  injection e with e1 e2 e3
  subst e1 e2 e3
  obtain ⟨_, _, _, e, hl2, _, _, hel2⟩ := h2.wait
  injection e with e1 e2 e3
  subst e1 e2 e3
  have hn : n ≤ 1048577 := by unfold DiskM.sz rowsSz at hs; omega
  have hn' : n' ≤ 1048577 := by unfold DiskM.sz waitSz at hs; omega
  have HS := Lib.hid hs
  have HL1 := Lib.hid hl1
  have HL2 := Lib.hid hl2
  clear h h1 h2 hs hl1 hl2
  have S0 := (((Sep.nil w w.heap.size).box (Nat.le_refl _) #[.slice A n c, .slice A' n' c'] 30).box (by simp) #[.slice none 0 0, .slice none 0 0] 30).box (by simp; omega) #[.slice none 0 0, .slice none 0 0] 30
  have b0 : Below w.heap.size w (((w.alloc (.cells #[.slice A n c, .slice A' n' c'] 30)).alloc (.cells #[.slice none 0 0, .slice none 0 0] 30)).alloc (.cells #[.slice none 0 0, .slice none 0 0] 30)) :=
    (((Below.refl _ w).alloc (Nat.le_refl _) _).alloc (by simp) _).alloc (by simp; omega) _
  have e1 : (w.alloc (.cells #[.slice A n c, .slice A' n' c'] 30)).heap.size = w.heap.size + 1 := by simp
  have e2 : ((w.alloc (.cells #[.slice A n c, .slice A' n' c'] 30)).alloc (.cells #[.slice none 0 0, .slice none 0 0] 30)).heap.size = w.heap.size + 1 + 1 := by simp
  rw [e1, e2] at S0
  have S1 := Lib.hid (S0.own0 (ow_nil_kept _))
  have B0 := Lib.hid b0
  clear S0 b0 e1 e2
  go_enter Try.func109, Try.ntmps109
  go_wp2
  go_loopw [4] (fun i wr => ∃ (j : Nat) (G : Option Addr) (g : Nat) (fp : List Nat), j ≤ n ∧ i = .int .i64 (j : Int) ∧ Sep wr w.heap.size [.own [keptD (d.kept.take j)] [.slice G j g] fp, .blk (w.heap.size + 1 + 1) #[.slice G j g, .slice none 0 0] 30, .blk (w.heap.size + 1) #[.slice none 0 0, .slice none 0 0] 30, .blk w.heap.size #[.slice A n c, .slice A' n' c'] 30] ∧ Below w.heap.size w wr) (fun i _ => n - (intOf i).toNat)
  case atStart => exact ⟨0, none, 0, [], Nat.zero_le _, rfl, S1.out, B0.out⟩
  case round =>
    obtain ⟨j, G, g, fp, hj, rfl, S, hbel⟩ := hrel
    clear S1 B0
    have zb := (S.at_ 1 rfl).lt
    have zw := hbel.size
    have k0 : wr.cell? ⟨w.heap.size, 0, none⟩ = some (.slice A n c) := (S.at_ 3 rfl).cell 0
    have k1 : wr.cell? ⟨w.heap.size + 1 + 1, 0, none⟩ = some (.slice G j g) := (S.at_ 1 rfl).cell 0
    by_cases hlt : j < n
    · obtain ⟨b, off, rfl, hb, hc⟩ := hel1 (by omega)
      have hjl : j < d.kept.length := by have := HL1.out; omega
      obtain ⟨A1, m1, d1, hcell, hrow, hm1, hm2⟩ := hc j hjl
      have hm : m1 ≤ 1048577 := by
        have h1 := pre_at (g := List.length) hjl
        have h2 := HS.out
        have h3 := hrow.1
        unfold DiskM.sz rowsSz at h2
        omega
      have hr := Lib.hid ((hrow.below hbel).up hbel.size)
      have ce := (hbel.cell (p := ⟨b, off + j, none⟩) hb).trans hcell
      obtain ⟨xr, hxr⟩ : ∃ xr, xr = d.kept[j] := ⟨_, rfl⟩
      rw [← hxr] at hr
      have HX := Lib.hid (show d.kept.take (j + 1) = d.kept.take j ++ [xr] by rw [List.take_succ_eq_append_getElem hjl, hxr])
      have i0 : (0 : Int) ≤ (j : Int) := by omega
      have i1 : (j : Int) < (n : Int) := by omega
      have SH := Lib.hid S
      have BH := Lib.hid hbel
      clear hxr hc hrow hcell hel1 hel2 hbel S
      go_wp2_with fail
      refine wp_region_L (fun v => v.cell? ⟨w.heap.size, 0, none⟩ = some (.slice (some ⟨b, off, none⟩) n c) ∧ v.cell? ⟨w.heap.size + 1 + 1, 0, none⟩ = some (.slice G j g) ∧ v.cell? ⟨b, off + j, none⟩ = some (.slice A1 m1 d1)) 11 (by kernel_rfl) ?_
      have HF : wr.drew.cell? ⟨w.heap.size, 0, none⟩ = some (.slice (some ⟨b, off, none⟩) n c) ∧ wr.drew.cell? ⟨w.heap.size + 1 + 1, 0, none⟩ = some (.slice G j g) ∧ wr.drew.cell? ⟨b, off + j, none⟩ = some (.slice A1 m1 d1) := ⟨k0, k1, ce⟩
      refine wpAnyL_take (i := 0) (v := ?_) rfl rfl (by kernel_rfl) (by kernel_rfl) (by kernel_rfl) (by kernel_rfl) (by kernel_rfl) (fun _ _ _ h => h) HF (Or.inl ⟨by rfl, ?_⟩) ?_
      rotate_left 1
      · (rintro v ⟨a0, a1, a2⟩; go_simp; try with_reducible rfl)
      try simp only [Act.put]
      refine wpAnyL_take (i := 1) (v := ?_) rfl rfl (by kernel_rfl) (by kernel_rfl) (by kernel_rfl) (by kernel_rfl) (by kernel_rfl) (fun _ _ _ h => h) HF (Or.inl ⟨by rfl, ?_⟩) ?_
      rotate_left 1
      · (rintro v ⟨a0, a1, a2⟩; go_simp; try with_reducible rfl)
      try simp only [Act.put]
      refine wpAnyL_take (i := 2) (v := ?_) rfl rfl (by kernel_rfl) (by kernel_rfl) (by kernel_rfl) (by kernel_rfl) (by kernel_rfl) (fun _ _ _ h => h) HF (Or.inl ⟨by rfl, ?_⟩) ?_
      rotate_left 1
      · (rintro v ⟨a0, a1, a2⟩; go_simp; try with_reducible rfl)
      try simp only [Act.put]
      refine wpAnyL_take (i := 3) (v := ?_) rfl rfl (by kernel_rfl) (by kernel_rfl) (by kernel_rfl) (by kernel_rfl) (by kernel_rfl) (fun _ _ _ h => h) HF (Or.inl ⟨by rfl, ?_⟩) ?_
      rotate_left 1
      · (rintro v ⟨a0, a1, a2⟩; go_simp; try with_reducible rfl)
      try simp only [Act.put]
      refine wpAnyL_take (i := 4) (v := ?_) rfl rfl (by kernel_rfl) (by kernel_rfl) (by kernel_rfl) (by kernel_rfl) (by kernel_rfl) (fun _ _ _ h => h) HF (Or.inl ⟨by rfl, ?_⟩) ?_
      rotate_left 1
      · (rintro v ⟨a0, a1, a2⟩; go_simp; try with_reducible rfl)
      try simp only [Act.put]
      refine wpAnyL_take (i := 5) (v := ?_) rfl rfl (by kernel_rfl) (by kernel_rfl) (by kernel_rfl) (by kernel_rfl) (by kernel_rfl) (fun _ _ _ h => h) HF (Or.inl ⟨by rfl, ?_⟩) ?_
      rotate_left 1
      · (rintro v ⟨a0, a1, a2⟩; go_simp; try with_reducible rfl)
      try simp only [Act.put]
      refine wpAnyL_take (i := 6) (v := ?_) rfl rfl (by kernel_rfl) (by kernel_rfl) (by kernel_rfl) (by kernel_rfl) (by kernel_rfl) (fun _ _ _ h => h) HF (Or.inl ⟨by rfl, ?_⟩) ?_
      rotate_left 1
      · (rintro v ⟨a0, a1, a2⟩; go_simp; try with_reducible rfl)
      try simp only [Act.put]
      -- the copy
      refine wpAnyL_step (i := 7) (by kernel_rfl) rfl rfl ?_
      intro K hK
      go_simp
      refine (sCopy_any A1 m1 d1 xr wr.drew hr.out hm).mono ?_
      rintro e w1 ⟨R, rn, rc, rfl, o1, b1⟩
      obtain ⟨f2, S2⟩ := (SH.out.keep ((Below.refl _ _).drew)).has b1 o1.has (by show w.heap.size ≤ wr.heap.size; omega)
      have hbw : b < wr.heap.size := by omega
      have HF1 : w1.cell? ⟨w.heap.size, 0, none⟩ = some (.slice (some ⟨b, off, none⟩) n c) ∧ w1.cell? ⟨w.heap.size + 1 + 1, 0, none⟩ = some (.slice G j g) ∧ w1.cell? ⟨b, off + j, none⟩ = some (.slice A1 m1 d1) :=
        ⟨(S2.at_ 4 rfl).cell 0, (S2.at_ 2 rfl).cell 0, (b1.cell (p := ⟨b, off + j, none⟩) hbw).trans ce⟩
      have zz : w.heap.size ≤ w1.heap.size := by have := (S2.at_ 2 rfl).lt; omega
      have HD := S2.swap.apart
      have SA := S2.swap.box zz #[.slice R rn rc] 35
      have bA := Below.alloc (Below.refl w1.heap.size w1) (Nat.le_refl _) (.cells #[.slice R rn rc] 35)
      have HF2 : (w1.alloc (.cells #[.slice R rn rc] 35)).cell? ⟨w.heap.size, 0, none⟩ = some (.slice (some ⟨b, off, none⟩) n c) ∧ (w1.alloc (.cells #[.slice R rn rc] 35)).cell? ⟨w.heap.size + 1 + 1, 0, none⟩ = some (.slice G j g) ∧ (w1.alloc (.cells #[.slice R rn rc] 35)).cell? ⟨b, off + j, none⟩ = some (.slice A1 m1 d1) :=
        ⟨(SA.at_ 5 rfl).cell 0, (SA.at_ 3 rfl).cell 0, (bA.cell (p := ⟨b, off + j, none⟩) (Nat.lt_of_lt_of_le hbw b1.size)).trans HF1.2.2⟩
      have HC : ∀ i, i < 1 → (w1.alloc (.cells #[.slice R rn rc] 35)).cell? ⟨w1.heap.size, i, none⟩ = [Value.slice R rn rc][i]? := fun i hi => by
        have h1 := (SA.at_ 0 rfl).cell i
        have : i = 0 := by omega
        subst this
        exact h1
      have BA := (BH.out.drew.trans (b1.mono (by show w.heap.size ≤ wr.heap.size; omega))).alloc zz (.cells #[.slice R rn rc] 35)
      refine hK _ _ (fun _ => HF1) ?_
      clear hK K
      try simp only [Act.put]
      -- the row in a slice of its own
      refine wpAnyL_step (i := 8) (by kernel_rfl) rfl rfl ?_
      intro K hK
      go_simp
      refine hK _ _ (fun _ => HF2) ?_
      clear hK K
      try simp only [Act.put]
      refine wpAnyL_step (i := 9) (by kernel_rfl) rfl rfl ?_
      intro K hK
      refine wp_append_elem (l := d.kept.take j) (y := xr) (fp := fp) _ _ (by rfl) Try.underlying27 infoRow (by rfl) (by decide) rowC_len (by rfl) (SA.own_ 1 rfl) (SA.nodup_own 1 rfl) (by rfl) HC (SA.own_ 2 rfl) (SA.nodup_own 2 rfl) HD (by omega) (by omega) ?_
      intro G3 g3 w3 fp3 o3 n3 s3 t3
      have SD : Sep (w1.alloc (.cells #[.slice R rn rc] 35)) w.heap.size [.own [keptD (d.kept.take j)] [.slice G j g] fp, .own [rowD xr] [.slice R rn rc] f2, .blk (w.heap.size + 1 + 1) #[.slice G j g, .slice none 0 0] 30, .blk (w.heap.size + 1) #[.slice none 0 0, .slice none 0 0] 30, .blk w.heap.size #[.slice (some ⟨b, off, none⟩) n c, .slice A' n' c'] 30] := SA.drop 1
      have S3 := SD.merge t3 o3 n3 s3 BA.size
      have bS := SD.below 0 rfl t3 BA.size
      have B3 := Lib.hid (BA.trans bS)
      have HF3 : w3.cell? ⟨w.heap.size, 0, none⟩ = some (.slice (some ⟨b, off, none⟩) n c) ∧ w3.cell? ⟨w.heap.size + 1 + 1, 0, none⟩ = some (.slice G j g) ∧ w3.cell? ⟨b, off + j, none⟩ = some (.slice A1 m1 d1) :=
        ⟨(S3.at_ 3 rfl).cell 0, (S3.at_ 1 rfl).cell 0, (bS.cell (p := ⟨b, off + j, none⟩) hb).trans HF2.2.2⟩
      have q1 := HF3.2.1
      have q2 := (S3.at_ 1 rfl).free 0
      have S4 := Lib.hid (S3.put 1 rfl 0 (.slice G3 (j + 1) g3))
      refine hK _ _ (fun _ => HF3) ?_
      clear hK K S3 SD o3 n3 s3 t3 SA S2 HC HD BA bA bS HF HF1 HF2 o1 b1
      try simp only [Act.put]
      refine wpAnyL_step (i := 10) (by kernel_rfl) rfl rfl ?_
      intro K hK
      go_simp
      refine hK _ _ (fun _ => HF3) ?_
      clear hK K
      try simp only [Act.put]
      refine wpAnyL_step (i := 11) (by kernel_rfl) rfl rfl ?_
      intro K hK
      go_simp
      refine hK _ _ (fun h => nomatch (show true = false from h)) ?_
      clear hK K
      try simp only [Act.put]
      refine wpAnyL_done (by kernel_rfl) ?_ _
      go_wp2
      go_roundw
      case rel => exact ⟨j + 1, G3, g3, fp3, by omega, by go_num, by rw [HX.out]; exact S4.out, B3.out.setCell (p := ⟨w.heap.size + 1 + 1, 0, none⟩) (by show w.heap.size ≤ w.heap.size + 1 + 1; omega) _⟩
      case measure => simp [intOf]; omega
    · have hjn : j = n := by omega
      have S2 := Lib.hid (show Sep wr w.heap.size [.own [waitD (d.wait.take 0)] [.slice none 0 0] [], .own [keptD d.kept] [.slice G j g] fp, .blk (w.heap.size + 1 + 1) #[.slice G j g, .slice none 0 0] 30, .blk (w.heap.size + 1) #[.slice none 0 0, .slice none 0 0] 30, .blk w.heap.size #[.slice A n c, .slice A' n' c'] 30] by
        have e : d.kept.take j = d.kept := List.take_of_length_le (by have := HL1.out; omega)
        rw [e] at S
        exact S.own0 (ow_nil_wait _))
      have B2 := Lib.hid hbel
      have hi : ¬ ((j : Int) < (n : Int)) := by omega
      clear hjn S hbel hel1
      go_wp2
      go_loopw [5] (fun i wx => ∃ (q : Nat) (H : Option Addr) (hc : Nat) (fq : List Nat), q ≤ n' ∧ i = .int .i64 (q : Int) ∧ Sep wx w.heap.size [.own [waitD (d.wait.take q)] [.slice H q hc] fq, .own [keptD d.kept] [.slice G j g] fp, .blk (w.heap.size + 1 + 1) #[.slice G j g, .slice H q hc] 30, .blk (w.heap.size + 1) #[.slice none 0 0, .slice none 0 0] 30, .blk w.heap.size #[.slice A n c, .slice A' n' c'] 30] ∧ Below w.heap.size w wx) (fun i _ => n' - (intOf i).toNat)
      case atStart => exact ⟨0, none, 0, [], Nat.zero_le _, rfl, S2.out, B2.out⟩
      case round =>
        obtain ⟨q, H, hc, fq, hq, rfl, S, hbel⟩ := hrel
        clear S2 B2 k0 k1
        have zb := (S.at_ 2 rfl).lt
        have zw := hbel.size
        by_cases hlt2 : q < n'
        · obtain ⟨b, off, rfl, hb, hcc⟩ := hel2 (by omega)
          have hjl : q < d.wait.length := by have := HL2.out; omega
          obtain ⟨A1, m1, d1, hcell, hcell2, hrow, hm1, hm2⟩ := hcc q hjl
          have hm : m1 ≤ 1048577 := by
            have h1 := pre_at (g := wrSz) hjl
            have h2 := HS.out
            have h3 : wrSz d.wait[q] = m1 := hrow.1
            unfold DiskM.sz waitSz at h2
            omega
          have k0 : wr.cell? ⟨w.heap.size, 1, none⟩ = some (.slice (some ⟨b, off, none⟩) n' c') := (S.at_ 4 rfl).cell 1
          have k1 : wr.cell? ⟨w.heap.size + 1 + 1, 1, none⟩ = some (.slice H q hc) := (S.at_ 2 rfl).cell 1
          have hr := Lib.hid ((hrow.below hbel).up hbel.size)
          have ce := (hbel.cell (p := ⟨b, off + q * 2, none⟩) hb).trans hcell
          have ce2 := (hbel.cell (p := ⟨b, off + q * 2 + 1, none⟩) hb).trans hcell2
          obtain ⟨x, hx⟩ : ∃ x, x = d.wait[q].1 := ⟨_, rfl⟩
          obtain ⟨xr, hxr⟩ : ∃ xr, xr = d.wait[q].2 := ⟨_, rfl⟩
          rw [← hx] at ce
          rw [← hxr] at hr
          have HX := Lib.hid (show d.wait.take (q + 1) = d.wait.take q ++ [(x, xr)] by rw [List.take_succ_eq_append_getElem hjl, hx, hxr])
          have i0 : (0 : Int) ≤ (q : Int) := by omega
          have i1 : (q : Int) < (n' : Int) := by omega
          have hbw : b < wr.heap.size := by omega
          have SH := Lib.hid S
          have BH := Lib.hid hbel
          clear hx hxr hcc hrow hcell hcell2 hel2 hbel S
          go_wp2_with fail
          refine wp_region_L (fun v => v.cell? ⟨w.heap.size, 1, none⟩ = some (.slice (some ⟨b, off, none⟩) n' c') ∧ v.cell? ⟨w.heap.size + 1 + 1, 1, none⟩ = some (.slice H q hc) ∧ v.cell? ⟨b, off + q * 2, none⟩ = some (.int .i64 x) ∧ v.cell? ⟨b, off + q * 2 + 1, none⟩ = some (.slice A1 m1 d1)) 19 (by kernel_rfl) ?_
          have HF : wr.drew.cell? ⟨w.heap.size, 1, none⟩ = some (.slice (some ⟨b, off, none⟩) n' c') ∧ wr.drew.cell? ⟨w.heap.size + 1 + 1, 1, none⟩ = some (.slice H q hc) ∧ wr.drew.cell? ⟨b, off + q * 2, none⟩ = some (.int .i64 x) ∧ wr.drew.cell? ⟨b, off + q * 2 + 1, none⟩ = some (.slice A1 m1 d1) := ⟨k0, k1, ce, ce2⟩
          refine wpAnyL_take (i := 0) (v := ?_) rfl rfl (by kernel_rfl) (by kernel_rfl) (by kernel_rfl) (by kernel_rfl) (by kernel_rfl) (fun _ _ _ h => h) HF (Or.inl ⟨by rfl, ?_⟩) ?_
          rotate_left 1
          · (rintro v ⟨a0, a1, a2, a3⟩; go_simp; try with_reducible rfl)
          try simp only [Act.put]
          refine wpAnyL_take (i := 1) (v := ?_) rfl rfl (by kernel_rfl) (by kernel_rfl) (by kernel_rfl) (by kernel_rfl) (by kernel_rfl) (fun _ _ _ h => h) HF (Or.inl ⟨by rfl, ?_⟩) ?_
          rotate_left 1
          · (rintro v ⟨a0, a1, a2, a3⟩; go_simp; try with_reducible rfl)
          try simp only [Act.put]
          refine wpAnyL_take (i := 2) (v := ?_) rfl rfl (by kernel_rfl) (by kernel_rfl) (by kernel_rfl) (by kernel_rfl) (by kernel_rfl) (fun _ _ _ h => h) HF (Or.inl ⟨by rfl, ?_⟩) ?_
          rotate_left 1
          · (rintro v ⟨a0, a1, a2, a3⟩; go_simp; try with_reducible rfl)
          try simp only [Act.put]
          refine wpAnyL_take (i := 3) (v := ?_) rfl rfl (by kernel_rfl) (by kernel_rfl) (by kernel_rfl) (by kernel_rfl) (by kernel_rfl) (fun _ _ _ h => h) HF (Or.inl ⟨by rfl, ?_⟩) ?_
          rotate_left 1
          · (rintro v ⟨a0, a1, a2, a3⟩; go_simp; try with_reducible rfl)
          try simp only [Act.put]
          refine wpAnyL_take (i := 4) (v := ?_) rfl rfl (by kernel_rfl) (by kernel_rfl) (by kernel_rfl) (by kernel_rfl) (by kernel_rfl) (fun _ _ _ h => h) HF (Or.inl ⟨by rfl, ?_⟩) ?_
          rotate_left 1
          · (rintro v ⟨a0, a1, a2, a3⟩; go_simp; try with_reducible rfl)
          try simp only [Act.put]
          refine wpAnyL_take (i := 5) (v := ?_) rfl rfl (by kernel_rfl) (by kernel_rfl) (by kernel_rfl) (by kernel_rfl) (by kernel_rfl) (fun _ _ _ h => h) HF (Or.inl ⟨by rfl, ?_⟩) ?_
          rotate_left 1
          · (rintro v ⟨a0, a1, a2, a3⟩; go_simp; try with_reducible rfl)
          try simp only [Act.put]
          refine wpAnyL_take (i := 6) (v := ?_) rfl rfl (by kernel_rfl) (by kernel_rfl) (by kernel_rfl) (by kernel_rfl) (by kernel_rfl) (fun _ _ _ h => h) HF (Or.inl ⟨by rfl, ?_⟩) ?_
          rotate_left 1
          · (rintro v ⟨a0, a1, a2, a3⟩; go_simp; try with_reducible rfl)
          try simp only [Act.put]
          refine wpAnyL_take (i := 7) (v := ?_) rfl rfl (by kernel_rfl) (by kernel_rfl) (by kernel_rfl) (by kernel_rfl) (by kernel_rfl) (fun _ _ _ h => h) HF (Or.inl ⟨by rfl, ?_⟩) ?_
          rotate_left 1
          · (rintro v ⟨a0, a1, a2, a3⟩; go_simp; try with_reducible rfl)
          try simp only [Act.put]
          refine wpAnyL_take (i := 8) (v := ?_) rfl rfl (by kernel_rfl) (by kernel_rfl) (by kernel_rfl) (by kernel_rfl) (by kernel_rfl) (fun _ _ _ h => h) HF (Or.inl ⟨by rfl, ?_⟩) ?_
          rotate_left 1
          · (rintro v ⟨a0, a1, a2, a3⟩; go_simp; try with_reducible rfl)
          try simp only [Act.put]
          refine wpAnyL_take (i := 9) (v := ?_) rfl rfl (by kernel_rfl) (by kernel_rfl) (by kernel_rfl) (by kernel_rfl) (by kernel_rfl) (fun _ _ _ h => h) HF (Or.inl ⟨by rfl, ?_⟩) ?_
          rotate_left 1
          · (rintro v ⟨a0, a1, a2, a3⟩; go_simp; try with_reducible rfl)
          try simp only [Act.put]
          refine wpAnyL_take (i := 10) (v := ?_) rfl rfl (by kernel_rfl) (by kernel_rfl) (by kernel_rfl) (by kernel_rfl) (by kernel_rfl) (fun _ _ _ h => h) HF (Or.inl ⟨by rfl, ?_⟩) ?_
          rotate_left 1
          · (rintro v ⟨a0, a1, a2, a3⟩; go_simp; try with_reducible rfl)
          try simp only [Act.put]
          refine wpAnyL_take (i := 11) (v := ?_) rfl rfl (by kernel_rfl) (by kernel_rfl) (by kernel_rfl) (by kernel_rfl) (by kernel_rfl) (fun _ _ _ h => h) HF (Or.inl ⟨by rfl, ?_⟩) ?_
          rotate_left 1
          · (rintro v ⟨a0, a1, a2, a3⟩; go_simp; try with_reducible rfl)
          try simp only [Act.put]
          refine wpAnyL_take (i := 12) (v := ?_) rfl rfl (by kernel_rfl) (by kernel_rfl) (by kernel_rfl) (by kernel_rfl) (by kernel_rfl) (fun _ _ _ h => h) HF (Or.inl ⟨by rfl, ?_⟩) ?_
          rotate_left 1
          · (rintro v ⟨a0, a1, a2, a3⟩; go_simp; try with_reducible rfl)
          try simp only [Act.put]
          refine wpAnyL_take (i := 13) (v := ?_) rfl rfl (by kernel_rfl) (by kernel_rfl) (by kernel_rfl) (by kernel_rfl) (by kernel_rfl) (fun _ _ _ h => h) HF (Or.inl ⟨by rfl, ?_⟩) ?_
          rotate_left 1
          · (rintro v ⟨a0, a1, a2, a3⟩; go_simp; try with_reducible rfl)
          try simp only [Act.put]
          refine wpAnyL_step (i := 14) (by kernel_rfl) rfl rfl ?_
          intro K hK
          go_simp
          refine (sCopy_any A1 m1 d1 xr wr.drew hr.out hm).mono ?_
          rintro e w1 ⟨R, rn, rc, rfl, o1, b1⟩
          obtain ⟨f2, S2⟩ := (SH.out.keep ((Below.refl _ _).drew)).has b1 o1.has (by show w.heap.size ≤ wr.heap.size; omega)
          have HF1 : w1.cell? ⟨w.heap.size, 1, none⟩ = some (.slice (some ⟨b, off, none⟩) n' c') ∧ w1.cell? ⟨w.heap.size + 1 + 1, 1, none⟩ = some (.slice H q hc) ∧ w1.cell? ⟨b, off + q * 2, none⟩ = some (.int .i64 x) ∧ w1.cell? ⟨b, off + q * 2 + 1, none⟩ = some (.slice A1 m1 d1) := ⟨(S2.at_ 5 rfl).cell 1, (S2.at_ 3 rfl).cell 1, (b1.cell (p := ⟨b, off + q * 2, none⟩) hbw).trans ce, (b1.cell (p := ⟨b, off + q * 2 + 1, none⟩) hbw).trans ce2⟩
          have zz : w.heap.size ≤ w1.heap.size := by have := (S2.at_ 3 rfl).lt; omega
          have HD := S2.swap.apart
          have SA := S2.swap.box zz #[.int .i64 x, .slice R rn rc] 49
          have bA := Below.alloc (Below.refl w1.heap.size w1) (Nat.le_refl _) (.cells #[.int .i64 x, .slice R rn rc] 49)
          have hb1 := Nat.lt_of_lt_of_le hbw b1.size
          have HF2 : (w1.alloc (.cells #[.int .i64 x, .slice R rn rc] 49)).cell? ⟨w.heap.size, 1, none⟩ = some (.slice (some ⟨b, off, none⟩) n' c') ∧ (w1.alloc (.cells #[.int .i64 x, .slice R rn rc] 49)).cell? ⟨w.heap.size + 1 + 1, 1, none⟩ = some (.slice H q hc) ∧ (w1.alloc (.cells #[.int .i64 x, .slice R rn rc] 49)).cell? ⟨b, off + q * 2, none⟩ = some (.int .i64 x) ∧ (w1.alloc (.cells #[.int .i64 x, .slice R rn rc] 49)).cell? ⟨b, off + q * 2 + 1, none⟩ = some (.slice A1 m1 d1) := ⟨(SA.at_ 6 rfl).cell 1, (SA.at_ 4 rfl).cell 1, (bA.cell (p := ⟨b, off + q * 2, none⟩) hb1).trans HF1.2.2.1, (bA.cell (p := ⟨b, off + q * 2 + 1, none⟩) hb1).trans HF1.2.2.2⟩
          have HC : ∀ i, i < 2 → (w1.alloc (.cells #[.int .i64 x, .slice R rn rc] 49)).cell? ⟨w1.heap.size, i, none⟩ = [Value.int .i64 x, Value.slice R rn rc][i]? := fun i hi => by
            have h1 := (SA.at_ 0 rfl).cell i
            have h3 : i = 0 ∨ i = 1 := by omega
            rcases h3 with rfl | rfl
            · exact h1
            · exact h1
          have BA := (BH.out.drew.trans (b1.mono (by show w.heap.size ≤ wr.heap.size; omega))).alloc zz (.cells #[.int .i64 x, .slice R rn rc] 49)
          refine hK _ _ (fun _ => HF1) ?_
          clear hK K
          try simp only [Act.put]
          refine wpAnyL_step (i := 15) (by kernel_rfl) rfl rfl ?_
          intro K hK
          go_simp
          refine hK _ _ (fun _ => HF1) ?_
          clear hK K
          try simp only [Act.put]
          refine wpAnyL_step (i := 16) (by kernel_rfl) rfl rfl ?_
          intro K hK
          go_simp
          refine hK _ _ (fun _ => HF2) ?_
          clear hK K
          try simp only [Act.put]
          refine wpAnyL_step (i := 17) (by kernel_rfl) rfl rfl ?_
          intro K hK
          refine wp_append_elem (l := d.wait.take q) (y := (x, xr)) (fp := fq) (es := [.int .i64 x, .slice R rn rc]) _ _ (by rfl) Try.underlying28 infoWrite (by rfl) (by decide) wrC_len (by rfl) (SA.own_ 1 rfl) (SA.nodup_own 1 rfl) (by rfl) HC (.int (SA.own_ 2 rfl)) (SA.nodup_own 2 rfl) HD (by omega) (by omega) ?_
          intro G3 g3 w3 fp3 o3 n3 s3 t3
          have SD : Sep (w1.alloc (.cells #[.int .i64 x, .slice R rn rc] 49)) w.heap.size [.own [waitD (d.wait.take q)] [.slice H q hc] fq, .own [rowD xr] [.slice R rn rc] f2, .own [keptD d.kept] [.slice G j g] fp, .blk (w.heap.size + 1 + 1) #[.slice G j g, .slice H q hc] 30, .blk (w.heap.size + 1) #[.slice none 0 0, .slice none 0 0] 30, .blk w.heap.size #[.slice A n c, .slice (some ⟨b, off, none⟩) n' c'] 30] := SA.drop 1
          have S3 := SD.merge t3 o3 n3 s3 BA.size
          have bS := SD.below 0 rfl t3 BA.size
          have B3 := Lib.hid (BA.trans bS)
          have HF3 : w3.cell? ⟨w.heap.size, 1, none⟩ = some (.slice (some ⟨b, off, none⟩) n' c') ∧ w3.cell? ⟨w.heap.size + 1 + 1, 1, none⟩ = some (.slice H q hc) ∧ w3.cell? ⟨b, off + q * 2, none⟩ = some (.int .i64 x) ∧ w3.cell? ⟨b, off + q * 2 + 1, none⟩ = some (.slice A1 m1 d1) := ⟨(S3.at_ 4 rfl).cell 1, (S3.at_ 2 rfl).cell 1, (bS.cell (p := ⟨b, off + q * 2, none⟩) hb).trans HF2.2.2.1, (bS.cell (p := ⟨b, off + q * 2 + 1, none⟩) hb).trans HF2.2.2.2⟩
          have q1 := HF3.2.1
          have q2 := (S3.at_ 2 rfl).free 1
          have S4 := Lib.hid (S3.put 2 rfl 1 (.slice G3 (q + 1) g3))
          refine hK _ _ (fun _ => HF3) ?_
          clear hK K S3 SD o3 n3 s3 t3 SA S2 HC HD BA bA bS HF HF1 HF2 o1 b1 hb1
          try simp only [Act.put]
          refine wpAnyL_step (i := 18) (by kernel_rfl) rfl rfl ?_
          intro K hK
          go_simp
          refine hK _ _ (fun _ => HF3) ?_
          clear hK K
          try simp only [Act.put]
          refine wpAnyL_step (i := 19) (by kernel_rfl) rfl rfl ?_
          intro K hK
          go_simp
          refine hK _ _ (fun h => nomatch (show true = false from h)) ?_
          clear hK K
          try simp only [Act.put]
          refine wpAnyL_done (by kernel_rfl) ?_ _
          go_wp2
          go_roundw
          case rel => exact ⟨q + 1, G3, g3, fp3, by omega, by go_num, by rw [HX.out]; exact S4.out, B3.out.setCell (p := ⟨w.heap.size + 1 + 1, 1, none⟩) (by show w.heap.size ≤ w.heap.size + 1 + 1; omega) _⟩
          case measure => simp [intOf]; omega
        · have hi2 : ¬ ((q : Int) < (n' : Int)) := by omega
          have k0 : wr.cell? ⟨w.heap.size, 1, none⟩ = some (.slice A' n' c') := (S.at_ 4 rfl).cell 1
          have k1 : wr.cell? ⟨w.heap.size + 1 + 1, 0, none⟩ = some (.slice G j g) := (S.at_ 2 rfl).cell 0
          have k2 : wr.cell? ⟨w.heap.size + 1 + 1, 1, none⟩ = some (.slice H q hc) := (S.at_ 2 rfl).cell 1
          have k3 : wr.cell? ⟨w.heap.size + 1, 0, none⟩ = some (.slice none 0 0) := (S.at_ 3 rfl).cell 0
          have k4 : wr.cell? ⟨w.heap.size + 1, 1, none⟩ = some (.slice none 0 0) := (S.at_ 3 rfl).cell 1
          have f3 := (S.at_ 3 rfl).free 0
          have f4 := (S.at_ 3 rfl).free 1
          have e : d.wait.take q = d.wait := List.take_of_length_le (by have := HL2.out; omega)
          rw [e] at S
          have S5 := Lib.hid ((S.put 3 rfl 0 (.slice G j g)).put 3 rfl 1 (.slice H q hc)).pair
          have B5 := Lib.hid ((hbel.setCell (p := ⟨w.heap.size + 1, 0, none⟩) (by simp) (.slice G j g)).setCell (p := ⟨w.heap.size + 1, 1, none⟩) (by simp) (.slice H q hc))
          clear S hbel e
          go_wp2
          refine bodyPost_ret (v := .agg #[.slice G j g, .slice H q hc]) (by simp [results, Try.results109, go_sem, k3, k4]) rfl ⟨G, j, g, H, q, hc, rfl, S5.out, B5.out⟩

end Go.Proofs.Ytejcpoidoekleaa
