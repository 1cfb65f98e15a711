/-
  The model of chapter 3: a new disk, a disk without waiting writes, and what is read.
-/
import Derived.Test.YtejcpoidoekleaaDskS1
import Derived.Test.YtejcpoidoekleaaDskS2
import Derived.Test.YtejcpoidoekleaaRowW
namespace Go.Proofs.Ytejcpoidoekleaa
set_option maxRecDepth 100000
open Go.RowKit

theorem has_zero (w : World) (base : Nat) : Has w base zeroD.cells [.slice none 0 0, .slice none 0 0] :=
  ⟨[], (ow_nil_kept w).append (ow_nil_wait w), List.nodup_nil, fun p hp => by cases hp⟩

set_option maxHeartbeats 1600000 in
theorem sNewDisk_any (x : Int) (w : World) : Calls Try.prog 75 #[.int .i64 x] w (MadeD w (newDisk x)) := by
  have b0 : Below w.heap.size w (w.alloc (.cells #[.slice none 0 0, .slice none 0 0] 30)) := (Below.refl _ w).alloc (Nat.le_refl _) _
  cases hok : secOk x
  · have HR := Lib.hid (show newDisk x = zeroD by simp [newDisk, hok])
    have HO := Lib.hid (show (decide (1 ≤ x) && decide (x ≤ 40)) = false from hok)
    clear hok
    go_enter Try.func75, Try.ntmps75
    go_wp2_with fail
    refine (in_any _ _ _ _).mono ?_
    rintro e w1 ⟨rfl, rfl⟩
    rw [HO.out]
    go_wp2
    refine bodyPost_ret (v := .agg #[.slice none 0 0, .slice none 0 0]) (by simp [results, Try.results75, go_sem]) rfl ⟨none, 0, 0, none, 0, 0, rfl, by rw [HR.out]; exact has_zero _ _, ?_⟩
    exact b0
  · obtain ⟨x0, x1⟩ : 1 ≤ x ∧ x ≤ 40 := by simpa [secOk] using hok
    obtain ⟨n, rfl⟩ := Int.eq_ofNat_of_zero_le (show 0 ≤ x by omega)
    have HR := Lib.hid (show newDisk (n : Int) = ⟨List.replicate n [], []⟩ by simp [newDisk, hok])
    have HO := Lib.hid (show (decide (1 ≤ (n : Int)) && decide ((n : Int) ≤ 40)) = true from hok)
    have hmk := run_make_k (P := Try.prog) 27 35 (.slice none 0 0) #[.slice none 0 0] 1 24 Try.underlying27 infoRow rfl .i64 .i64 n (by omega) (by omega)
    rw [Nat.mul_one] at hmk
    have hmd := ow_made (w := w.alloc (.cells #[.slice (some ⟨w.heap.size + 1, 0, none⟩) n n, .slice none 0 0] 30)) (e := 35) (f := rowC) (x0 := ([] : List Int)) (zc := #[.slice none 0 0]) (k := 1) rfl (by decide) n (by simp only [maxLen]; omega) ow_nil_row
    rw [Nat.mul_one] at hmd
    have hsz : (w.alloc (.cells #[.slice (some ⟨w.heap.size + 1, 0, none⟩) n n, .slice none 0 0] 30)).heap.size = w.heap.size + 1 := by simp
    rw [hsz] at hmd
    have M := Lib.hid hmd
    have b2 : Below w.heap.size w (w.alloc (.cells #[.slice (some ⟨w.heap.size + 1, 0, none⟩) n n, .slice none 0 0] 30)) := (Below.refl _ w).alloc (Nat.le_refl _) _
    have B1 := Lib.hid (b2.alloc b2.size (.cells (madeCells #[.slice none 0 0] n) 35))
    clear hok hmd hsz b2
    go_enter Try.func75, Try.ntmps75
    go_wp2_with fail
    refine (in_any _ _ _ _).mono ?_
    rintro e w1 ⟨rfl, rfl⟩
    rw [HO.out]
    go_wp2
    refine bodyPost_ret (v := .agg #[.slice (some ⟨w.heap.size + 1, 0, none⟩) n n, .slice none 0 0]) (by simp [results, Try.results75, go_sem]) rfl ⟨_, n, n, none, 0, 0, rfl, ?_, B1.out⟩
    rw [HR.out]
    refine ⟨_, M.out.append (ow_nil_wait _), by simp, fun p hp => ?_⟩
    have h9 : p = w.heap.size + 1 := by simpa using hp
    omega

set_option maxHeartbeats 800000 in
theorem sSafeIn_any (v0 v1 : Value) (d : DiskM) (B : Nat) (w : World) (h : Rd w B d.cells [v0, v1]) (hB : B ≤ w.heap.size) (hs : d.sz ≤ 1048577) :
    Calls Try.prog 85 #[.agg #[v0, v1]] w fun e w' => e = .returned (.bool (safeIn d)) ∧ Below w.heap.size w w' := by
  obtain ⟨A, n, c, A', n', c', rfl, rfl, h1, h2⟩ := h.disk
  obtain ⟨_, _, _, e, hl2, _, _, _⟩ := h2.wait
  injection e with e1 e2 e3
  subst e1 e2 e3
  have hn' : n' ≤ 1048577 := by unfold DiskM.sz waitSz at hs; omega
  have b0 : Below w.heap.size w (w.alloc (.cells #[.slice A n c, .slice A' n' c'] 30)) := (Below.refl _ w).alloc (Nat.le_refl _) _
  have p0 := Blk.new w #[.slice A n c, .slice A' n' c'] 30
  have hr := h.keep (b0.mono hB)
  have HL2 := Lib.hid hl2
  clear h h1 h2 hl2
  cases hd : diskOk d
  · have HS := Lib.hid (show safeIn d = false by simp [safeIn, hd])
    go_enter Try.func85, Try.ntmps85
    go_wp2_with fail
    refine (sDiskOk_any _ _ d B _ hr (by simp; omega) hs).mono ?_
    rintro e w1 ⟨rfl, b1⟩
    rw [hd]
    have B1 := Lib.hid (b0.trans (b1.mono b0.size))
    clear b1 hr
    go_wp2
    go_ret
    exact ⟨ret_bool HS.out.symm, B1.out⟩
  · have HS := Lib.hid (show safeIn d = decide ((n' : Int) = 0) by
      simp only [safeIn, hd, Bool.true_and]
      rw [HL2.out]
      exact decide_eq_decide.2 (by omega))
    go_enter Try.func85, Try.ntmps85
    go_wp2_with fail
    refine (sDiskOk_any _ _ d B _ hr (by simp; omega) hs).mono ?_
    rintro e w1 ⟨rfl, b1⟩
    rw [hd]
    have B1 := Lib.hid (b0.trans (b1.mono b0.size))
    have p1 := p0.keep b1 p0.lt
    have k1 : w1.cell? ⟨w.heap.size, 1, none⟩ = some (.slice A' n' c') := p1.cell 1
    clear b1 hr p1 p0
    go_wp2
    go_ret
    exact ⟨ret_bool HS.out.symm, B1.out⟩

theorem lastTo_le {l : List (Int × List Int)} {i : Int} {j : Nat} {x : Int × List Int} (hj : j < l.length) (hx : l[j] = x) : lastTo l i (j + 1) = if x.1 = i then some x.2 else lastTo l i j := by
  have : l.getD j (0, []) = x := by simp [List.getD, List.getElem?_eq_getElem hj, hx]
  rw [lastTo, this]

set_option maxHeartbeats 3200000 in
theorem sReadAt_any (v0 v1 : Value) (d : DiskM) (i : Int) (w : World) (h : Rd w w.heap.size d.cells [v0, v1]) (hs : d.sz ≤ 1048577) :
    Calls Try.prog 69 #[.agg #[v0, v1], .int .i64 i] w fun e w' => ∃ A n c, e = .returned (.tuple #[.slice A n c, .bool (readAt d i).2]) ∧ Has w' w.heap.size (rowCells (readAt d i).1) [.slice A n c] ∧ Below w.heap.size w w' := by
  obtain ⟨A, n, c, A', n', c', rfl, rfl, h1, h2⟩ := h.disk
  obtain ⟨_, _, _, e, hl1, _, _, hel1⟩ := h1.kept
  injection e with e1 e2 e3
  subst e1 e2 e3
  obtain ⟨_, _, _, e, hl2, _, _, hel2⟩ := h2.wait
  injection e with e1 e2 e3
  subst e1 e2 e3
  have hn : n ≤ 1048577 := by unfold DiskM.sz rowsSz at hs; omega
  have hn' : n' ≤ 1048577 := by unfold DiskM.sz waitSz at hs; omega
  obtain ⟨w0, hw0⟩ : ∃ w0, w0 = w.alloc (.cells #[.slice A n c, .slice A' n' c'] 30) := ⟨_, rfl⟩
  have b0 : Below w.heap.size w w0 := by rw [hw0]; exact (Below.refl _ w).alloc (Nat.le_refl _) _
  have p0 : Blk w0 w.heap.size #[.slice A n c, .slice A' n' c'] 30 := by rw [hw0]; exact Blk.new w _ _
  have hr := (h.keep b0)
  have HW := Lib.hid hw0
  have HS := Lib.hid hs
  have HL1 := Lib.hid hl1
  have HL2 := Lib.hid hl2
  clear h h1 h2 hl1 hl2 hw0
  cases hd : diskOk d
  · have HR := Lib.hid (show readAt d i = ([], false) by simp [readAt, hd])
    go_enter Try.func69, Try.ntmps69
    go_wp2_with fail
    rw [← HW.out]
    refine (sDiskOk_any _ _ d _ _ hr b0.size HS.out).mono ?_
    rintro e w1 ⟨rfl, b1⟩
    rw [hd]
    have b01 := b0.trans (b1.mono b0.size)
    have O := Lib.hid (own_empty w1).has
    have B := Lib.hid (b01.alloc b01.size (.cells #[] 2))
    have z := b01.size
    clear b1 hr b01 b0 p0
    go_wp2
    go_ret2
    refine ⟨some ⟨w1.heap.size, 0, none⟩, 0, 0, by rw [HR.out]; rfl, ?_, B.out⟩
    rw [HR.out]
    exact O.out.up z
  cases hh : hasS d i
  · have HR := Lib.hid (show readAt d i = ([], false) by simp [readAt, hd, hh])
    go_enter Try.func69, Try.ntmps69
    go_wp2_with fail
    rw [← HW.out]
    refine (sDiskOk_any _ _ d _ _ hr b0.size HS.out).mono ?_
    rintro e w1 ⟨rfl, b1⟩
    rw [hd]
    have b01 := b0.trans (b1.mono b0.size)
    have p1 := p0.keep b1 p0.lt
    have k0 : w1.cell? ⟨w.heap.size, 0, none⟩ = some (.slice A n c) := p1.cell 0
    have k1 : w1.cell? ⟨w.heap.size, 1, none⟩ = some (.slice A' n' c') := p1.cell 1
    clear b1 hr p0 b0
    go_wp2_with fail
    refine (sHas_any A A' n c n' c' d i _ HL1.out hn).mono ?_
    rintro e w2 ⟨rfl, b2⟩
    rw [hh]
    have b02 := b01.trans (b2.mono b01.size)
    have O := Lib.hid (own_empty w2).has
    have B := Lib.hid (b02.alloc b02.size (.cells #[] 2))
    have z := b02.size
    clear b2 b01 b02 k0 k1 p1
    go_wp2
    go_ret2
    refine ⟨some ⟨w2.heap.size, 0, none⟩, 0, 0, by rw [HR.out]; rfl, ?_, B.out⟩
    rw [HR.out]
    exact O.out.up z
  obtain ⟨i0, i1⟩ : 0 ≤ i ∧ i ≤ (n : Int) - 1 := by
    have := hh
    unfold hasS at this
    rw [HL1.out] at this
    simpa using this
  obtain ⟨I, rfl⟩ := Int.eq_ofNat_of_zero_le i0
  have HR := Lib.hid (show readAt d (I : Int) = ((lastTo d.wait (I : Int) d.wait.length).getD (d.kept.getD I []), true) by simp [readAt, hd, hh])
  go_enter Try.func69, Try.ntmps69
  go_wp2_with fail
  rw [← HW.out]
  refine (sDiskOk_any _ _ d _ _ hr b0.size HS.out).mono ?_
  rintro e w1 ⟨rfl, b1⟩
  rw [hd]
  have b01 := b0.trans (b1.mono b0.size)
  have p1 := p0.keep b1 p0.lt
  have k0 : w1.cell? ⟨w.heap.size, 0, none⟩ = some (.slice A n c) := p1.cell 0
  have k1 : w1.cell? ⟨w.heap.size, 1, none⟩ = some (.slice A' n' c') := p1.cell 1
  clear b1 hr p0 b0
  go_wp2_with fail
  refine (sHas_any A A' n c n' c' d (I : Int) _ HL1.out hn).mono ?_
  rintro e w2 ⟨rfl, b2⟩
  rw [hh]
  have b02 := b01.trans (b2.mono b01.size)
  have p2 := p1.keep b2 p1.lt
  have r0 : w2.cell? ⟨w.heap.size, 0, none⟩ = some (.slice A n c) := p2.cell 0
  have r1 : w2.cell? ⟨w.heap.size, 1, none⟩ = some (.slice A' n' c') := p2.cell 1
  have B2 := Lib.hid b02
  have z2 := b02.size
  clear b2 b01 b02 k0 k1 p1 p2 hd hh
  go_wp2
  go_loop [6] (fun q => ∃ j : Nat, j ≤ n' ∧ q = .int .i64 ((j : Int) - 1) ∧ lastTo d.wait (I : Int) n' = lastTo d.wait (I : Int) j) (fun q => ((intOf q) + 1).toNat)
  case atStart => exact ⟨n', Nat.le_refl _, by go_num, rfl⟩
  case round =>
    obtain ⟨j, hj, rfl, hlast⟩ := hrel
    by_cases hlt : 0 < j
    · obtain ⟨q, rfl⟩ : ∃ q, j = q + 1 := ⟨j - 1, by omega⟩
      obtain ⟨b, off, rfl, hb, hcc⟩ := hel2 (by omega)
      have hjl : q < d.wait.length := by have := HL2.out; omega
      obtain ⟨A1, m1, d1, hcell, hcell2, hrow, hm1, hm2⟩ := hcc q hjl
      have hm : m1 ≤ 1048577 := by
        have h1 := pre_at (g := wrSz) hjl
        have h2 := HS.out
        have h3 : wrSz d.wait[q] = m1 := hrow.1
        unfold DiskM.sz waitSz at h2
        omega
      have hrw := Lib.hid ((hrow.below B2.out).up B2.out.size)
      have ce := (B2.out.cell (p := ⟨b, off + q * 2, none⟩) hb).trans hcell
      have ce2 := (B2.out.cell (p := ⟨b, off + q * 2 + 1, none⟩) hb).trans hcell2
      obtain ⟨x, hx⟩ : ∃ x, x = d.wait[q].1 := ⟨_, rfl⟩
      obtain ⟨xr, hxr⟩ : ∃ xr, xr = d.wait[q].2 := ⟨_, rfl⟩
      rw [← hx] at ce
      rw [← hxr] at hrw
      have HX := Lib.hid (lastTo_le (i := (I : Int)) hjl (show d.wait[q] = (x, xr) by rw [hx, hxr]))
      have hq1 : ((q + 1 : Nat) : Int) - 1 = (q : Int) := by omega
      have HLA := Lib.hid hlast
      rw [hq1]
      clear hx hxr hcc hrow hcell hcell2 hel1 hel2 hlast hq1
      by_cases hxi : x = (I : Int)
      · have HE := Lib.hid (show readAt d (I : Int) = (xr, true) by
          rw [HR.out, HL2.out, HLA.out, HX.out, if_pos hxi]
          rfl)
        subst hxi
        go_wp2_with fail
        refine (sCopy_any A1 m1 d1 xr _ hrw.out hm).mono ?_
        rintro e w3 ⟨R, rn, rc, rfl, o3, b3⟩
        have O := Lib.hid (o3.has.up z2)
        have B := Lib.hid (B2.out.trans (b3.mono z2))
        clear o3 b3
        go_wp2
        go_ret2
        refine ⟨R, rn, rc, by rw [HE.out]; rfl, ?_, B.out⟩
        rw [HE.out]
        exact O.out
      · have HE := Lib.hid (show lastTo d.wait (I : Int) n' = lastTo d.wait (I : Int) q by rw [HLA.out, HX.out, if_neg hxi])
        have hxb : (x == (I : Int)) = false := by simp [hxi]
        have hxd : decide (x = (I : Int)) = false := by simp [hxi]
        go_wp2
        go_round
        case rel => exact ⟨q, by omega, by go_num, HE.out⟩
        case measure => simp [intOf] <;> omega
    · have hj0 : j = 0 := by omega
      subst hj0
      obtain ⟨b, off, rfl, hb, hcc⟩ := hel1 (by omega)
      have hjl : I < d.kept.length := by have := HL1.out; omega
      obtain ⟨A1, m1, d1, hcell, hrow, hm1, hm2⟩ := hcc I hjl
      have hm : m1 ≤ 1048577 := by
        have h1 := pre_at (g := List.length) hjl
        have h2 := HS.out
        have h3 := hrow.1
        unfold DiskM.sz rowsSz at h2
        omega
      have hrw := Lib.hid ((hrow.below B2.out).up B2.out.size)
      have ce := (B2.out.cell (p := ⟨b, off + I, none⟩) hb).trans hcell
      have HE := Lib.hid (show readAt d (I : Int) = (d.kept[I], true) by
        rw [HR.out, HL2.out, hlast]
        simp [lastTo, List.getD, List.getElem?_eq_getElem hjl])
      generalize d.kept[I] = xr at *
      have a0 : (0 : Int) ≤ (I : Int) := by omega
      have a1 : (I : Int) < (n : Int) := by omega
      clear hcc hrow hcell hel1 hel2 hlast
      go_wp2_with fail
      refine (sCopy_any A1 m1 d1 xr _ hrw.out hm).mono ?_
      rintro e w3 ⟨R, rn, rc, rfl, o3, b3⟩
      have O := Lib.hid (o3.has.up z2)
      have B := Lib.hid (B2.out.trans (b3.mono z2))
      clear o3 b3
      go_wp2
      go_ret2
      refine ⟨R, rn, rc, by rw [HE.out]; rfl, ?_, B.out⟩
      rw [HE.out]
      exact O.out

end Go.Proofs.Ytejcpoidoekleaa
