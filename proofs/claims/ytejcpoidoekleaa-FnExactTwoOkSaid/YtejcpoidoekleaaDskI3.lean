/-
  The program of chapter 3: a new disk, a disk without waiting writes, what is read, a write's fate, a torn row.
-/
import Derived.Test.YtejcpoidoekleaaDskI2
import Derived.Test.YtejcpoidoekleaaDskS5
namespace Go.Proofs.Ytejcpoidoekleaa
set_option maxRecDepth 100000
open Go.RowKit

set_option maxHeartbeats 1600000 in
theorem iNewDisk_any (x : Int) (w : World) : Calls Try.prog 47 #[.int .i64 x] w (MadeD w (newDisk x)) := by
  have b0 : Below w.heap.size w (w.alloc (.cells #[.slice none 0 0, .slice none 0 0] 30)) := (Below.refl _ w).alloc (Nat.le_refl _) _
  by_cases hlo : x < 1
  · have HR := Lib.hid (show newDisk x = zeroD by unfold newDisk; rw [if_neg (by unfold secOk; simp; omega)])
    go_enter Try.func47, Try.ntmps47
    go_wp2
    refine bodyPost_ret (v := .agg #[.slice none 0 0, .slice none 0 0]) (by simp [results, Try.results47, go_sem]) rfl ⟨none, 0, 0, none, 0, 0, rfl, by rw [HR.out]; exact has_zero _ _, ?_⟩
    exact b0
  by_cases hhi : 40 < x
  · have HR := Lib.hid (show newDisk x = zeroD by unfold newDisk; rw [if_neg (by unfold secOk; simp; omega)])
    go_enter Try.func47, Try.ntmps47
    go_wp2
    refine bodyPost_ret (v := .agg #[.slice none 0 0, .slice none 0 0]) (by simp [results, Try.results47, go_sem]) rfl ⟨none, 0, 0, none, 0, 0, rfl, by rw [HR.out]; exact has_zero _ _, ?_⟩
    exact b0
  obtain ⟨n, rfl⟩ := Int.eq_ofNat_of_zero_le (show 0 ≤ x by omega)
  have hok : secOk (n : Int) = true := by unfold secOk; simp; omega
  have HR := Lib.hid (show newDisk (n : Int) = ⟨List.replicate n [], []⟩ by simp [newDisk, hok])
  have hmk := run_make_k (P := Try.prog) 27 35 (.slice none 0 0) #[.slice none 0 0] 1 24 Try.underlying27 infoRow rfl .i64 .i64 n (by omega) (by omega)
  rw [Nat.mul_one] at hmk
  have hmd := ow_made (w := w.alloc (.cells #[.slice (some ⟨w.heap.size + 1, 0, none⟩) n n, .slice none 0 0] 30)) (e := 35) (f := rowC) (x0 := ([] : List Int)) (zc := #[.slice none 0 0]) (k := 1) rfl (by decide) n (by simp only [maxLen]; omega) ow_nil_row
  rw [Nat.mul_one] at hmd
  have hsz : (w.alloc (.cells #[.slice (some ⟨w.heap.size + 1, 0, none⟩) n n, .slice none 0 0] 30)).heap.size = w.heap.size + 1 := by simp
  rw [hsz] at hmd
  have M := Lib.hid hmd
  have b2 : Below w.heap.size w (w.alloc (.cells #[.slice (some ⟨w.heap.size + 1, 0, none⟩) n n, .slice none 0 0] 30)) := (Below.refl _ w).alloc (Nat.le_refl _) _
  have B1 := Lib.hid (b2.alloc b2.size (.cells (madeCells #[.slice none 0 0] n) 35))
  clear hok hmd hsz b2
  go_enter Try.func47, Try.ntmps47
  go_wp2
  refine bodyPost_ret (v := .agg #[.slice (some ⟨w.heap.size + 1, 0, none⟩) n n, .slice none 0 0]) (by simp [results, Try.results47, go_sem]) rfl ⟨_, n, n, none, 0, 0, rfl, ?_, B1.out⟩
  rw [HR.out]
  refine ⟨_, M.out.append (ow_nil_wait _), by simp, fun p hp => ?_⟩
  have h9 : p = w.heap.size + 1 := by simpa using hp
  omega

set_option maxHeartbeats 800000 in
theorem iSafeIn_any (v0 v1 : Value) (d : DiskM) (B : Nat) (w : World) (h : Rd w B d.cells [v0, v1]) (hB : B ≤ w.heap.size) (hs : d.sz ≤ 1048577) :
    Calls Try.prog 54 #[.agg #[v0, v1]] w fun e w' => e = .returned (.bool (safeIn d)) ∧ Below w.heap.size w w' := by
  obtain ⟨A, n, c, A', n', c', rfl, rfl, h1, h2⟩ := h.disk
  obtain ⟨_, _, _, e, hl2, _, _, _⟩ := h2.wait
  injection e with e1 e2 e3
  subst e1 e2 e3
  have hn' : n' ≤ 1048577 := by unfold DiskM.sz waitSz at hs; omega
  have b0 : Below w.heap.size w (w.alloc (.cells #[.slice A n c, .slice A' n' c'] 30)) := (Below.refl _ w).alloc (Nat.le_refl _) _
  have p0 := Blk.new w #[.slice A n c, .slice A' n' c'] 30
  have hr := h.keep (b0.mono hB)
  have HL2 := Lib.hid hl2
  clear h h1 h2 hl2
  cases hd : diskOk d
  · have HS := Lib.hid (show safeIn d = false by simp [safeIn, hd])
    go_enter Try.func54, Try.ntmps54
    go_wp2_with fail
    refine (iDiskOk_any _ _ d B _ hr (by simp; omega) hs).mono ?_
    rintro e w1 ⟨rfl, b1⟩
    rw [hd]
    have B1 := Lib.hid (b0.trans (b1.mono b0.size))
    clear b1 hr
    go_wp2
    go_ret
    exact ⟨ret_bool HS.out.symm, B1.out⟩
  · have HS := Lib.hid (show safeIn d = decide ((n' : Int) = 0) by
      simp only [safeIn, hd, Bool.true_and]
      rw [HL2.out]
      exact decide_eq_decide.2 (by omega))
    go_enter Try.func54, Try.ntmps54
    go_wp2_with fail
    refine (iDiskOk_any _ _ d B _ hr (by simp; omega) hs).mono ?_
    rintro e w1 ⟨rfl, b1⟩
    rw [hd]
    have B1 := Lib.hid (b0.trans (b1.mono b0.size))
    have p1 := p0.keep b1 p0.lt
    have k1 : w1.cell? ⟨w.heap.size, 1, none⟩ = some (.slice A' n' c') := p1.cell 1
    clear b1 hr p1 p0
    go_wp2
    go_ret
    exact ⟨ret_bool HS.out.symm, B1.out⟩

set_option maxHeartbeats 1600000 in
theorem iTorn_any (A : Option Addr) (n c : Nat) (xs : List Int) (E : Option Addr) (o co : Nat) (os : List Int) (w : World) (h : IRow w w.heap.size A n xs) (hn : n ≤ 1048577) (hc : n ≤ c) (hcm : c ≤ maxLen) (k : IRow w w.heap.size E o os) (ho : o ≤ 1048577) (hco : o ≤ co) (hcom : co ≤ maxLen) :
    Calls Try.prog 97 #[.slice A n c, .slice E o co] w (MadeRow w (torn xs os)) := by
  unfold maxLen at hcm hcom
  have hl := Lib.hid h.1
  have hlo := Lib.hid k.1
  obtain ⟨half, hhalf⟩ : ∃ half, half = n / 2 := ⟨_, rfl⟩
  have hh : half ≤ n := by omega
  have hq : ((n : Int)).tdiv 2 = (half : Int) := by rw [Int.tdiv_eq_ediv_of_nonneg (by omega)]; omega
  have HT := Lib.hid (show torn xs os = xs.take half ++ os.drop half by unfold torn; rw [hl.out, hhalf])
  have i0 : (0 : Int) ≤ (half : Int) := by omega
  have i1 : (half : Int) ≤ (c : Int) := by omega
  have hmod : n / 2 = half := hhalf.symm
  clear hhalf
  by_cases hlt : half < o
  · obtain ⟨b, off, rfl, hb, _⟩ := k.2 (by omega)
    have j1 : (half : Int) < (o : Int) := by omega
    have j2 : (half : Int) ≤ (co : Int) := by omega
    have j3 : ¬ ((co : Int) ≤ (half : Int)) := by omega
    go_enter Try.func97, Try.ntmps97
    go_wp2_with fail
    refine (iCopy_any A half c (xs.take half) w (h.take_ hh) (by omega)).mono ?_
    rintro e w1 ⟨Q, qn, qc, rfl, o1, b1⟩
    have hqn : qn = half := by rw [← o1.len, List.length_take, hl.out]; omega
    subst hqn
    have kr := (k.drop_ hlt).below b1
    have HB := Lib.hid b1
    have z1 := b1.size
    clear h k b1
    go_wp2_with (first
      | (at_builtin
         refine wpList_append_ints rfl (.tmp 18) (.tmp 21) rfl rfl o1 rfl kr (by omega) (by omega) ?_
         intro Q2 c2 w2 o2 g2 e2))
    go_ret
    refine ⟨Q2, _, c2, rfl, ?_, HB.out.grown g2 HB.out.size (fun p hp => (o1.ge p hp).1)⟩
    rw [HT.out]
    exact o2
  · have HE := Lib.hid (show torn xs os = xs.take half by rw [HT.out, List.drop_eq_nil_of_le (by have := hlo.out; omega), List.append_nil])
    have j1 : ¬ ((half : Int) < (o : Int)) := by omega
    go_enter Try.func97, Try.ntmps97
    go_wp2_with fail
    refine (iCopy_any A half c (xs.take half) w (h.take_ hh) (by omega)).mono ?_
    rintro e w1 ⟨Q, qn, qc, rfl, o1, b1⟩
    have O1 := Lib.hid o1
    have HB := Lib.hid b1
    clear h k o1 b1
    go_wp2
    go_ret
    refine ⟨Q, qn, qc, rfl, ?_, HB.out⟩
    rw [HE.out]
    exact O1.out

set_option maxHeartbeats 800000 in
theorem iFate_any (A : Option Addr) (n c B : Nat) (fs : List Int) (i : Nat) (w : World) (h : IRow w B A n fs) (hn : n ≤ 1048577) (hi : i ≤ 1048577) :
    Calls Try.prog 96 #[.slice A n c, .int .i64 (i : Int)] w fun e w' => e = .returned (.int .i64 (fs.getD i 0)) ∧ w = w' := by
  by_cases hlt : i < n
  · obtain ⟨b, off, rfl, hb, hc⟩ := h.2 (by omega)
    have ce := hc i hlt
    generalize fs.getD i 0 = f at *
    have i0 : (0 : Int) ≤ (i : Int) := by omega
    have i1 : (i : Int) < (n : Int) := by omega
    clear hc h
    go_enter Try.func96, Try.ntmps96
    go_wp2
    go_ret
    exact ⟨rfl, rfl⟩
  · have HR := Lib.hid (show fs.getD i 0 = 0 by rw [List.getD_eq_getElem?_getD, List.getElem?_eq_none (by rw [h.1]; omega)]; rfl)
    have i1 : (n : Int) ≤ (i : Int) := by omega
    clear h
    go_enter Try.func96, Try.ntmps96
    go_wp2
    go_ret
    exact ⟨by rw [HR.out]; rfl, rfl⟩

theorem has_nil_row (w : World) (base : Nat) : Has w base (rowCells []) [.slice none 0 0] := ⟨[], ow_nil_row w, List.nodup_nil, fun p hp => by cases hp⟩
/-- The row of a sector behind the first j writes. -/
def rowTo (d : DiskM) (I j : Nat) : List Int := (lastTo d.wait (I : Int) j).getD (d.kept.getD I [])
theorem rowTo_hit {d : DiskM} {I j : Nat} {x : List Int} (hj : j < d.wait.length) (hx : d.wait[j] = ((I : Int), x)) : rowTo d I (j + 1) = x := by
  unfold rowTo; rw [lastTo_le hj hx, if_pos rfl]; rfl
theorem rowTo_miss {d : DiskM} {I j : Nat} {y : Int} {x : List Int} (hj : j < d.wait.length) (hx : d.wait[j] = (y, x)) (hy : y ≠ (I : Int)) : rowTo d I (j + 1) = rowTo d I j := by
  unfold rowTo; rw [lastTo_le hj hx, if_neg hy]

set_option maxHeartbeats 3200000 in
theorem iReadAt_any (v0 v1 : Value) (d : DiskM) (i : Int) (w : World) (h : Rd w w.heap.size d.cells [v0, v1]) (hs : d.sz ≤ 1048577) :
    Calls Try.prog 59 #[.agg #[v0, v1], .int .i64 i] w fun e w' => ∃ A n c, e = .returned (.tuple #[.slice A n c, .bool (readAt d i).2]) ∧ Has w' w.heap.size (rowCells (readAt d i).1) [.slice A n c] ∧ Below w.heap.size w w' := by
  obtain ⟨A, n, c, A', n', c', rfl, rfl, h1, h2⟩ := h.disk
  obtain ⟨_, _, _, e, hl1, _, _, hel1⟩ := h1.kept
  injection e with e1 e2 e3
  subst e1 e2 e3
  obtain ⟨_, _, _, e, hl2, _, _, hel2⟩ := h2.wait
  injection e with e1 e2 e3
  subst e1 e2 e3
  have hn : n ≤ 1048577 := by unfold DiskM.sz rowsSz at hs; omega
  have hn' : n' ≤ 1048577 := by unfold DiskM.sz waitSz at hs; omega
  obtain ⟨w0, hw0⟩ : ∃ w0, w0 = w.alloc (.cells #[.slice A n c, .slice A' n' c'] 30) := ⟨_, rfl⟩
  have b0 : Below w.heap.size w w0 := by rw [hw0]; exact (Below.refl _ w).alloc (Nat.le_refl _) _
  have p0 : Blk w0 w.heap.size #[.slice A n c, .slice A' n' c'] 30 := by rw [hw0]; exact Blk.new w _ _
  have hr := (h.keep b0)
  have HW := Lib.hid hw0
  have HS := Lib.hid hs
  have HL1 := Lib.hid hl1
  have HL2 := Lib.hid hl2
  clear h h1 h2 hl1 hl2 hw0
  cases hd : diskOk d
  · have HR := Lib.hid (show readAt d i = ([], false) by simp [readAt, hd])
    go_enter Try.func59, Try.ntmps59
    go_wp2_with fail
    rw [← HW.out]
    refine (iDiskOk_any _ _ d _ _ hr b0.size HS.out).mono ?_
    rintro e w1 ⟨rfl, b1⟩
    rw [hd]
    have B := Lib.hid (b0.trans (b1.mono b0.size))
    clear b1 hr b0 p0
    go_wp2
    go_ret2
    refine ⟨none, 0, 0, by rw [HR.out]; rfl, ?_, B.out⟩
    rw [HR.out]
    exact has_nil_row _ _
  cases hh : hasS d i
  · have HR := Lib.hid (show readAt d i = ([], false) by simp [readAt, hd, hh])
    go_enter Try.func59, Try.ntmps59
    go_wp2_with fail
    rw [← HW.out]
    refine (iDiskOk_any _ _ d _ _ hr b0.size HS.out).mono ?_
    rintro e w1 ⟨rfl, b1⟩
    rw [hd]
    have b01 := b0.trans (b1.mono b0.size)
    have p1 := p0.keep b1 p0.lt
    have k0 : w1.cell? ⟨w.heap.size, 0, none⟩ = some (.slice A n c) := p1.cell 0
    have k1 : w1.cell? ⟨w.heap.size, 1, none⟩ = some (.slice A' n' c') := p1.cell 1
    clear b1 hr p0 b0
    go_wp2_with fail
    refine (iHas_any A A' n c n' c' d i _ HL1.out hn).mono ?_
    rintro e w2 ⟨rfl, b2⟩
    rw [hh]
    have B := Lib.hid (b01.trans (b2.mono b01.size))
    clear b2 b01 k0 k1 p1
    go_wp2
    go_ret2
    refine ⟨none, 0, 0, by rw [HR.out]; rfl, ?_, B.out⟩
    rw [HR.out]
    exact has_nil_row _ _
  obtain ⟨i0, i1⟩ : 0 ≤ i ∧ i ≤ (n : Int) - 1 := by
    have := hh
    unfold hasS at this
    rw [HL1.out] at this
    simpa using this
  obtain ⟨I, rfl⟩ := Int.eq_ofNat_of_zero_le i0
  have HR := Lib.hid (show readAt d (I : Int) = (rowTo d I d.wait.length, true) by simp [readAt, hd, hh, rowTo])
  go_enter Try.func59, Try.ntmps59
  go_wp2_with fail
  rw [← HW.out]
  refine (iDiskOk_any _ _ d _ _ hr b0.size HS.out).mono ?_
  rintro e w1 ⟨rfl, b1⟩
  rw [hd]
  have b01 := b0.trans (b1.mono b0.size)
  have p1 := p0.keep b1 p0.lt
  have k0 : w1.cell? ⟨w.heap.size, 0, none⟩ = some (.slice A n c) := p1.cell 0
  have k1 : w1.cell? ⟨w.heap.size, 1, none⟩ = some (.slice A' n' c') := p1.cell 1
  clear b1 hr p0 b0
  go_wp2_with fail
  refine (iHas_any A A' n c n' c' d (I : Int) _ HL1.out hn).mono ?_
  rintro e w2 ⟨rfl, b2⟩
  rw [hh]
  have b02 := b01.trans (b2.mono b01.size)
  have p2 := p1.keep b2 p1.lt
  have r0 : w2.cell? ⟨w.heap.size, 0, none⟩ = some (.slice A n c) := p2.cell 0
  have r1 : w2.cell? ⟨w.heap.size, 1, none⟩ = some (.slice A' n' c') := p2.cell 1
  have z2 := b02.size
  obtain ⟨b, off, rfl, hb, hcc⟩ := hel1 (by omega)
  have hIl : I < d.kept.length := by have := HL1.out; omega
  obtain ⟨K1, km, kd, hkc, hkr, hkm1, hkm2⟩ := hcc I hIl
  have hkm : km ≤ 1048577 := by
    have h1 := pre_at (g := List.length) hIl
    have h2 := HS.out
    have h3 := hkr.1
    unfold DiskM.sz rowsSz at h2
    omega
  have ck := (b02.cell (p := ⟨b, off + I, none⟩) hb).trans hkc
  have R0 := Lib.hid (show IRow w2 w.heap.size K1 km (rowTo d I 0) by
    have e0 : rowTo d I 0 = d.kept[I] := by simp [rowTo, lastTo, List.getD, List.getElem?_eq_getElem hIl]
    rw [e0]
    exact hkr.below b02)
  have B2 := Lib.hid b02
  have a0 : (0 : Int) ≤ (I : Int) := by omega
  have a1 : (I : Int) < (n : Int) := by omega
  clear b2 b01 b02 k0 k1 p1 p2 hd hh hcc hkc hkr hel1
  go_wp2
  go_loopw [6, 26] (fun r q wr => ∃ (j rm rc : Nat) (Q : Option Addr), j ≤ n' ∧ q = .int .i64 (j : Int) ∧ r = .slice Q rm rc ∧ rm ≤ 1048577 ∧ IRow wr w.heap.size Q rm (rowTo d I j) ∧ Below w.heap.size w wr) (fun _ q _ => n' - (intOf q).toNat)
  case atStart => exact ⟨0, km, kd, K1, Nat.zero_le _, rfl, rfl, hkm, R0.out, B2.out⟩
  case round =>
    obtain ⟨j, rm, rc, Q, hj, rfl, rfl, hrm, hir, hbel⟩ := hrel
    clear R0 B2 ck r0 r1
    by_cases hlt : j < n'
    · obtain ⟨b', off', rfl, hb', hcc⟩ := hel2 (by omega)
      have hjl : j < d.wait.length := by have := HL2.out; omega
      obtain ⟨A1, m1, d1, hcell, hcell2, hrow, hm1, hm2⟩ := hcc j hjl
      have hm : m1 ≤ 1048577 := by
        have h1 := pre_at (g := wrSz) hjl
        have h2 := HS.out
        have h3 : wrSz d.wait[j] = m1 := hrow.1
        unfold DiskM.sz waitSz at h2
        omega
      have ce := (hbel.cell (p := ⟨b', off' + j * 2, none⟩) hb').trans hcell
      have ce2 := (hbel.cell (p := ⟨b', off' + j * 2 + 1, none⟩) hb').trans hcell2
      obtain ⟨x, hx⟩ : ∃ x, x = d.wait[j].1 := ⟨_, rfl⟩
      obtain ⟨xr, hxr⟩ : ∃ xr, xr = d.wait[j].2 := ⟨_, rfl⟩
      rw [← hx] at ce
      have hwj : d.wait[j] = (x, xr) := by rw [hx, hxr]
      have hbx := hbel.alloc hbel.size (.cells #[.int .i64 x, .slice A1 m1 d1] 49)
      have hr1 : IRow (wr.alloc (.cells #[.int .i64 x, .slice A1 m1 d1] 49)) w.heap.size A1 m1 xr := by rw [hxr]; exact hrow.below hbx
      have hr2 := hir.below ((Below.refl w.heap.size wr).alloc hbel.size (.cells #[.int .i64 x, .slice A1 m1 d1] 49))
      have p9 := Blk.new wr #[.int .i64 x, .slice A1 m1 d1] 49
      have f0 : (wr.alloc (.cells #[.int .i64 x, .slice A1 m1 d1] 49)).cell? ⟨wr.heap.size, 0, none⟩ = some (.int .i64 x) := p9.cell 0
      have f1 : (wr.alloc (.cells #[.int .i64 x, .slice A1 m1 d1] 49)).cell? ⟨wr.heap.size, 1, none⟩ = some (.slice A1 m1 d1) := p9.cell 1
      have i3 : (0 : Int) ≤ (j : Int) := by omega
      have i4 : (j : Int) < (n' : Int) := by omega
      have BX := Lib.hid hbx
      clear hx hxr hcc hrow hcell hcell2 hel2 hir hbel hbx p9
      by_cases hxi : x = (I : Int)
      · have HE := Lib.hid (show IRow (wr.alloc (.cells #[.int .i64 x, .slice A1 m1 d1] 49)) w.heap.size A1 m1 (rowTo d I (j + 1)) by rw [rowTo_hit hjl (by rw [hwj, hxi])]; exact hr1)
        clear hr1 hr2 hwj
        have hxb : (x == (I : Int)) = true := by simp [hxi]
        have hxd : decide (x = (I : Int)) = true := by simp [hxi]
        clear hxi
        go_wp2
        go_roundw
        case rel => exact ⟨j + 1, m1, d1, A1, by omega, by go_num, rfl, hm, HE.out, BX.out⟩
        case measure => simp [intOf]; omega
      · have HE := Lib.hid (show IRow (wr.alloc (.cells #[.int .i64 x, .slice A1 m1 d1] 49)) w.heap.size Q rm (rowTo d I (j + 1)) by rw [rowTo_miss hjl hwj hxi]; exact hr2)
        clear hr1 hr2 hwj
        have hxb : (x == (I : Int)) = false := by simp [hxi]
        have hxd : decide (x = (I : Int)) = false := by simp [hxi]
        clear hxi
        go_wp2
        go_roundw
        case rel => exact ⟨j + 1, rm, rc, Q, by omega, by go_num, rfl, hrm, HE.out, BX.out⟩
        case measure => simp [intOf]; omega
    · have hi9 : ¬ ((j : Int) < (n' : Int)) := by omega
      have HE := Lib.hid (show readAt d (I : Int) = (rowTo d I j, true) by
        rw [HR.out, show d.wait.length = j by have := HL2.out; omega])
      generalize rowTo d I j = xr at *
      have z := hbel.size
      have hrw := hir.up z
      clear hel2 hir
      go_wp2_with fail
      refine (iCopy_any Q rm rc xr _ hrw hrm).mono ?_
      rintro e w3 ⟨R, rn, rc, rfl, o3, b3⟩
      have O := Lib.hid (o3.has.up z)
      have B := Lib.hid (hbel.trans (b3.mono z))
      clear o3 b3 hrw hbel
      go_wp2
      go_ret2
      refine ⟨R, rn, rc, by rw [HE.out]; rfl, ?_, B.out⟩
      rw [HE.out]
      exact O.out

end Go.Proofs.Ytejcpoidoekleaa
