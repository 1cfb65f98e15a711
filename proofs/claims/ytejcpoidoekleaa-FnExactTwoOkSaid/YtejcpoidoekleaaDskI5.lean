/-
  The program of chapter 3: a sync, and a crash, write by write.
-/
import Derived.Test.YtejcpoidoekleaaDskI4
import Derived.Test.YtejcpoidoekleaaDskS6
namespace Go.Proofs.Ytejcpoidoekleaa
set_option maxRecDepth 100000
open Go.RowKit

set_option maxHeartbeats 6400000 in
theorem iSynced_any (A : Option Addr) (n c : Nat) (A' : Option Addr) (n' c' : Nat) (d : DiskM) (w : World) (h : Rd w w.heap.size d.cells [.slice A n c, .slice A' n' c']) (hs : d.sz ≤ 1048576) :
    Calls Try.prog 53 #[.agg #[.slice A n c, .slice A' n' c']] w (MadeD w (synced d)) := by
  obtain ⟨_, _, _, _, _, _, e, e', q1, q2⟩ := h.disk
  injection e with e1 e2 e3
  subst e1 e2 e3
  injection e' with e1 e2 e3
  subst e1 e2 e3
  obtain ⟨_, _, _, e, hl1, _⟩ := q1.kept
  injection e with e1 e2 e3
  subst e1 e2 e3
  obtain ⟨_, _, _, e, hl2, _, _, hel2⟩ := q2.wait
  injection e with e1 e2 e3
  subst e1 e2 e3
  have hks : rowsSz d.kept ≤ 1048577 := by unfold DiskM.sz at hs; omega
  obtain ⟨w0, hw0⟩ : ∃ w0, w0 = (w.alloc (.cells #[.slice A n c, .slice A' n' c'] 30)).alloc (.cells #[.slice none 0 0, .slice none 0 0] 30) := ⟨_, rfl⟩
  have S : Sep w0 w.heap.size [.blk (w.heap.size + 1) #[.slice none 0 0, .slice none 0 0] 30, .blk w.heap.size #[.slice A n c, .slice A' n' c'] 30] := by
    rw [hw0]
    have := ((Sep.nil w w.heap.size).box (Nat.le_refl _) #[.slice A n c, .slice A' n' c'] 30).box (by simp) #[.slice none 0 0, .slice none 0 0] 30
    simpa using this
  have c0 : Below w.heap.size w w0 := by
    rw [hw0]
    exact ((Below.refl _ w).alloc (Nat.le_refl _) _).alloc (by simp) _
  have HL1 := Lib.hid hl1
  have HL2 := Lib.hid hl2
  have HW := Lib.hid hw0
  clear hw0 q2 hl1 hl2
  cases hd : diskOk d
  · have HR := Lib.hid (show synced d = zeroD by simp [synced, hd])
    go_enter Try.func53, Try.ntmps53
    go_wp2_with fail
    rw [← HW.out]
    refine (iDiskOk_any _ _ d _ _ (h.keep c0) c0.size (by omega)).mono ?_
    rintro e w1 ⟨rfl, b⟩
    rw [hd]
    replace c0 := c0.trans (b.mono c0.size)
    replace S := S.keep b
    clear b
    have p0 : w1.cell? ⟨w.heap.size + 1, 0, none⟩ = some (.slice none 0 0) := (S.at_ 0 rfl).cell 0
    have p1 : w1.cell? ⟨w.heap.size + 1, 1, none⟩ = some (.slice none 0 0) := (S.at_ 0 rfl).cell 1
    have f0 := (S.at_ 0 rfl).free 0
    have f1 := (S.at_ 0 rfl).free 1
    have B5 := Lib.hid ((c0.setCell (p := ⟨w.heap.size + 1, 0, none⟩) (by simp) (.slice none 0 0)).setCell (p := ⟨w.heap.size + 1, 1, none⟩) (by simp) (.slice none 0 0))
    clear S c0 hel2
    go_wp2
    refine bodyPost_ret (v := .agg #[.slice none 0 0, .slice none 0 0]) (by simp [results, Try.results53, go_sem, p0, p1]) rfl ⟨none, 0, 0, none, 0, 0, rfl, ?_, B5.out⟩
    rw [HR.out]
    exact has_zero _ _
  have HR := Lib.hid (show synced d = fall true d [] by simp [synced, hd])
  have hok := diskOk_iff.1 hd
  have hn1 : 1 ≤ n := by have := hok.1.1; have := HL1.out; omega
  have hn40 : n ≤ 40 := by have := hok.1.2; have := HL1.out; omega
  have hn60 : n' ≤ 60 := by have := hok.2.1; have := HL2.out; omega
  have HOK := Lib.hid (ok_wait hd)
  have HK0 := Lib.hid (ok_kept_len hd)
  go_enter Try.func53, Try.ntmps53
  go_wp2_with fail
  rw [← HW.out]
  refine (iDiskOk_any _ _ d _ _ (h.keep c0) c0.size (by omega)).mono ?_
  rintro e w1 ⟨rfl, b⟩
  rw [hd]
  replace c0 := c0.trans (b.mono c0.size)
  replace S := S.keep b
  clear b hok hd
  have k0 : w1.cell? ⟨w.heap.size, 0, none⟩ = some (.slice A n c) := (S.at_ 1 rfl).cell 0
  go_wp2_with fail
  refine (iRows_any A n c d.kept _ ((q1.keep c0).up c0.size) hks).mono ?_
  rintro e w2 ⟨g, rfl, ow, b⟩
  obtain ⟨fk, S1⟩ := S.has b ow c0.size
  have c1 := c0.trans (b.mono c0.size)
  have k1 : w2.cell? ⟨w.heap.size, 1, none⟩ = some (.slice A' n' c') := (S1.at_ 2 rfl).cell 1
  have S1' := Lib.hid S1
  have C1 := Lib.hid c1
  clear S c0 ow b h q1 k0 S1 c1
  go_wp2
  go_loopw [16] (fun i wr => ∃ (q : Nat) (fp : List Nat), q ≤ n' ∧ i = .int .i64 (q : Int) ∧ Sep wr w.heap.size [.own [keptD (fellTo true [] d.kept d.wait q)] [.slice (some ⟨w1.heap.size, 0, none⟩) n g] fp, .blk (w.heap.size + 1) #[.slice none 0 0, .slice none 0 0] 30, .blk w.heap.size #[.slice A n c, .slice A' n' c'] 30] ∧ Below w.heap.size w wr) (fun i _ => n' - (intOf i).toNat)
  case atStart => exact ⟨0, fk, Nat.zero_le _, rfl, S1'.out, C1.out⟩
  case round =>
    obtain ⟨q, fp, hq, rfl, S, hbel⟩ := hrel
    clear S1' C1 k1
    have zw := hbel.size
    by_cases hlt : q < n'
    · obtain ⟨b, off, rfl, hb, hcc⟩ := hel2 (by omega)
      have hjl : q < d.wait.length := by have := HL2.out; omega
      obtain ⟨A1, m1, d1, hcell, hcell2, hrow, hm1, hm2⟩ := hcc q hjl
      obtain ⟨⟨x0, x1⟩, x48⟩ := HOK.out _ (List.getElem_mem hjl)
      obtain ⟨X, hXe⟩ := Int.eq_ofNat_of_zero_le x0
      have hX : X < n := by have := HL1.out; omega
      have hm : m1 ≤ 1048577 := by have := hrow.1; omega
      obtain ⟨xr, hxr⟩ : ∃ xr, xr = d.wait[q].2 := ⟨_, rfl⟩
      rw [hXe] at hcell
      rw [← hxr] at hrow
      have HXL := Lib.hid (show xr.length ≤ 48 by rw [hxr]; exact x48)
      have hwq : d.wait.getD q (0, []) = ((X : Int), xr) := by
        simp only [List.getD, List.getElem?_eq_getElem hjl, Option.getD_some]
        rw [← hXe, hxr]
      have HN0 := Lib.hid (show fellTo true [] d.kept d.wait (q + 1) = fell true (([] : List Int).getD q 0) (fellTo true [] d.kept d.wait q) ((X : Int), xr) by rw [fellTo, hwq])
      have HKL := Lib.hid (show (fellTo true [] d.kept d.wait q).length = n by rw [fellTo_len]; exact HL1.out)
      have HK48 := Lib.hid (fellTo_rows (all := true) (fs := []) HK0.out (fun p hp => (HOK.out p hp).2) q)
      have ce := (hbel.cell (p := ⟨b, off + q * 2, none⟩) hb).trans hcell
      have ce2 := (hbel.cell (p := ⟨b, off + q * 2 + 1, none⟩) hb).trans hcell2
      have i0 : (0 : Int) ≤ (q : Int) := by omega
      have i1 : (q : Int) < (n' : Int) := by omega
      have j0 : (0 : Int) ≤ (X : Int) := by omega
      have j1 : (X : Int) < (n : Int) := by omega
      have SB := S.box zw #[.int .i64 (X : Int), .slice A1 m1 d1] 49
      have cb := hbel.alloc zw (.cells #[.int .i64 (X : Int), .slice A1 m1 d1] 49)
      have f1 : (wr.alloc (.cells #[.int .i64 (X : Int), .slice A1 m1 d1] 49)).cell? ⟨wr.heap.size, 0, none⟩ = some (.int .i64 (X : Int)) := (SB.at_ 0 rfl).cell 0
      have f2 : (wr.alloc (.cells #[.int .i64 (X : Int), .slice A1 m1 d1] 49)).cell? ⟨wr.heap.size, 1, none⟩ = some (.slice A1 m1 d1) := (SB.at_ 0 rfl).cell 1
      have hr := Lib.hid ((hrow.below cb).up cb.size)
      have zwa := cb.size
      have SH := Lib.hid SB
      have BH := Lib.hid cb
      clear hcc hrow hcell hcell2 hel2 hbel S SB cb hXe hxr hwq x0 x1 x48
      have HN := Lib.hid (show _ = (fellTo true [] d.kept d.wait q).set X xr from HN0.out.trans (fell_keep (.inl rfl)))
      go_wp2_with fail
      generalize wr.alloc (.cells #[.int .i64 (X : Int), .slice A1 m1 d1] 49) = wa at *
      refine wp_region_L (fun v => v.cell? ⟨wr.heap.size, 0, none⟩ = some (.int .i64 (X : Int)) ∧ v.cell? ⟨wr.heap.size, 1, none⟩ = some (.slice A1 m1 d1)) 7 (by kernel_rfl) ?_
      have HF : wa.drew.cell? ⟨wr.heap.size, 0, none⟩ = some (.int .i64 (X : Int)) ∧ wa.drew.cell? ⟨wr.heap.size, 1, none⟩ = some (.slice A1 m1 d1) := ⟨f1, f2⟩
      refine wpAnyL_take (i := 0) (v := ?_) rfl rfl (by kernel_rfl) (by kernel_rfl) (by kernel_rfl) (by kernel_rfl) (by kernel_rfl) (fun _ _ _ h => h) HF (Or.inl ⟨by rfl, ?_⟩) ?_
      rotate_left 1
      · (rintro v ⟨a0, a1⟩; go_simp; try with_reducible rfl)
      try simp only [Act.put]
      refine wpAnyL_take (i := 1) (v := ?_) rfl rfl (by kernel_rfl) (by kernel_rfl) (by kernel_rfl) (by kernel_rfl) (by kernel_rfl) (fun _ _ _ h => h) HF (Or.inl ⟨by rfl, ?_⟩) ?_
      rotate_left 1
      · (rintro v ⟨a0, a1⟩; go_simp; try with_reducible rfl)
      try simp only [Act.put]
      refine wpAnyL_take (i := 2) (v := ?_) rfl rfl (by kernel_rfl) (by kernel_rfl) (by kernel_rfl) (by kernel_rfl) (by kernel_rfl) (fun _ _ _ h => h) HF (Or.inl ⟨by rfl, ?_⟩) ?_
      rotate_left 1
      · (rintro v ⟨a0, a1⟩; go_simp; try with_reducible rfl)
      try simp only [Act.put]
      refine wpAnyL_take (i := 3) (v := ?_) rfl rfl (by kernel_rfl) (by kernel_rfl) (by kernel_rfl) (by kernel_rfl) (by kernel_rfl) (fun _ _ _ h => h) HF (Or.inl ⟨by rfl, ?_⟩) ?_
      rotate_left 1
      · (rintro v ⟨a0, a1⟩; go_simp; try with_reducible rfl)
      try simp only [Act.put]
      refine wpAnyL_take (i := 4) (v := ?_) rfl rfl (by kernel_rfl) (by kernel_rfl) (by kernel_rfl) (by kernel_rfl) (by kernel_rfl) (fun _ _ _ h => h) HF (Or.inl ⟨by rfl, ?_⟩) ?_
      rotate_left 1
      · (rintro v ⟨a0, a1⟩; go_simp; try with_reducible rfl)
      try simp only [Act.put]
      refine wpAnyL_step (i := 5) (by kernel_rfl) rfl rfl ?_
      intro K hK
      go_simp
      refine (iCopy_any A1 m1 d1 xr wa.drew hr.out hm).mono ?_
      rintro e w5 ⟨R, rn, rc, rfl, o1, b1⟩
      obtain ⟨fr, S2⟩ := (SH.out.keep ((Below.refl _ _).drew)).has b1 o1.has zwa
      have zz : w.heap.size ≤ w5.heap.size := Nat.le_trans zwa b1.size
      have HF1 : w5.cell? ⟨wr.heap.size, 0, none⟩ = some (.int .i64 (X : Int)) ∧ w5.cell? ⟨wr.heap.size, 1, none⟩ = some (.slice A1 m1 d1) := ⟨(S2.at_ 1 rfl).cell 0, (S2.at_ 1 rfl).cell 1⟩
      have B2 := BH.out.drew.trans (b1.mono zwa)
      obtain ⟨fp', S3, t3⟩ := Sep.store (k := 1) (j := X) rowC_len (by decide) S2.third (by rw [HKL.out]; exact hX) zz
      rw [Nat.mul_one] at S3 t3
      have B3 := Lib.hid (B2.trans (S2.third.below 0 rfl t3 zz))
      obtain ⟨es, he, hcell, hfr⟩ := Sep.slot (k := 1) (j := X) rowC_len (by decide) S2.third (by rw [HKL.out]; exact hX)
      match es, he with
      | [y0], _ =>
      have ck := hcell 0 (by decide)
      rw [Nat.add_zero, Nat.mul_one] at ck
      have ck0 : w5.cell? ⟨w1.heap.size, X, none⟩ = some y0 := ck
      have fk := hfr X
      have S4 := Lib.hid (show Sep (w5.setCell ⟨w1.heap.size, X, none⟩ (.slice R rn rc)) w.heap.size [.own [keptD ((fellTo true [] d.kept d.wait q).set X xr)] [.slice (some ⟨w1.heap.size, 0, none⟩) n g] fp', .blk (w.heap.size + 1) #[.slice none 0 0, .slice none 0 0] 30, .blk w.heap.size #[.slice A n c, .slice (some ⟨b, off, none⟩) n' c'] 30] from S3.swap.tail)
      refine hK _ _ (fun _ => HF1) ?_
      clear S2 S3 t3 o1 b1 hcell hfr ck B2
      clear hK K
      try simp only [Act.put]
      refine wpAnyL_step (i := 6) (by kernel_rfl) rfl rfl ?_
      intro K hK
      go_simp
      refine hK _ _ (fun _ => HF1) ?_
      clear hK K
      try simp only [Act.put]
      refine wpAnyL_step (i := 7) (by kernel_rfl) rfl rfl ?_
      intro K hK
      go_simp
      refine hK _ _ (fun h => nomatch (show true = false from h)) ?_
      clear hK K
      try simp only [Act.put]
      refine wpAnyL_done (by kernel_rfl) ?_ _
      go_wp2
      go_roundw
      case rel => exact ⟨q + 1, fp', by omega, by go_num, by rw [HN.out]; exact S4.out, B3.out⟩
      case measure => simp [intOf]; omega
    · have hi2 : ¬ ((q : Int) < (n' : Int)) := by omega
      have p0 : wr.cell? ⟨w.heap.size + 1, 0, none⟩ = some (.slice none 0 0) := (S.at_ 1 rfl).cell 0
      have p1 : wr.cell? ⟨w.heap.size + 1, 1, none⟩ = some (.slice none 0 0) := (S.at_ 1 rfl).cell 1
      have f0 := (S.at_ 1 rfl).free 0
      have f1 := (S.at_ 1 rfl).free 1
      have eq : q = d.wait.length := by have := HL2.out; omega
      have S5 := Lib.hid (show Has _ w.heap.size (fall true d []).cells [.slice (some ⟨w1.heap.size, 0, none⟩) n g, .slice none 0 0] from by
        have h9 := has_kept_nil ((S.put 1 rfl 0 (.slice (some ⟨w1.heap.size, 0, none⟩) n g)).put 1 rfl 1 (.slice none 0 0)).first
        rw [eq] at h9
        exact h9)
      have B5 := Lib.hid ((hbel.setCell (p := ⟨w.heap.size + 1, 0, none⟩) (by simp) (.slice (some ⟨w1.heap.size, 0, none⟩) n g)).setCell (p := ⟨w.heap.size + 1, 1, none⟩) (by simp) (.slice none 0 0))
      clear S hbel eq hel2
      go_wp2
      refine bodyPost_ret (v := .agg #[.slice (some ⟨w1.heap.size, 0, none⟩) n g, .slice none 0 0]) (by simp [results, Try.results53, go_sem, p0, p1]) rfl ⟨_, n, g, none, 0, 0, rfl, ?_, B5.out⟩
      rw [HR.out]
      exact S5.out

set_option maxHeartbeats 6400000 in
theorem iFallen_any (A : Option Addr) (n c : Nat) (A' : Option Addr) (n' c' : Nat) (d : DiskM) (E : Option Addr) (o co : Nat) (fs : List Int) (w : World) (h : Rd w w.heap.size d.cells [.slice A n c, .slice A' n' c']) (hs : d.sz ≤ 1048576) (h2 : Rd w w.heap.size (rowCells fs) [.slice E o co]) (hs2 : fs.length ≤ 1048576) :
    Calls Try.prog 65 #[.agg #[.slice A n c, .slice A' n' c'], .slice E o co] w (MadeD w (fallen d fs)) := by
  obtain ⟨_, _, _, e, h2i, _⟩ := h2.irow
  injection e with e1 e2 e3
  subst e1 e2 e3
  have ho : o ≤ 1048577 := by have := h2i.1; omega
  obtain ⟨_, _, _, _, _, _, e, e', q1, q2⟩ := h.disk
  injection e with e1 e2 e3
  subst e1 e2 e3
  injection e' with e1 e2 e3
  subst e1 e2 e3
  obtain ⟨_, _, _, e, hl1, _⟩ := q1.kept
  injection e with e1 e2 e3
  subst e1 e2 e3
  obtain ⟨_, _, _, e, hl2, _, _, hel2⟩ := q2.wait
  injection e with e1 e2 e3
  subst e1 e2 e3
  have hks : rowsSz d.kept ≤ 1048577 := by unfold DiskM.sz at hs; omega
  obtain ⟨w0, hw0⟩ : ∃ w0, w0 = (w.alloc (.cells #[.slice A n c, .slice A' n' c'] 30)).alloc (.cells #[.slice none 0 0, .slice none 0 0] 30) := ⟨_, rfl⟩
  have S : Sep w0 w.heap.size [.blk (w.heap.size + 1) #[.slice none 0 0, .slice none 0 0] 30, .blk w.heap.size #[.slice A n c, .slice A' n' c'] 30] := by
    rw [hw0]
    have := ((Sep.nil w w.heap.size).box (Nat.le_refl _) #[.slice A n c, .slice A' n' c'] 30).box (by simp) #[.slice none 0 0, .slice none 0 0] 30
    simpa using this
  have c0 : Below w.heap.size w w0 := by
    rw [hw0]
    exact ((Below.refl _ w).alloc (Nat.le_refl _) _).alloc (by simp) _
  have HL1 := Lib.hid hl1
  have HL2 := Lib.hid hl2
  have HW := Lib.hid hw0
  clear hw0 q2 hl1 hl2
  cases hd : diskOk d
  · have HR := Lib.hid (show fallen d fs = zeroD by simp [fallen, hd])
    go_enter Try.func65, Try.ntmps65
    go_wp2_with fail
    rw [← HW.out]
    refine (iDiskOk_any _ _ d _ _ (h.keep c0) c0.size (by omega)).mono ?_
    rintro e w1 ⟨rfl, b⟩
    rw [hd]
    replace c0 := c0.trans (b.mono c0.size)
    replace S := S.keep b
    clear b
    have p0 : w1.cell? ⟨w.heap.size + 1, 0, none⟩ = some (.slice none 0 0) := (S.at_ 0 rfl).cell 0
    have p1 : w1.cell? ⟨w.heap.size + 1, 1, none⟩ = some (.slice none 0 0) := (S.at_ 0 rfl).cell 1
    have f0 := (S.at_ 0 rfl).free 0
    have f1 := (S.at_ 0 rfl).free 1
    have B5 := Lib.hid ((c0.setCell (p := ⟨w.heap.size + 1, 0, none⟩) (by simp) (.slice none 0 0)).setCell (p := ⟨w.heap.size + 1, 1, none⟩) (by simp) (.slice none 0 0))
    clear S c0 hel2
    go_wp2
    refine bodyPost_ret (v := .agg #[.slice none 0 0, .slice none 0 0]) (by simp [results, Try.results65, go_sem, p0, p1]) rfl ⟨none, 0, 0, none, 0, 0, rfl, ?_, B5.out⟩
    rw [HR.out]
    exact has_zero _ _
  have HR := Lib.hid (show fallen d fs = fall false d fs by simp [fallen, hd])
  have hok := diskOk_iff.1 hd
  have hn1 : 1 ≤ n := by have := hok.1.1; have := HL1.out; omega
  have hn40 : n ≤ 40 := by have := hok.1.2; have := HL1.out; omega
  have hn60 : n' ≤ 60 := by have := hok.2.1; have := HL2.out; omega
  have HOK := Lib.hid (ok_wait hd)
  have HK0 := Lib.hid (ok_kept_len hd)
  go_enter Try.func65, Try.ntmps65
  go_wp2_with fail
  rw [← HW.out]
  refine (iDiskOk_any _ _ d _ _ (h.keep c0) c0.size (by omega)).mono ?_
  rintro e w1 ⟨rfl, b⟩
  rw [hd]
  replace c0 := c0.trans (b.mono c0.size)
  replace S := S.keep b
  clear b hok hd
  have k0 : w1.cell? ⟨w.heap.size, 0, none⟩ = some (.slice A n c) := (S.at_ 1 rfl).cell 0
  go_wp2_with fail
  refine (iRows_any A n c d.kept _ ((q1.keep c0).up c0.size) hks).mono ?_
  rintro e w2 ⟨g, rfl, ow, b⟩
  obtain ⟨fk, S1⟩ := S.has b ow c0.size
  have c1 := c0.trans (b.mono c0.size)
  have k1 : w2.cell? ⟨w.heap.size, 1, none⟩ = some (.slice A' n' c') := (S1.at_ 2 rfl).cell 1
  have S1' := Lib.hid S1
  have C1 := Lib.hid c1
  clear S c0 ow b h q1 k0 S1 c1
  go_wp2
  go_loopw [19] (fun i wr => ∃ (q : Nat) (fp : List Nat), q ≤ n' ∧ i = .int .i64 (q : Int) ∧ Sep wr w.heap.size [.own [keptD (fellTo false fs d.kept d.wait q)] [.slice (some ⟨w1.heap.size, 0, none⟩) n g] fp, .blk (w.heap.size + 1) #[.slice none 0 0, .slice none 0 0] 30, .blk w.heap.size #[.slice A n c, .slice A' n' c'] 30] ∧ Below w.heap.size w wr) (fun i _ => n' - (intOf i).toNat)
  case atStart => exact ⟨0, fk, Nat.zero_le _, rfl, S1'.out, C1.out⟩
  case round =>
    obtain ⟨q, fp, hq, rfl, S, hbel⟩ := hrel
    clear S1' C1 k1
    have zw := hbel.size
    by_cases hlt : q < n'
    · obtain ⟨b, off, rfl, hb, hcc⟩ := hel2 (by omega)
      have hjl : q < d.wait.length := by have := HL2.out; omega
      obtain ⟨A1, m1, d1, hcell, hcell2, hrow, hm1, hm2⟩ := hcc q hjl
      obtain ⟨⟨x0, x1⟩, x48⟩ := HOK.out _ (List.getElem_mem hjl)
      obtain ⟨X, hXe⟩ := Int.eq_ofNat_of_zero_le x0
      have hX : X < n := by have := HL1.out; omega
      have hm : m1 ≤ 1048577 := by have := hrow.1; omega
      obtain ⟨xr, hxr⟩ : ∃ xr, xr = d.wait[q].2 := ⟨_, rfl⟩
      rw [hXe] at hcell
      rw [← hxr] at hrow
      have HXL := Lib.hid (show xr.length ≤ 48 by rw [hxr]; exact x48)
      have hwq : d.wait.getD q (0, []) = ((X : Int), xr) := by
        simp only [List.getD, List.getElem?_eq_getElem hjl, Option.getD_some]
        rw [← hXe, hxr]
      have HN0 := Lib.hid (show fellTo false fs d.kept d.wait (q + 1) = fell false ((fs : List Int).getD q 0) (fellTo false fs d.kept d.wait q) ((X : Int), xr) by rw [fellTo, hwq])
      have HKL := Lib.hid (show (fellTo false fs d.kept d.wait q).length = n by rw [fellTo_len]; exact HL1.out)
      have HK48 := Lib.hid (fellTo_rows (all := false) (fs := fs) HK0.out (fun p hp => (HOK.out p hp).2) q)
      have ce := (hbel.cell (p := ⟨b, off + q * 2, none⟩) hb).trans hcell
      have ce2 := (hbel.cell (p := ⟨b, off + q * 2 + 1, none⟩) hb).trans hcell2
      have i0 : (0 : Int) ≤ (q : Int) := by omega
      have i1 : (q : Int) < (n' : Int) := by omega
      have j0 : (0 : Int) ≤ (X : Int) := by omega
      have j1 : (X : Int) < (n : Int) := by omega
      have SB := S.box zw #[.int .i64 (X : Int), .slice A1 m1 d1] 49
      have cb := hbel.alloc zw (.cells #[.int .i64 (X : Int), .slice A1 m1 d1] 49)
      have f1 : (wr.alloc (.cells #[.int .i64 (X : Int), .slice A1 m1 d1] 49)).cell? ⟨wr.heap.size, 0, none⟩ = some (.int .i64 (X : Int)) := (SB.at_ 0 rfl).cell 0
      have f2 : (wr.alloc (.cells #[.int .i64 (X : Int), .slice A1 m1 d1] 49)).cell? ⟨wr.heap.size, 1, none⟩ = some (.slice A1 m1 d1) := (SB.at_ 0 rfl).cell 1
      have hr := Lib.hid ((hrow.below cb).up cb.size)
      have zwa := cb.size
      have SH := Lib.hid SB
      have BH := Lib.hid cb
      obtain ⟨_, _, _, e9, _, _, _, hok9⟩ := (SB.own_ 1 rfl).rd.kept
      injection e9 with e9a e9b e9c
      subst e9a e9b e9c
      have hfr := Lib.hid (h2i.below cb)
      clear hcc hrow hcell hcell2 hel2 hbel S SB cb hXe hxr hwq x0 x1 x48
      obtain ⟨ft, hft⟩ : ∃ ft, fs.getD q 0 = ft := ⟨_, rfl⟩
      by_cases h2f : ft = 2
      · subst h2f
        have HN := Lib.hid (show _ = (fellTo false fs d.kept d.wait q).set X (torn xr ((fellTo false fs d.kept d.wait q).getD X [])) from HN0.out.trans (by rw [hft]; exact fell_torn rfl))
        obtain ⟨g9, off9, e9, hg9, hk9⟩ := hok9 (by omega)
        injection e9 with e9
        injection e9 with e9a e9b
        subst e9a e9b
        obtain ⟨E1, eo, ec, hce1, hrow1, hce2, hce3⟩ := hk9 X (by rw [HKL.out]; exact hX)
        rw [Nat.zero_add] at hce1
        have hlo : eo ≤ 48 := by rw [← hrow1.1]; exact HK48.out _ (List.getElem_mem _)
        have hgd : (fellTo false fs d.kept d.wait q)[X]'(by rw [HKL.out]; exact hX) = (fellTo false fs d.kept d.wait q).getD X [] := by simp [List.getD, List.getElem?_eq_getElem (show X < (fellTo false fs d.kept d.wait q).length by rw [HKL.out]; exact hX)]
        rw [hgd] at hrow1
        have f3 := hce1
        have hr1 := Lib.hid hrow1
        clear hgd hce1 hrow1 hk9
        go_wp2_with fail
        generalize wr.alloc (.cells #[.int .i64 (X : Int), .slice A1 m1 d1] 49) = wa at *
        refine (iFate_any E o co _ fs q _ hfr.out ho (by omega)).mono ?_
        rintro e w8 ⟨rfl, rfl⟩
        rw [hft]
        clear hft
        go_wp2_with fail
        refine (iTorn_any A1 m1 d1 xr E1 eo ec _ wa hr.out (by omega) hm1 hm2 hr1.out (by omega) hce2 hce3).mono ?_
        rintro e wt ⟨U, un, uc, rfl, ot, bt⟩
        have ST := Lib.hid (SH.out.keep bt)
        have BT := Lib.hid (BH.out.trans (bt.mono zwa))
        have zt := BT.out.size
        have hrt := Lib.hid ot.irow
        have hun : un ≤ 1048577 := by
            have h7 := ot.irow.1
            have h8 := HXL.out
            unfold torn at h7
            rw [List.length_append, List.length_take, List.length_drop, hr1.out.1] at h7
            omega
        have t1 : wt.cell? ⟨wr.heap.size, 0, none⟩ = some (.int .i64 (X : Int)) := (ST.out.at_ 0 rfl).cell 0
        generalize htr : torn xr ((fellTo false fs d.kept d.wait q).getD X []) = tr at *
        clear htr
        clear ot bt f1 f2 f3 hr hr1
        go_wp2_with fail
        refine wp_region_L (fun v => v.cell? ⟨wr.heap.size, 0, none⟩ = some (.int .i64 (X : Int))) 6 (by kernel_rfl) ?_
        have HF : wt.drew.cell? ⟨wr.heap.size, 0, none⟩ = some (.int .i64 (X : Int)) := t1
        refine wpAnyL_take (i := 0) (v := ?_) rfl rfl (by kernel_rfl) (by kernel_rfl) (by kernel_rfl) (by kernel_rfl) (by kernel_rfl) (fun _ _ _ h => h) HF (Or.inl ⟨by rfl, ?_⟩) ?_
        rotate_left 1
        · (intro v a0; go_simp; try with_reducible rfl)
        try simp only [Act.put]
        refine wpAnyL_take (i := 1) (v := ?_) rfl rfl (by kernel_rfl) (by kernel_rfl) (by kernel_rfl) (by kernel_rfl) (by kernel_rfl) (fun _ _ _ h => h) HF (Or.inl ⟨by rfl, ?_⟩) ?_
        rotate_left 1
        · (intro v a0; go_simp; try with_reducible rfl)
        try simp only [Act.put]
        refine wpAnyL_take (i := 2) (v := ?_) rfl rfl (by kernel_rfl) (by kernel_rfl) (by kernel_rfl) (by kernel_rfl) (by kernel_rfl) (fun _ _ _ h => h) HF (Or.inl ⟨by rfl, ?_⟩) ?_
        rotate_left 1
        · (intro v a0; go_simp; try with_reducible rfl)
        try simp only [Act.put]
        refine wpAnyL_take (i := 3) (v := ?_) rfl rfl (by kernel_rfl) (by kernel_rfl) (by kernel_rfl) (by kernel_rfl) (by kernel_rfl) (fun _ _ _ h => h) HF (Or.inl ⟨by rfl, ?_⟩) ?_
        rotate_left 1
        · (intro v a0; go_simp; try with_reducible rfl)
        try simp only [Act.put]
        refine wpAnyL_step (i := 4) (by kernel_rfl) rfl rfl ?_
        intro K hK
        go_simp
        refine (iCopy_any U un uc tr wt.drew hrt.out hun).mono ?_
        rintro e w5 ⟨R, rn, rc, rfl, o1, b1⟩
        obtain ⟨fr, S2⟩ := (ST.out.keep ((Below.refl _ _).drew)).has b1 o1.has zt
        have zz : w.heap.size ≤ w5.heap.size := Nat.le_trans zt b1.size
        have HF1 : w5.cell? ⟨wr.heap.size, 0, none⟩ = some (.int .i64 (X : Int)) := (S2.at_ 1 rfl).cell 0
        have B2 := BT.out.drew.trans (b1.mono zt)
        obtain ⟨fp', S3, t3⟩ := Sep.store (k := 1) (j := X) rowC_len (by decide) S2.third (by rw [HKL.out]; exact hX) zz
        rw [Nat.mul_one] at S3 t3
        have B3 := Lib.hid (B2.trans (S2.third.below 0 rfl t3 zz))
        obtain ⟨es, he, hcell, hfr⟩ := Sep.slot (k := 1) (j := X) rowC_len (by decide) S2.third (by rw [HKL.out]; exact hX)
        match es, he with
        | [y0], _ =>
        have ck := hcell 0 (by decide)
        rw [Nat.add_zero, Nat.mul_one] at ck
        have ck0 : w5.cell? ⟨w1.heap.size, X, none⟩ = some y0 := ck
        have fk := hfr X
        have S4 := Lib.hid (show Sep (w5.setCell ⟨w1.heap.size, X, none⟩ (.slice R rn rc)) w.heap.size [.own [keptD ((fellTo false fs d.kept d.wait q).set X tr)] [.slice (some ⟨w1.heap.size, 0, none⟩) n g] fp', .blk (w.heap.size + 1) #[.slice none 0 0, .slice none 0 0] 30, .blk w.heap.size #[.slice A n c, .slice (some ⟨b, off, none⟩) n' c'] 30] from S3.swap.tail)
        refine hK _ _ (fun _ => HF1) ?_
        clear S2 S3 t3 o1 b1 hcell hfr ck B2
        clear hK K
        try simp only [Act.put]
        refine wpAnyL_step (i := 5) (by kernel_rfl) rfl rfl ?_
        intro K hK
        go_simp
        refine hK _ _ (fun _ => HF1) ?_
        clear hK K
        try simp only [Act.put]
        refine wpAnyL_step (i := 6) (by kernel_rfl) rfl rfl ?_
        intro K hK
        go_simp
        refine hK _ _ (fun h => nomatch (show true = false from h)) ?_
        clear hK K
        try simp only [Act.put]
        refine wpAnyL_done (by kernel_rfl) ?_ _
        go_wp2
        go_roundw
        case rel => exact ⟨q + 1, fp', by omega, by go_num, by rw [HN.out]; exact S4.out, B3.out⟩
        case measure => simp [intOf]; omega
      by_cases h1 : ft = 1
      · subst h1
        clear hok9
        have HN := Lib.hid (show _ = (fellTo false fs d.kept d.wait q).set X xr from HN0.out.trans (by rw [hft]; exact fell_keep (.inr rfl)))
        go_wp2_with fail
        generalize wr.alloc (.cells #[.int .i64 (X : Int), .slice A1 m1 d1] 49) = wa at *
        refine (iFate_any E o co _ fs q _ hfr.out ho (by omega)).mono ?_
        rintro e w8 ⟨rfl, rfl⟩
        rw [hft]
        clear hft f2
        go_wp2_with fail
        refine wp_region_L (fun v => v.cell? ⟨wr.heap.size, 0, none⟩ = some (.int .i64 (X : Int))) 6 (by kernel_rfl) ?_
        have HF : wa.drew.cell? ⟨wr.heap.size, 0, none⟩ = some (.int .i64 (X : Int)) := f1
        refine wpAnyL_take (i := 0) (v := ?_) rfl rfl (by kernel_rfl) (by kernel_rfl) (by kernel_rfl) (by kernel_rfl) (by kernel_rfl) (fun _ _ _ h => h) HF (Or.inl ⟨by rfl, ?_⟩) ?_
        rotate_left 1
        · (intro v a0; go_simp; try with_reducible rfl)
        try simp only [Act.put]
        refine wpAnyL_take (i := 1) (v := ?_) rfl rfl (by kernel_rfl) (by kernel_rfl) (by kernel_rfl) (by kernel_rfl) (by kernel_rfl) (fun _ _ _ h => h) HF (Or.inl ⟨by rfl, ?_⟩) ?_
        rotate_left 1
        · (intro v a0; go_simp; try with_reducible rfl)
        try simp only [Act.put]
        refine wpAnyL_take (i := 2) (v := ?_) rfl rfl (by kernel_rfl) (by kernel_rfl) (by kernel_rfl) (by kernel_rfl) (by kernel_rfl) (fun _ _ _ h => h) HF (Or.inl ⟨by rfl, ?_⟩) ?_
        rotate_left 1
        · (intro v a0; go_simp; try with_reducible rfl)
        try simp only [Act.put]
        refine wpAnyL_take (i := 3) (v := ?_) rfl rfl (by kernel_rfl) (by kernel_rfl) (by kernel_rfl) (by kernel_rfl) (by kernel_rfl) (fun _ _ _ h => h) HF (Or.inl ⟨by rfl, ?_⟩) ?_
        rotate_left 1
        · (intro v a0; go_simp; try with_reducible rfl)
        try simp only [Act.put]
        refine wpAnyL_step (i := 4) (by kernel_rfl) rfl rfl ?_
        intro K hK
        go_simp
        refine (iCopy_any A1 m1 d1 xr wa.drew hr.out hm).mono ?_
        rintro e w5 ⟨R, rn, rc, rfl, o1, b1⟩
        obtain ⟨fr, S2⟩ := (SH.out.keep ((Below.refl _ _).drew)).has b1 o1.has zwa
        have zz : w.heap.size ≤ w5.heap.size := Nat.le_trans zwa b1.size
        have HF1 : w5.cell? ⟨wr.heap.size, 0, none⟩ = some (.int .i64 (X : Int)) := (S2.at_ 1 rfl).cell 0
        have B2 := BH.out.drew.trans (b1.mono zwa)
        obtain ⟨fp', S3, t3⟩ := Sep.store (k := 1) (j := X) rowC_len (by decide) S2.third (by rw [HKL.out]; exact hX) zz
        rw [Nat.mul_one] at S3 t3
        have B3 := Lib.hid (B2.trans (S2.third.below 0 rfl t3 zz))
        obtain ⟨es, he, hcell, hfr⟩ := Sep.slot (k := 1) (j := X) rowC_len (by decide) S2.third (by rw [HKL.out]; exact hX)
        match es, he with
        | [y0], _ =>
        have ck := hcell 0 (by decide)
        rw [Nat.add_zero, Nat.mul_one] at ck
        have ck0 : w5.cell? ⟨w1.heap.size, X, none⟩ = some y0 := ck
        have fk := hfr X
        have S4 := Lib.hid (show Sep (w5.setCell ⟨w1.heap.size, X, none⟩ (.slice R rn rc)) w.heap.size [.own [keptD ((fellTo false fs d.kept d.wait q).set X xr)] [.slice (some ⟨w1.heap.size, 0, none⟩) n g] fp', .blk (w.heap.size + 1) #[.slice none 0 0, .slice none 0 0] 30, .blk w.heap.size #[.slice A n c, .slice (some ⟨b, off, none⟩) n' c'] 30] from S3.swap.tail)
        refine hK _ _ (fun _ => HF1) ?_
        clear S2 S3 t3 o1 b1 hcell hfr ck B2
        clear hK K
        try simp only [Act.put]
        refine wpAnyL_step (i := 5) (by kernel_rfl) rfl rfl ?_
        intro K hK
        go_simp
        refine hK _ _ (fun _ => HF1) ?_
        clear hK K
        try simp only [Act.put]
        refine wpAnyL_step (i := 6) (by kernel_rfl) rfl rfl ?_
        intro K hK
        go_simp
        refine hK _ _ (fun h => nomatch (show true = false from h)) ?_
        clear hK K
        try simp only [Act.put]
        refine wpAnyL_done (by kernel_rfl) ?_ _
        go_wp2
        go_roundw
        case rel => exact ⟨q + 1, fp', by omega, by go_num, by rw [HN.out]; exact S4.out, B3.out⟩
        case measure => simp [intOf]; omega
      have HN := Lib.hid (show _ = fellTo false fs d.kept d.wait q from HN0.out.trans (by rw [hft]; exact fell_lost h1 h2f))
      have e1 : decide (ft = 1) = false := by simp [h1]
      have e2 : decide (ft = 2) = false := by simp [h2f]
      have e3 : (ft == 1) = false := by simp [h1]
      have e4 : (ft == 2) = false := by simp [h2f]
      have S4 := Lib.hid SH.out.tail
      go_wp2_with fail
      generalize wr.alloc (.cells #[.int .i64 (X : Int), .slice A1 m1 d1] 49) = wa at *
      refine (iFate_any E o co _ fs q _ hfr.out ho (by omega)).mono ?_
      rintro e w8 ⟨rfl, rfl⟩
      rw [hft]
      clear hft f1 f2 hok9
      go_wp2
      go_roundw
      case rel => exact ⟨q + 1, fp, by omega, by go_num, by rw [HN.out]; exact S4.out, BH.out⟩
      case measure => simp [intOf]; omega
    · have hi2 : ¬ ((q : Int) < (n' : Int)) := by omega
      have p0 : wr.cell? ⟨w.heap.size + 1, 0, none⟩ = some (.slice none 0 0) := (S.at_ 1 rfl).cell 0
      have p1 : wr.cell? ⟨w.heap.size + 1, 1, none⟩ = some (.slice none 0 0) := (S.at_ 1 rfl).cell 1
      have f0 := (S.at_ 1 rfl).free 0
      have f1 := (S.at_ 1 rfl).free 1
      have eq : q = d.wait.length := by have := HL2.out; omega
      have S5 := Lib.hid (show Has _ w.heap.size (fall false d fs).cells [.slice (some ⟨w1.heap.size, 0, none⟩) n g, .slice none 0 0] from by
        have h9 := has_kept_nil ((S.put 1 rfl 0 (.slice (some ⟨w1.heap.size, 0, none⟩) n g)).put 1 rfl 1 (.slice none 0 0)).first
        rw [eq] at h9
        exact h9)
      have B5 := Lib.hid ((hbel.setCell (p := ⟨w.heap.size + 1, 0, none⟩) (by simp) (.slice (some ⟨w1.heap.size, 0, none⟩) n g)).setCell (p := ⟨w.heap.size + 1, 1, none⟩) (by simp) (.slice none 0 0))
      clear S hbel eq hel2
      go_wp2
      refine bodyPost_ret (v := .agg #[.slice (some ⟨w1.heap.size, 0, none⟩) n g, .slice none 0 0]) (by simp [results, Try.results65, go_sem, p0, p1]) rfl ⟨_, n, g, none, 0, 0, rfl, ?_, B5.out⟩
      rw [HR.out]
      exact S5.out

end Go.Proofs.Ytejcpoidoekleaa
