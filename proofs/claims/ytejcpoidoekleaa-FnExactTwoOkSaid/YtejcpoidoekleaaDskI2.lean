/-
  The program of chapter 3: rows and disks copied.
-/
import Derived.Test.YtejcpoidoekleaaDskS3
import Derived.Test.YtejcpoidoekleaaDskI1
import Derived.Test.YtejcpoidoekleaaCopyI
import Derived.Test.YtejcpoidoekleaaSepM
import Derived.Test.YtejcpoidoekleaaOrdL
namespace Go.Proofs.Ytejcpoidoekleaa
set_option maxRecDepth 100000
open Go.RowKit

theorem Sep.int_ {w : World} {base : Nat} {a : Item} {is : List Item} {ds : List Dat} {vs : List Value} {fp : List Nat} (h : Sep w base (a :: .own ds vs fp :: is)) (x : Int) : Sep w base (a :: .own (.int x :: ds) (.int .i64 x :: vs) fp :: is) := by
  refine ⟨fun n i hi => ?_, h.nodup, h.ge⟩
  match n, hi with
  | 0, hi => exact h.holds 0 i hi
  | 1, hi =>
    simp at hi
    subst hi
    exact .int (h.own_ 1 rfl)
  | n + 2, hi => exact h.holds (n + 2) i hi

set_option maxHeartbeats 1600000 in
theorem iRows_any (A : Option Addr) (n c : Nat) (l : List (List Int)) (w : World) (h : Rd w w.heap.size [keptD l] [.slice A n c]) (hs : rowsSz l ≤ 1048577) :
    Calls Try.prog 90 #[.slice A n c] w fun e w' => ∃ c', e = .returned (.slice (some ⟨w.heap.size, 0, none⟩) n c') ∧ Has w' w.heap.size [keptD l] [.slice (some ⟨w.heap.size, 0, none⟩) n c'] ∧ Below w.heap.size w w' := by
  obtain ⟨A', n', c', e, hl, hnc, hcm, hel⟩ := h.kept
  injection e with e1 e2 e3
  subst e1 e2 e3
  have hn : n ≤ 1048577 := by unfold rowsSz at hs; omega
  have HS := Lib.hid hs
  have HL := Lib.hid hl
  have hmk := run_make_k (P := Try.prog) 27 35 (.slice none 0 0) #[.slice none 0 0] 1 24 Try.underlying27 infoRow rfl .i64 .i64 n (by omega) (by omega)
  rw [Nat.mul_one] at hmk
  have hmd := ow_made (w := w) (e := 35) (f := rowC) (x0 := ([] : List Int)) (zc := #[.slice none 0 0]) (k := 1) rfl (by decide) n (by simp only [maxLen]; omega) ow_nil_row
  rw [Nat.mul_one] at hmd
  have O0 := Lib.hid hmd
  have B0 := Lib.hid ((Below.refl w.heap.size w).alloc (Nat.le_refl _) (.cells (madeCells #[.slice none 0 0] n) 35))
  clear hl hs h hmd
  go_enter Try.func90, Try.ntmps90
  go_wp2
  go_loopw [11] (fun i wr => ∃ (j : Nat) (fp : List Nat), j ≤ n ∧ i = .int .i64 (j : Int) ∧ Ow wr [keptD (l.take j ++ List.replicate (n - j) [])] [.slice (some ⟨w.heap.size, 0, none⟩) n n] fp ∧ fp.Nodup ∧ (∀ p ∈ fp, w.heap.size ≤ p) ∧ Below w.heap.size w wr) (fun i _ => n - (intOf i).toNat)
  case atStart => exact ⟨0, _, Nat.zero_le _, rfl, O0.out, by simp, by simp, B0.out⟩
  case round =>
    obtain ⟨j, fp, hj, rfl, hown, hnd, hge, hbel⟩ := hrel
    clear hmk O0 B0
    by_cases hlt : j < n
    · obtain ⟨b, off, rfl, hb, hc⟩ := hel (by omega)
      have hjl : j < l.length := by have := HL.out; omega
      obtain ⟨A1, m1, d1, hc0, hrow, _⟩ := hc j hjl
      have cs0 := (hbel.cell (p := ⟨b, off + j, none⟩) hb).trans hc0
      have hr1 := (hrow.below hbel).up hbel.size
      have hm1 : m1 ≤ 1048577 := by
        have h1 := pre_at (g := List.length) hjl
        have h2 := HS.out
        have h3 := hrow.1
        unfold rowsSz at h2
        omega
      obtain ⟨xs, hxs⟩ : ∃ xs, xs = l[j] := ⟨_, rfl⟩
      rw [← hxs] at hr1
      have HX := Lib.hid hxs.symm
      clear hxs hc hc0 hrow
      go_wp2_with fail
      refine (iCopy_any A1 m1 d1 xs _ hr1 hm1).mono ?_
      rintro e w1 ⟨R, rn, rc, rfl, o1, b1⟩
      have hown1 := hown.keep b1
      have hl2 : (l.take j ++ List.replicate (n - j) ([] : List Int)).length = n := by simp; have := HL.out; omega
      obtain ⟨es, he, hcell, hfr⟩ := Ow.slots (k := 1) rowC_len (by decide) hown1 (j := j) (by omega)
      have ck0 := hcell 0 (by decide)
      rw [Nat.add_zero, Nat.mul_one] at ck0
      match es, he with
      | [y0], _ =>
      have ck0' : w1.cell? ⟨w.heap.size, j, none⟩ = some y0 := ck0
      have fk0 := hfr j
      have hfresh : ∀ p ∈ (Value.slice R rn rc).ownBlock.toList, wr.heap.size ≤ p := fun p hp => (o1.ge p (by simpa using hp)).1
      have hold := hown.lt
      obtain ⟨ht, fp', hfin, hnd', hsub⟩ := Ow.store (k := 1) rowC_len (by decide) hown1 hnd (j := j) (x := xs) (by omega) o1.ow (by cases (Value.slice R rn rc).ownBlock <;> simp) (fun p hp hm => by have := hfresh p hp; have := hold p hm; omega)
      rw [Nat.mul_one] at ht hfin
      have z := hbel.size
      have R1 := Lib.hid (show Ow (puts w1 w.heap.size j [.slice R rn rc]) [keptD (l.take (j + 1) ++ List.replicate (n - (j + 1)) [])] [.slice (some ⟨w.heap.size, 0, none⟩) n n] fp' by
        have h1 := fill_step (x0 := ([] : List Int)) HL.out hjl
        rw [HX.out] at h1
        rw [← h1]
        exact hfin)
      have R2 := Lib.hid (show ∀ p ∈ fp', w.heap.size ≤ p from fun p hp => by
        rcases hsub p hp with h | h
        · exact hge p h
        · have := hfresh p h; omega)
      have b01 := hbel.trans (b1.mono hbel.size)
      have R3 := Lib.hid (show Below w.heap.size w (puts w1 w.heap.size j [.slice R rn rc]) from b01.trans (ht.below (by simp) b01.size))
      have R4 := Lib.hid hnd'
      clear hown hown1 hfin hnd' hsub ht o1 b1 b01 hcell hfr ck0 hbel hl2 hfresh hold hr1
      go_wp2
      go_roundw
      case rel => exact ⟨j + 1, fp', by omega, by go_num, R1.out, R4.out, R2.out, R3.out⟩
      case measure => simp [intOf]; omega
    · go_wp2
      go_ret
      refine ⟨n, rfl, ⟨fp, ?_, hnd, hge⟩, hbel⟩
      have e : n - j = 0 := by omega
      rw [e, List.replicate_zero, List.append_nil, List.take_of_length_le (by have := HL.out; omega)] at hown
      exact hown

set_option maxHeartbeats 6400000 in
theorem iCopyD_any (v0 v1 : Value) (d : DiskM) (w : World) (h : Rd w w.heap.size d.cells [v0, v1]) (hs : d.sz ≤ 1048577) :
    Calls Try.prog 57 #[.agg #[v0, v1]] w (MadeD w d) := by
  obtain ⟨A, n, c, A', n', c', rfl, rfl, h1, h2⟩ := h.disk
  obtain ⟨_, _, _, e, hl1, _, _, _⟩ := h1.kept
  injection e with e1 e2 e3
  subst e1 e2 e3
  obtain ⟨_, _, _, e, hl2, _, _, hel2⟩ := h2.wait
  injection e with e1 e2 e3
  subst e1 e2 e3
  have hn : n ≤ 1048577 := by unfold DiskM.sz rowsSz at hs; omega
  have hn' : n' ≤ 1048577 := by unfold DiskM.sz waitSz at hs; omega
  have hks : rowsSz d.kept ≤ 1048577 := by unfold DiskM.sz at hs; omega
  have HS := Lib.hid hs
  have HL2 := Lib.hid hl2
  clear h hs hl1 hl2
  have hmk := run_make_k (P := Try.prog) 28 49 (.agg #[.int .i64 0, .slice none 0 0]) #[.int .i64 0, .slice none 0 0] 2 32 Try.underlying28 infoWrite rfl .i64 .i64 n' (by omega) (by omega)
  have S0 := ((Sep.nil w w.heap.size).box (Nat.le_refl _) #[.slice A n c, .slice A' n' c'] 30).box (by simp) #[.slice none 0 0, .slice none 0 0] 30
  have e1 : (w.alloc (.cells #[.slice A n c, .slice A' n' c'] 30)).heap.size = w.heap.size + 1 := by simp
  have e2 : ((w.alloc (.cells #[.slice A n c, .slice A' n' c'] 30)).alloc (.cells #[.slice none 0 0, .slice none 0 0] 30)).heap.size = w.heap.size + 1 + 1 := by simp
  rw [e1] at S0
  have b0 : Below w.heap.size w ((w.alloc (.cells #[.slice A n c, .slice A' n' c'] 30)).alloc (.cells #[.slice none 0 0, .slice none 0 0] 30)) :=
    ((Below.refl _ w).alloc (Nat.le_refl _) _).alloc (by simp) _
  have O0 := ow_made (w := (w.alloc (.cells #[.slice A n c, .slice A' n' c'] 30)).alloc (.cells #[.slice none 0 0, .slice none 0 0] 30)) (e := 49) (f := wrC) (x0 := ((0 : Int), ([] : List Int))) (zc := #[.int .i64 0, .slice none 0 0]) (k := 2) rfl (by decide) n' (by simp only [maxLen]; omega) ow_zero_write
  rw [e2] at O0
  have bm : Below ((w.alloc (.cells #[.slice A n c, .slice A' n' c'] 30)).alloc (.cells #[.slice none 0 0, .slice none 0 0] 30)).heap.size ((w.alloc (.cells #[.slice A n c, .slice A' n' c'] 30)).alloc (.cells #[.slice none 0 0, .slice none 0 0] 30)) (((w.alloc (.cells #[.slice A n c, .slice A' n' c'] 30)).alloc (.cells #[.slice none 0 0, .slice none 0 0] 30)).alloc (.cells (madeCells #[.int .i64 0, .slice none 0 0] (n' * 2)) 49)) := (Below.refl _ _).alloc (Nat.le_refl _) _
  obtain ⟨fp0, S1⟩ := S0.has bm (⟨_, O0, by simp, fun p hp => by have h9 : p = w.heap.size + 1 + 1 := by simpa using hp
                                                                 rw [h9, e2]; exact Nat.le_refl _⟩) (by rw [e2]; omega)
  have S1H := Lib.hid S1
  have B0 := Lib.hid (b0.trans (bm.mono b0.size))
  clear S0 S1 b0 bm O0 e1 e2
  go_enter Try.func57, Try.ntmps57
  go_wp2
  go_loopw [13] (fun i wr => ∃ (j : Nat) (fp : List Nat), j ≤ n' ∧ i = .int .i64 (j : Int) ∧ Sep wr w.heap.size [.own [waitD (d.wait.take j ++ List.replicate (n' - j) (0, []))] [.slice (some ⟨w.heap.size + 1 + 1, 0, none⟩) n' n'] fp, .blk (w.heap.size + 1) #[.slice none 0 0, .slice none 0 0] 30, .blk w.heap.size #[.slice A n c, .slice A' n' c'] 30] ∧ Below w.heap.size w wr) (fun i _ => n' - (intOf i).toNat)
  case atStart => exact ⟨0, fp0, Nat.zero_le _, rfl, S1H.out, B0.out⟩
  case round =>
    obtain ⟨j, fp, hj, rfl, S, hbel⟩ := hrel
    clear S1H B0 hmk
    have zw := hbel.size
    by_cases hlt : j < n'
    · obtain ⟨b, off, rfl, hb, hc⟩ := hel2 (by omega)
      have hjl : j < d.wait.length := by have := HL2.out; omega
      obtain ⟨A1, m1, d1, hcell, hcell2, hrow, hm1, hm2⟩ := hc j hjl
      have hm : m1 ≤ 1048577 := by
        have h1 := pre_at (g := wrSz) hjl
        have h2 := HS.out
        have h3 : wrSz d.wait[j] = m1 := hrow.1
        unfold DiskM.sz waitSz at h2
        omega
      have ce := (hbel.cell (p := ⟨b, off + j * 2, none⟩) hb).trans hcell
      have ce2 := (hbel.cell (p := ⟨b, off + j * 2 + 1, none⟩) hb).trans hcell2
      obtain ⟨x, hx⟩ : ∃ x, x = d.wait[j].1 := ⟨_, rfl⟩
      obtain ⟨xr, hxr⟩ : ∃ xr, xr = d.wait[j].2 := ⟨_, rfl⟩
      rw [← hx] at ce
      have HN := Lib.hid (show d.wait.take (j + 1) ++ List.replicate (n' - (j + 1)) (0, []) = (d.wait.take j ++ List.replicate (n' - j) (0, [])).set j (x, xr) by
        rw [← fill_step (x0 := ((0 : Int), ([] : List Int))) HL2.out hjl, hx, hxr])
      have hbx := hbel.alloc zw (.cells #[.int .i64 x, .slice A1 m1 d1] 49)
      have hr := Lib.hid (show IRow (wr.alloc (.cells #[.int .i64 x, .slice A1 m1 d1] 49)) (wr.alloc (.cells #[.int .i64 x, .slice A1 m1 d1] 49)).heap.size A1 m1 xr by rw [hxr]; exact (hrow.below hbx).up hbx.size)
      have SX := S.box zw #[.int .i64 x, .slice A1 m1 d1] 49
      have SH := Lib.hid SX
      have f0 : (wr.alloc (.cells #[.int .i64 x, .slice A1 m1 d1] 49)).cell? ⟨wr.heap.size, 0, none⟩ = some (.int .i64 x) := (SX.at_ 0 rfl).cell 0
      have f1 : (wr.alloc (.cells #[.int .i64 x, .slice A1 m1 d1] 49)).cell? ⟨wr.heap.size, 1, none⟩ = some (.slice A1 m1 d1) := (SX.at_ 0 rfl).cell 1
      have zwa := hbx.size
      have BH := Lib.hid hbx
      have i0 : (0 : Int) ≤ (j : Int) := by omega
      have i1 : (j : Int) < (n' : Int) := by omega
      have HKL := Lib.hid (show (d.wait.take j ++ List.replicate (n' - j) ((0 : Int), ([] : List Int))).length = n' by simp; have := HL2.out; omega)
      clear hx hxr hc hrow hcell hcell2 hel2 hbel S SX hbx
      go_wp2_with fail
      generalize wr.alloc (.cells #[.int .i64 x, .slice A1 m1 d1] 49) = wa at *
      refine wp_region_L (fun v => v.cell? ⟨wr.heap.size, 0, none⟩ = some (.int .i64 x) ∧ v.cell? ⟨wr.heap.size, 1, none⟩ = some (.slice A1 m1 d1)) 9 (by kernel_rfl) ?_
      have HF : wa.drew.cell? ⟨wr.heap.size, 0, none⟩ = some (.int .i64 x) ∧ wa.drew.cell? ⟨wr.heap.size, 1, none⟩ = some (.slice A1 m1 d1) := ⟨f0, f1⟩
      refine wpAnyL_take (i := 0) (v := ?_) rfl rfl (by kernel_rfl) (by kernel_rfl) (by kernel_rfl) (by kernel_rfl) (by kernel_rfl) (fun _ _ _ h => h) HF (Or.inl ⟨by rfl, ?_⟩) ?_
      rotate_left 1
      · (rintro v ⟨a0, a1⟩; go_simp; try with_reducible rfl)
      try simp only [Act.put]
      refine wpAnyL_take (i := 1) (v := ?_) rfl rfl (by kernel_rfl) (by kernel_rfl) (by kernel_rfl) (by kernel_rfl) (by kernel_rfl) (fun _ _ _ h => h) HF (Or.inl ⟨by rfl, ?_⟩) ?_
      rotate_left 1
      · (rintro v ⟨a0, a1⟩; go_simp; try with_reducible rfl)
      try simp only [Act.put]
      refine wpAnyL_take (i := 2) (v := ?_) rfl rfl (by kernel_rfl) (by kernel_rfl) (by kernel_rfl) (by kernel_rfl) (by kernel_rfl) (fun _ _ _ h => h) HF (Or.inl ⟨by rfl, ?_⟩) ?_
      rotate_left 1
      · (rintro v ⟨a0, a1⟩; go_simp; try with_reducible rfl)
      try simp only [Act.put]
      refine wpAnyL_take (i := 3) (v := ?_) rfl rfl (by kernel_rfl) (by kernel_rfl) (by kernel_rfl) (by kernel_rfl) (by kernel_rfl) (fun _ _ _ h => h) HF (Or.inl ⟨by rfl, ?_⟩) ?_
      rotate_left 1
      · (rintro v ⟨a0, a1⟩; go_simp; try with_reducible rfl)
      try simp only [Act.put]
      refine wpAnyL_take (i := 4) (v := ?_) rfl rfl (by kernel_rfl) (by kernel_rfl) (by kernel_rfl) (by kernel_rfl) (by kernel_rfl) (fun _ _ _ h => h) HF (Or.inl ⟨by rfl, ?_⟩) ?_
      rotate_left 1
      · (rintro v ⟨a0, a1⟩; go_simp; try with_reducible rfl)
      try simp only [Act.put]
      refine wpAnyL_take (i := 5) (v := ?_) rfl rfl (by kernel_rfl) (by kernel_rfl) (by kernel_rfl) (by kernel_rfl) (by kernel_rfl) (fun _ _ _ h => h) HF (Or.inl ⟨by rfl, ?_⟩) ?_
      rotate_left 1
      · (rintro v ⟨a0, a1⟩; go_simp; try with_reducible rfl)
      try simp only [Act.put]
      refine wpAnyL_step (i := 6) (by kernel_rfl) rfl rfl ?_
      intro K hK
      go_simp
      refine (iCopy_any A1 m1 d1 xr wa.drew hr.out hm).mono ?_
      rintro e w5 ⟨R, rn, rc, rfl, o1, b1⟩
      obtain ⟨fr, S2⟩ := (SH.out.keep ((Below.refl _ _).drew)).has b1 o1.has zwa
      have zz : w.heap.size ≤ w5.heap.size := Nat.le_trans zwa b1.size
      have HF1 : w5.cell? ⟨wr.heap.size, 0, none⟩ = some (.int .i64 x) ∧ w5.cell? ⟨wr.heap.size, 1, none⟩ = some (.slice A1 m1 d1) := ⟨(S2.at_ 1 rfl).cell 0, (S2.at_ 1 rfl).cell 1⟩
      have B2 := BH.out.drew.trans (b1.mono zwa)
      have S2' := S2.third.int_ x
      obtain ⟨fp', S3, t3⟩ := Sep.store (k := 2) (j := j) (x := (x, xr)) (es := [.int .i64 x, .slice R rn rc]) wrC_len (by decide) S2' (by rw [HKL.out]; exact hlt) zz
      have B3 := Lib.hid (B2.trans (S2'.below 0 rfl t3 zz))
      obtain ⟨es, he, hcell, hfr⟩ := Sep.slot (k := 2) (j := j) wrC_len (by decide) S2' (by rw [HKL.out]; exact hlt)
      match es, he with
      | [y0, y1], _ =>
      have ck := hcell 0 (by decide)
      rw [Nat.add_zero] at ck
      have ck0 : w5.cell? ⟨w.heap.size + 1 + 1, j * 2, none⟩ = some y0 := ck
      have ck1 : w5.cell? ⟨w.heap.size + 1 + 1, j * 2 + 1, none⟩ = some y1 := hcell 1 (by decide)
      have fk0 := hfr (j * 2)
      have fk1 := hfr (j * 2 + 1)
      have S4 := Lib.hid (show Sep ((w5.setCell ⟨w.heap.size + 1 + 1, j * 2, none⟩ (.int .i64 x)).setCell ⟨w.heap.size + 1 + 1, j * 2 + 1, none⟩ (.slice R rn rc)) w.heap.size [.own [waitD ((d.wait.take j ++ List.replicate (n' - j) ((0 : Int), ([] : List Int))).set j (x, xr))] [.slice (some ⟨w.heap.size + 1 + 1, 0, none⟩) n' n'] fp', .blk (w.heap.size + 1) #[.slice none 0 0, .slice none 0 0] 30, .blk w.heap.size #[.slice A n c, .slice (some ⟨b, off, none⟩) n' c'] 30] from S3.swap.tail)
      refine hK _ _ (fun _ => HF1) ?_
      clear S2 S2' S3 t3 o1 b1 hcell hfr ck B2
      clear hK K
      try simp only [Act.put]
      refine wpAnyL_step (i := 7) (by kernel_rfl) rfl rfl ?_
      intro K hK
      go_simp
      refine hK _ _ (fun _ => HF1) ?_
      clear hK K
      try simp only [Act.put]
      refine wpAnyL_step (i := 8) (by kernel_rfl) rfl rfl ?_
      intro K hK
      go_simp
      refine hK _ _ (fun _ => HF1) ?_
      clear hK K
      try simp only [Act.put]
      refine wpAnyL_step (i := 9) (by kernel_rfl) rfl rfl ?_
      intro K hK
      go_simp
      refine hK _ _ (fun h => nomatch (show true = false from h)) ?_
      clear hK K
      try simp only [Act.put]
      refine wpAnyL_done (by kernel_rfl) ?_ _
      go_wp2
      go_roundw
      case rel => exact ⟨j + 1, fp', by omega, by go_num, by rw [HN.out]; exact S4.out, B3.out⟩
      case measure => simp [intOf]; omega
    · have hi : ¬ ((j : Int) < (n' : Int)) := by omega
      have hw : d.wait.take j ++ List.replicate (n' - j) (0, []) = d.wait := by
        rw [show n' - j = 0 by omega, List.replicate_zero, List.append_nil, List.take_of_length_le (by have := HL2.out; omega)]
      rw [hw] at S
      have k0 : wr.cell? ⟨w.heap.size, 0, none⟩ = some (.slice A n c) := (S.at_ 2 rfl).cell 0
      have hk := (h1.keep hbel).up zw
      clear hel2 hw
      go_wp2_with fail
      refine (iRows_any A n c d.kept _ hk hks).mono ?_
      rintro e w2 ⟨kc, rfl, o2, b2⟩
      obtain ⟨fk, S2⟩ := S.has b2 o2 zw
      have B2 := hbel.trans (b2.mono zw)
      have p0 : w2.cell? ⟨w.heap.size + 1, 0, none⟩ = some (.slice none 0 0) := (S2.at_ 2 rfl).cell 0
      have p1 : w2.cell? ⟨w.heap.size + 1, 1, none⟩ = some (.slice none 0 0) := (S2.at_ 2 rfl).cell 1
      have q0 := (S2.at_ 2 rfl).free 0
      have q1 := (S2.at_ 2 rfl).free 1
      have S5 := Lib.hid ((S2.put 2 rfl 0 (.slice (some ⟨wr.heap.size, 0, none⟩) n kc)).put 2 rfl 1 (.slice (some ⟨w.heap.size + 1 + 1, 0, none⟩) n' n')).swap.pair
      have B5 := Lib.hid ((B2.setCell (p := ⟨w.heap.size + 1, 0, none⟩) (by simp) (.slice (some ⟨wr.heap.size, 0, none⟩) n kc)).setCell (p := ⟨w.heap.size + 1, 1, none⟩) (by simp) (.slice (some ⟨w.heap.size + 1 + 1, 0, none⟩) n' n'))
      clear S2 B2 o2 b2 S hk hbel k0
      go_wp2
      refine bodyPost_ret (v := .agg #[.slice (some ⟨wr.heap.size, 0, none⟩) n kc, .slice (some ⟨w.heap.size + 1 + 1, 0, none⟩) n' n']) (by simp [results, Try.results57, go_sem, p0, p1]) rfl ⟨_, n, kc, _, n', n', rfl, S5.out, B5.out⟩

end Go.Proofs.Ytejcpoidoekleaa
