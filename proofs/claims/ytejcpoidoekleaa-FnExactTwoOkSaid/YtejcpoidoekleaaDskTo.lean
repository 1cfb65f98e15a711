/-
  The laws' helpers that copy a disk into new memory.
-/
import Derived.Test.YtejcpoidoekleaaDsk
import Derived.Test.YtejcpoidoekleaaRepM
import Derived.Test.YtejcpoidoekleaaDskEq
namespace Go.Proofs.Ytejcpoidoekleaa
set_option maxRecDepth 100000
open Go.RowKit

theorem fill_step {α : Type} {x0 : α} {l : List α} {n j : Nat} (hl : l.length = n) (hj : j < l.length) : (l.take j ++ List.replicate (n - j) x0).set j l[j] = l.take (j + 1) ++ List.replicate (n - (j + 1)) x0 := by
  obtain ⟨q, hq⟩ : ∃ q, n - j = q + 1 := ⟨n - j - 1, by omega⟩
  rw [hq, show n - (j + 1) = q by omega, List.set_append_right _ _ (by simp; omega), List.length_take, Nat.min_eq_left (Nat.le_of_lt hj), Nat.sub_self, List.replicate_succ, List.take_succ_eq_append_getElem hj]
  simp only [List.set_cons_zero, List.append_assoc, List.cons_append, List.nil_append]

theorem infoWrite : (Try.prog.info? 49).map (fun i => (i.zero, i.size, i.bytes)) = some (some (.agg #[.int .i64 0, .slice none 0 0]), 2, 32) := by kernel_rfl
theorem infoRow : (Try.prog.info? 35).map (fun i => (i.zero, i.size, i.bytes)) = some (some (.slice none 0 0), 1, 24) := by kernel_rfl
theorem ow_nil_row (w : World) : Ow w [rowD []] [.slice none 0 0] [] := Ow.row (n := 0) (us := []) (fp1 := []) (fp2 := []) (World.ownsRow_nil w 0 _ _) .nil .nil
theorem ow_zero_write (w : World) : Ow w (wrC (0, [])) [.int .i64 0, .slice none 0 0] [] := .int (ow_nil_row w)

set_option maxHeartbeats 800000 in
theorem toWrite_any (x : Int) (A : Option Addr) (n c : Nat) (xs : List Int) (w : World) (h : IRow w w.heap.size A n xs) (hn : n ≤ 1048576) :
    Calls Try.prog 119 #[.agg #[.int .i64 x, .slice A n c]] w fun e w' => ∃ A' n' c', e = .returned (.agg #[.int .i64 x, .slice A' n' c']) ∧ Own w' w.heap.size A' n' c' xs ∧ Below w.heap.size w w' := by
  obtain ⟨w0, hw0⟩ : ∃ w0, w0 = ((w.alloc (.cells #[.int .i64 x, .slice A n c] 113)).alloc (.cells #[.int .i64 0, .slice none 0 0] 49)).alloc (.cells #[.int .i64 x, .slice none 0 0] 49) := ⟨_, rfl⟩
  have b0 : Below w.heap.size w w0 := by
    rw [hw0]
    exact (((Below.refl _ w).alloc (Nat.le_refl _) _).alloc (by simp) _).alloc (by simp; omega) _
  have p1 : Blk w0 (w.heap.size + 1) #[.int .i64 0, .slice none 0 0] 49 := by
    rw [hw0]
    have := (Blk.new (w.alloc (.cells #[.int .i64 x, .slice A n c] 113)) #[.int .i64 0, .slice none 0 0] 49).alloc (.cells #[.int .i64 x, .slice none 0 0] 49)
    simpa using this
  have p2 : Blk w0 (w.heap.size + 1 + 1) #[.int .i64 x, .slice none 0 0] 49 := by
    rw [hw0]
    have := Blk.new ((w.alloc (.cells #[.int .i64 x, .slice A n c] 113)).alloc (.cells #[.int .i64 0, .slice none 0 0] 49)) #[.int .i64 x, .slice none 0 0] 49
    simpa using this
  have h0 := (h.below b0).up b0.size
  have HW := Lib.hid hw0
  clear hw0 h
  go_enter Try.func119, Try.ntmps119
  go_wp2_with fail
  rw [← HW.out]
  refine (to_any A n c xs _ h0 hn).mono ?_
  rintro e w1 ⟨rfl, o1, b1⟩
  have z1 := p1.lt
  have z2 := p2.lt
  have q1 := p1.keep b1 p1.lt
  have q2 := p2.keep b1 p2.lt
  have c10 : w1.cell? ⟨w.heap.size + 1, 0, none⟩ = some (.int .i64 0) := q1.cell 0
  have c11 : w1.cell? ⟨w.heap.size + 1, 1, none⟩ = some (.slice none 0 0) := q1.cell 1
  have f10 := q1.free 0
  have f11 := q1.free 1
  have c20 : w1.cell? ⟨w.heap.size + 1 + 1, 0, none⟩ = some (.int .i64 x) := q2.cell 0
  have c21 : w1.cell? ⟨w.heap.size + 1 + 1, 1, none⟩ = some (.slice none 0 0) := q2.cell 1
  have f21 := q2.free 1
  have hne : w.heap.size + 1 + 1 ≠ w.heap.size + 1 := by omega
  have O5 := Lib.hid (((o1.kept (grown_setCell w1 (w.heap.size + 1 + 1) 1 (.slice (some ⟨w0.heap.size, 0, none⟩) n n)) (fun p hp => by injection hp with hp; omega)).kept (grown_setCell _ (w.heap.size + 1) 0 (.int .i64 x)) (fun p hp => by injection hp with hp; omega)).kept (grown_setCell _ (w.heap.size + 1) 1 (.slice (some ⟨w0.heap.size, 0, none⟩) n n)) (fun p hp => by injection hp with hp; omega))
  have B5 := Lib.hid ((((b0.trans (b1.mono b0.size)).setCell (p := ⟨w.heap.size + 1 + 1, 1, none⟩) (by show w.heap.size ≤ w.heap.size + 1 + 1; omega) (.slice (some ⟨w0.heap.size, 0, none⟩) n n)).setCell (p := ⟨w.heap.size + 1, 0, none⟩) (by simp) (.int .i64 x)).setCell (p := ⟨w.heap.size + 1, 1, none⟩) (by simp) (.slice (some ⟨w0.heap.size, 0, none⟩) n n))
  clear h0 p1 p2 q1 q2 o1 b1 b0 HW
  go_wp2
  refine bodyPost_ret (v := .agg #[.int .i64 x, .slice (some ⟨w0.heap.size, 0, none⟩) n n]) (by simp [results, Try.results119, go_sem, c10, c11]) rfl ⟨_, n, n, rfl, O5.out.up (by omega), B5.out⟩

set_option maxHeartbeats 1600000 in
theorem toWriteS_any (A : Option Addr) (n c : Nat) (l : List (Int × List Int)) (w : World) (h : Rd w w.heap.size [waitD l] [.slice A n c]) (hs : waitSz l ≤ 1048576) :
    Calls Try.prog 105 #[.slice A n c] w fun e w' => ∃ v, e = .returned v ∧ Has w' w.heap.size [waitD l] [v] ∧ Below w.heap.size w w' := by
  obtain ⟨A', n', c', e, hl, hnc, hcm, hel⟩ := h.wait
  injection e with e1 e2 e3
  subst e1 e2 e3
  have hn : n ≤ 1048576 := by unfold waitSz at hs; omega
  have HS := Lib.hid hs
  have HL := Lib.hid hl
  have hmk := run_make_k (P := Try.prog) 28 49 (.agg #[.int .i64 0, .slice none 0 0]) #[.int .i64 0, .slice none 0 0] 2 32 Try.underlying28 infoWrite rfl .i64 .i64 n (by omega) (by omega)
  have O0 := Lib.hid (ow_made (w := w) (e := 49) (f := wrC) (x0 := ((0 : Int), ([] : List Int))) (zc := #[.int .i64 0, .slice none 0 0]) (k := 2) rfl (by decide) n (by simp only [maxLen]; omega) ow_zero_write)
  have B0 := Lib.hid ((Below.refl w.heap.size w).alloc (Nat.le_refl _) (.cells (madeCells #[.int .i64 0, .slice none 0 0] (n * 2)) 49))
  clear hl hs h
  go_enter Try.func105, Try.ntmps105
  go_wp2
  go_loopw [4] (fun i wr => ∃ (j : Nat) (fp : List Nat), j ≤ n ∧ i = .int .i64 (j : Int) ∧ Ow wr [waitD (l.take j ++ List.replicate (n - j) (0, []))] [.slice (some ⟨w.heap.size, 0, none⟩) n n] fp ∧ fp.Nodup ∧ (∀ p ∈ fp, w.heap.size ≤ p) ∧ Below w.heap.size w wr) (fun i _ => n - (intOf i).toNat)
  case atStart => exact ⟨0, _, Nat.zero_le _, rfl, O0.out, by simp, by simp, B0.out⟩
  case round =>
    obtain ⟨j, fp, hj, rfl, hown, hnd, hge, hbel⟩ := hrel
    clear hmk O0 B0
    by_cases hlt : j < n
    · obtain ⟨b, off, rfl, hb, hc⟩ := hel (by omega)
      have hjl : j < l.length := by have := HL.out; omega
      obtain ⟨A1, m1, d1, hc0, hc1, hrow, _⟩ := hc j hjl
      have cs0 := (hbel.cell (p := ⟨b, off + j * 2, none⟩) hb).trans hc0
      have cs1 := (hbel.cell (p := ⟨b, off + j * 2 + 1, none⟩) hb).trans hc1
      have hr1 := (hrow.below hbel).up hbel.size
      have hm1 : m1 ≤ 1048576 := by
        have h1 := pre_at (g := wrSz) hjl
        have h2 := HS.out
        have h3 := hrow.1
        have h4 : wrSz l[j] = l[j].2.length := rfl
        unfold waitSz at h2
        omega
      obtain ⟨x, hx⟩ : ∃ x, x = l[j].1 := ⟨_, rfl⟩
      obtain ⟨xs, hxs⟩ : ∃ xs, xs = l[j].2 := ⟨_, rfl⟩
      rw [← hx] at cs0
      rw [← hxs] at hr1
      have HX := Lib.hid (show l[j] = (x, xs) by rw [hx, hxs])
      clear hx hxs hc hc0 hc1 hrow
      go_wp2_with fail
      refine (toWrite_any x A1 m1 d1 xs _ hr1 hm1).mono ?_
      rintro e w1 ⟨A2, n2, c2, rfl, o1, b1⟩
      have hown1 := hown.keep b1
      have hl2 : (l.take j ++ List.replicate (n - j) ((0 : Int), ([] : List Int))).length = n := by simp; have := HL.out; omega
      obtain ⟨es, he, hcell, hfr⟩ := Ow.slots (k := 2) wrC_len (by decide) hown1 (j := j) (by omega)
      have ck0 := hcell 0 (by decide)
      have ck1 := hcell 1 (by decide)
      rw [Nat.add_zero] at ck0
      match es, he with
      | [y0, y1], _ =>
      have ck0' : w1.cell? ⟨w.heap.size, j * 2, none⟩ = some y0 := ck0
      have ck1' : w1.cell? ⟨w.heap.size, j * 2 + 1, none⟩ = some y1 := ck1
      have fk0 := hfr (j * 2)
      have fk1 := hfr (j * 2 + 1)
      have ho : Ow w1 (wrC (x, xs)) [.int .i64 x, .slice A2 n2 c2] (Value.slice A2 n2 c2).ownBlock.toList := .int o1.ow
      have hfresh : ∀ p ∈ (Value.slice A2 n2 c2).ownBlock.toList, wr.heap.size ≤ p := fun p hp => (o1.ge p (by simpa using hp)).1
      have hold := hown.lt
      obtain ⟨ht, fp', hfin, hnd', hsub⟩ := Ow.store (k := 2) wrC_len (by decide) hown1 hnd (j := j) (x := (x, xs)) (by omega) ho (by cases (Value.slice A2 n2 c2).ownBlock <;> simp) (fun p hp hm => by have := hfresh p hp; have := hold p hm; omega)
      have z := hbel.size
      have R1 := Lib.hid (show Ow (puts w1 w.heap.size (j * 2) [.int .i64 x, .slice A2 n2 c2]) [waitD (l.take (j + 1) ++ List.replicate (n - (j + 1)) (0, []))] [.slice (some ⟨w.heap.size, 0, none⟩) n n] fp' by
        have h1 := fill_step (x0 := ((0 : Int), ([] : List Int))) HL.out hjl
        rw [HX.out] at h1
        rw [← h1]
        exact hfin)
      have R2 := Lib.hid (show ∀ p ∈ fp', w.heap.size ≤ p from fun p hp => by
        rcases hsub p hp with h | h
        · exact hge p h
        · have := hfresh p h; omega)
      have b01 := hbel.trans (b1.mono hbel.size)
      have R3 := Lib.hid (show Below w.heap.size w (puts w1 w.heap.size (j * 2) [.int .i64 x, .slice A2 n2 c2]) from b01.trans (ht.below (by simp) b01.size))
      have R4 := Lib.hid hnd'
      clear hown hown1 hfin hnd' hsub ht ho o1 b1 b01 hcell hfr ck0 ck1 hbel hl2 hfresh hold hr1
      go_wp2
      go_roundw
      case rel => exact ⟨j + 1, fp', by omega, by go_num, R1.out, R4.out, R2.out, R3.out⟩
      case measure => simp [intOf]; omega
    · go_wp2
      go_ret
      refine ⟨_, rfl, ⟨fp, ?_, hnd, hge⟩, hbel⟩
      have e : n - j = 0 := by omega
      rw [e, List.replicate_zero, List.append_nil, List.take_of_length_le (by have := HL.out; omega)] at hown
      exact hown

set_option maxHeartbeats 1600000 in
theorem toRows_any (A : Option Addr) (n c : Nat) (l : List (List Int)) (w : World) (h : Rd w w.heap.size [keptD l] [.slice A n c]) (hs : rowsSz l ≤ 1048576) :
    Calls Try.prog 104 #[.slice A n c] w fun e w' => ∃ v, e = .returned v ∧ Has w' w.heap.size [keptD l] [v] ∧ Below w.heap.size w w' := by
  obtain ⟨A', n', c', e, hl, hnc, hcm, hel⟩ := h.kept
  injection e with e1 e2 e3
  subst e1 e2 e3
  have hn : n ≤ 1048576 := by unfold rowsSz at hs; omega
  have HS := Lib.hid hs
  have HL := Lib.hid hl
  have hmk := run_make_k (P := Try.prog) 27 35 (.slice none 0 0) #[.slice none 0 0] 1 24 Try.underlying27 infoRow rfl .i64 .i64 n (by omega) (by omega)
  rw [Nat.mul_one] at hmk
  have hmd := ow_made (w := w) (e := 35) (f := rowC) (x0 := ([] : List Int)) (zc := #[.slice none 0 0]) (k := 1) rfl (by decide) n (by simp only [maxLen]; omega) ow_nil_row
  rw [Nat.mul_one] at hmd
  have O0 := Lib.hid hmd
  have B0 := Lib.hid ((Below.refl w.heap.size w).alloc (Nat.le_refl _) (.cells (madeCells #[.slice none 0 0] n) 35))
  clear hl hs h hmd
  go_enter Try.func104, Try.ntmps104
  go_wp2
  go_loopw [4] (fun i wr => ∃ (j : Nat) (fp : List Nat), j ≤ n ∧ i = .int .i64 (j : Int) ∧ Ow wr [keptD (l.take j ++ List.replicate (n - j) [])] [.slice (some ⟨w.heap.size, 0, none⟩) n n] fp ∧ fp.Nodup ∧ (∀ p ∈ fp, w.heap.size ≤ p) ∧ Below w.heap.size w wr) (fun i _ => n - (intOf i).toNat)
  case atStart => exact ⟨0, _, Nat.zero_le _, rfl, O0.out, by simp, by simp, B0.out⟩
  case round =>
    obtain ⟨j, fp, hj, rfl, hown, hnd, hge, hbel⟩ := hrel
    clear hmk O0 B0
    by_cases hlt : j < n
    · obtain ⟨b, off, rfl, hb, hc⟩ := hel (by omega)
      have hjl : j < l.length := by have := HL.out; omega
      obtain ⟨A1, m1, d1, hc0, hrow, _⟩ := hc j hjl
      have cs0 := (hbel.cell (p := ⟨b, off + j, none⟩) hb).trans hc0
      have hr1 := (hrow.below hbel).up hbel.size
      have hm1 : m1 ≤ 1048576 := by
        have h1 := pre_at (g := List.length) hjl
        have h2 := HS.out
        have h3 := hrow.1
        unfold rowsSz at h2
        omega
      obtain ⟨xs, hxs⟩ : ∃ xs, xs = l[j] := ⟨_, rfl⟩
      rw [← hxs] at hr1
      have HX := Lib.hid hxs.symm
      clear hxs hc hc0 hrow
      go_wp2_with fail
      refine (to_any A1 m1 d1 xs _ hr1 hm1).mono ?_
      rintro e w1 ⟨rfl, o1, b1⟩
      have hown1 := hown.keep b1
      have hl2 : (l.take j ++ List.replicate (n - j) ([] : List Int)).length = n := by simp; have := HL.out; omega
      obtain ⟨es, he, hcell, hfr⟩ := Ow.slots (k := 1) rowC_len (by decide) hown1 (j := j) (by omega)
      have ck0 := hcell 0 (by decide)
      rw [Nat.add_zero, Nat.mul_one] at ck0
      match es, he with
      | [y0], _ =>
      have ck0' : w1.cell? ⟨w.heap.size, j, none⟩ = some y0 := ck0
      have fk0 := hfr j
      have hfresh : ∀ p ∈ (Value.slice (some ⟨wr.heap.size, 0, none⟩) m1 m1).ownBlock.toList, wr.heap.size ≤ p := fun p hp => (o1.ge p (by simpa using hp)).1
      have hold := hown.lt
      obtain ⟨ht, fp', hfin, hnd', hsub⟩ := Ow.store (k := 1) rowC_len (by decide) hown1 hnd (j := j) (x := xs) (by omega) o1.ow (by simp [Value.ownBlock]) (fun p hp hm => by have := hfresh p hp; have := hold p hm; omega)
      rw [Nat.mul_one] at ht hfin
      have z := hbel.size
      have R1 := Lib.hid (show Ow (puts w1 w.heap.size j [.slice (some ⟨wr.heap.size, 0, none⟩) m1 m1]) [keptD (l.take (j + 1) ++ List.replicate (n - (j + 1)) [])] [.slice (some ⟨w.heap.size, 0, none⟩) n n] fp' by
        have h1 := fill_step (x0 := ([] : List Int)) HL.out hjl
        rw [HX.out] at h1
        rw [← h1]
        exact hfin)
      have R2 := Lib.hid (show ∀ p ∈ fp', w.heap.size ≤ p from fun p hp => by
        rcases hsub p hp with h | h
        · exact hge p h
        · have := hfresh p h; omega)
      have b01 := hbel.trans (b1.mono hbel.size)
      have R3 := Lib.hid (show Below w.heap.size w (puts w1 w.heap.size j [.slice (some ⟨wr.heap.size, 0, none⟩) m1 m1]) from b01.trans (ht.below (by simp) b01.size))
      have R4 := Lib.hid hnd'
      clear hown hown1 hfin hnd' hsub ht o1 b1 b01 hcell hfr ck0 hbel hl2 hfresh hold hr1
      go_wp2
      go_roundw
      case rel => exact ⟨j + 1, fp', by omega, by go_num, R1.out, R4.out, R2.out, R3.out⟩
      case measure => simp [intOf]; omega
    · go_wp2
      go_ret
      refine ⟨_, rfl, ⟨fp, ?_, hnd, hge⟩, hbel⟩
      have e : n - j = 0 := by omega
      rw [e, List.replicate_zero, List.append_nil, List.take_of_length_le (by have := HL.out; omega)] at hown
      exact hown

set_option maxHeartbeats 1600000 in
theorem toDisk_any (v0 v1 : Value) (d : DiskM) (w : World) (h : Rd w w.heap.size d.cells [v0, v1]) (hs : d.sz ≤ 1048576) :
    Calls Try.prog 73 #[.agg #[v0, v1]] w fun e w' => ∃ u0 u1, e = .returned (.agg #[u0, u1]) ∧ Has w' w.heap.size d.cells [u0, u1] ∧ Below w.heap.size w w' := by
  obtain ⟨A, n, c, A', n', c', rfl, rfl, h1, h2⟩ := h.disk
  obtain ⟨w0, hw0⟩ : ∃ w0, w0 = ((w.alloc (.cells #[.slice A n c, .slice A' n' c'] 53)).alloc (.cells #[.slice none 0 0, .slice none 0 0] 30)).alloc (.cells #[.slice none 0 0, .slice none 0 0] 30) := ⟨_, rfl⟩
  have b0 : Below w.heap.size w w0 := by
    rw [hw0]
    exact (((Below.refl _ w).alloc (Nat.le_refl _) _).alloc (by simp) _).alloc (by simp; omega) _
  have p0 : Blk w0 w.heap.size #[.slice A n c, .slice A' n' c'] 53 := by
    rw [hw0]
    exact ((Blk.new w _ _).alloc _).alloc _
  have p1 : Blk w0 (w.heap.size + 1) #[.slice none 0 0, .slice none 0 0] 30 := by
    rw [hw0]
    have := (Blk.new (w.alloc (.cells #[.slice A n c, .slice A' n' c'] 53)) #[.slice none 0 0, .slice none 0 0] 30).alloc (.cells #[.slice none 0 0, .slice none 0 0] 30)
    simpa using this
  have p2 : Blk w0 (w.heap.size + 1 + 1) #[.slice none 0 0, .slice none 0 0] 30 := by
    rw [hw0]
    have := Blk.new ((w.alloc (.cells #[.slice A n c, .slice A' n' c'] 53)).alloc (.cells #[.slice none 0 0, .slice none 0 0] 30)) #[.slice none 0 0, .slice none 0 0] 30
    simpa using this
  have hk : rowsSz d.kept ≤ 1048576 := by unfold DiskM.sz at hs; omega
  have hw : waitSz d.wait ≤ 1048576 := by unfold DiskM.sz at hs; omega
  have HW := Lib.hid hw0
  have z0 := p2.lt
  clear hw0 hs h
  go_enter Try.func73, Try.ntmps73
  go_wp2_with fail
  rw [← HW.out]
  refine (toRows_any A n c d.kept _ ((h1.keep b0).up b0.size) hk).mono ?_
  rintro e w1 ⟨u0, rfl, o1, b1⟩
  have b01 := b0.trans (b1.mono b0.size)
  have z1 := b1.size
  have q0 := (p0.keep b1 p0.lt).far (q := w.heap.size + 1 + 1) (i := 0) u0 (by omega)
  have q1 := (p1.keep b1 p1.lt).far (q := w.heap.size + 1 + 1) (i := 0) u0 (by omega)
  have q2' := p2.keep b1 p2.lt
  have ca : w1.cell? ⟨w.heap.size + 1 + 1, 0, none⟩ = some (.slice none 0 0) := q2'.cell 0
  have fa := q2'.free 0
  have q2 : Blk (w1.setCell ⟨w.heap.size + 1 + 1, 0, none⟩ u0) (w.heap.size + 1 + 1) #[u0, .slice none 0 0] 30 := q2'.set_ 0 u0
  have o2 := o1.far (p := w.heap.size + 1 + 1) (i := 0) u0 z0
  have b02 := b01.setCell (p := ⟨w.heap.size + 1 + 1, 0, none⟩) (by show w.heap.size ≤ w.heap.size + 1 + 1; omega) u0
  have cb : (w1.setCell ⟨w.heap.size + 1 + 1, 0, none⟩ u0).cell? ⟨w.heap.size, 1, none⟩ = some (.slice A' n' c') := q0.cell 1
  obtain ⟨A1, n1, c1, ru0⟩ : ∃ A1 n1 c1, u0 = .slice A1 n1 c1 := by
    obtain ⟨A1, n1, c1, e, _⟩ := o1.rd.kept
    exact ⟨A1, n1, c1, e⟩
  subst ru0
  have hsz : (w1.setCell ⟨w.heap.size + 1 + 1, 0, none⟩ (.slice A1 n1 c1)).heap.size = w1.heap.size := by simp
  have HSZ := Lib.hid hsz
  clear p0 p1 p2 q2' o1 b1 hsz q0
  go_wp2_with fail
  generalize w1.setCell ⟨w.heap.size + 1 + 1, 0, none⟩ (.slice A1 n1 c1) = v1 at *
  have zv := b02.size
  refine (toWriteS_any A' n' c' d.wait _ ((h2.keep b02).up b02.size) hw).mono ?_
  rintro e w2 ⟨u1, rfl, o3, b3⟩
  have z3 := b3.size
  have hv1 := HSZ.out
  have j3 := Has.join o2 b3 o3 (by omega)
  have r1 := q1.keep b3 q1.lt
  have r2 := q2.keep b3 q2.lt
  have b03 := b02.trans (b3.mono b02.size)
  obtain ⟨A2, n2, c2, ru1⟩ : ∃ A2 n2 c2, u1 = .slice A2 n2 c2 := by
    obtain ⟨A2, n2, c2, e, _⟩ := o3.rd.wait
    exact ⟨A2, n2, c2, e⟩
  subst ru1
  have d10 : w2.cell? ⟨w.heap.size + 1, 0, none⟩ = some (.slice none 0 0) := r1.cell 0
  have d11 : w2.cell? ⟨w.heap.size + 1, 1, none⟩ = some (.slice none 0 0) := r1.cell 1
  have f10 := r1.free 0
  have f11 := r1.free 1
  have d20 : w2.cell? ⟨w.heap.size + 1 + 1, 0, none⟩ = some (.slice A1 n1 c1) := r2.cell 0
  have d21 : w2.cell? ⟨w.heap.size + 1 + 1, 1, none⟩ = some (.slice none 0 0) := r2.cell 1
  have f21 := r2.free 1
  have hne : w.heap.size + 1 + 1 ≠ w.heap.size + 1 := by omega
  have O5 := Lib.hid (((j3.far (p := w.heap.size + 1 + 1) (i := 1) (.slice A2 n2 c2) (by omega)).far (p := w.heap.size + 1) (i := 0) (.slice A1 n1 c1) (by omega)).far (p := w.heap.size + 1) (i := 1) (.slice A2 n2 c2) (by omega))
  have B5 := Lib.hid (((b03.setCell (p := ⟨w.heap.size + 1 + 1, 1, none⟩) (by show w.heap.size ≤ w.heap.size + 1 + 1; omega) (.slice A2 n2 c2)).setCell (p := ⟨w.heap.size + 1, 0, none⟩) (by simp) (.slice A1 n1 c1)).setCell (p := ⟨w.heap.size + 1, 1, none⟩) (by simp) (.slice A2 n2 c2))
  clear o2 q1 q2 o3 b3 j3 r1 r2 b03 b02 b01 b0 HSZ hv1 ca fa cb HW h1 h2
  go_wp2
  refine bodyPost_ret (v := .agg #[.slice A1 n1 c1, .slice A2 n2 c2]) (by simp [results, Try.results73, go_sem, d10, d11]) rfl ⟨_, _, rfl, O5.out.up (by omega), B5.out⟩

end Go.Proofs.Ytejcpoidoekleaa
