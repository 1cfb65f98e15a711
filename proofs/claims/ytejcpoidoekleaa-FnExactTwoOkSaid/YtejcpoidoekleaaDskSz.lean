/-
  Disks marked and looked at as a whole; and the laws' helpers that count a disk's numbers against a purse.
-/
import Derived.Test.YtejcpoidoekleaaDskMk
namespace Go.Proofs.Ytejcpoidoekleaa
set_option maxRecDepth 100000
open Go.RowKit

def DiskM.n (d : DiskM) : Nat := nums rowNs d.kept d.kept.length + nums wrNs d.wait d.wait.length
def MarkedD (d : DiskM) (k : Int) : Prop := d.kept.flatMap rowNs = upFrom k (d.kept.flatMap rowNs).length ∧ d.wait.flatMap wrNs = upFrom (k + (nums rowNs d.kept d.kept.length : Int)) (d.wait.flatMap wrNs).length

theorem rowsSz_map {l l' : List (List Int)} (h : l'.map (fun r => (rowNs r).length) = l.map (fun r => (rowNs r).length)) : rowsSz l' = rowsSz l := by
  have hl : l'.length = l.length := by simpa using congrArg List.length h
  have h1 : l'.map List.length = l.map List.length := h
  unfold rowsSz
  rw [h1, hl]
theorem waitSz_eq (l : List (Int × List Int)) : waitSz l = (l.map (fun r => (wrNs r).length)).sum := (waitN_eq l).symm
theorem waitSz_map {l l' : List (Int × List Int)} (h : l'.map (fun r => (wrNs r).length) = l.map (fun r => (wrNs r).length)) : waitSz l' = waitSz l := by rw [waitSz_eq, waitSz_eq, h]
theorem nums_le_rows (l : List (List Int)) : nums rowNs l l.length ≤ rowsSz l := by
  unfold nums rowsSz
  rw [pre_all]
  exact Nat.le_add_left _ _
theorem nums_le_wait (l : List (Int × List Int)) : nums wrNs l l.length = waitSz l := by
  unfold nums
  rw [pre_all, waitSz_eq]
theorem len_of_map {α : Type} {g : α → Nat} {l l' : List α} (h : l'.map g = l.map g) : l'.length = l.length := by simpa using congrArg List.length h

set_option maxHeartbeats 1600000 in
theorem markDisk_any (v0 v1 : Value) (d : DiskM) (fp : List Nat) (w : World) (o : Ow w d.cells [v0, v1] fp) (hnd : fp.Nodup) (hs : d.sz ≤ 1048577) (k : Int) (k0 : 0 ≤ k) (k1 : k ≤ 100000000000) :
    Calls Try.prog 76 #[.agg #[v0, v1], .int .i64 k] w fun e w' => ∃ d', e = .returned (.int .i64 (k + (d.n : Int))) ∧ Ow w' d'.cells [v0, v1] fp ∧ Touch fp w w' ∧ MarkedD d' k ∧ d'.n = d.n ∧ d'.sz = d.sz := by
  obtain ⟨A, n, c, A', n', c', rfl, rfl, _, _⟩ := o.rd.disk
  have hk : rowsSz d.kept ≤ 1048577 := by unfold DiskM.sz at hs; omega
  have hw : waitSz d.wait ≤ 1048577 := by unfold DiskM.sz at hs; omega
  have hk2 := nums_le_rows d.kept
  obtain ⟨w0, hw0⟩ : ∃ w0, w0 = w.alloc (.cells #[.slice A n c, .slice A' n' c'] 30) := ⟨_, rfl⟩
  have b0 : Below w.heap.size w w0 := by rw [hw0]; exact (Below.refl _ w).alloc (Nat.le_refl _) _
  have p0 : Blk w0 w.heap.size #[.slice A n c, .slice A' n' c'] 30 := by rw [hw0]; exact Blk.new w _ _
  have hlt := o.lt
  obtain ⟨x1, x2, f1, f2, ex, rfl, o1, o2⟩ := Ow.split (ds := [keptD d.kept]) (ds' := [waitD d.wait]) (o.keep b0)
  have l1 := o1.len
  have l2 := o2.len
  match x1, x2, l1, l2 with
  | [y1], [y2], _, _ =>
  injection ex with e1 e2
  injection e2 with e2 _
  subst e1 e2
  rw [List.nodup_append] at hnd
  obtain ⟨hn1, hn2, hdis⟩ := hnd
  have HW := Lib.hid hw0
  clear hw0 o hs
  go_enter Try.func76, Try.ntmps76
  go_wp2_with fail
  rw [← HW.out]
  refine (markRows_any _ d.kept f1 _ o1 hn1 hk k k0 (by omega)).mono ?_
  rintro e w1 ⟨l', rfl, q1, t1, m1, m2⟩
  have q2 := o2.touch t1 (fun p hp hm => hdis p hm p hp rfl)
  have p1 := p0.touch t1 (fun hm => by have := hlt _ (List.mem_append_left _ hm); omega)
  have c1 : w1.cell? ⟨w.heap.size, 1, none⟩ = some (.slice A' n' c') := p1.cell 1
  clear p0 p1 o1 o2
  go_wp2_with fail
  refine (markWrites_any _ d.wait f2 _ q2 hn2 hw _ (by omega) (by omega)).mono ?_
  rintro e w2 ⟨m', rfl, r2, t2, m3, m4⟩
  have r1 := q1.touch t2 (fun p hp hm => hdis p hp p hm rfl)
  have T := Lib.hid (((Touch.of_below b0 (f1 ++ f2)).trans (t1.mono fun p hp => List.mem_append_left _ hp)).trans (t2.mono fun p hp => List.mem_append_right _ hp))
  have R := Lib.hid (Ow.append r1 r2)
  have M1 := Lib.hid m1
  have M2 := Lib.hid m2
  have M3 := Lib.hid m3
  have M4 := Lib.hid m4
  clear q1 q2 r1 r2 t1 t2 m1 m2 m3 m4 c1
  go_wp2
  go_ret
  have en1 := nums_map M1.out d.kept.length
  have en2 := nums_map M3.out d.wait.length
  have el1 := len_of_map M1.out
  have el2 := len_of_map M3.out
  rw [← el1] at en1
  rw [← el2] at en2
  refine ⟨⟨l', m'⟩, ?_, R.out, T.out, ⟨?_, ?_⟩, ?_, ?_⟩
  · refine congrArg Ending.returned (congrArg (Value.int .i64) ?_)
    show _ = k + ((nums rowNs d.kept d.kept.length + nums wrNs d.wait d.wait.length : Nat) : Int)
    omega
  · show l'.flatMap rowNs = upFrom k (l'.flatMap rowNs).length
    rw [M2.out, upFrom_length]
  · show m'.flatMap wrNs = upFrom (k + (nums rowNs l' l'.length : Int)) (m'.flatMap wrNs).length
    rw [M4.out, upFrom_length, en1, el1]
  · show nums rowNs l' l'.length + nums wrNs m' m'.length = nums rowNs d.kept d.kept.length + nums wrNs d.wait d.wait.length
    rw [en1, en2, el1, el2]
  · show rowsSz l' + waitSz m' = rowsSz d.kept + waitSz d.wait
    rw [rowsSz_map M1.out, waitSz_map M3.out]

set_option maxHeartbeats 1600000 in
theorem heldDisk_any (v0 v1 : Value) (d : DiskM) (B : Nat) (w : World) (h : Rd w B d.cells [v0, v1]) (hB : B ≤ w.heap.size) (hs : d.sz ≤ 1048577) (k : Int) (k0 : 0 ≤ k) (k1 : k ≤ 100000000000) (hm : MarkedD d k) :
    Calls Try.prog 77 #[.agg #[v0, v1], .int .i64 k] w fun e w' => e = .returned (.int .i64 (k + (d.n : Int))) ∧ Below w.heap.size w w' := by
  obtain ⟨A, n, c, A', n', c', rfl, rfl, h1, h2⟩ := h.disk
  have hk : rowsSz d.kept ≤ 1048577 := by unfold DiskM.sz at hs; omega
  have hw : waitSz d.wait ≤ 1048577 := by unfold DiskM.sz at hs; omega
  have hk2 := nums_le_rows d.kept
  have hk3 := nums_le_wait d.wait
  have b0 : Below w.heap.size w (w.alloc (.cells #[.slice A n c, .slice A' n' c'] 30)) := (Below.refl _ w).alloc (Nat.le_refl _) _
  have r1 := h1.keep (b0.mono hB)
  have r2 := h2.keep (b0.mono hB)
  have B0 := Lib.hid b0
  obtain ⟨m1, m2⟩ := hm
  have M2 := Lib.hid m2
  have HD := Lib.hid (show d.n = nums rowNs d.kept d.kept.length + nums wrNs d.wait d.wait.length from rfl)
  clear h h1 h2 b0 hs m2
  go_enter Try.func77, Try.ntmps77
  go_wp2_with fail
  refine (heldRows_any _ d.kept B _ r1 hk k k0 (by omega) m1).mono ?_
  rintro e w1 ⟨rfl, rfl⟩
  have q0 : ¬ (k + (nums rowNs d.kept d.kept.length : Int) < 0) := by omega
  clear r1 m1
  go_wp2_with fail
  refine (heldWrites_any _ d.wait B _ r2 hw _ (by omega) (by omega) M2.out).mono ?_
  rintro e w2 ⟨rfl, rfl⟩
  have q1 : ¬ (k + (nums rowNs d.kept d.kept.length : Int) + (nums wrNs d.wait d.wait.length : Int) < 0) := by omega
  clear r2
  go_wp2
  go_ret
  refine ⟨congrArg Ending.returned (congrArg (Value.int .i64) ?_), B0.out⟩
  rw [HD.out]
  omega

/-! ### Counting -/

theorem szRow_any (A : Option Addr) (m c : Nat) (L : Int) (w : World) (l0 : 0 ≤ L) (l1 : L ≤ 1048576) (hm : m ≤ maxLen) :
    Calls Try.prog 117 #[.slice A m c, .int .i64 L] w fun e w' => e = .returned (.int .i64 (left L m)) ∧ w = w' := by
  unfold maxLen at hm
  by_cases h : (m : Int) ≤ L
  · rw [left, if_pos h]
    go_enter Try.func117, Try.ntmps117
    go_wp2
    go_ret
    exact ⟨rfl, rfl⟩
  · rw [left, if_neg h]
    go_enter Try.func117, Try.ntmps117
    go_wp2
    go_ret
    exact ⟨rfl, rfl⟩

theorem szWrite_any (x : Int) (A : Option Addr) (m c : Nat) (L : Int) (w : World) (l0 : 0 ≤ L) (l1 : L ≤ 1048576) (hm : m ≤ maxLen) :
    Calls Try.prog 118 #[.agg #[.int .i64 x, .slice A m c], .int .i64 L] w fun e w' => e = .returned (.int .i64 (left L m)) ∧ Below w.heap.size w w' := by
  have B0 := Lib.hid ((Below.refl w.heap.size w).alloc (Nat.le_refl _) (.cells #[.int .i64 x, .slice A m c] 113))
  by_cases h : (m : Int) ≤ L
  · have HL := Lib.hid (show left L m = L - (m : Int) by rw [left, if_pos h])
    go_enter Try.func118, Try.ntmps118
    go_wp2_with fail
    refine (szRow_any A m c L _ l0 l1 hm).mono ?_
    rintro e w1 ⟨rfl, rfl⟩
    rw [HL.out]
    have q0 : ¬ (L - (m : Int) < 0) := by omega
    go_wp2
    go_ret
    exact ⟨ret_i64 HL.out.symm, B0.out⟩
  · have HL := Lib.hid (show left L m = -1 by rw [left, if_neg h])
    go_enter Try.func118, Try.ntmps118
    go_wp2_with fail
    refine (szRow_any A m c L _ l0 l1 hm).mono ?_
    rintro e w1 ⟨rfl, rfl⟩
    rw [HL.out]
    go_wp2
    go_ret
    exact ⟨ret_i64 HL.out.symm, B0.out⟩

set_option maxHeartbeats 1600000 in
theorem szRows_any (A : Option Addr) (n c B : Nat) (l : List (List Int)) (L : Int) (w : World) (h : Rd w B [keptD l] [.slice A n c]) (l0 : 0 ≤ L) (l1 : L ≤ 1048576) :
    Calls Try.prog 102 #[.slice A n c, .int .i64 L] w fun e w' => e = .returned (.int .i64 (left L (rowsSz l))) ∧ w = w' := by
  obtain ⟨_, _, _, e, hl, hnc, hcm, hel⟩ := h.kept
  injection e with e1 e2 e3
  subst e1 e2 e3
  have hnm : n ≤ maxLen := Nat.le_trans hnc hcm
  unfold maxLen at hnm
  have HL := Lib.hid hl
  clear h hl
  by_cases hbig : L < (n : Int)
  · have HZ := Lib.hid (show left L (rowsSz l) = -1 by
      unfold left rowsSz
      rw [if_neg]
      have := HL.out
      omega)
    clear hel
    go_enter Try.func102, Try.ntmps102
    go_wp2
    go_ret
    exact ⟨ret_i64 HZ.out.symm, rfl⟩
  · go_enter Try.func102, Try.ntmps102
    go_wp2
    go_loop [1, 5] (fun q i => ∃ j : Nat, j ≤ n ∧ i = .int .i64 (j : Int) ∧ (n : Int) + (pre List.length l j : Int) ≤ L ∧ q = .int .i64 (L - ((n : Int) + (pre List.length l j : Int)))) (fun _ i => n - (intOf i).toNat)
    case atStart => exact ⟨0, Nat.zero_le _, rfl, by rw [pre_zero]; omega, by rw [pre_zero]; go_num⟩
    case round =>
      obtain ⟨j, hj, rfl, hle, rfl⟩ := hrel
      by_cases hlt : j < n
      · obtain ⟨b, off, rfl, hb, hc⟩ := hel (by omega)
        have hjl : j < l.length := by have := HL.out; omega
        obtain ⟨A1, m1, d1, hcell, hrow, hm1, hm2⟩ := hc j hjl
        have hml := hrow.1
        have hs : pre List.length l (j + 1) = pre List.length l j + m1 := by rw [pre_succ hjl, hml]
        have hmono := pre_at (g := List.length) hjl
        rw [hml] at hmono
        have HSum := Lib.hid hmono
        have HJ := Lib.hid hs
        have hmm : m1 ≤ maxLen := Nat.le_trans hm1 hm2
        generalize hP : pre List.length l j = P at *
        clear hc hrow hml hs hmono hel hm1 hm2 hP
        by_cases hfit : (m1 : Int) ≤ L - ((n : Int) + (P : Int))
        · have HF := Lib.hid (show left (L - ((n : Int) + (P : Int))) m1 = L - ((n : Int) + (P : Int)) - (m1 : Int) by rw [left, if_pos hfit])
          go_wp2_with fail
          refine (szRow_any A1 m1 d1 _ _ (by omega) (by omega) hmm).mono ?_
          rintro e w1 ⟨rfl, rfl⟩
          rw [HF.out]
          have q0 : ¬ (L - ((n : Int) + (P : Int)) - (m1 : Int) < 0) := by omega
          go_wp2
          go_round
          case rel => exact ⟨j + 1, by omega, by go_num, by rw [HJ.out]; omega, by rw [HJ.out]; go_num⟩
          case measure => simp [intOf]; omega
        · have HF := Lib.hid (show left (L - ((n : Int) + (P : Int))) m1 = -1 by rw [left, if_neg hfit])
          have HZ := Lib.hid (show left L (rowsSz l) = -1 by
            unfold left rowsSz
            rw [if_neg]
            have h1 := HL.out
            have h2 := HSum.out
            omega)
          go_wp2_with fail
          refine (szRow_any A1 m1 d1 _ _ (by omega) (by omega) hmm).mono ?_
          rintro e w1 ⟨rfl, rfl⟩
          rw [HF.out]
          go_wp2
          go_ret
          exact ⟨ret_i64 HZ.out.symm, rfl⟩
      · go_wp2
        go_ret
        have hjn : j = l.length := by have := HL.out; omega
        refine ⟨ret_i64 ?_, rfl⟩
        subst hjn
        rw [pre_all] at hle ⊢
        unfold left rowsSz
        have h1 := HL.out
        rw [if_pos (by omega)]
        omega

set_option maxHeartbeats 1600000 in
theorem szWrites_any (A : Option Addr) (n c B : Nat) (l : List (Int × List Int)) (L : Int) (w : World) (h : Rd w B [waitD l] [.slice A n c]) (hB : B ≤ w.heap.size) (l0 : 0 ≤ L) (l1 : L ≤ 1048576) :
    Calls Try.prog 103 #[.slice A n c, .int .i64 L] w fun e w' => e = .returned (.int .i64 (left L (waitSz l))) ∧ Below w.heap.size w w' := by
  obtain ⟨_, _, _, e, hl, hnc, hcm, hel⟩ := h.wait
  injection e with e1 e2 e3
  subst e1 e2 e3
  have hnm : n ≤ maxLen := Nat.le_trans hnc hcm
  unfold maxLen at hnm
  have HL := Lib.hid hl
  clear h hl
  by_cases hbig : L < (n : Int)
  · have HZ := Lib.hid (show left L (waitSz l) = -1 by
      unfold left waitSz
      rw [if_neg]
      have := HL.out
      omega)
    clear hel
    go_enter Try.func103, Try.ntmps103
    go_wp2
    go_ret
    exact ⟨ret_i64 HZ.out.symm, Below.refl _ _⟩
  · go_enter Try.func103, Try.ntmps103
    go_wp2
    go_loopw [1, 5] (fun q i wr => ∃ j : Nat, j ≤ n ∧ i = .int .i64 (j : Int) ∧ (n : Int) + (pre wrSz l j : Int) ≤ L ∧ q = .int .i64 (L - ((n : Int) + (pre wrSz l j : Int))) ∧ Below w.heap.size w wr) (fun _ i _ => n - (intOf i).toNat)
    case atStart => exact ⟨0, Nat.zero_le _, rfl, by rw [pre_zero]; omega, by rw [pre_zero]; go_num, Below.refl _ _⟩
    case round =>
      obtain ⟨j, hj, rfl, hle, rfl, hbel⟩ := hrel
      by_cases hlt : j < n
      · obtain ⟨b, off, rfl, hb, hc⟩ := hel (by omega)
        have hjl : j < l.length := by have := HL.out; omega
        obtain ⟨A1, m1, d1, hcell, hcell2, hrow, hm1, hm2⟩ := hc j hjl
        have cs0 := (hbel.cell (p := ⟨b, off + j * 2, none⟩) (show b < _ by omega)).trans hcell
        have cs1 := (hbel.cell (p := ⟨b, off + j * 2 + 1, none⟩) (show b < _ by omega)).trans hcell2
        have hml : wrSz l[j] = m1 := hrow.1
        have hs : pre wrSz l (j + 1) = pre wrSz l j + m1 := by rw [pre_succ hjl, hml]
        have hmono := pre_at (g := wrSz) hjl
        rw [hml] at hmono
        have HSum := Lib.hid hmono
        have HJ := Lib.hid hs
        have hmm : m1 ≤ maxLen := Nat.le_trans hm1 hm2
        generalize hP : pre wrSz l j = P at *
        generalize l[j].1 = x at *
        have HB := Lib.hid hbel
        clear hc hrow hml hs hmono hel hm1 hm2 hP hcell hcell2 hbel
        by_cases hfit : (m1 : Int) ≤ L - ((n : Int) + (P : Int))
        · have HF := Lib.hid (show left (L - ((n : Int) + (P : Int))) m1 = L - ((n : Int) + (P : Int)) - (m1 : Int) by rw [left, if_pos hfit])
          go_wp2_with fail
          refine (szWrite_any x A1 m1 d1 _ _ (by omega) (by omega) hmm).mono ?_
          rintro e w1 ⟨rfl, b1⟩
          rw [HF.out]
          have B1 := Lib.hid (HB.out.trans (b1.mono HB.out.size))
          have q0 : ¬ (L - ((n : Int) + (P : Int)) - (m1 : Int) < 0) := by omega
          clear b1
          go_wp2
          go_roundw
          case rel => exact ⟨j + 1, by omega, by go_num, by rw [HJ.out]; omega, by rw [HJ.out]; go_num, B1.out⟩
          case measure => simp [intOf]; omega
        · have HF := Lib.hid (show left (L - ((n : Int) + (P : Int))) m1 = -1 by rw [left, if_neg hfit])
          have HZ := Lib.hid (show left L (waitSz l) = -1 by
            unfold left waitSz
            rw [if_neg]
            have h1 := HL.out
            have h2 := HSum.out
            omega)
          go_wp2_with fail
          refine (szWrite_any x A1 m1 d1 _ _ (by omega) (by omega) hmm).mono ?_
          rintro e w1 ⟨rfl, b1⟩
          rw [HF.out]
          have B1 := Lib.hid (HB.out.trans (b1.mono HB.out.size))
          clear b1
          go_wp2
          go_ret
          exact ⟨ret_i64 HZ.out.symm, B1.out⟩
      · go_wp2
        go_ret
        have hjn : j = l.length := by have := HL.out; omega
        refine ⟨ret_i64 ?_, hbel⟩
        subst hjn
        rw [pre_all] at hle ⊢
        unfold left waitSz
        have h1 := HL.out
        rw [if_pos (by omega)]
        omega

set_option maxHeartbeats 1600000 in
theorem szDisk_any (v0 v1 : Value) (d : DiskM) (B : Nat) (L : Int) (w : World) (h : Rd w B d.cells [v0, v1]) (hB : B ≤ w.heap.size) (l0 : 0 ≤ L) (l1 : L ≤ 1048576) :
    Calls Try.prog 72 #[.agg #[v0, v1], .int .i64 L] w fun e w' => e = .returned (.int .i64 (left L d.sz)) ∧ Below w.heap.size w w' := by
  obtain ⟨A, n, c, A', n', c', rfl, rfl, h1, h2⟩ := h.disk
  have b0 : Below w.heap.size w (w.alloc (.cells #[.slice A n c, .slice A' n' c'] 53)) := (Below.refl _ w).alloc (Nat.le_refl _) _
  have r1 := h1.keep (b0.mono hB)
  have r2 := h2.keep (b0.mono hB)
  have B0 := Lib.hid b0
  have HD := Lib.hid (show d.sz = rowsSz d.kept + waitSz d.wait from rfl)
  clear h h1 h2 b0
  by_cases hf1 : (rowsSz d.kept : Int) ≤ L
  · have HF := Lib.hid (show left L (rowsSz d.kept) = L - (rowsSz d.kept : Int) by rw [left, if_pos hf1])
    go_enter Try.func72, Try.ntmps72
    go_wp2_with fail
    refine (szRows_any A n c B d.kept L _ r1 l0 l1).mono ?_
    rintro e w1 ⟨rfl, rfl⟩
    rw [HF.out]
    have q0 : ¬ (L - (rowsSz d.kept : Int) < 0) := by omega
    clear r1
    go_wp2_with fail
    refine (szWrites_any A' n' c' B d.wait _ _ r2 (by simp; omega) (by omega) (by omega)).mono ?_
    rintro e w2 ⟨rfl, b2⟩
    have B2 := Lib.hid (B0.out.trans (b2.mono B0.out.size))
    clear b2 r2
    by_cases hf2 : (waitSz d.wait : Int) ≤ L - (rowsSz d.kept : Int)
    · rw [left, if_pos hf2]
      have q1 : ¬ (L - (rowsSz d.kept : Int) - (waitSz d.wait : Int) < 0) := by omega
      go_wp2
      go_ret
      refine ⟨ret_i64 ?_, B2.out⟩
      rw [left, HD.out, if_pos (by omega)]
      omega
    · rw [left, if_neg hf2]
      go_wp2
      go_ret
      refine ⟨ret_i64 ?_, B2.out⟩
      rw [left, HD.out, if_neg (by omega)]
  · have HF := Lib.hid (show left L (rowsSz d.kept) = -1 by rw [left, if_neg hf1])
    go_enter Try.func72, Try.ntmps72
    go_wp2_with fail
    refine (szRows_any A n c B d.kept L _ r1 l0 l1).mono ?_
    rintro e w1 ⟨rfl, rfl⟩
    rw [HF.out]
    clear r1 r2
    go_wp2
    go_ret
    refine ⟨ret_i64 ?_, B0.out⟩
    rw [left, HD.out, if_neg (by omega)]

end Go.Proofs.Ytejcpoidoekleaa
