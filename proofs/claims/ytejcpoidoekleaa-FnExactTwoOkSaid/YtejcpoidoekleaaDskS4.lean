/-
  The model of chapter 3: a write that waits.
-/
import Derived.Test.YtejcpoidoekleaaDskS3
import Derived.Deep.RegionLaw
namespace Go.Proofs.Ytejcpoidoekleaa
set_option maxRecDepth 100000
open Go.RowKit

set_option maxHeartbeats 6400000 in
theorem sWrote_any (A : Option Addr) (n c : Nat) (A' : Option Addr) (n' c' : Nat) (d : DiskM) (i : Int) (R : Option Addr) (m k : Nat) (r : List Int) (w : World) (h : Rd w w.heap.size d.cells [.slice A n c, .slice A' n' c']) (hs : d.sz ≤ 1048576) (h2 : Rd w w.heap.size (rowCells r) [.slice R m k]) (hs2 : r.length ≤ 1048576) :
    Calls Try.prog 79 #[.agg #[.slice A n c, .slice A' n' c'], .int .i64 i, .slice R m k] w fun e w' => ∃ (B1 : Option Addr) (b1 b2 : Nat) (B2 : Option Addr) (b3 b4 : Nat), e = .returned (.tuple #[.agg #[.slice B1 b1 b2, .slice B2 b3 b4], .bool (wrote d i r).2]) ∧ Has w' w.heap.size (wrote d i r).1.cells [.slice B1 b1 b2, .slice B2 b3 b4] ∧ Below w.heap.size w w' := by
  obtain ⟨_, _, _, e, h2i, _⟩ := h2.irow
  injection e with e1 e2 e3
  subst e1 e2 e3
  obtain ⟨_, _, _, _, _, _, e, e', q1, q2⟩ := h.disk
  injection e with e1 e2 e3
  subst e1 e2 e3
  injection e' with e1 e2 e3
  subst e1 e2 e3
  obtain ⟨_, _, _, e, hl1, _⟩ := q1.kept
  injection e with e1 e2 e3
  subst e1 e2 e3
  obtain ⟨_, _, _, e, hl2, _⟩ := q2.wait
  injection e with e1 e2 e3
  subst e1 e2 e3
  have hn : n ≤ 1048576 := by unfold DiskM.sz rowsSz at hs; omega
  have hn' : n' ≤ 1048576 := by unfold DiskM.sz waitSz at hs; omega
  have hm : m ≤ 1048576 := by have := h2i.1; omega
  have HL1 := Lib.hid hl1
  have HL2 := Lib.hid hl2
  obtain ⟨w0, hw0⟩ : ∃ w0, w0 = (w.alloc (.cells #[.slice A n c, .slice A' n' c'] 30)).alloc (.cells #[.slice none 0 0, .slice none 0 0] 30) := ⟨_, rfl⟩
  have S : Sep w0 w.heap.size [.blk (w.heap.size + 1) #[.slice none 0 0, .slice none 0 0] 30, .blk w.heap.size #[.slice A n c, .slice A' n' c'] 30] := by
    rw [hw0]
    have := ((Sep.nil w w.heap.size).box (Nat.le_refl _) #[.slice A n c, .slice A' n' c'] 30).box (by simp) #[.slice none 0 0, .slice none 0 0] 30
    simpa using this
  have c0 : Below w.heap.size w w0 := by
    rw [hw0]
    exact ((Below.refl _ w).alloc (Nat.le_refl _) _).alloc (by simp) _
  have HW := Lib.hid hw0
  clear hw0 q1 q2 hl1 hl2
  cases hd : diskOk d
  · have HR := Lib.hid (show wrote d i r = (zeroD, false) by simp [wrote, hd])
    go_enter Try.func79, Try.ntmps79
    go_wp2_with fail
    rw [← HW.out]
    refine (sDiskOk_any _ _ d _ _ (h.keep c0) c0.size (by omega)).mono ?_
    rintro e w1 ⟨rfl, b⟩
    rw [hd]
    replace c0 := c0.trans (b.mono c0.size)
    replace S := S.keep b
    clear b
    have p0 : w1.cell? ⟨w.heap.size + 1, 0, none⟩ = some (.slice none 0 0) := (S.at_ 0 rfl).cell 0
    have p1 : w1.cell? ⟨w.heap.size + 1, 1, none⟩ = some (.slice none 0 0) := (S.at_ 0 rfl).cell 1
    have f0 := (S.at_ 0 rfl).free 0
    have f1 := (S.at_ 0 rfl).free 1
    have B5 := Lib.hid ((c0.setCell (p := ⟨w.heap.size + 1, 0, none⟩) (by simp) (.slice none 0 0)).setCell (p := ⟨w.heap.size + 1, 1, none⟩) (by simp) (.slice none 0 0))
    clear S c0
    go_wp2
    refine bodyPost_ret (v := .tuple #[.agg #[.slice none 0 0, .slice none 0 0], .bool false]) (by simp [results, Try.results79, go_sem, p0, p1]) rfl ⟨none, 0, 0, none, 0, 0, by rw [HR.out], ?_, B5.out⟩
    rw [HR.out]
    exact has_zero _ _
  cases hh : hasS d i
  · have HR := Lib.hid (show wrote d i r = (d, false) by simp [wrote, hd, hh])
    go_enter Try.func79, Try.ntmps79
    go_wp2_with fail
    rw [← HW.out]
    refine (sDiskOk_any _ _ d _ _ (h.keep c0) c0.size (by omega)).mono ?_
    rintro e w1 ⟨rfl, b⟩
    rw [hd]
    replace c0 := c0.trans (b.mono c0.size)
    replace S := S.keep b
    clear b
    have k0 : w1.cell? ⟨w.heap.size, 0, none⟩ = some (.slice A n c) := (S.at_ 1 rfl).cell 0
    have k1 : w1.cell? ⟨w.heap.size, 1, none⟩ = some (.slice A' n' c') := (S.at_ 1 rfl).cell 1
    go_wp2_with fail
    refine (sCopyD_any _ _ d _ ((h.keep c0).up c0.size) (by omega)).mono ?_
    rintro e w2 ⟨G, j, g, H, q, hc, rfl, o, b⟩
    obtain ⟨fp, S'⟩ := S.has b o c0.size
    replace c0 := c0.trans (b.mono c0.size)
    clear S; have S := S'; clear S' o b k0 k1
    have zw2 := c0.size
    replace S := S.box c0.size #[.slice G j g, .slice H q hc] 30
    replace c0 := c0.alloc c0.size (.cells #[.slice G j g, .slice H q hc] 30)
    have k0 : (w2.alloc (.cells #[.slice G j g, .slice H q hc] 30)).cell? ⟨w.heap.size, 0, none⟩ = some (.slice A n c) := (S.at_ 3 rfl).cell 0
    have k1 : (w2.alloc (.cells #[.slice G j g, .slice H q hc] 30)).cell? ⟨w.heap.size, 1, none⟩ = some (.slice A' n' c') := (S.at_ 3 rfl).cell 1
    go_wp2_with fail
    generalize w2.alloc (.cells #[.slice G j g, .slice H q hc] 30) = w3 at *
    refine (sHas_any A A' n c n' c' d i _ HL1.out (by omega)).mono ?_
    rintro e w4 ⟨rfl, b⟩
    rw [hh]
    replace c0 := c0.trans (b.mono c0.size)
    replace S := S.keep b
    clear b k0 k1
    have k0 : w4.cell? ⟨w.heap.size, 1, none⟩ = some (.slice A' n' c') := (S.at_ 3 rfl).cell 1
    have o0 : w4.cell? ⟨w2.heap.size, 0, none⟩ = some (.slice G j g) := (S.at_ 0 rfl).cell 0
    have o1 : w4.cell? ⟨w2.heap.size, 1, none⟩ = some (.slice H q hc) := (S.at_ 0 rfl).cell 1
    have p0 : w4.cell? ⟨w.heap.size + 1, 0, none⟩ = some (.slice none 0 0) := (S.at_ 2 rfl).cell 0
    have p1 : w4.cell? ⟨w.heap.size + 1, 1, none⟩ = some (.slice none 0 0) := (S.at_ 2 rfl).cell 1
    have f0 := (S.at_ 2 rfl).free 0
    have f1 := (S.at_ 2 rfl).free 1
    have S5 := Lib.hid (((S.put 2 rfl 0 (.slice G j g)).put 2 rfl 1 (.slice H q hc)).drop 1).first
    have B5 := Lib.hid ((c0.setCell (p := ⟨w.heap.size + 1, 0, none⟩) (by simp) (.slice G j g)).setCell (p := ⟨w.heap.size + 1, 1, none⟩) (by simp) (.slice H q hc))
    clear S c0
    go_wp2
    refine bodyPost_ret (v := .tuple #[.agg #[.slice G j g, .slice H q hc], .bool false]) (by simp [results, Try.results79, go_sem, p0, p1]) rfl ⟨G, j, g, H, q, hc, by rw [HR.out], ?_, B5.out⟩
    rw [HR.out]
    exact S5.out
  cases hk : rowOk r
  · have HR := Lib.hid (show wrote d i r = (d, false) by simp [wrote, hd, hh, hk])
    go_enter Try.func79, Try.ntmps79
    go_wp2_with fail
    rw [← HW.out]
    refine (sDiskOk_any _ _ d _ _ (h.keep c0) c0.size (by omega)).mono ?_
    rintro e w1 ⟨rfl, b⟩
    rw [hd]
    replace c0 := c0.trans (b.mono c0.size)
    replace S := S.keep b
    clear b
    have k0 : w1.cell? ⟨w.heap.size, 0, none⟩ = some (.slice A n c) := (S.at_ 1 rfl).cell 0
    have k1 : w1.cell? ⟨w.heap.size, 1, none⟩ = some (.slice A' n' c') := (S.at_ 1 rfl).cell 1
    go_wp2_with fail
    refine (sCopyD_any _ _ d _ ((h.keep c0).up c0.size) (by omega)).mono ?_
    rintro e w2 ⟨G, j, g, H, q, hc, rfl, o, b⟩
    obtain ⟨fp, S'⟩ := S.has b o c0.size
    replace c0 := c0.trans (b.mono c0.size)
    clear S; have S := S'; clear S' o b k0 k1
    have zw2 := c0.size
    replace S := S.box c0.size #[.slice G j g, .slice H q hc] 30
    replace c0 := c0.alloc c0.size (.cells #[.slice G j g, .slice H q hc] 30)
    have k0 : (w2.alloc (.cells #[.slice G j g, .slice H q hc] 30)).cell? ⟨w.heap.size, 0, none⟩ = some (.slice A n c) := (S.at_ 3 rfl).cell 0
    have k1 : (w2.alloc (.cells #[.slice G j g, .slice H q hc] 30)).cell? ⟨w.heap.size, 1, none⟩ = some (.slice A' n' c') := (S.at_ 3 rfl).cell 1
    go_wp2_with fail
    generalize w2.alloc (.cells #[.slice G j g, .slice H q hc] 30) = w3 at *
    refine (sHas_any A A' n c n' c' d i _ HL1.out (by omega)).mono ?_
    rintro e w4 ⟨rfl, b⟩
    rw [hh]
    replace c0 := c0.trans (b.mono c0.size)
    replace S := S.keep b
    clear b k0 k1
    go_wp2_with fail
    refine (sRowOk_any R m k _ r _ (h2i.below c0) (by omega)).mono ?_
    rintro e w5 ⟨rfl, rfl⟩
    rw [hk]
    have k0 : w4.cell? ⟨w.heap.size, 1, none⟩ = some (.slice A' n' c') := (S.at_ 3 rfl).cell 1
    have o0 : w4.cell? ⟨w2.heap.size, 0, none⟩ = some (.slice G j g) := (S.at_ 0 rfl).cell 0
    have o1 : w4.cell? ⟨w2.heap.size, 1, none⟩ = some (.slice H q hc) := (S.at_ 0 rfl).cell 1
    have p0 : w4.cell? ⟨w.heap.size + 1, 0, none⟩ = some (.slice none 0 0) := (S.at_ 2 rfl).cell 0
    have p1 : w4.cell? ⟨w.heap.size + 1, 1, none⟩ = some (.slice none 0 0) := (S.at_ 2 rfl).cell 1
    have f0 := (S.at_ 2 rfl).free 0
    have f1 := (S.at_ 2 rfl).free 1
    have S5 := Lib.hid (((S.put 2 rfl 0 (.slice G j g)).put 2 rfl 1 (.slice H q hc)).drop 1).first
    have B5 := Lib.hid ((c0.setCell (p := ⟨w.heap.size + 1, 0, none⟩) (by simp) (.slice G j g)).setCell (p := ⟨w.heap.size + 1, 1, none⟩) (by simp) (.slice H q hc))
    clear S c0
    go_wp2
    refine bodyPost_ret (v := .tuple #[.agg #[.slice G j g, .slice H q hc], .bool false]) (by simp [results, Try.results79, go_sem, p0, p1]) rfl ⟨G, j, g, H, q, hc, by rw [HR.out], ?_, B5.out⟩
    rw [HR.out]
    exact S5.out
  by_cases h60 : 60 ≤ n'
  · have HR := Lib.hid (show wrote d i r = (d, false) by
      unfold wrote
      rw [if_pos hd, if_neg]
      rintro ⟨_, _, h9⟩
      rw [HL2.out] at h9
      omega)
    go_enter Try.func79, Try.ntmps79
    go_wp2_with fail
    rw [← HW.out]
    refine (sDiskOk_any _ _ d _ _ (h.keep c0) c0.size (by omega)).mono ?_
    rintro e w1 ⟨rfl, b⟩
    rw [hd]
    replace c0 := c0.trans (b.mono c0.size)
    replace S := S.keep b
    clear b
    have k0 : w1.cell? ⟨w.heap.size, 0, none⟩ = some (.slice A n c) := (S.at_ 1 rfl).cell 0
    have k1 : w1.cell? ⟨w.heap.size, 1, none⟩ = some (.slice A' n' c') := (S.at_ 1 rfl).cell 1
    go_wp2_with fail
    refine (sCopyD_any _ _ d _ ((h.keep c0).up c0.size) (by omega)).mono ?_
    rintro e w2 ⟨G, j, g, H, q, hc, rfl, o, b⟩
    obtain ⟨fp, S'⟩ := S.has b o c0.size
    replace c0 := c0.trans (b.mono c0.size)
    clear S; have S := S'; clear S' o b k0 k1
    have zw2 := c0.size
    replace S := S.box c0.size #[.slice G j g, .slice H q hc] 30
    replace c0 := c0.alloc c0.size (.cells #[.slice G j g, .slice H q hc] 30)
    have k0 : (w2.alloc (.cells #[.slice G j g, .slice H q hc] 30)).cell? ⟨w.heap.size, 0, none⟩ = some (.slice A n c) := (S.at_ 3 rfl).cell 0
    have k1 : (w2.alloc (.cells #[.slice G j g, .slice H q hc] 30)).cell? ⟨w.heap.size, 1, none⟩ = some (.slice A' n' c') := (S.at_ 3 rfl).cell 1
    go_wp2_with fail
    generalize w2.alloc (.cells #[.slice G j g, .slice H q hc] 30) = w3 at *
    refine (sHas_any A A' n c n' c' d i _ HL1.out (by omega)).mono ?_
    rintro e w4 ⟨rfl, b⟩
    rw [hh]
    replace c0 := c0.trans (b.mono c0.size)
    replace S := S.keep b
    clear b k0 k1
    go_wp2_with fail
    refine (sRowOk_any R m k _ r _ (h2i.below c0) (by omega)).mono ?_
    rintro e w5 ⟨rfl, rfl⟩
    rw [hk]
    have k0 : w4.cell? ⟨w.heap.size, 1, none⟩ = some (.slice A' n' c') := (S.at_ 3 rfl).cell 1
    have o0 : w4.cell? ⟨w2.heap.size, 0, none⟩ = some (.slice G j g) := (S.at_ 0 rfl).cell 0
    have o1 : w4.cell? ⟨w2.heap.size, 1, none⟩ = some (.slice H q hc) := (S.at_ 0 rfl).cell 1
    have p0 : w4.cell? ⟨w.heap.size + 1, 0, none⟩ = some (.slice none 0 0) := (S.at_ 2 rfl).cell 0
    have p1 : w4.cell? ⟨w.heap.size + 1, 1, none⟩ = some (.slice none 0 0) := (S.at_ 2 rfl).cell 1
    have f0 := (S.at_ 2 rfl).free 0
    have f1 := (S.at_ 2 rfl).free 1
    have S5 := Lib.hid (((S.put 2 rfl 0 (.slice G j g)).put 2 rfl 1 (.slice H q hc)).drop 1).first
    have B5 := Lib.hid ((c0.setCell (p := ⟨w.heap.size + 1, 0, none⟩) (by simp) (.slice G j g)).setCell (p := ⟨w.heap.size + 1, 1, none⟩) (by simp) (.slice H q hc))
    clear S c0
    go_wp2
    refine bodyPost_ret (v := .tuple #[.agg #[.slice G j g, .slice H q hc], .bool false]) (by simp [results, Try.results79, go_sem, p0, p1]) rfl ⟨G, j, g, H, q, hc, by rw [HR.out], ?_, B5.out⟩
    rw [HR.out]
    exact S5.out
  · have HR := Lib.hid (show wrote d i r = (⟨d.kept, d.wait ++ [(i, r)]⟩, true) by
      unfold wrote
      rw [if_pos hd, if_pos ⟨hh, hk, by rw [HL2.out]; omega⟩])
    go_enter Try.func79, Try.ntmps79
    go_wp2_with fail
    rw [← HW.out]
    refine (sDiskOk_any _ _ d _ _ (h.keep c0) c0.size (by omega)).mono ?_
    rintro e w1 ⟨rfl, b⟩
    rw [hd]
    replace c0 := c0.trans (b.mono c0.size)
    replace S := S.keep b
    clear b
    have k0 : w1.cell? ⟨w.heap.size, 0, none⟩ = some (.slice A n c) := (S.at_ 1 rfl).cell 0
    have k1 : w1.cell? ⟨w.heap.size, 1, none⟩ = some (.slice A' n' c') := (S.at_ 1 rfl).cell 1
    go_wp2_with fail
    refine (sCopyD_any _ _ d _ ((h.keep c0).up c0.size) (by omega)).mono ?_
    rintro e w2 ⟨G, j, g, H, q, hc, rfl, o, b⟩
    obtain ⟨fp, S'⟩ := S.has b o c0.size
    replace c0 := c0.trans (b.mono c0.size)
    clear S; have S := S'; clear S' o b k0 k1
    have zw2 := c0.size
    replace S := S.box c0.size #[.slice G j g, .slice H q hc] 30
    replace c0 := c0.alloc c0.size (.cells #[.slice G j g, .slice H q hc] 30)
    have k0 : (w2.alloc (.cells #[.slice G j g, .slice H q hc] 30)).cell? ⟨w.heap.size, 0, none⟩ = some (.slice A n c) := (S.at_ 3 rfl).cell 0
    have k1 : (w2.alloc (.cells #[.slice G j g, .slice H q hc] 30)).cell? ⟨w.heap.size, 1, none⟩ = some (.slice A' n' c') := (S.at_ 3 rfl).cell 1
    go_wp2_with fail
    generalize w2.alloc (.cells #[.slice G j g, .slice H q hc] 30) = w3 at *
    refine (sHas_any A A' n c n' c' d i _ HL1.out (by omega)).mono ?_
    rintro e w4 ⟨rfl, b⟩
    rw [hh]
    replace c0 := c0.trans (b.mono c0.size)
    replace S := S.keep b
    clear b k0 k1
    go_wp2_with fail
    refine (sRowOk_any R m k _ r _ (h2i.below c0) (by omega)).mono ?_
    rintro e w5 ⟨rfl, rfl⟩
    rw [hk]
    have k0 : w4.cell? ⟨w.heap.size, 1, none⟩ = some (.slice A' n' c') := (S.at_ 3 rfl).cell 1
    have o0 : w4.cell? ⟨w2.heap.size, 0, none⟩ = some (.slice G j g) := (S.at_ 0 rfl).cell 0
    have o1 : w4.cell? ⟨w2.heap.size, 1, none⟩ = some (.slice H q hc) := (S.at_ 0 rfl).cell 1
    have p0 : w4.cell? ⟨w.heap.size + 1, 0, none⟩ = some (.slice none 0 0) := (S.at_ 2 rfl).cell 0
    have p1 : w4.cell? ⟨w.heap.size + 1, 1, none⟩ = some (.slice none 0 0) := (S.at_ 2 rfl).cell 1
    have f0 := (S.at_ 2 rfl).free 0
    have f1 := (S.at_ 2 rfl).free 1
    obtain ⟨v1, v2, fk, fw, ev, SX⟩ := Sep.split (d1 := [keptD d.kept]) (d2 := [waitD d.wait]) S.swap
    obtain ⟨ev1, ev2⟩ : v1 = [.slice G j g] ∧ v2 = [.slice H q hc] := by
      have l1 := (SX.own_ 1 rfl).len
      have l2 := (SX.own_ 0 rfl).len
      match v1, v2, l1, l2 with
      | [y1], [y2], _, _ =>
        injection ev with a1 a2
        injection a2 with a2 _
        subst a1 a2
        exact ⟨rfl, rfl⟩
    subst ev1 ev2
    have hql : q ≤ 1048577 := by
      have h8 := waitD_len (SX.own_ 0 rfl)
      have h9 := HL2.out
      omega
    have hri := Lib.hid ((h2i.below c0).up c0.size)
    have SH := Lib.hid SX
    have BH := Lib.hid c0
    have zw := c0.size
    clear S SX c0 ev f0 f1 p0 p1 o0
    go_wp2_with fail
    go_region_law (first
      | (
         refine step_append_elem (l := d.wait) (y := (i, r)) (fp := fw) (es := [.int .i64 i, .slice Q qn qc]) (by rfl) _ _ (by rfl) Try.underlying28 infoWrite (by rfl) (by decide) wrC_len (by rfl) (SA.out.own_ 1 rfl) (SA.out.nodup_own 1 rfl) (by rfl) HC.out (.int (SA.out.own_ 2 rfl)) (SA.out.nodup_own 2 rfl) HD.out (by omega) (by omega) ?_
         intro G3 g3 w6 fp3 o3 n3 s3 t3
         have SD : Sep (w5.alloc (.cells #[.int .i64 i, .slice Q qn qc] 49)) w.heap.size [.own [waitD d.wait] [.slice H q hc] fw, .own [rowD r] [.slice Q qn qc] f2, .own [keptD d.kept] [.slice G j g] fk, .blk w2.heap.size #[.slice G j g, .slice H q hc] 30, .blk (w.heap.size + 1) #[.slice none 0 0, .slice none 0 0] 30, .blk w.heap.size #[.slice A n c, .slice A' n' c'] 30] := SA.out.drop 1
         have S3 := SD.merge t3 o3 n3 s3 BA.out.size
         have B3 := Lib.hid (BA.out.trans (SD.below 0 rfl t3 BA.out.size))
         have q1 : w6.cell? ⟨w2.heap.size, 1, none⟩ = some (.slice H q hc) := (S3.at_ 2 rfl).cell 1
         have q2 := (S3.at_ 2 rfl).free 1
         have S4 := S3.put 2 rfl 1 (.slice G3 (q + 1) g3)
         have u0 : (w6.setCell ⟨w2.heap.size, 1, none⟩ (.slice G3 (q + 1) g3)).cell? ⟨w2.heap.size, 0, none⟩ = some (.slice G j g) := (S4.at_ 2 rfl).cell 0
         have u1 : (w6.setCell ⟨w2.heap.size, 1, none⟩ (.slice G3 (q + 1) g3)).cell? ⟨w2.heap.size, 1, none⟩ = some (.slice G3 (q + 1) g3) := (S4.at_ 2 rfl).cell 1
         have u2 : (w6.setCell ⟨w2.heap.size, 1, none⟩ (.slice G3 (q + 1) g3)).cell? ⟨w.heap.size + 1, 0, none⟩ = some (.slice none 0 0) := (S4.at_ 3 rfl).cell 0
         have u3 : (w6.setCell ⟨w2.heap.size, 1, none⟩ (.slice G3 (q + 1) g3)).cell? ⟨w.heap.size + 1, 1, none⟩ = some (.slice none 0 0) := (S4.at_ 3 rfl).cell 1
         have y2 := (S4.at_ 3 rfl).free 0
         have y3 := (S4.at_ 3 rfl).free 1
         have S5 := Lib.hid ((S4.put 3 rfl 0 (.slice G j g)).put 3 rfl 1 (.slice G3 (q + 1) g3)).pair
         clear S3 S4 SD o3 n3 s3 t3)
      | (go_simp; go_at_call 100
         refine (sCopy_any R m k r w4.drew hri.out (by omega)).mono ?_
         rintro e w5 ⟨Q, qn, qc, rfl, o1, b1⟩
         obtain ⟨f2, S2⟩ := (SH.out.keep ((Below.refl _ _).drew)).has b1 o1.has zw
         have g1 : w5.cell? ⟨w2.heap.size, 1, none⟩ = some (.slice H q hc) := (S2.at_ 3 rfl).cell 1
         have zz : w.heap.size ≤ w5.heap.size := Nat.le_trans zw b1.size
         have HD := Lib.hid S2.swap.apart
         have SA := Lib.hid (S2.swap.box zz #[.int .i64 i, .slice Q qn qc] 49)
         have HC := Lib.hid (show ∀ t, t < 2 → (w5.alloc (.cells #[.int .i64 i, .slice Q qn qc] 49)).cell? ⟨w5.heap.size, t, none⟩ = [Value.int .i64 i, Value.slice Q qn qc][t]? from fun t ht => by
           have h1 := (SA.out.at_ 0 rfl).cell t
           have h3 : t = 0 ∨ t = 1 := by omega
           rcases h3 with rfl | rfl
           · exact h1
           · exact h1)
         have BA := Lib.hid ((BH.out.drew.trans (b1.mono zw)).alloc zz (.cells #[.int .i64 i, .slice Q qn qc] 49))
         have g2 : (w5.alloc (.cells #[.int .i64 i, .slice Q qn qc] 49)).cell? ⟨w2.heap.size, 1, none⟩ = some (.slice H q hc) := (SA.out.at_ 4 rfl).cell 1
         clear S2 o1 b1))
    all_goals
      go_wp2
      refine bodyPost_ret (v := .tuple #[.agg #[.slice G j g, .slice G3 (q + 1) g3], .bool true]) (by simp [results, Try.results79, go_sem, u2, u3]) rfl ⟨G, j, g, G3, q + 1, g3, by rw [HR.out], ?_, ((B3.out.setCell (p := ⟨w2.heap.size, 1, none⟩) (by show w.heap.size ≤ w2.heap.size; omega) _).setCell (p := ⟨w.heap.size + 1, 0, none⟩) (by simp) _).setCell (p := ⟨w.heap.size + 1, 1, none⟩) (by simp) _⟩
      rw [HR.out]
      exact S5.out

end Go.Proofs.Ytejcpoidoekleaa
