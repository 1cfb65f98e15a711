/-
  The model of chapter 3: a number that has rotted.
-/
import Derived.Test.YtbjdfgdcmaflkaaDskS6
namespace Go.Proofs.Ytbjdfgdcmaflkaa
open Go.RowKit

set_option maxHeartbeats 6400000 in
theorem sRotted_any (A : Option Addr) (n c : Nat) (A' : Option Addr) (n' c' : Nat) (d : DiskM) (at_ i x : Int) (w : World) (h : Rd w w.heap.size d.cells [.slice A n c, .slice A' n' c']) (hs : d.sz ≤ 1048576) :
    Calls Try.prog 40 #[.agg #[.slice A n c, .slice A' n' c'], .int .i64 at_, .int .i64 i, .int .i64 x] w fun e w' => ∃ (B1 : Option Addr) (b1 b2 : Nat) (B2 : Option Addr) (b3 b4 : Nat), e = .returned (.tuple #[.agg #[.slice B1 b1 b2, .slice B2 b3 b4], .bool (rotted d at_ i x).2]) ∧ Has w' w.heap.size (rotted d at_ i x).1.cells [.slice B1 b1 b2, .slice B2 b3 b4] ∧ Below w.heap.size w w' := by
  obtain ⟨_, _, _, _, _, _, e, e', q1, q2⟩ := h.disk
  injection e with e1 e2 e3
  subst e1 e2 e3
  injection e' with e1 e2 e3
  subst e1 e2 e3
  obtain ⟨_, _, _, e, hl1, _, _, hel1⟩ := q1.kept
  injection e with e1 e2 e3
  subst e1 e2 e3
  have hn : n ≤ 1048576 := by unfold DiskM.sz rowsSz at hs; omega
  have HL1 := Lib.hid hl1
  obtain ⟨w0, hw0⟩ : ∃ w0, w0 = (w.alloc (.cells #[.slice A n c, .slice A' n' c'] 27)).alloc (.cells #[.slice none 0 0, .slice none 0 0] 27) := ⟨_, rfl⟩
  have S : Sep w0 w.heap.size [.blk (w.heap.size + 1) #[.slice none 0 0, .slice none 0 0] 27, .blk w.heap.size #[.slice A n c, .slice A' n' c'] 27] := by
    rw [hw0]
    have := ((Sep.nil w w.heap.size).box (Nat.le_refl _) #[.slice A n c, .slice A' n' c'] 27).box (by simp) #[.slice none 0 0, .slice none 0 0] 27
    simpa using this
  have c0 : Below w.heap.size w w0 := by
    rw [hw0]
    exact ((Below.refl _ w).alloc (Nat.le_refl _) _).alloc (by simp) _
  have HW := Lib.hid hw0
  clear hw0 q1 q2 hl1
  cases hd : diskOk d
  · have HR := Lib.hid (show rotted d at_ i x = (zeroD, false) by simp [rotted, hd])
    clear hel1
    go_enter Try.func40, Try.ntmps40
    go_wp2_with fail
    rw [← HW.out]
    refine (sDiskOk_any _ _ d _ _ (h.keep c0) c0.size (by omega)).mono ?_
    rintro e w1 ⟨rfl, b⟩
    rw [hd]
    replace c0 := c0.trans (b.mono c0.size)
    replace S := S.keep b
    clear b
    have p0 : w1.cell? ⟨w.heap.size + 1, 0, none⟩ = some (.slice none 0 0) := (S.at_ 0 rfl).cell 0
    have p1 : w1.cell? ⟨w.heap.size + 1, 1, none⟩ = some (.slice none 0 0) := (S.at_ 0 rfl).cell 1
    have f0 := (S.at_ 0 rfl).free 0
    have f1 := (S.at_ 0 rfl).free 1
    have B5 := Lib.hid ((c0.setCell (p := ⟨w.heap.size + 1, 0, none⟩) (by simp) (.slice none 0 0)).setCell (p := ⟨w.heap.size + 1, 1, none⟩) (by simp) (.slice none 0 0))
    clear S c0
    go_wp2
    refine bodyPost_ret (v := .tuple #[.agg #[.slice none 0 0, .slice none 0 0], .bool false]) (by simp [results, Try.results40, go_sem, p0, p1]) rfl ⟨none, 0, 0, none, 0, 0, by rw [HR.out], ?_, B5.out⟩
    rw [HR.out]
    exact has_zero _ _
  cases hh : hasS d at_
  · have HR := Lib.hid (show rotted d at_ i x = (d, false) by simp [rotted, hd, hh])
    clear hel1
    go_enter Try.func40, Try.ntmps40
    go_wp2_with fail
    rw [← HW.out]
    refine (sDiskOk_any _ _ d _ _ (h.keep c0) c0.size (by omega)).mono ?_
    rintro e w1 ⟨rfl, b⟩
    rw [hd]
    replace c0 := c0.trans (b.mono c0.size)
    replace S := S.keep b
    clear b
    have k0 : w1.cell? ⟨w.heap.size, 0, none⟩ = some (.slice A n c) := (S.at_ 1 rfl).cell 0
    have k1 : w1.cell? ⟨w.heap.size, 1, none⟩ = some (.slice A' n' c') := (S.at_ 1 rfl).cell 1
    go_wp2_with fail
    refine (sCopyD_any _ _ d _ ((h.keep c0).up c0.size) (by omega)).mono ?_
    rintro e w2 ⟨G, j, g, H, q, hc, rfl, o, b⟩
    obtain ⟨fp, S'⟩ := S.has b o c0.size
    replace c0 := c0.trans (b.mono c0.size)
    clear S; have S := S'; clear S' o b k0 k1
    have zw2 := c0.size
    replace S := S.box c0.size #[.slice G j g, .slice H q hc] 27
    replace c0 := c0.alloc c0.size (.cells #[.slice G j g, .slice H q hc] 27)
    have k0 : (w2.alloc (.cells #[.slice G j g, .slice H q hc] 27)).cell? ⟨w.heap.size, 0, none⟩ = some (.slice A n c) := (S.at_ 3 rfl).cell 0
    have k1 : (w2.alloc (.cells #[.slice G j g, .slice H q hc] 27)).cell? ⟨w.heap.size, 1, none⟩ = some (.slice A' n' c') := (S.at_ 3 rfl).cell 1
    go_wp2_with fail
    generalize w2.alloc (.cells #[.slice G j g, .slice H q hc] 27) = w3 at *
    refine (sHas_any A A' n c n' c' d _ _ HL1.out (by omega)).mono ?_
    rintro e w4 ⟨rfl, b⟩
    rw [hh]
    replace c0 := c0.trans (b.mono c0.size)
    replace S := S.keep b
    clear b k0 k1
    have o0 : w4.cell? ⟨w2.heap.size, 0, none⟩ = some (.slice G j g) := (S.at_ 0 rfl).cell 0
    have o1 : w4.cell? ⟨w2.heap.size, 1, none⟩ = some (.slice H q hc) := (S.at_ 0 rfl).cell 1
    have p0 : w4.cell? ⟨w.heap.size + 1, 0, none⟩ = some (.slice none 0 0) := (S.at_ 2 rfl).cell 0
    have p1 : w4.cell? ⟨w.heap.size + 1, 1, none⟩ = some (.slice none 0 0) := (S.at_ 2 rfl).cell 1
    have f0 := (S.at_ 2 rfl).free 0
    have f1 := (S.at_ 2 rfl).free 1
    have S5 := Lib.hid (((S.put 2 rfl 0 (.slice G j g)).put 2 rfl 1 (.slice H q hc)).drop 1).first
    have B5 := Lib.hid ((c0.setCell (p := ⟨w.heap.size + 1, 0, none⟩) (by simp) (.slice G j g)).setCell (p := ⟨w.heap.size + 1, 1, none⟩) (by simp) (.slice H q hc))
    clear S c0
    go_wp2
    refine bodyPost_ret (v := .tuple #[.agg #[.slice G j g, .slice H q hc], .bool false]) (by simp [results, Try.results40, go_sem, p0, p1]) rfl ⟨G, j, g, H, q, hc, by rw [HR.out], ?_, B5.out⟩
    rw [HR.out]
    exact S5.out
  obtain ⟨z0, z1⟩ : 0 ≤ at_ ∧ at_ ≤ (n : Int) - 1 := by
    have := hh
    unfold hasS at this
    rw [HL1.out] at this
    simpa using this
  obtain ⟨X, rfl⟩ := Int.eq_ofNat_of_zero_le z0
  have hjl : X < d.kept.length := by have := HL1.out; omega
  have HGD := Lib.hid (show d.kept.getD X [] = d.kept[X] by simp [List.getD, List.getElem?_eq_getElem hjl])
  by_cases hi : 0 ≤ i ∧ i < ((d.kept.getD X []).length : Int)
  · by_cases hx : 0 ≤ x ∧ x ≤ 1000000000
    · have HR := Lib.hid (show rotted d (X : Int) i x = (⟨d.kept.set X ((d.kept.getD X []).set i.toNat x), d.wait⟩, true) by
        unfold rotted
        rw [if_pos hd, if_pos ⟨hh, hi, hx⟩]
        rfl)
      obtain ⟨b9, off9, rfl, hb9, hcc⟩ := hel1 (by omega)
      obtain ⟨A1, m1, d1, hcell, hrow, hm1, hm2⟩ := hcc X hjl
      have hm48 : m1 ≤ 48 := by rw [← hrow.1]; exact ok_kept_len hd _ (List.getElem_mem hjl)
      have hlen : ((d.kept.getD X []).length : Int) = (m1 : Int) := by rw [HGD.out, hrow.1]
      have a0 : (0 : Int) ≤ (X : Int) := by omega
      have a1 : (X : Int) < (n : Int) := by omega
      clear hcc hel1
      obtain ⟨I, rfl⟩ := Int.eq_ofNat_of_zero_le hi.1
      rw [Int.toNat_natCast] at HR
      have hIm : I < m1 := by have := hi.2; omega
      have HI := Lib.hid (show (decide ((0 : Int) ≤ (I : Int)) && decide ((I : Int) ≤ (m1 : Int) - 1)) = true by simp; omega)
      have HNN := Lib.hid (show (decide ((0 : Int) ≤ x) && decide (x ≤ 1000000000)) = true by simp [hx.1, hx.2])
      go_enter Try.func40, Try.ntmps40
      go_wp2_with fail
      rw [← HW.out]
      refine (sDiskOk_any _ _ d _ _ (h.keep c0) c0.size (by omega)).mono ?_
      rintro e w1 ⟨rfl, b⟩
      rw [hd]
      replace c0 := c0.trans (b.mono c0.size)
      replace S := S.keep b
      clear b
      have k0 : w1.cell? ⟨w.heap.size, 0, none⟩ = some (.slice (some ⟨b9, off9, none⟩) n c) := (S.at_ 1 rfl).cell 0
      have k1 : w1.cell? ⟨w.heap.size, 1, none⟩ = some (.slice A' n' c') := (S.at_ 1 rfl).cell 1
      go_wp2_with fail
      refine (sCopyD_any _ _ d _ ((h.keep c0).up c0.size) (by omega)).mono ?_
      rintro e w2 ⟨G, j, g, H, q, hc, rfl, o, b⟩
      obtain ⟨fp, S'⟩ := S.has b o c0.size
      replace c0 := c0.trans (b.mono c0.size)
      clear S; have S := S'; clear S' o b k0 k1
      have zw2 := c0.size
      replace S := S.box c0.size #[.slice G j g, .slice H q hc] 27
      replace c0 := c0.alloc c0.size (.cells #[.slice G j g, .slice H q hc] 27)
      have k0 : (w2.alloc (.cells #[.slice G j g, .slice H q hc] 27)).cell? ⟨w.heap.size, 0, none⟩ = some (.slice (some ⟨b9, off9, none⟩) n c) := (S.at_ 3 rfl).cell 0
      have k1 : (w2.alloc (.cells #[.slice G j g, .slice H q hc] 27)).cell? ⟨w.heap.size, 1, none⟩ = some (.slice A' n' c') := (S.at_ 3 rfl).cell 1
      go_wp2_with fail
      generalize w2.alloc (.cells #[.slice G j g, .slice H q hc] 27) = w3 at *
      refine (sHas_any _ A' n c n' c' d _ _ HL1.out (by omega)).mono ?_
      rintro e w4 ⟨rfl, b⟩
      rw [hh]
      replace c0 := c0.trans (b.mono c0.size)
      replace S := S.keep b
      clear b k0 k1
      have k0 : w4.cell? ⟨w.heap.size, 0, none⟩ = some (.slice (some ⟨b9, off9, none⟩) n c) := (S.at_ 3 rfl).cell 0
      have k2 : w4.cell? ⟨b9, off9 + X, none⟩ = some (.slice A1 m1 d1) := (c0.cell (p := ⟨b9, off9 + X, none⟩) hb9).trans hcell
      go_wp2_with fail
      refine (in_any _ _ _ _).mono ?_
      rintro e w5 ⟨rfl, rfl⟩
      rw [HI.out]
      go_wp2_with fail
      refine (in_any _ _ _ _).mono ?_
      rintro e w5 ⟨rfl, rfl⟩
      rw [HNN.out]
      have o0 : w4.cell? ⟨w2.heap.size, 0, none⟩ = some (.slice G j g) := (S.at_ 0 rfl).cell 0
      have o1 : w4.cell? ⟨w2.heap.size, 1, none⟩ = some (.slice H q hc) := (S.at_ 0 rfl).cell 1
      have p0 : w4.cell? ⟨w.heap.size + 1, 0, none⟩ = some (.slice none 0 0) := (S.at_ 2 rfl).cell 0
      have p1 : w4.cell? ⟨w.heap.size + 1, 1, none⟩ = some (.slice none 0 0) := (S.at_ 2 rfl).cell 1
      have f0 := (S.at_ 2 rfl).free 0
      have f1 := (S.at_ 2 rfl).free 1
      obtain ⟨v1, v2, fk, fw, ev, SX⟩ := Sep.split (d1 := [keptD d.kept]) (d2 := [waitD d.wait]) S.swap
      obtain ⟨ev1, ev2⟩ : v1 = [.slice G j g] ∧ v2 = [.slice H q hc] := by
        have l1 := (SX.own_ 1 rfl).len
        have l2 := (SX.own_ 0 rfl).len
        match v1, v2, l1, l2 with
        | [y1], [y2], _, _ =>
          injection ev with a1 a2
          injection a2 with a2 _
          subst a1 a2
          exact ⟨rfl, rfl⟩
      subst ev1 ev2
      have SY := SX.swap
      obtain ⟨g0, cg, es, f2, ee, _, _, he, hcl, hfr, hel, hnd2, hg2, hgf, hsub, hin, _⟩ := Ow.elem (k := 1) rowC_len (by decide) (SY.own_ 0 rfl) (SY.nodup_own 0 rfl) (j := X) hjl
      injection ee with e1 e2 e3
      subst e1 e3
      match es, he with
      | [y0], _ =>
      obtain ⟨R1, rn, rc, rfl, o1', rfl⟩ := hel.own
      have rnl : rn = m1 := by rw [← o1'.len, ← hrow.1]
      subst rnl
      have cy := hcl 0 (by decide)
      rw [Nat.add_zero, Nat.mul_one] at cy
      have cy0 : w4.cell? ⟨g0, X, none⟩ = some (.slice R1 rn rc) := cy
      obtain ⟨r0, rfl, _⟩ := o1'.at_ (by omega)
      have co := o1'.cell_ (j := I) hIm
      have fo : w4.frozen? ⟨r0, I, none⟩ = false := World.ownsRow.frozenAt o1' I
      have op := o1'.put_ I x
      have tt : Touch (Value.slice (some ⟨r0, 0, none⟩) rn rc).ownBlock.toList w4 (w4.setCell ⟨r0, I, none⟩ (.int .i64 x)) := Touch.of_set (by simp [Value.ownBlock])
      have okk := hin _ _ tt op.ow
      have S6 := SY.mark 0 rfl (tt.mono hsub) okk
      have c6 := c0.trans (SY.below 0 rfl (tt.mono hsub) c0.size)
      have u0 : (w4.setCell ⟨r0, I, none⟩ (.int .i64 x)).cell? ⟨w2.heap.size, 0, none⟩ = some (.slice (some ⟨g0, 0, none⟩) j g) := (S6.at_ 2 rfl).cell 0
      have u1 : (w4.setCell ⟨r0, I, none⟩ (.int .i64 x)).cell? ⟨w2.heap.size, 1, none⟩ = some (.slice H q hc) := (S6.at_ 2 rfl).cell 1
      have u2 : (w4.setCell ⟨r0, I, none⟩ (.int .i64 x)).cell? ⟨w.heap.size + 1, 0, none⟩ = some (.slice none 0 0) := (S6.at_ 3 rfl).cell 0
      have u3 : (w4.setCell ⟨r0, I, none⟩ (.int .i64 x)).cell? ⟨w.heap.size + 1, 1, none⟩ = some (.slice none 0 0) := (S6.at_ 3 rfl).cell 1
      have y2 := (S6.at_ 3 rfl).free 0
      have y3 := (S6.at_ 3 rfl).free 1
      have S7 := Lib.hid ((S6.put 3 rfl 0 (.slice (some ⟨g0, 0, none⟩) j g)).put 3 rfl 1 (.slice H q hc)).swap.pair
      have B7 := Lib.hid ((c6.setCell (p := ⟨w.heap.size + 1, 0, none⟩) (by simp) (.slice (some ⟨g0, 0, none⟩) j g)).setCell (p := ⟨w.heap.size + 1, 1, none⟩) (by simp) (.slice H q hc))
      have b0 : (0 : Int) ≤ (I : Int) := by omega
      have b1 : (I : Int) < (rn : Int) := by omega
      have hjn : (X : Int) < (j : Int) := by have := keptD_len (SY.own_ 0 rfl); have := HL1.out; omega
      have HGK := Lib.hid (show d.kept[X] = d.kept.getD X [] from HGD.out.symm)
      clear S SX SY S6 c0 c6 ev hin hsub hgf hg2 hnd2 hfr hcl hel okk op tt o1' cy f0 f1 p0 p1 e2 hrow
      go_wp2
      refine bodyPost_ret (v := .tuple #[.agg #[.slice (some ⟨g0, 0, none⟩) j g, .slice H q hc], .bool true]) (by simp [results, Try.results40, go_sem, u2, u3]) rfl ⟨_, j, g, H, q, hc, by rw [HR.out], ?_, B7.out⟩
      rw [HR.out, ← HGK.out]
      exact S7.out
    · have HR := Lib.hid (show rotted d (X : Int) i x = (d, false) by
        unfold rotted
        rw [if_pos hd, if_neg (fun h9 => hx h9.2.2)])
      obtain ⟨b9, off9, rfl, hb9, hcc⟩ := hel1 (by omega)
      obtain ⟨A1, m1, d1, hcell, hrow, hm1, hm2⟩ := hcc X hjl
      have hm48 : m1 ≤ 48 := by rw [← hrow.1]; exact ok_kept_len hd _ (List.getElem_mem hjl)
      have hlen : ((d.kept.getD X []).length : Int) = (m1 : Int) := by rw [HGD.out, hrow.1]
      have a0 : (0 : Int) ≤ (X : Int) := by omega
      have a1 : (X : Int) < (n : Int) := by omega
      clear hcc hel1
      have HI := Lib.hid (show (decide ((0 : Int) ≤ i) && decide (i ≤ (m1 : Int) - 1)) = true by
        have h8 := hi.1
        have h9 := hi.2
        simp only [Bool.and_eq_true, decide_eq_true_eq]
        omega)
      have HNN := Lib.hid (show (decide ((0 : Int) ≤ x) && decide (x ≤ 1000000000)) = false by
        cases h9 : (decide ((0 : Int) ≤ x) && decide (x ≤ 1000000000))
        · rfl
        · exact absurd (by simpa using h9) hx)
      go_enter Try.func40, Try.ntmps40
      go_wp2_with fail
      rw [← HW.out]
      refine (sDiskOk_any _ _ d _ _ (h.keep c0) c0.size (by omega)).mono ?_
      rintro e w1 ⟨rfl, b⟩
      rw [hd]
      replace c0 := c0.trans (b.mono c0.size)
      replace S := S.keep b
      clear b
      have k0 : w1.cell? ⟨w.heap.size, 0, none⟩ = some (.slice (some ⟨b9, off9, none⟩) n c) := (S.at_ 1 rfl).cell 0
      have k1 : w1.cell? ⟨w.heap.size, 1, none⟩ = some (.slice A' n' c') := (S.at_ 1 rfl).cell 1
      go_wp2_with fail
      refine (sCopyD_any _ _ d _ ((h.keep c0).up c0.size) (by omega)).mono ?_
      rintro e w2 ⟨G, j, g, H, q, hc, rfl, o, b⟩
      obtain ⟨fp, S'⟩ := S.has b o c0.size
      replace c0 := c0.trans (b.mono c0.size)
      clear S; have S := S'; clear S' o b k0 k1
      have zw2 := c0.size
      replace S := S.box c0.size #[.slice G j g, .slice H q hc] 27
      replace c0 := c0.alloc c0.size (.cells #[.slice G j g, .slice H q hc] 27)
      have k0 : (w2.alloc (.cells #[.slice G j g, .slice H q hc] 27)).cell? ⟨w.heap.size, 0, none⟩ = some (.slice (some ⟨b9, off9, none⟩) n c) := (S.at_ 3 rfl).cell 0
      have k1 : (w2.alloc (.cells #[.slice G j g, .slice H q hc] 27)).cell? ⟨w.heap.size, 1, none⟩ = some (.slice A' n' c') := (S.at_ 3 rfl).cell 1
      go_wp2_with fail
      generalize w2.alloc (.cells #[.slice G j g, .slice H q hc] 27) = w3 at *
      refine (sHas_any _ A' n c n' c' d _ _ HL1.out (by omega)).mono ?_
      rintro e w4 ⟨rfl, b⟩
      rw [hh]
      replace c0 := c0.trans (b.mono c0.size)
      replace S := S.keep b
      clear b k0 k1
      have k0 : w4.cell? ⟨w.heap.size, 0, none⟩ = some (.slice (some ⟨b9, off9, none⟩) n c) := (S.at_ 3 rfl).cell 0
      have k2 : w4.cell? ⟨b9, off9 + X, none⟩ = some (.slice A1 m1 d1) := (c0.cell (p := ⟨b9, off9 + X, none⟩) hb9).trans hcell
      go_wp2_with fail
      refine (in_any _ _ _ _).mono ?_
      rintro e w5 ⟨rfl, rfl⟩
      rw [HI.out]
      go_wp2_with fail
      refine (in_any _ _ _ _).mono ?_
      rintro e w5 ⟨rfl, rfl⟩
      rw [HNN.out]
      have o0 : w4.cell? ⟨w2.heap.size, 0, none⟩ = some (.slice G j g) := (S.at_ 0 rfl).cell 0
      have o1 : w4.cell? ⟨w2.heap.size, 1, none⟩ = some (.slice H q hc) := (S.at_ 0 rfl).cell 1
      have p0 : w4.cell? ⟨w.heap.size + 1, 0, none⟩ = some (.slice none 0 0) := (S.at_ 2 rfl).cell 0
      have p1 : w4.cell? ⟨w.heap.size + 1, 1, none⟩ = some (.slice none 0 0) := (S.at_ 2 rfl).cell 1
      have f0 := (S.at_ 2 rfl).free 0
      have f1 := (S.at_ 2 rfl).free 1
      have S5 := Lib.hid (((S.put 2 rfl 0 (.slice G j g)).put 2 rfl 1 (.slice H q hc)).drop 1).first
      have B5 := Lib.hid ((c0.setCell (p := ⟨w.heap.size + 1, 0, none⟩) (by simp) (.slice G j g)).setCell (p := ⟨w.heap.size + 1, 1, none⟩) (by simp) (.slice H q hc))
      clear S c0
      go_wp2
      refine bodyPost_ret (v := .tuple #[.agg #[.slice G j g, .slice H q hc], .bool false]) (by simp [results, Try.results40, go_sem, p0, p1]) rfl ⟨G, j, g, H, q, hc, by rw [HR.out], ?_, B5.out⟩
      rw [HR.out]
      exact S5.out
  · have HR := Lib.hid (show rotted d (X : Int) i x = (d, false) by
      unfold rotted
      rw [if_pos hd, if_neg (fun h9 => hi h9.2.1)])
    obtain ⟨b9, off9, rfl, hb9, hcc⟩ := hel1 (by omega)
    obtain ⟨A1, m1, d1, hcell, hrow, hm1, hm2⟩ := hcc X hjl
    have hm48 : m1 ≤ 48 := by rw [← hrow.1]; exact ok_kept_len hd _ (List.getElem_mem hjl)
    have hlen : ((d.kept.getD X []).length : Int) = (m1 : Int) := by rw [HGD.out, hrow.1]
    have a0 : (0 : Int) ≤ (X : Int) := by omega
    have a1 : (X : Int) < (n : Int) := by omega
    clear hcc hel1
    have HI := Lib.hid (show (decide ((0 : Int) ≤ i) && decide (i ≤ (m1 : Int) - 1)) = false by
      cases h9 : (decide ((0 : Int) ≤ i) && decide (i ≤ (m1 : Int) - 1))
      · rfl
      · simp only [Bool.and_eq_true, decide_eq_true_eq] at h9
        exact absurd ⟨h9.1, by omega⟩ hi)
    go_enter Try.func40, Try.ntmps40
    go_wp2_with fail
    rw [← HW.out]
    refine (sDiskOk_any _ _ d _ _ (h.keep c0) c0.size (by omega)).mono ?_
    rintro e w1 ⟨rfl, b⟩
    rw [hd]
    replace c0 := c0.trans (b.mono c0.size)
    replace S := S.keep b
    clear b
    have k0 : w1.cell? ⟨w.heap.size, 0, none⟩ = some (.slice (some ⟨b9, off9, none⟩) n c) := (S.at_ 1 rfl).cell 0
    have k1 : w1.cell? ⟨w.heap.size, 1, none⟩ = some (.slice A' n' c') := (S.at_ 1 rfl).cell 1
    go_wp2_with fail
    refine (sCopyD_any _ _ d _ ((h.keep c0).up c0.size) (by omega)).mono ?_
    rintro e w2 ⟨G, j, g, H, q, hc, rfl, o, b⟩
    obtain ⟨fp, S'⟩ := S.has b o c0.size
    replace c0 := c0.trans (b.mono c0.size)
    clear S; have S := S'; clear S' o b k0 k1
    have zw2 := c0.size
    replace S := S.box c0.size #[.slice G j g, .slice H q hc] 27
    replace c0 := c0.alloc c0.size (.cells #[.slice G j g, .slice H q hc] 27)
    have k0 : (w2.alloc (.cells #[.slice G j g, .slice H q hc] 27)).cell? ⟨w.heap.size, 0, none⟩ = some (.slice (some ⟨b9, off9, none⟩) n c) := (S.at_ 3 rfl).cell 0
    have k1 : (w2.alloc (.cells #[.slice G j g, .slice H q hc] 27)).cell? ⟨w.heap.size, 1, none⟩ = some (.slice A' n' c') := (S.at_ 3 rfl).cell 1
    go_wp2_with fail
    generalize w2.alloc (.cells #[.slice G j g, .slice H q hc] 27) = w3 at *
    refine (sHas_any _ A' n c n' c' d _ _ HL1.out (by omega)).mono ?_
    rintro e w4 ⟨rfl, b⟩
    rw [hh]
    replace c0 := c0.trans (b.mono c0.size)
    replace S := S.keep b
    clear b k0 k1
    have k0 : w4.cell? ⟨w.heap.size, 0, none⟩ = some (.slice (some ⟨b9, off9, none⟩) n c) := (S.at_ 3 rfl).cell 0
    have k2 : w4.cell? ⟨b9, off9 + X, none⟩ = some (.slice A1 m1 d1) := (c0.cell (p := ⟨b9, off9 + X, none⟩) hb9).trans hcell
    go_wp2_with fail
    refine (in_any _ _ _ _).mono ?_
    rintro e w5 ⟨rfl, rfl⟩
    rw [HI.out]
    have o0 : w4.cell? ⟨w2.heap.size, 0, none⟩ = some (.slice G j g) := (S.at_ 0 rfl).cell 0
    have o1 : w4.cell? ⟨w2.heap.size, 1, none⟩ = some (.slice H q hc) := (S.at_ 0 rfl).cell 1
    have p0 : w4.cell? ⟨w.heap.size + 1, 0, none⟩ = some (.slice none 0 0) := (S.at_ 2 rfl).cell 0
    have p1 : w4.cell? ⟨w.heap.size + 1, 1, none⟩ = some (.slice none 0 0) := (S.at_ 2 rfl).cell 1
    have f0 := (S.at_ 2 rfl).free 0
    have f1 := (S.at_ 2 rfl).free 1
    have S5 := Lib.hid (((S.put 2 rfl 0 (.slice G j g)).put 2 rfl 1 (.slice H q hc)).drop 1).first
    have B5 := Lib.hid ((c0.setCell (p := ⟨w.heap.size + 1, 0, none⟩) (by simp) (.slice G j g)).setCell (p := ⟨w.heap.size + 1, 1, none⟩) (by simp) (.slice H q hc))
    clear S c0
    go_wp2
    refine bodyPost_ret (v := .tuple #[.agg #[.slice G j g, .slice H q hc], .bool false]) (by simp [results, Try.results40, go_sem, p0, p1]) rfl ⟨G, j, g, H, q, hc, by rw [HR.out], ?_, B5.out⟩
    rw [HR.out]
    exact S5.out

end Go.Proofs.Ytbjdfgdcmaflkaa
