/-
  The law FnFallenDisk answers true at every slice of bytes, and writes nothing that was there.
-/
import Derived.Test.YtbjdfgdcmaflkaaLawDiskWhole
namespace Go.Proofs.Ytbjdfgdcmaflkaa
open Go.RowKit

theorem rdKept_at {w : World} {B : Nat} {l : List (List Int)} {A : Option Addr} {n c : Nat} (h : Rd w B [keptD l] [.slice A n c]) {I : Nat} (hI : I < n) :
    ∃ b off A' m c', A = some ⟨b, off, none⟩ ∧ b < B ∧ w.cell? ⟨b, off + I, none⟩ = some (.slice A' m c') ∧ IRow w B A' m (l.getD I []) := by
  obtain ⟨_, _, _, e, hl, _, _, h3⟩ := h.kept
  injection e with e1 e2 e3
  subst e1 e2 e3
  obtain ⟨b, off, rfl, hb, hc⟩ := h3 (by omega)
  obtain ⟨A', m, c', hcell, hr, _⟩ := hc I (by omega)
  refine ⟨b, off, A', m, c', rfl, hb, hcell, ?_⟩
  rw [List.getD_eq_getElem?_getD, List.getElem?_eq_getElem (by omega)]
  exact hr
theorem rdWait_len {w : World} {B : Nat} {l : List (Int × List Int)} {A : Option Addr} {n c : Nat} (h : Rd w B [waitD l] [.slice A n c]) : l.length = n := by
  obtain ⟨_, _, _, e, hl, _⟩ := h.wait
  injection e with _ e2 _
  omega
theorem own_78 (w : World) : Own (w.alloc (.cells #[.int .i64 7, .int .i64 8] 2)) w.heap.size (some ⟨w.heap.size, 0, none⟩) 2 2 [7, 8] := by
  have := own_lit w [7, 8] (by decide)
  simpa [ivals] using this

set_option maxRecDepth 100000 in
set_option maxHeartbeats 6400000 in
theorem lawFallenDisk (A : Option Addr) (n c : Nat) (w : World) (h : BRow w w.heap.size A n) (hm : n ≤ maxLen) :
    Calls Try.prog 3 #[.slice A n c] w fun e w' => e = .returned (.bool true) ∧ Below w.heap.size w w' := by
  unfold maxLen at hm
  by_cases hn : 4096 < n
  · clear h
    go_enter Try.func3, Try.ntmps3
    go_wp2_with fail
    refine (bigd_any A n c _).mono ?_
    rintro e w' ⟨rfl, rfl⟩
    rw [decide_eq_true hn]
    go_wp2
    go_ret
    exact ⟨rfl, Below.refl _ _⟩
  go_enter Try.func3, Try.ntmps3
  go_wp2_with fail
  refine (bigd_any A n c _).mono ?_
  rintro e w' ⟨rfl, rfl⟩
  rw [decide_eq_false hn]
  go_wp2_with fail
  refine (drawFallen_any A n c _ h (by omega)).mono ?_
  rintro e w1 ⟨d, G, j, g, H, q, hc, E, o, co, fs, rfl, hsz, R1, rf, hf8, b1⟩
  have bA := below_alloc w1 (.cells #[.slice G j g, .slice H q hc] 27)
  have p3 := Blk.new w1 #[.slice G j g, .slice H q hc] 27
  replace R1 := R1.on bA
  replace rf := rf.on bA
  replace b1 := b1.trans (bA.mono b1.size)
  have k0 : (w1.alloc (.cells #[.slice G j g, .slice H q hc] 27)).cell? ⟨w1.heap.size, 0, none⟩ = some (.slice G j g) := p3.cell 0
  have k1 : (w1.alloc (.cells #[.slice G j g, .slice H q hc] 27)).cell? ⟨w1.heap.size, 1, none⟩ = some (.slice H q hc) := p3.cell 1
  clear bA h
  go_wp2_with fail
  generalize w1.alloc (.cells #[.slice G j g, .slice H q hc] 27) = w2 at *
  generalize w1.heap.size = r3 at *
  refine (sDiskOk_any _ _ d _ _ R1 (Nat.le_refl _) (by omega)).mono ?_
  rintro e w3 ⟨rfl, b3⟩
  replace p3 := p3.on b3
  replace R1 := R1.on b3
  replace rf := rf.on b3
  replace b1 := b1.trans (b3.mono b1.size)
  clear b3 k0 k1
  cases hd : diskOk d
  · go_wp2
    go_ret
    exact ⟨rfl, b1⟩
  have k0 : w3.cell? ⟨r3, 0, none⟩ = some (.slice G j g) := p3.cell 0
  have k1 : w3.cell? ⟨r3, 1, none⟩ = some (.slice H q hc) := p3.cell 1
  have HD := Lib.hid hd
  clear hd
  go_wp2_with fail
  refine (iSynced_any G j g H q hc d _ R1 hsz).mono ?_
  rintro e w4 ⟨X, xn, xc, X', xn', xc', rfl, ox, b4⟩
  have rx := ox.rd
  have b4A := below_alloc w4 (.cells #[.slice X xn xc, .slice X' xn' xc'] 27)
  have p5 := Blk.new w4 #[.slice X xn xc, .slice X' xn' xc'] 27
  replace p3 := (p3.on b4).on b4A
  replace R1 := (R1.on b4).on b4A
  replace rf := (rf.on b4).on b4A
  replace rx := rx.on b4A
  replace b1 := (b1.trans (b4.mono b1.size))
  replace b1 := b1.trans (b4A.mono b1.size)
  clear b4 b4A ox k0 k1
  have k0 : (w4.alloc (.cells #[.slice X xn xc, .slice X' xn' xc'] 27)).cell? ⟨r3, 0, none⟩ = some (.slice G j g) := p3.cell 0
  have k1 : (w4.alloc (.cells #[.slice X xn xc, .slice X' xn' xc'] 27)).cell? ⟨r3, 1, none⟩ = some (.slice H q hc) := p3.cell 1
  go_wp2_with fail
  generalize w4.alloc (.cells #[.slice X xn xc, .slice X' xn' xc'] 27) = w5 at *
  generalize w4.heap.size = r5 at *
  refine (iFallen_any G j g H q hc d E o co fs _ R1 hsz rf (by omega)).mono ?_
  rintro e w6 ⟨Y, yn, yc, Y', yn', yc', rfl, oy, b6⟩
  have ry := oy.rd
  have b6A := below_alloc w6 (.cells #[.slice Y yn yc, .slice Y' yn' yc'] 27)
  have p6 := Blk.new w6 #[.slice Y yn yc, .slice Y' yn' yc'] 27
  replace p3 := (p3.on b6).on b6A
  replace p5 := (p5.on b6).on b6A
  replace R1 := (R1.on b6).on b6A
  replace rx := (rx.on b6).on b6A
  replace ry := ry.on b6A
  replace b1 := (b1.trans (b6.mono b1.size))
  replace b1 := b1.trans (b6A.mono b1.size)
  clear b6 b6A oy k0 k1 rf
  have k0 : (w6.alloc (.cells #[.slice Y yn yc, .slice Y' yn' yc'] 27)).cell? ⟨r5, 0, none⟩ = some (.slice X xn xc) := p5.cell 0
  have k1 : (w6.alloc (.cells #[.slice Y yn yc, .slice Y' yn' yc'] 27)).cell? ⟨r5, 1, none⟩ = some (.slice X' xn' xc') := p5.cell 1
  go_wp2_with fail
  generalize w6.alloc (.cells #[.slice Y yn yc, .slice Y' yn' yc'] 27) = w7 at *
  generalize w6.heap.size = r6 at *
  refine (iSafeIn_any _ _ _ _ _ rx (Nat.le_refl _) (by have := synced_sz d hsz; omega)).mono ?_
  rintro e w8 ⟨rfl, b8⟩
  rw [safe_synced HD.out]
  replace p3 := p3.on b8
  replace p5 := p5.on b8
  replace p6 := p6.on b8
  replace R1 := R1.on b8
  replace rx := rx.on b8
  replace ry := ry.on b8
  replace b1 := b1.trans (b8.mono b1.size)
  clear b8 k0 k1
  have k0 : w8.cell? ⟨r6, 0, none⟩ = some (.slice Y yn yc) := p6.cell 0
  have k1 : w8.cell? ⟨r6, 1, none⟩ = some (.slice Y' yn' yc') := p6.cell 1
  go_wp2_with fail
  refine (iSafeIn_any _ _ _ _ _ ry (Nat.le_refl _) (by have := fallen_sz d fs hsz (by omega); omega)).mono ?_
  rintro e w9 ⟨rfl, b9⟩
  rw [safe_fallen HD.out]
  replace p3 := p3.on b9
  replace p5 := p5.on b9
  replace p6 := p6.on b9
  replace R1 := R1.on b9
  replace rx := rx.on b9
  replace ry := ry.on b9
  replace b1 := b1.trans (b9.mono b1.size)
  clear b9 k0 k1
  have lx := rdKept_len rx.parts.1
  have ly := rdKept_len ry.parts.1
  have ld := rdKept_len R1.parts.1
  rw [synced_len HD.out] at lx
  rw [fallen_len HD.out] at ly
  obtain rfl : xn = j := by omega
  obtain rfl : yn = xn := by omega
  have LD := Lib.hid ld
  have hj40 : yn ≤ 40 := by have := (diskOk_iff.1 HD.out).1.2; omega
  have lw : d.wait.length = q := rdWait_len R1.parts.2
  have hq60 : q ≤ 60 := by have := (diskOk_iff.1 HD.out).2.1; omega
  have LW := Lib.hid lw
  clear lx ly ld lw
  have k3 : w9.cell? ⟨r3, 0, none⟩ = some (.slice G yn g) := p3.cell 0
  have k5 : w9.cell? ⟨r5, 0, none⟩ = some (.slice X yn xc) := p5.cell 0
  have k6 : w9.cell? ⟨r6, 0, none⟩ = some (.slice Y yn yc) := p6.cell 0
  have P3 := Lib.hid p3
  have P5 := Lib.hid p5
  have P6 := Lib.hid p6
  have RD := Lib.hid R1
  have RX := Lib.hid rx
  have RY := Lib.hid ry
  have B1 := Lib.hid b1
  have HZ := Lib.hid hsz
  clear p3 p5 p6 R1 rx ry b1 hsz hf8
  go_wp2
  go_loopw [7] (fun i wr => ∃ k : Nat, k ≤ yn ∧ i = .int .i64 (k : Int) ∧ Below w9.heap.size w9 wr) (fun i _ => yn - (intOf i).toNat)
  case atStart => exact ⟨0, Nat.zero_le _, rfl, Below.refl _ _⟩
  case round =>
    obtain ⟨I, hI, rfl, hb⟩ := hrel
    clear k3 k5 k6
    have k3 : wr.cell? ⟨r3, 0, none⟩ = some (.slice G yn g) := (P3.out.on hb).cell 0
    by_cases hlt : I < yn
    · have k3' : wr.cell? ⟨r3, 1, none⟩ = some (.slice H q hc) := (P3.out.on hb).cell 1
      have i1 : (I : Int) < (yn : Int) := by omega
      have i0 : (0 : Int) ≤ (I : Int) := by omega
      go_wp2_with fail
      refine (iReadAt_any _ _ d (I : Int) _ (RD.out.on hb) (by have := HZ.out; omega)).mono ?_
      rintro e w10 ⟨Q, m, mc, rfl, oq, b10⟩
      have rq := oq.rd
      have hb10 := hb.trans (b10.mono hb.size)
      have HB10 := Lib.hid hb10
      have RQ := Lib.hid rq
      clear oq b10 hb k3 k3' hb10 rq
      go_wp2
      go_loopw [10, 11] (fun s i wx => ∃ k : Nat, k ≤ q ∧ i = .int .i64 (k : Int) ∧ s = .int .i64 (cntTo d.wait (I : Int) k : Int) ∧ Drew w10 wx) (fun _ i _ => q - (intOf i).toNat)
      case atStart => exact ⟨0, Nat.zero_le _, rfl, rfl, Drew.refl _⟩
      case round =>
        obtain ⟨k, hk, rfl, rfl, hdr⟩ := hrel
        have hbx := HB10.out.trans ((hdr.below w10.heap.size).mono HB10.out.size)
        have hq1 : wr.cell? ⟨r3, 1, none⟩ = some (.slice H q hc) := (P3.out.on hbx).cell 1
        have hcl := cntTo_le d.wait (I : Int) k
        by_cases hkq : k < q
        · obtain ⟨_, _, _, e, hl, _, _, h3⟩ := (RD.out.on hbx).parts.2.wait
          injection e with e1 e2 e3
          subst e1 e2 e3
          obtain ⟨b, off, rfl, hb, hcc⟩ := h3 (by omega)
          have hkl : k < d.wait.length := by omega
          obtain ⟨A1, m1, d1, hcell, hx1, hx2, hx3⟩ := hcc k hkl
          clear hx1 hx2 hx3
          have k0 : (0 : Int) ≤ (k : Int) := by omega
          have k1 : (k : Int) < (q : Int) := by omega
          by_cases he : d.wait[k].1 = (I : Int)
          · have HE := Lib.hid (cntTo_hit hkl rfl he)
            rw [he] at hcell
            generalize cntTo d.wait (I : Int) k = cc at *
            clear h3 hcc hl hkl he
            go_wp2
            go_roundw
            case rel => exact ⟨k + 1, by omega, by go_num, by rw [HE.out]; go_num, hdr⟩
            case measure => simp [intOf]; omega
          · have HE := Lib.hid (cntTo_miss hkl rfl he)
            have t1 : (d.wait[k].1 == (I : Int)) = false := by simpa using he
            generalize d.wait[k].1 = xx at *
            generalize cntTo d.wait (I : Int) k = cc at *
            clear h3 hcc hl hkl he
            go_wp2
            go_roundw
            case rel => exact ⟨k + 1, by omega, by go_num, by rw [HE.out], hdr⟩
            case measure => simp [intOf]; omega
        · obtain rfl : k = q := by omega
          obtain ⟨xb, xoff, A5, m5, c5, rfl, _, x5, i5⟩ := rdKept_at (RX.out.on hbx).parts.1 hlt
          obtain ⟨yb, yoff, A6, m6, c6, rfl, _, x6, i6⟩ := rdKept_at (RY.out.on hbx).parts.1 hlt
          obtain ⟨gb, goff, A3, m3, c3, rfl, _, x3, i3⟩ := rdKept_at (RD.out.on hbx).parts.1 hlt
          have k3 : wr.cell? ⟨r3, 0, none⟩ = some (.slice (some ⟨gb, goff, none⟩) yn g) := (P3.out.on hbx).cell 0
          have k5 : wr.cell? ⟨r5, 0, none⟩ = some (.slice (some ⟨xb, xoff, none⟩) yn xc) := (P5.out.on hbx).cell 0
          have k6 : wr.cell? ⟨r6, 0, none⟩ = some (.slice (some ⟨yb, yoff, none⟩) yn yc) := (P6.out.on hbx).cell 0
          have hIl : I < d.kept.length := by have := LD.out; omega
          rw [synced_at HD.out hIl] at i5
          obtain ⟨_, _, _, e, iq, _⟩ := (RQ.out.on (hdr.below _)).irow
          injection e with e1 e2 e3
          subst e1 e2 e3
          obtain rfl : m5 = m := by rw [← i5.1, ← iq.1]
          have hm5 : m5 ≤ 1048577 := by rw [← i5.1]; exact readAt_sz d _ HZ.out
          have hq5 := Lib.hid (fun z => like_yes A5 Q m5 c5 mc _ _ _ (wr.drewN z) (i5.drewN z) (iq.drewN z) hm5)
          by_cases hc0 : cntTo d.wait (I : Int) k = 0
          · rw [fallen_at HD.out fs hIl (by rw [LW.out]; exact hc0)] at i6
            obtain rfl : m6 = m3 := by rw [← i6.1, ← i3.1]
            have hm6 : m6 ≤ 1048577 := by
              have h1 := i6.1
              have h2 := getD_len (ok_kept_len HD.out) I
              omega
            have hq6 := Lib.hid (fun z => like_yes A6 A3 m6 c6 c3 _ _ _ (wr.drewN z) (i6.drewN z) (i3.drewN z) hm6)
            rw [hc0]
            clear i5 i6 i3 iq hIl hc0 hcl
            have HBX := Lib.hid hbx
            clear hbx
            go_wp2
            go_quiet ((go_at_call 20; first | with_reducible exact Calls.quiet_of (hq5.out _) | with_reducible exact Calls.quiet_of (hq6.out _)))
            go_wp2
            go_roundw
            case rel => exact ⟨I + 1, by omega, by go_num, HBX.out.trans (((Drew.refl wr).more _).below _)⟩
            case measure => simp [intOf]; omega
          · have t1 : ((cntTo d.wait (I : Int) k : Int) == 0) = false := by simp; omega
            generalize cntTo d.wait (I : Int) k = cc at *
            clear i5 i6 i3 iq hIl hc0 hcl
            have HBX := Lib.hid hbx
            clear hbx
            go_wp2
            go_quiet ((go_at_call 20; exact Calls.quiet_of (hq5.out _)))
            go_wp2
            go_roundw
            case rel => exact ⟨I + 1, by omega, by go_num, HBX.out.trans (((Drew.refl wr).more _).below _)⟩
            case measure => simp [intOf]; omega
    · have y0 : wr.cell? ⟨r6, 0, none⟩ = some (.slice Y yn yc) := (P6.out.on hb).cell 0
      have y1 : wr.cell? ⟨r6, 1, none⟩ = some (.slice Y' yn' yc') := (P6.out.on hb).cell 1
      have bA := below_alloc wr (.cells #[.int .i64 7, .int .i64 8] 2)
      have o7 := own_78 wr
      have RYw := (RY.out.on hb).on bA
      have b11 := B1.out.trans (hb.mono B1.out.size)
      have b12 := b11.trans (bA.mono b11.size)
      clear b11 bA hb
      go_wp2_with fail
      generalize wr.alloc (.cells #[.int .i64 7, .int .i64 8] 2) = wa at *
      refine (iWrote_any Y yn yc Y' yn' yc' _ 0 _ 2 2 [7, 8] _ RYw (by have := fallen_ok HD.out fs; exact ok_sz this) o7.has.rd (by decide)).mono ?_
      rintro e w13 ⟨U, un, uc, U', un', uc', rfl, ou, b13⟩
      rw [wrote_first (safe_fallen HD.out fs)] at ou
      rw [wrote_first (safe_fallen HD.out fs)]
      have ru := ou.rd
      have bB := below_alloc w13 (.cells #[.slice U un uc, .slice U' un' uc'] 27)
      have pu := Blk.new w13 #[.slice U un uc, .slice U' un' uc'] 27
      replace ru := ru.on bB
      replace b12 := b12.trans (b13.mono b12.size)
      replace b12 := b12.trans (bB.mono b12.size)
      have u0 : (w13.alloc (.cells #[.slice U un uc, .slice U' un' uc'] 27)).cell? ⟨w13.heap.size, 0, none⟩ = some (.slice U un uc) := pu.cell 0
      have u1 : (w13.alloc (.cells #[.slice U un uc, .slice U' un' uc'] 27)).cell? ⟨w13.heap.size, 1, none⟩ = some (.slice U' un' uc') := pu.cell 1
      clear bB b13 ou o7 RYw k3 y0 y1
      go_wp2_with fail
      generalize w13.alloc (.cells #[.slice U un uc, .slice U' un' uc'] 27) = wb at *
      generalize w13.heap.size = r12 at *
      refine (iReadAt_any _ _ ⟨(fallen d fs).kept, [(0, [7, 8])]⟩ 0 _ ru (by
        have h1 := wrote_ok (fallen_ok HD.out fs) 0 [7, 8]
        rw [wrote_first (safe_fallen HD.out fs)] at h1
        exact Nat.le_trans (ok_sz h1) (by decide))).mono ?_
      rintro e w14 ⟨Q, m, mc, rfl, oq, b14⟩
      rw [read_first (safe_fallen HD.out fs)] at oq
      rw [read_first (safe_fallen HD.out fs)]
      obtain ⟨_, _, _, e, iq, _⟩ := oq.rd.irow
      injection e with e1 e2 e3
      subst e1 e2 e3
      obtain rfl : m = 2 := iq.1.symm
      replace b12 := b12.trans (b14.mono b12.size)
      have bC := below_alloc w14 (.cells #[.int .i64 7, .int .i64 8] 2)
      have o8 := own_78 w14
      replace iq := iq.below bC
      replace b12 := b12.trans (bC.mono b12.size)
      have B12 := Lib.hid b12
      clear bC b12 b14 oq ru u0 u1 pu
      go_wp2_with fail
      refine (like_yes Q _ 2 mc 2 _ _ _ _ iq o8.irow (by decide)).mono ?_
      rintro e w15 ⟨rfl, d15⟩
      have B15 := Lib.hid (B12.out.trans (d15.below _))
      clear d15 iq o8
      go_wp2
      go_ret
      exact ⟨rfl, B15.out⟩

end Go.Proofs.Ytbjdfgdcmaflkaa
