/-
  The law FnMirrorFalls answers true at every slice of bytes, and writes nothing that was there.
-/
import Derived.Test.YtejcpoidoekleaaTwoL
namespace Go.Proofs.Ytejcpoidoekleaa
set_option maxRecDepth 100000
open Go.RowKit

set_option maxHeartbeats 12800000 in
theorem lawMirrorFalls (A : Option Addr) (n c0 : Nat) (w : World) (h : BRow w w.heap.size A n) (hm : n ≤ maxLen) :
    Calls Try.prog 4 #[.slice A n c0] w fun e w' => e = .returned (.bool true) ∧ Below w.heap.size w w' := by
  unfold maxLen at hm
  by_cases hn : 4096 < n
  · clear h
    go_enter Try.func4, Try.ntmps4
    go_wp2_with fail
    refine (bigt_any A n c0 _).mono ?_
    rintro e w' ⟨rfl, rfl⟩
    rw [decide_eq_true hn]
    go_wp2
    go_ret
    exact ⟨rfl, Below.refl _ _⟩
  have S := Sep.nil w w.heap.size
  have c := Below.refl w.heap.size w
  go_enter Try.func4, Try.ntmps4
  go_wp2_with fail
  refine (bigt_any A n c0 _).mono ?_
  rintro e w' ⟨rfl, rfl⟩
  rw [decide_eq_false hn]
  go_wp2_with fail
  refine (drawBothFallen_any A n c0 _ h (by omega)).mono ?_
  rintro e w1 ⟨t, At0, nt0, ct0, At1, nt1, ct1, At2, nt2, ct2, At3, nt3, ct3, E, o, co, fs, rfl, hsz, R, RF, hf8, b⟩
  replace c := c.trans (b.mono c.size)
  replace S := S.keep b
  clear b h
  have b := (Below.refl w1.heap.size w1).alloc (Nat.le_refl _) (.cells #[.slice At0 nt0 ct0, .slice At1 nt1 ct1, .slice At2 nt2 ct2, .slice At3 nt3 ct3] 32)
  replace R := R.onT b
  replace RF := RF.onT b
  clear b
  replace S := S.boxAt c.size (w1.heap.size) rfl #[.slice At0 nt0 ct0, .slice At1 nt1 ct1, .slice At2 nt2 ct2, .slice At3 nt3 ct3] 32
  replace c := c.alloc c.size (.cells #[.slice At0 nt0 ct0, .slice At1 nt1 ct1, .slice At2 nt2 ct2, .slice At3 nt3 ct3] 32)
  have f0 : (w1.alloc (.cells #[.slice At0 nt0 ct0, .slice At1 nt1 ct1, .slice At2 nt2 ct2, .slice At3 nt3 ct3] 32)).cell? ⟨w1.heap.size, 0, none⟩ = some (.slice At0 nt0 ct0) := (S.at_ 0 rfl).cell 0
  have f1 : (w1.alloc (.cells #[.slice At0 nt0 ct0, .slice At1 nt1 ct1, .slice At2 nt2 ct2, .slice At3 nt3 ct3] 32)).cell? ⟨w1.heap.size, 1, none⟩ = some (.slice At1 nt1 ct1) := (S.at_ 0 rfl).cell 1
  have f2 : (w1.alloc (.cells #[.slice At0 nt0 ct0, .slice At1 nt1 ct1, .slice At2 nt2 ct2, .slice At3 nt3 ct3] 32)).cell? ⟨w1.heap.size, 2, none⟩ = some (.slice At2 nt2 ct2) := (S.at_ 0 rfl).cell 2
  have f3 : (w1.alloc (.cells #[.slice At0 nt0 ct0, .slice At1 nt1 ct1, .slice At2 nt2 ct2, .slice At3 nt3 ct3] 32)).cell? ⟨w1.heap.size, 3, none⟩ = some (.slice At3 nt3 ct3) := (S.at_ 0 rfl).cell 3
  go_wp2_with fail
  generalize w1.alloc (.cells #[.slice At0 nt0 ct0, .slice At1 nt1 ct1, .slice At2 nt2 ct2, .slice At3 nt3 ct3] 32) = w2 at *
  generalize w1.heap.size = r3 at *
  refine (iBothFallen_any _ _ _ _ _ _ _ _ _ _ _ _ t _ _ _ fs _ R (by omega) RF (by omega)).mono ?_
  rintro e w3 ⟨Af0, nf0, cf0, Af1, nf1, cf1, Af2, nf2, cf2, Af3, nf3, cf3, rfl, o, b⟩
  replace R := R.onT b
  obtain ⟨fp_own, S'⟩ := S.has b o c.size
  replace c := c.trans (b.mono c.size)
  clear S; have S := S'; clear S' o b f0 f1 f2 f3
  have b := (Below.refl w3.heap.size w3).alloc (Nat.le_refl _) (.cells #[.slice Af0 nf0 cf0, .slice Af1 nf1 cf1, .slice Af2 nf2 cf2, .slice Af3 nf3 cf3] 32)
  replace R := R.onT b
  clear b
  replace S := S.boxAt c.size (w3.heap.size) rfl #[.slice Af0 nf0 cf0, .slice Af1 nf1 cf1, .slice Af2 nf2 cf2, .slice Af3 nf3 cf3] 32
  replace c := c.alloc c.size (.cells #[.slice Af0 nf0 cf0, .slice Af1 nf1 cf1, .slice Af2 nf2 cf2, .slice Af3 nf3 cf3] 32)
  have f4 : (w3.alloc (.cells #[.slice Af0 nf0 cf0, .slice Af1 nf1 cf1, .slice Af2 nf2 cf2, .slice Af3 nf3 cf3] 32)).cell? ⟨r3, 0, none⟩ = some (.slice At0 nt0 ct0) := (S.at_ 2 rfl).cell 0
  have f5 : (w3.alloc (.cells #[.slice Af0 nf0 cf0, .slice Af1 nf1 cf1, .slice Af2 nf2 cf2, .slice Af3 nf3 cf3] 32)).cell? ⟨r3, 1, none⟩ = some (.slice At1 nt1 ct1) := (S.at_ 2 rfl).cell 1
  have f6 : (w3.alloc (.cells #[.slice Af0 nf0 cf0, .slice Af1 nf1 cf1, .slice Af2 nf2 cf2, .slice Af3 nf3 cf3] 32)).cell? ⟨r3, 2, none⟩ = some (.slice At2 nt2 ct2) := (S.at_ 2 rfl).cell 2
  have f7 : (w3.alloc (.cells #[.slice Af0 nf0 cf0, .slice Af1 nf1 cf1, .slice Af2 nf2 cf2, .slice Af3 nf3 cf3] 32)).cell? ⟨r3, 3, none⟩ = some (.slice At3 nt3 ct3) := (S.at_ 2 rfl).cell 3
  go_wp2_with fail
  generalize w3.alloc (.cells #[.slice Af0 nf0 cf0, .slice Af1 nf1 cf1, .slice Af2 nf2 cf2, .slice Af3 nf3 cf3] 32) = w4 at *
  generalize w3.heap.size = r5 at *
  refine (sTwoOk_any _ _ _ _ _ _ _ _ _ _ _ _ t _ _ R (Nat.le_refl _) (by omega)).mono ?_
  rintro e w5 ⟨rfl, b⟩
  replace R := R.onT b
  replace c := c.trans (b.mono c.size)
  replace S := S.keep b
  clear b f4 f5 f6 f7
  clear RF
  cases hok : twoOk t
  case false =>
    have hz : nf0 = 0 := by
      have h1 := rdKeptLen (S.own_ 1 rfl).rd.halves.1
      rw [show bothFallen t fs = zeroT by simp [bothFallen, hok]] at h1
      exact h1.symm
    subst hz
    have f8 : w5.cell? ⟨r5, 0, none⟩ = some (.slice Af0 0 cf0) := (S.at_ 0 rfl).cell 0
    have C := Lib.hid c
    clear S c R
    go_wp2
    go_ret
    exact ⟨rfl, C.out⟩
  have HO := Lib.hid hok
  obtain ⟨ok1, ok2, ok3⟩ := twoOk_iff.1 hok
  have hl0 : t.a.kept.length = nt0 := rdKeptLen R.halves.1
  have hw1 : t.a.wait.length = nt1 := rdWaitLen R.halves.1
  have hw3 : t.b.wait.length = nt3 := rdWaitLen R.halves.2
  have hj40 : nt0 ≤ 40 := by have := (diskOk_iff.1 ok1).1.2; omega
  have h60a : nt1 ≤ 60 := by have := (diskOk_iff.1 ok1).2.1; omega
  have h60b : nt3 ≤ 60 := by have := (diskOk_iff.1 ok2).2.1; omega
  have HL := Lib.hid hl0
  have HW1 := Lib.hid hw1
  have HW3 := Lib.hid hw3
  have hfz : (bothFallen t fs).sz ≤ 1048576 := by have := ok_two_sz (bothFallen_ok hok fs); omega
  have SH := Lib.hid S
  have CH := Lib.hid c
  have RH := Lib.hid R
  have f9 : w5.cell? ⟨r3, 0, none⟩ = some (.slice At0 nt0 ct0) := (S.at_ 2 rfl).cell 0
  clear S c R hok ok1 ok2 ok3 hl0 hw1 hw3
  go_wp2
  go_loopw [6] (fun i wr => ∃ I : Nat, I ≤ nt0 ∧ i = .int .i64 (I : Int) ∧ Below w5.heap.size w5 wr) (fun i _ => nt0 - (intOf i).toNat)
  case atStart => exact ⟨0, Nat.zero_le _, rfl, Below.refl _ _⟩
  case round =>
    obtain ⟨I, hI, rfl, hb⟩ := hrel
    clear f9
    have HB := Lib.hid hb
    have RW := Lib.hid (RH.out.onT hb)
    have kt0 : wr.cell? ⟨r3, 0, none⟩ = some (.slice At0 nt0 ct0) := ((SH.out.keep hb).at_ 2 rfl).cell 0
    have kt1 : wr.cell? ⟨r3, 1, none⟩ = some (.slice At1 nt1 ct1) := ((SH.out.keep hb).at_ 2 rfl).cell 1
    have kt2 : wr.cell? ⟨r3, 2, none⟩ = some (.slice At2 nt2 ct2) := ((SH.out.keep hb).at_ 2 rfl).cell 2
    have kt3 : wr.cell? ⟨r3, 3, none⟩ = some (.slice At3 nt3 ct3) := ((SH.out.keep hb).at_ 2 rfl).cell 3
    by_cases hlt : I < nt0
    case neg =>
      have i1 : ¬ ((I : Int) < (nt0 : Int)) := by omega
      have S := SH.out.keep hb
      have c := CH.out.trans (hb.mono CH.out.size)
      have kf0 : wr.cell? ⟨r5, 0, none⟩ = some (.slice Af0 nf0 cf0) := ((SH.out.keep hb).at_ 0 rfl).cell 0
      have kf1 : wr.cell? ⟨r5, 1, none⟩ = some (.slice Af1 nf1 cf1) := ((SH.out.keep hb).at_ 0 rfl).cell 1
      have kf2 : wr.cell? ⟨r5, 2, none⟩ = some (.slice Af2 nf2 cf2) := ((SH.out.keep hb).at_ 0 rfl).cell 2
      have kf3 : wr.cell? ⟨r5, 3, none⟩ = some (.slice Af3 nf3 cf3) := ((SH.out.keep hb).at_ 0 rfl).cell 3
      go_wp2_with fail
      refine (iTwoOk_any _ _ _ _ _ _ _ _ _ _ _ _ (bothFallen t fs) _ _ (S.own_ 1 rfl).rd (Nat.le_refl _) (by omega)).mono ?_
      rintro e w99 ⟨rfl, b⟩
      rw [bothFallen_ok HO.out fs]
      have C := Lib.hid (c.trans (b.mono c.size))
      clear S b c hb
      go_wp2
      go_ret
      exact ⟨rfl, C.out⟩
    have i1 : (I : Int) < (nt0 : Int) := by omega
    have i0 : (0 : Int) ≤ (I : Int) := by omega
    go_wp2
    go_loop [7, 8] (fun s i => ∃ k : Nat, k ≤ nt1 ∧ i = .int .i64 (k : Int) ∧ s = .bool (hitTo t.a.wait (I : Int) k)) (fun _ i => nt1 - (intOf i).toNat)
    case atStart => exact ⟨0, Nat.zero_le _, rfl, rfl⟩
    case round =>
      obtain ⟨k, hk, rfl, rfl⟩ := hrel
      by_cases hkq : k < nt1
      · obtain ⟨_, _, _, _, _, _, _, e, _, q2⟩ := RW.out.halves.1.disk
        injection e with e1 e2 e3
        subst e1 e2 e3
        obtain ⟨_, _, _, e, hl, _, _, h3⟩ := q2.wait
        injection e with e1 e2 e3
        subst e1 e2 e3
        obtain ⟨bb, off, rfl, hbb, hcc⟩ := h3 (by omega)
        have hkl : k < t.a.wait.length := by omega
        obtain ⟨A1, m1, d1, hcell, hx1, hx2, hx3⟩ := hcc k hkl
        have HE := Lib.hid (hitTo_at (i := (I : Int)) hkl)
        have k0 : (0 : Int) ≤ (k : Int) := by omega
        have k1 : (k : Int) < (nt1 : Int) := by omega
        generalize t.a.wait[k].1 = xx at *
        clear hx1 hx2 hx3 h3 hcc hl hkl q2
        cases hh : (hitTo t.a.wait (I : Int) k)
        · by_cases hx : xx = (I : Int)
          · have HQ := Lib.hid (show (hitTo t.a.wait (I : Int) (k + 1)) = true by rw [HE.out]; simp [hx])
            have t1 : (xx == (I : Int)) = true := by simp [hx]
            have t2 : decide (xx = (I : Int)) = true := by simp [hx]
            clear hx
            go_wp2
            go_round
            case rel => exact ⟨k + 1, by omega, by go_num, by rw [HQ.out]⟩
            case measure => simp [intOf]; omega
          · have HQ := Lib.hid (show (hitTo t.a.wait (I : Int) (k + 1)) = false by rw [HE.out]; simp [hx, hh])
            have t1 : (xx == (I : Int)) = false := by simp [hx]
            have t2 : decide (xx = (I : Int)) = false := by simp [hx]
            clear hx
            go_wp2
            go_round
            case rel => exact ⟨k + 1, by omega, by go_num, by rw [HQ.out]⟩
            case measure => simp [intOf]; omega
        · have HQ := Lib.hid (show (hitTo t.a.wait (I : Int) (k + 1)) = true by rw [HE.out]; simp [hh])
          go_wp2
          go_round
          case rel => exact ⟨k + 1, by omega, by go_num, by rw [HQ.out]⟩
          case measure => simp [intOf]; omega
      · obtain rfl : nt1 = k := by omega
        go_wp2
        go_loop [7, 9] (fun s i => ∃ k : Nat, k ≤ nt3 ∧ i = .int .i64 (k : Int) ∧ s = .bool (hitTo t.a.wait (I : Int) nt1 || hitTo t.b.wait (I : Int) k)) (fun _ i => nt3 - (intOf i).toNat)
        case atStart => exact ⟨0, Nat.zero_le _, rfl, by simp [hitTo]⟩
        case round =>
          obtain ⟨k, hk, rfl, rfl⟩ := hrel
          by_cases hkq : k < nt3
          · obtain ⟨_, _, _, _, _, _, _, e, _, q2⟩ := RW.out.halves.2.disk
            injection e with e1 e2 e3
            subst e1 e2 e3
            obtain ⟨_, _, _, e, hl, _, _, h3⟩ := q2.wait
            injection e with e1 e2 e3
            subst e1 e2 e3
            obtain ⟨bb, off, rfl, hbb, hcc⟩ := h3 (by omega)
            have hkl : k < t.b.wait.length := by omega
            obtain ⟨A1, m1, d1, hcell, hx1, hx2, hx3⟩ := hcc k hkl
            have HE := Lib.hid (hitTo_at (i := (I : Int)) hkl)
            have k0 : (0 : Int) ≤ (k : Int) := by omega
            have k1 : (k : Int) < (nt3 : Int) := by omega
            generalize t.b.wait[k].1 = xx at *
            clear hx1 hx2 hx3 h3 hcc hl hkl q2
            cases hh : (hitTo t.a.wait (I : Int) nt1 || hitTo t.b.wait (I : Int) k)
            · by_cases hx : xx = (I : Int)
              · have HQ := Lib.hid (show (hitTo t.a.wait (I : Int) nt1 || hitTo t.b.wait (I : Int) (k + 1)) = true by rw [HE.out]; simp [hx])
                have t1 : (xx == (I : Int)) = true := by simp [hx]
                have t2 : decide (xx = (I : Int)) = true := by simp [hx]
                clear hx
                go_wp2
                go_round
                case rel => exact ⟨k + 1, by omega, by go_num, by rw [HQ.out]⟩
                case measure => simp [intOf]; omega
              · have HQ := Lib.hid (show (hitTo t.a.wait (I : Int) nt1 || hitTo t.b.wait (I : Int) (k + 1)) = false by rw [HE.out]; simp only [Bool.or_eq_false_iff] at hh ⊢; simp [hx, hh.1, hh.2])
                have t1 : (xx == (I : Int)) = false := by simp [hx]
                have t2 : decide (xx = (I : Int)) = false := by simp [hx]
                clear hx
                go_wp2
                go_round
                case rel => exact ⟨k + 1, by omega, by go_num, by rw [HQ.out]⟩
                case measure => simp [intOf]; omega
            · have HQ := Lib.hid (show (hitTo t.a.wait (I : Int) nt1 || hitTo t.b.wait (I : Int) (k + 1)) = true by rw [HE.out]; rw [← Bool.or_assoc, hh]; rfl)
              go_wp2
              go_round
              case rel => exact ⟨k + 1, by omega, by go_num, by rw [HQ.out]⟩
              case measure => simp [intOf]; omega
          · obtain rfl : nt3 = k := by omega
            cases hh : (hitTo t.a.wait (I : Int) nt1 || hitTo t.b.wait (I : Int) nt3)
            case true =>
              go_wp2
              go_quiet (fail)
              go_wp2
              go_roundw
              case rel => exact ⟨I + 1, by omega, by go_num, HB.out.trans (((Drew.refl wr).more _).below _)⟩
              case measure => simp [intOf]; omega
            obtain ⟨hha, hhb⟩ := Bool.or_eq_false_iff.1 hh
            have HR := Lib.hid (right_fallen HO.out fs (I := I) (by rw [HL.out]; exact hlt) (by rw [HW1.out]; exact hha) (by rw [HW3.out]; exact hhb))
            clear hha hhb
            have HZ := Lib.hid hsz
            have hz2 : rowsSz (rightAt t (I : Int)) ≤ 1048577 := rightAt_sz t _ (by omega)
            have SR := Lib.hid ((SH.out.keep HB.out).keep ((Below.refl _ _).drew))
            have RR := Lib.hid (RW.out.onT ((Below.refl _ _).drew))
            have SW := SH.out.keep HB.out
            have ff0 : wr.cell? ⟨r5, 0, none⟩ = some (.slice Af0 nf0 cf0) := (SW.at_ 0 rfl).cell 0
            have ff1 : wr.cell? ⟨r5, 1, none⟩ = some (.slice Af1 nf1 cf1) := (SW.at_ 0 rfl).cell 1
            have ff2 : wr.cell? ⟨r5, 2, none⟩ = some (.slice Af2 nf2 cf2) := (SW.at_ 0 rfl).cell 2
            have ff3 : wr.cell? ⟨r5, 3, none⟩ = some (.slice Af3 nf3 cf3) := (SW.at_ 0 rfl).cell 3
            have ff4 : wr.cell? ⟨r3, 0, none⟩ = some (.slice At0 nt0 ct0) := (SW.at_ 2 rfl).cell 0
            have ff5 : wr.cell? ⟨r3, 1, none⟩ = some (.slice At1 nt1 ct1) := (SW.at_ 2 rfl).cell 1
            have ff6 : wr.cell? ⟨r3, 2, none⟩ = some (.slice At2 nt2 ct2) := (SW.at_ 2 rfl).cell 2
            have ff7 : wr.cell? ⟨r3, 3, none⟩ = some (.slice At3 nt3 ct3) := (SW.at_ 2 rfl).cell 3
            clear SW kt0 kt1 kt2 kt3
            go_wp2_with fail
            go_region_held3 (fun v => v.cell? ⟨r5, 0, none⟩ = some (.slice Af0 nf0 cf0) ∧ v.cell? ⟨r5, 1, none⟩ = some (.slice Af1 nf1 cf1) ∧ v.cell? ⟨r5, 2, none⟩ = some (.slice Af2 nf2 cf2) ∧ v.cell? ⟨r5, 3, none⟩ = some (.slice Af3 nf3 cf3) ∧ v.cell? ⟨r3, 0, none⟩ = some (.slice At0 nt0 ct0) ∧ v.cell? ⟨r3, 1, none⟩ = some (.slice At1 nt1 ct1) ∧ v.cell? ⟨r3, 2, none⟩ = some (.slice At2 nt2 ct2) ∧ v.cell? ⟨r3, 3, none⟩ = some (.slice At3 nt3 ct3)) (go_keep)
              (first
                | (go_at_call 21
                   refine (iRightAt_any _ _ _ _ _ _ _ _ _ _ _ _ (bothFallen t fs) (I : Int) _ (SR.out.own_ 1 rfl).rd hfz).mono ?_
                   rintro e v1 ⟨X0, x0, y0, rfl, ox, b1⟩
                   rw [HR.out] at ox
                   have S1 := SR.out.keep b1
                   have ga0 : v1.cell? ⟨r5, 0, none⟩ = some (.slice Af0 nf0 cf0) := (S1.at_ 0 rfl).cell 0
                   have ga1 : v1.cell? ⟨r5, 1, none⟩ = some (.slice Af1 nf1 cf1) := (S1.at_ 0 rfl).cell 1
                   have ga2 : v1.cell? ⟨r5, 2, none⟩ = some (.slice Af2 nf2 cf2) := (S1.at_ 0 rfl).cell 2
                   have ga3 : v1.cell? ⟨r5, 3, none⟩ = some (.slice Af3 nf3 cf3) := (S1.at_ 0 rfl).cell 3
                   have ga4 : v1.cell? ⟨r3, 0, none⟩ = some (.slice At0 nt0 ct0) := (S1.at_ 2 rfl).cell 0
                   have ga5 : v1.cell? ⟨r3, 1, none⟩ = some (.slice At1 nt1 ct1) := (S1.at_ 2 rfl).cell 1
                   have ga6 : v1.cell? ⟨r3, 2, none⟩ = some (.slice At2 nt2 ct2) := (S1.at_ 2 rfl).cell 2
                   have ga7 : v1.cell? ⟨r3, 3, none⟩ = some (.slice At3 nt3 ct3) := (S1.at_ 2 rfl).cell 3
                   have O1 := Lib.hid ox
                   have B1 := Lib.hid b1
                   clear S1 ox b1)
                | (go_at_call 28
                   refine (sRightAt_any _ _ _ _ _ _ _ _ _ _ _ _ t (I : Int) _ (RR.out.onT B1.out) (Nat.le_trans HZ.out (by decide))).mono ?_
                   rintro e v2 ⟨Y0, p0, q0, rfl, oy, b2⟩
                   have S2 := (SR.out.keep B1.out).keep b2
                   have gb0 : v2.cell? ⟨r5, 0, none⟩ = some (.slice Af0 nf0 cf0) := (S2.at_ 0 rfl).cell 0
                   have gb1 : v2.cell? ⟨r5, 1, none⟩ = some (.slice Af1 nf1 cf1) := (S2.at_ 0 rfl).cell 1
                   have gb2 : v2.cell? ⟨r5, 2, none⟩ = some (.slice Af2 nf2 cf2) := (S2.at_ 0 rfl).cell 2
                   have gb3 : v2.cell? ⟨r5, 3, none⟩ = some (.slice Af3 nf3 cf3) := (S2.at_ 0 rfl).cell 3
                   have gb4 : v2.cell? ⟨r3, 0, none⟩ = some (.slice At0 nt0 ct0) := (S2.at_ 2 rfl).cell 0
                   have gb5 : v2.cell? ⟨r3, 1, none⟩ = some (.slice At1 nt1 ct1) := (S2.at_ 2 rfl).cell 1
                   have gb6 : v2.cell? ⟨r3, 2, none⟩ = some (.slice At2 nt2 ct2) := (S2.at_ 2 rfl).cell 2
                   have gb7 : v2.cell? ⟨r3, 3, none⟩ = some (.slice At3 nt3 ct3) := (S2.at_ 2 rfl).cell 3
                   have O2 := Lib.hid oy
                   have B2 := Lib.hid b2
                   clear S2 oy b2)
                | (go_at_call 27
                   have q1 := (O1.out.below B2.out).rd
                   have q2 := O2.out.rd
                   refine (likeRows_two _ _ _ _ _ _ _ _ (rightAt t (I : Int)) _ q1 q2 hz2).mono ?_
                   rintro e v3 ⟨rfl, dd⟩
                   have S3 := ((SR.out.keep B1.out).keep B2.out).keep (dd.below _)
                   have gc0 : v3.cell? ⟨r5, 0, none⟩ = some (.slice Af0 nf0 cf0) := (S3.at_ 0 rfl).cell 0
                   have gc1 : v3.cell? ⟨r5, 1, none⟩ = some (.slice Af1 nf1 cf1) := (S3.at_ 0 rfl).cell 1
                   have gc2 : v3.cell? ⟨r5, 2, none⟩ = some (.slice Af2 nf2 cf2) := (S3.at_ 0 rfl).cell 2
                   have gc3 : v3.cell? ⟨r5, 3, none⟩ = some (.slice Af3 nf3 cf3) := (S3.at_ 0 rfl).cell 3
                   have gc4 : v3.cell? ⟨r3, 0, none⟩ = some (.slice At0 nt0 ct0) := (S3.at_ 2 rfl).cell 0
                   have gc5 : v3.cell? ⟨r3, 1, none⟩ = some (.slice At1 nt1 ct1) := (S3.at_ 2 rfl).cell 1
                   have gc6 : v3.cell? ⟨r3, 2, none⟩ = some (.slice At2 nt2 ct2) := (S3.at_ 2 rfl).cell 2
                   have gc7 : v3.cell? ⟨r3, 3, none⟩ = some (.slice At3 nt3 ct3) := (S3.at_ 2 rfl).cell 3
                   have D3 := Lib.hid dd
                   clear S3 dd q1 q2))
            all_goals
              go_wp2
              go_roundw
              case rel => exact ⟨I + 1, by omega, by go_num, below_then (below_then (below_then HB.out.drew B1.out) B2.out) (D3.out.below _)⟩
              case measure => simp [intOf]; omega

end Go.Proofs.Ytejcpoidoekleaa
