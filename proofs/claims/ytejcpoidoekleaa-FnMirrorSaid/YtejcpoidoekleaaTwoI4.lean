/-
  The program of chapter 4: equal disks.
-/
import Derived.Test.YtejcpoidoekleaaTwoI1
import Derived.Test.YtejcpoidoekleaaTwoE
namespace Go.Proofs.Ytejcpoidoekleaa
set_option maxRecDepth 100000
open Go.RowKit

set_option maxHeartbeats 6400000 in
theorem iEqualIn_any (Aa0 : Option Addr) (na0 ca0 : Nat) (Aa1 : Option Addr) (na1 ca1 : Nat) (Aa2 : Option Addr) (na2 ca2 : Nat) (Aa3 : Option Addr) (na3 ca3 : Nat) (t : TwoM) (w : World) (h : Rd w w.heap.size t.cells [.slice Aa0 na0 ca0, .slice Aa1 na1 ca1, .slice Aa2 na2 ca2, .slice Aa3 na3 ca3]) (hs : t.sz ≤ 1048576) :
    Calls Try.prog 19 #[.agg #[.slice Aa0 na0 ca0, .slice Aa1 na1 ca1, .slice Aa2 na2 ca2, .slice Aa3 na3 ca3]] w fun e w' => e = .returned (.bool (equalIn t)) ∧ Below w.heap.size w w' := by
  obtain ⟨ha, hb⟩ := h.halves
  have hsa : t.a.sz ≤ 1048576 := by unfold TwoM.sz at hs; omega
  have hsb : t.b.sz ≤ 1048576 := by unfold TwoM.sz at hs; omega
  cases hok : twoOk t
  case false =>
    have HR := Lib.hid (show equalIn t = false by simp [equalIn, hok])
    have HT := Lib.hid hok
    clear hok
    have S := Sep.nil w w.heap.size
    have c := Below.refl w.heap.size w
    replace S := S.boxAt c.size (w.heap.size) rfl #[.slice Aa0 na0 ca0, .slice Aa1 na1 ca1, .slice Aa2 na2 ca2, .slice Aa3 na3 ca3] 32
    replace c := c.alloc c.size (.cells #[.slice Aa0 na0 ca0, .slice Aa1 na1 ca1, .slice Aa2 na2 ca2, .slice Aa3 na3 ca3] 32)
    go_enter Try.func19, Try.ntmps19
    have f0 : (w.alloc (.cells #[.slice Aa0 na0 ca0, .slice Aa1 na1 ca1, .slice Aa2 na2 ca2, .slice Aa3 na3 ca3] 32)).cell? ⟨w.heap.size, 0, none⟩ = some (.slice Aa0 na0 ca0) := (S.at_ 0 rfl).cell 0
    have f1 : (w.alloc (.cells #[.slice Aa0 na0 ca0, .slice Aa1 na1 ca1, .slice Aa2 na2 ca2, .slice Aa3 na3 ca3] 32)).cell? ⟨w.heap.size, 1, none⟩ = some (.slice Aa1 na1 ca1) := (S.at_ 0 rfl).cell 1
    have f2 : (w.alloc (.cells #[.slice Aa0 na0 ca0, .slice Aa1 na1 ca1, .slice Aa2 na2 ca2, .slice Aa3 na3 ca3] 32)).cell? ⟨w.heap.size, 2, none⟩ = some (.slice Aa2 na2 ca2) := (S.at_ 0 rfl).cell 2
    have f3 : (w.alloc (.cells #[.slice Aa0 na0 ca0, .slice Aa1 na1 ca1, .slice Aa2 na2 ca2, .slice Aa3 na3 ca3] 32)).cell? ⟨w.heap.size, 3, none⟩ = some (.slice Aa3 na3 ca3) := (S.at_ 0 rfl).cell 3
    go_wp2_with fail
    generalize w.alloc (.cells #[.slice Aa0 na0 ca0, .slice Aa1 na1 ca1, .slice Aa2 na2 ca2, .slice Aa3 na3 ca3] 32) = w1 at *
    refine (iTwoOk_any _ _ _ _ _ _ _ _ _ _ _ _ t _ _ (h.keep c) c.size (by omega)).mono ?_
    rintro e w2 ⟨rfl, b⟩
    replace c := c.trans (b.mono c.size)
    replace S := S.keep b
    clear b f0 f1 f2 f3
    rw [HT.out]
    have C := Lib.hid c
    clear S c h ha hb
    go_wp2
    go_ret
    exact ⟨ret_bool HR.out.symm, C.out⟩
  have HT := Lib.hid hok
  cases h1 : safeIn t.a
  case false =>
    have HR := Lib.hid (show equalIn t = false by simp [equalIn, h1])
    have H1 := Lib.hid h1
    clear hok h1
    have S := Sep.nil w w.heap.size
    have c := Below.refl w.heap.size w
    replace S := S.boxAt c.size (w.heap.size) rfl #[.slice Aa0 na0 ca0, .slice Aa1 na1 ca1, .slice Aa2 na2 ca2, .slice Aa3 na3 ca3] 32
    replace c := c.alloc c.size (.cells #[.slice Aa0 na0 ca0, .slice Aa1 na1 ca1, .slice Aa2 na2 ca2, .slice Aa3 na3 ca3] 32)
    go_enter Try.func19, Try.ntmps19
    have f0 : (w.alloc (.cells #[.slice Aa0 na0 ca0, .slice Aa1 na1 ca1, .slice Aa2 na2 ca2, .slice Aa3 na3 ca3] 32)).cell? ⟨w.heap.size, 0, none⟩ = some (.slice Aa0 na0 ca0) := (S.at_ 0 rfl).cell 0
    have f1 : (w.alloc (.cells #[.slice Aa0 na0 ca0, .slice Aa1 na1 ca1, .slice Aa2 na2 ca2, .slice Aa3 na3 ca3] 32)).cell? ⟨w.heap.size, 1, none⟩ = some (.slice Aa1 na1 ca1) := (S.at_ 0 rfl).cell 1
    have f2 : (w.alloc (.cells #[.slice Aa0 na0 ca0, .slice Aa1 na1 ca1, .slice Aa2 na2 ca2, .slice Aa3 na3 ca3] 32)).cell? ⟨w.heap.size, 2, none⟩ = some (.slice Aa2 na2 ca2) := (S.at_ 0 rfl).cell 2
    have f3 : (w.alloc (.cells #[.slice Aa0 na0 ca0, .slice Aa1 na1 ca1, .slice Aa2 na2 ca2, .slice Aa3 na3 ca3] 32)).cell? ⟨w.heap.size, 3, none⟩ = some (.slice Aa3 na3 ca3) := (S.at_ 0 rfl).cell 3
    go_wp2_with fail
    generalize w.alloc (.cells #[.slice Aa0 na0 ca0, .slice Aa1 na1 ca1, .slice Aa2 na2 ca2, .slice Aa3 na3 ca3] 32) = w1 at *
    refine (iTwoOk_any _ _ _ _ _ _ _ _ _ _ _ _ t _ _ (h.keep c) c.size (by omega)).mono ?_
    rintro e w2 ⟨rfl, b⟩
    replace c := c.trans (b.mono c.size)
    replace S := S.keep b
    clear b f0 f1 f2 f3
    rw [HT.out]
    have f4 : w2.cell? ⟨w.heap.size, 0, none⟩ = some (.slice Aa0 na0 ca0) := (S.at_ 0 rfl).cell 0
    have f5 : w2.cell? ⟨w.heap.size, 1, none⟩ = some (.slice Aa1 na1 ca1) := (S.at_ 0 rfl).cell 1
    go_wp2_with fail
    refine (iSafeIn_any _ _ t.a _ _ (ha.keep c) c.size (by omega)).mono ?_
    rintro e w3 ⟨rfl, b⟩
    replace c := c.trans (b.mono c.size)
    replace S := S.keep b
    clear b f4 f5
    rw [H1.out]
    have C := Lib.hid c
    clear S c h ha hb
    go_wp2
    go_ret
    exact ⟨ret_bool HR.out.symm, C.out⟩
  have H1 := Lib.hid h1
  cases h2 : safeIn t.b
  case false =>
    have HR := Lib.hid (show equalIn t = false by simp [equalIn, h2])
    have H2 := Lib.hid h2
    clear hok h1 h2
    have S := Sep.nil w w.heap.size
    have c := Below.refl w.heap.size w
    replace S := S.boxAt c.size (w.heap.size) rfl #[.slice Aa0 na0 ca0, .slice Aa1 na1 ca1, .slice Aa2 na2 ca2, .slice Aa3 na3 ca3] 32
    replace c := c.alloc c.size (.cells #[.slice Aa0 na0 ca0, .slice Aa1 na1 ca1, .slice Aa2 na2 ca2, .slice Aa3 na3 ca3] 32)
    go_enter Try.func19, Try.ntmps19
    have f0 : (w.alloc (.cells #[.slice Aa0 na0 ca0, .slice Aa1 na1 ca1, .slice Aa2 na2 ca2, .slice Aa3 na3 ca3] 32)).cell? ⟨w.heap.size, 0, none⟩ = some (.slice Aa0 na0 ca0) := (S.at_ 0 rfl).cell 0
    have f1 : (w.alloc (.cells #[.slice Aa0 na0 ca0, .slice Aa1 na1 ca1, .slice Aa2 na2 ca2, .slice Aa3 na3 ca3] 32)).cell? ⟨w.heap.size, 1, none⟩ = some (.slice Aa1 na1 ca1) := (S.at_ 0 rfl).cell 1
    have f2 : (w.alloc (.cells #[.slice Aa0 na0 ca0, .slice Aa1 na1 ca1, .slice Aa2 na2 ca2, .slice Aa3 na3 ca3] 32)).cell? ⟨w.heap.size, 2, none⟩ = some (.slice Aa2 na2 ca2) := (S.at_ 0 rfl).cell 2
    have f3 : (w.alloc (.cells #[.slice Aa0 na0 ca0, .slice Aa1 na1 ca1, .slice Aa2 na2 ca2, .slice Aa3 na3 ca3] 32)).cell? ⟨w.heap.size, 3, none⟩ = some (.slice Aa3 na3 ca3) := (S.at_ 0 rfl).cell 3
    go_wp2_with fail
    generalize w.alloc (.cells #[.slice Aa0 na0 ca0, .slice Aa1 na1 ca1, .slice Aa2 na2 ca2, .slice Aa3 na3 ca3] 32) = w1 at *
    refine (iTwoOk_any _ _ _ _ _ _ _ _ _ _ _ _ t _ _ (h.keep c) c.size (by omega)).mono ?_
    rintro e w2 ⟨rfl, b⟩
    replace c := c.trans (b.mono c.size)
    replace S := S.keep b
    clear b f0 f1 f2 f3
    rw [HT.out]
    have f4 : w2.cell? ⟨w.heap.size, 0, none⟩ = some (.slice Aa0 na0 ca0) := (S.at_ 0 rfl).cell 0
    have f5 : w2.cell? ⟨w.heap.size, 1, none⟩ = some (.slice Aa1 na1 ca1) := (S.at_ 0 rfl).cell 1
    go_wp2_with fail
    refine (iSafeIn_any _ _ t.a _ _ (ha.keep c) c.size (by omega)).mono ?_
    rintro e w3 ⟨rfl, b⟩
    replace c := c.trans (b.mono c.size)
    replace S := S.keep b
    clear b f4 f5
    rw [H1.out]
    have f6 : w3.cell? ⟨w.heap.size, 2, none⟩ = some (.slice Aa2 na2 ca2) := (S.at_ 0 rfl).cell 2
    have f7 : w3.cell? ⟨w.heap.size, 3, none⟩ = some (.slice Aa3 na3 ca3) := (S.at_ 0 rfl).cell 3
    go_wp2_with fail
    refine (iSafeIn_any _ _ t.b _ _ (hb.keep c) c.size (by omega)).mono ?_
    rintro e w4 ⟨rfl, b⟩
    replace c := c.trans (b.mono c.size)
    replace S := S.keep b
    clear b f6 f7
    rw [H2.out]
    have C := Lib.hid c
    clear S c h ha hb
    go_wp2
    go_ret
    exact ⟨ret_bool HR.out.symm, C.out⟩
  have H2 := Lib.hid h2
  have hlen := (twoOk_iff.1 hok).2.2
  have HO := Lib.hid hok
  clear hok h1 h2
  obtain ⟨_, _, _, _, _, _, e, _, ka, _⟩ := ha.disk
  injection e with e1 e2 e3
  subst e1 e2 e3
  obtain ⟨_, _, _, e, hl1, _, _, hel1⟩ := ka.kept
  injection e with e1 e2 e3
  subst e1 e2 e3
  obtain ⟨_, _, _, _, _, _, e, _, kb, _⟩ := hb.disk
  injection e with e1 e2 e3
  subst e1 e2 e3
  obtain ⟨_, _, _, e, hl2, _, _, hel2⟩ := kb.kept
  injection e with e1 e2 e3
  subst e1 e2 e3
  have n02 : na0 ≤ na2 := by omega
  have n20 : na2 ≤ na0 := by omega
  have hn0 : na0 ≤ 1048577 := by unfold DiskM.sz rowsSz at hsa; omega
  have HL1 := Lib.hid hl1
  have HL2 := Lib.hid hl2
  clear hl1 hl2 hlen ka kb
  have S := Sep.nil w w.heap.size
  have c := Below.refl w.heap.size w
  replace S := S.boxAt c.size (w.heap.size) rfl #[.slice Aa0 na0 ca0, .slice Aa1 na1 ca1, .slice Aa2 na2 ca2, .slice Aa3 na3 ca3] 32
  replace c := c.alloc c.size (.cells #[.slice Aa0 na0 ca0, .slice Aa1 na1 ca1, .slice Aa2 na2 ca2, .slice Aa3 na3 ca3] 32)
  go_enter Try.func19, Try.ntmps19
  have f0 : (w.alloc (.cells #[.slice Aa0 na0 ca0, .slice Aa1 na1 ca1, .slice Aa2 na2 ca2, .slice Aa3 na3 ca3] 32)).cell? ⟨w.heap.size, 0, none⟩ = some (.slice Aa0 na0 ca0) := (S.at_ 0 rfl).cell 0
  have f1 : (w.alloc (.cells #[.slice Aa0 na0 ca0, .slice Aa1 na1 ca1, .slice Aa2 na2 ca2, .slice Aa3 na3 ca3] 32)).cell? ⟨w.heap.size, 1, none⟩ = some (.slice Aa1 na1 ca1) := (S.at_ 0 rfl).cell 1
  have f2 : (w.alloc (.cells #[.slice Aa0 na0 ca0, .slice Aa1 na1 ca1, .slice Aa2 na2 ca2, .slice Aa3 na3 ca3] 32)).cell? ⟨w.heap.size, 2, none⟩ = some (.slice Aa2 na2 ca2) := (S.at_ 0 rfl).cell 2
  have f3 : (w.alloc (.cells #[.slice Aa0 na0 ca0, .slice Aa1 na1 ca1, .slice Aa2 na2 ca2, .slice Aa3 na3 ca3] 32)).cell? ⟨w.heap.size, 3, none⟩ = some (.slice Aa3 na3 ca3) := (S.at_ 0 rfl).cell 3
  go_wp2_with fail
  generalize w.alloc (.cells #[.slice Aa0 na0 ca0, .slice Aa1 na1 ca1, .slice Aa2 na2 ca2, .slice Aa3 na3 ca3] 32) = w1 at *
  refine (iTwoOk_any _ _ _ _ _ _ _ _ _ _ _ _ t _ _ (h.keep c) c.size (by omega)).mono ?_
  rintro e w2 ⟨rfl, b⟩
  replace c := c.trans (b.mono c.size)
  replace S := S.keep b
  clear b f0 f1 f2 f3
  rw [HT.out]
  have f4 : w2.cell? ⟨w.heap.size, 0, none⟩ = some (.slice Aa0 na0 ca0) := (S.at_ 0 rfl).cell 0
  have f5 : w2.cell? ⟨w.heap.size, 1, none⟩ = some (.slice Aa1 na1 ca1) := (S.at_ 0 rfl).cell 1
  go_wp2_with fail
  refine (iSafeIn_any _ _ t.a _ _ (ha.keep c) c.size (by omega)).mono ?_
  rintro e w3 ⟨rfl, b⟩
  replace c := c.trans (b.mono c.size)
  replace S := S.keep b
  clear b f4 f5
  rw [H1.out]
  have f6 : w3.cell? ⟨w.heap.size, 2, none⟩ = some (.slice Aa2 na2 ca2) := (S.at_ 0 rfl).cell 2
  have f7 : w3.cell? ⟨w.heap.size, 3, none⟩ = some (.slice Aa3 na3 ca3) := (S.at_ 0 rfl).cell 3
  go_wp2_with fail
  refine (iSafeIn_any _ _ t.b _ _ (hb.keep c) c.size (by omega)).mono ?_
  rintro e w4 ⟨rfl, b⟩
  replace c := c.trans (b.mono c.size)
  replace S := S.keep b
  clear b f6 f7
  rw [H2.out]
  have SH := Lib.hid S
  have CH := Lib.hid c
  have z0 := c.size
  have f8 : w4.cell? ⟨w.heap.size, 0, none⟩ = some (.slice Aa0 na0 ca0) := (S.at_ 0 rfl).cell 0
  have f9 : w4.cell? ⟨w.heap.size, 1, none⟩ = some (.slice Aa1 na1 ca1) := (S.at_ 0 rfl).cell 1
  have f10 : w4.cell? ⟨w.heap.size, 2, none⟩ = some (.slice Aa2 na2 ca2) := (S.at_ 0 rfl).cell 2
  have f11 : w4.cell? ⟨w.heap.size, 3, none⟩ = some (.slice Aa3 na3 ca3) := (S.at_ 0 rfl).cell 3
  clear S c h ha hb
  go_wp2
  go_loop [24] (fun i => ∃ j : Nat, j ≤ na0 ∧ i = .int .i64 (j : Int) ∧ (∀ q, q < j → t.a.kept.getD q [] = t.b.kept.getD q [])) (fun i => na0 - (intOf i).toNat)
  case atStart => exact ⟨0, Nat.zero_le _, rfl, fun q hq => absurd hq (by omega)⟩
  case round =>
    obtain ⟨j, hj, rfl, hsame⟩ := hrel
    have hbel := Below.refl w4.heap.size w4
    have cc := CH.out.trans (hbel.mono z0)
    have pa := (SH.out.keep hbel).at_ 0 rfl
    have g0 : w4.cell? ⟨w.heap.size, 0, none⟩ = some (.slice Aa0 na0 ca0) := pa.cell 0
    have g2 : w4.cell? ⟨w.heap.size, 2, none⟩ = some (.slice Aa2 na2 ca2) := pa.cell 2
    by_cases hlt : j < na0
    · obtain ⟨b1, of1, rfl, hb1, hc1⟩ := hel1 (by omega)
      obtain ⟨b2, of2, rfl, hb2, hc2⟩ := hel2 (by omega)
      have hjl1 : j < t.a.kept.length := by rw [HL1.out]; exact hlt
      have hjl2 : j < t.b.kept.length := by rw [HL2.out]; omega
      obtain ⟨A1, m1, d1, hcell1, hrow1, _⟩ := hc1 j hjl1
      obtain ⟨A2, m2, d2, hcell2, hrow2, _⟩ := hc2 j hjl2
      have ce1 := (cc.cell (p := ⟨b1, of1 + j, none⟩) hb1).trans hcell1
      have ce2 := (cc.cell (p := ⟨b2, of2 + j, none⟩) hb2).trans hcell2
      have hm1 : m1 ≤ 1048577 := by
        have h1 := pre_at (g := List.length) hjl1
        have h3 := hrow1.1
        unfold DiskM.sz rowsSz at hsa
        omega
      have hm2 : m2 ≤ 1048577 := by
        have h1 := pre_at (g := List.length) hjl2
        have h3 := hrow2.1
        unfold DiskM.sz rowsSz at hsb
        omega
      have hr1 := hrow1.below cc
      have hr2 := hrow2.below cc
      have i0 : (0 : Int) ≤ (j : Int) := by omega
      have i1 : (j : Int) < (na0 : Int) := by omega
      have i2 : (j : Int) < (na2 : Int) := by omega
      have ea : t.a.kept.getD j [] = t.a.kept[j] := by simp [List.getD, List.getElem?_eq_getElem hjl1]
      have eb : t.b.kept.getD j [] = t.b.kept[j] := by simp [List.getD, List.getElem?_eq_getElem hjl2]
      have BR := Lib.hid cc
      have BL := Lib.hid hbel
      have HJ := Lib.hid hsame
      cases hsm : sameI t.a.kept[j] t.b.kept[j]
      · have hq := Lib.hid (show Calls Try.prog 55 #[.slice A1 m1 d1, .slice A2 m2 d2] w4 (fun e w' => e = .returned (.bool false) ∧ w4 = w') from by have := iSame_any A1 A2 m1 m2 d1 d2 _ _ _ _ w4 hr1 hr2 hm1 hm2; rw [hsm] at this; exact this)
        have HR := Lib.hid (show equalIn t = false from equalIn_bad (fun e => by
          rw [show t.a.kept[j] = t.b.kept[j] by rw [← ea, ← eb, e]] at hsm
          simp [sameI] at hsm))
        clear hc1 hc2 hcell1 hcell2 hrow1 hrow2 hel1 hel2 hr1 hr2 hsm ea eb hsame hbel cc pa
        go_wp2_with fail
        refine (hq.out).mono ?_
        rintro e w9 ⟨rfl, rfl⟩
        go_wp2
        go_ret
        exact ⟨ret_bool HR.out.symm, BR.out⟩
      · have hq := Lib.hid (show Calls Try.prog 55 #[.slice A1 m1 d1, .slice A2 m2 d2] w4 (fun e w' => e = .returned (.bool true) ∧ w4 = w') from by have := iSame_any A1 A2 m1 m2 d1 d2 _ _ _ _ w4 hr1 hr2 hm1 hm2; rw [hsm] at this; exact this)
        have HN := Lib.hid (show ∀ q, q < j + 1 → t.a.kept.getD q [] = t.b.kept.getD q [] from fun q hq => by
          rcases Nat.lt_or_ge q j with h9 | h9
          · exact HJ.out q h9
          · have : q = j := by omega
            subst this
            rw [ea, eb]
            simpa [sameI] using hsm)
        clear hc1 hc2 hcell1 hcell2 hrow1 hrow2 hel1 hel2 hr1 hr2 hsm ea eb hsame hbel cc pa
        go_wp2_with fail
        refine (hq.out).mono ?_
        rintro e w9 ⟨rfl, rfl⟩
        go_wp2
        go_round
        case rel => exact ⟨j + 1, by omega, by go_num, HN.out⟩
        case measure => simp [intOf]; omega
    · have HR := Lib.hid (show equalIn t = true from equalIn_end HO.out H1.out H2.out (fun q hq => hsame q (by rw [HL1.out] at hq; omega)))
      have i1 : ¬ ((j : Int) < (na0 : Int)) := by omega
      clear hel1 hel2 hsame
      go_wp2
      go_ret
      exact ⟨ret_bool HR.out.symm, cc⟩

end Go.Proofs.Ytejcpoidoekleaa
