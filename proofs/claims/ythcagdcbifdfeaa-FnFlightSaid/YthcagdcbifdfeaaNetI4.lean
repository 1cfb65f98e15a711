/-
  Chapter 5: networks without one message, and Lost, in the program (by program, wip/gen/gennetg.py).
-/
import Derived.Test.YthcagdcbifdfeaaNetI2
import Derived.Test.YthcagdcbifdfeaaNetC1
import Derived.RegionTactic
import Derived.BigQuiet
namespace Go.Proofs.Ythcagdcbifdfeaa
set_option maxRecDepth 100000
open Go.RowKit

set_option maxHeartbeats 6400000 in
theorem iRemoved_any (v0 v1 : Value) (t : NetM) (k : Nat) (w : World) (h : Rd w w.heap.size t.cells [v0, v1]) (hs : t.sz ≤ 1048577) (hk0 : k < t.flight.length) :
    Calls Try.prog 68 #[.agg #[v0, v1], .int .i64 (k : Int)] w (MadeNet w (withoutM t k)) := by
  obtain ⟨A0, n0, c0, A1, n1, c1, rfl, rfl, hr0, hr1⟩ := h.netT
  have hz0 : msgSz t.flight ≤ 1048577 := by unfold NetM.sz at hs; omega
  have hz1 : linkSz t.cuts ≤ 1048577 := by unfold NetM.sz at hs; omega
  obtain ⟨hl0, hl1, _, _, _⟩ := net_len h
  have hn0 : n0 ≤ 1048577 := by unfold msgSz at hz0; omega
  have hn1 : n1 ≤ 1048577 := by unfold linkSz at hz1; omega
  have hk : k < n0 := by omega
  have S := Sep.nil w w.heap.size
  have c := Below.refl w.heap.size w
  replace S := S.boxAt c.size (w.heap.size) rfl #[.slice A0 n0 c0, .slice A1 n1 c1] 30
  replace c := c.alloc c.size (.cells #[.slice A0 n0 c0, .slice A1 n1 c1] 30)
  replace S := S.boxAt c.size (w.heap.size + 1) (by simp) #[.slice none 0 0, .slice none 0 0] 30
  replace c := c.alloc c.size (.cells #[.slice none 0 0, .slice none 0 0] 30)
  go_enter Try.func68, Try.ntmps68
  go_wp2_with fail
  generalize (w.alloc (.cells #[.slice A0 n0 c0, .slice A1 n1 c1] 30)).alloc (.cells #[.slice none 0 0, .slice none 0 0] 30) = w1 at *
  refine wp_region_L (fun v => v.cell? ⟨w.heap.size, 0, none⟩ = some (.slice A0 n0 c0) ∧ v.cell? ⟨w.heap.size, 1, none⟩ = some (.slice A1 n1 c1)) 8 (by kernel_rfl) ?_
  replace S := S.keep ((Below.refl _ _).drew)
  replace c := c.drew
  generalize w1.drew = w2 at *
  have HF : w2.cell? ⟨w.heap.size, 0, none⟩ = some (.slice A0 n0 c0) ∧ w2.cell? ⟨w.heap.size, 1, none⟩ = some (.slice A1 n1 c1) := ⟨(S.at_ 1 rfl).cell 0, (S.at_ 1 rfl).cell 1⟩
  refine wpAnyL_take (i := 0) (v := ?_) rfl rfl (by kernel_rfl) (by kernel_rfl) (by kernel_rfl) (by kernel_rfl) (by kernel_rfl) (fun _ _ _ h => h) HF (Or.inl ⟨by rfl, ?_⟩) ?_
  rotate_left 1
  · (rintro v ⟨a0, a1⟩; go_simp; try with_reducible rfl)
  try simp only [Act.put]
  refine wpAnyL_take (i := 1) (v := ?_) rfl rfl (by kernel_rfl) (by kernel_rfl) (by kernel_rfl) (by kernel_rfl) (by kernel_rfl) (fun _ _ _ h => h) HF (Or.inl ⟨by rfl, ?_⟩) ?_
  rotate_left 1
  · (rintro v ⟨a0, a1⟩; go_simp; try with_reducible rfl)
  try simp only [Act.put]
  refine wpAnyL_pure (i := 2) (v := ?_) rfl rfl (by kernel_rfl) (by kernel_rfl) (by kernel_rfl) (fun _ _ _ h => h) HF (Or.inl ⟨by rfl, ?_⟩) ?_
  rotate_left 1
  · (intro v _; go_simp; try with_reducible rfl)
  try simp only [Act.put]
  refine wpAnyL_take (i := 4) (v := ?_) rfl rfl (by kernel_rfl) (by kernel_rfl) (by kernel_rfl) (by kernel_rfl) (by kernel_rfl) (fun _ _ _ h => h) HF (Or.inl ⟨by rfl, ?_⟩) ?_
  rotate_left 1
  · (rintro v ⟨a0, a1⟩; go_simp; try with_reducible rfl)
  try simp only [Act.put]
  refine wpAnyL_take (i := 5) (v := ?_) rfl rfl (by kernel_rfl) (by kernel_rfl) (by kernel_rfl) (by kernel_rfl) (by kernel_rfl) (fun _ _ _ h => h) HF (Or.inl ⟨by rfl, ?_⟩) ?_
  rotate_left 1
  · (rintro v ⟨a0, a1⟩; go_simp; try with_reducible rfl)
  try simp only [Act.put]
  refine wpAnyL_step (i := 3) (by kernel_rfl) rfl rfl ?_
  intro K hK
  go_simp
  refine (iWithoutM_any A0 n0 c0 k t.flight w.heap.size _ (hr0.keep c) c.size hn0 hk).mono ?_
  rintro e w3 ⟨Af, cf, rfl, hrf, b⟩
  replace c := c.trans (b.mono c.size)
  replace S := S.keep b
  clear b
  have hrc := hr1.keep c
  clear HF
  have HF : w3.cell? ⟨w.heap.size, 0, none⟩ = some (.slice A0 n0 c0) ∧ w3.cell? ⟨w.heap.size, 1, none⟩ = some (.slice A1 n1 c1) := ⟨(S.at_ 1 rfl).cell 0, (S.at_ 1 rfl).cell 1⟩
  refine hK _ _ (fun _ => HF) ?_
  clear hK K
  try simp only [Act.put]
  refine wpAnyL_step (i := 6) (by kernel_rfl) rfl rfl ?_
  intro K hK
  go_simp
  refine hK _ _ (fun _ => HF) ?_
  clear hK K
  try simp only [Act.put]
  have hrd : Rd w3 w3.heap.size (withoutM t k).cells [.slice Af (k + (n0 - (k + 1))) cf, .slice A1 n1 c1] := Rd.append hrf (hrc.up c.size)
  refine wpAnyL_step (i := 7) (by kernel_rfl) rfl rfl ?_
  intro K hK
  go_simp
  refine (iCopyN_any _ _ (withoutM t k) _ hrd (Nat.le_trans (withoutM_sz t k) hs)).mono ?_
  rintro e w4 ⟨Au, nu, cu, Ax, nx, cx, rfl, o, b⟩
  obtain ⟨fp_u, S'⟩ := S.has b o c.size
  replace c := c.trans (b.mono c.size)
  clear S; have S := S'; clear S' o b
  clear HF
  have HF : w4.cell? ⟨w.heap.size, 0, none⟩ = some (.slice A0 n0 c0) ∧ w4.cell? ⟨w.heap.size, 1, none⟩ = some (.slice A1 n1 c1) := ⟨(S.at_ 2 rfl).cell 0, (S.at_ 2 rfl).cell 1⟩
  refine hK _ _ (fun _ => HF) ?_
  clear hK K
  try simp only [Act.put]
  have f0 : w4.cell? ⟨w.heap.size + 1, 0, none⟩ = some (.slice none 0 0) := (S.at_ 1 rfl).cell 0
  have f1 := (S.at_ 1 rfl).free 0
  have f2 : w4.cell? ⟨w.heap.size + 1, 1, none⟩ = some (.slice none 0 0) := (S.at_ 1 rfl).cell 1
  have f3 := (S.at_ 1 rfl).free 1
  refine wpAnyL_step (i := 8) (by kernel_rfl) rfl rfl ?_
  intro K hK
  go_simp
  refine hK _ _ (fun h => nomatch (show true = false from h)) ?_
  clear hK K
  try simp only [Act.put]
  refine wpAnyL_done (by kernel_rfl) ?_ _
  replace S := S.put 1 rfl 0 (.slice Au nu cu)
  replace c := c.setCell (p := ⟨w.heap.size + 1, 0, none⟩) (by show w.heap.size ≤ w.heap.size + 1; omega) (.slice Au nu cu)
  replace S := S.put 1 rfl 1 (.slice Ax nx cx)
  replace c := c.setCell (p := ⟨w.heap.size + 1, 1, none⟩) (by show w.heap.size ≤ w.heap.size + 1; omega) (.slice Ax nx cx)
  replace S := S.pick 0 rfl
  have H := Lib.hid S.first
  have C := Lib.hid c
  have r0 := Lib.hid ((S.at_ 1 rfl).cell 0)
  have r1 := Lib.hid ((S.at_ 1 rfl).cell 1)
  clear S c HF hrd hrc hrf h hr0 hr1 hl0 hl1
  go_wp2
  exact bodyPost_ret (v := .agg #[.slice Au nu cu, .slice Ax nx cx]) (by simp [results, Try.results68, go_sem, r0.out, r1.out]) rfl ⟨_, _, _, _, _, _, rfl, H.out, C.out⟩

set_option maxHeartbeats 6400000 in
theorem iLost_any (v0 v1 : Value) (t : NetM) (x : Int) (w : World) (h : Rd w w.heap.size t.cells [v0, v1]) (hs : t.sz ≤ 1048577) :
    Calls Try.prog 24 #[.agg #[v0, v1], .int .i64 x] w (MadeNB w (lostM t x)) := by
  obtain ⟨A0, n0, c0, A1, n1, c1, rfl, rfl, hr0, hr1⟩ := h.netT
  have hz0 : msgSz t.flight ≤ 1048577 := by unfold NetM.sz at hs; omega
  have hz1 : linkSz t.cuts ≤ 1048577 := by unfold NetM.sz at hs; omega
  obtain ⟨hl0, hl1, _, _, _⟩ := net_len h
  have hn0 : n0 ≤ 1048577 := by unfold msgSz at hz0; omega
  have hn1 : n1 ≤ 1048577 := by unfold linkSz at hz1; omega
  have S := Sep.nil w w.heap.size
  have c := Below.refl w.heap.size w
  replace S := S.boxAt c.size (w.heap.size) rfl #[.slice A0 n0 c0, .slice A1 n1 c1] 30
  replace c := c.alloc c.size (.cells #[.slice A0 n0 c0, .slice A1 n1 c1] 30)
  replace S := S.boxAt c.size (w.heap.size + 1) (by simp) #[.slice none 0 0, .slice none 0 0] 30
  replace c := c.alloc c.size (.cells #[.slice none 0 0, .slice none 0 0] 30)
  go_enter Try.func24, Try.ntmps24
  go_wp2_with fail
  generalize (w.alloc (.cells #[.slice A0 n0 c0, .slice A1 n1 c1] 30)).alloc (.cells #[.slice none 0 0, .slice none 0 0] 30) = w1 at *
  refine (iNetOk_any _ _ t w.heap.size _ (h.keep c) c.size hs).mono ?_
  rintro e w2 ⟨rfl, b⟩
  replace c := c.trans (b.mono c.size)
  replace S := S.keep b
  clear b
  cases hok : netOk t
  case false =>
    have HD := Lib.hid (show lostM t x = (zeroN, false) by unfold lostM; rw [hok]; rfl)
    have f0 : w2.cell? ⟨w.heap.size + 1, 0, none⟩ = some (.slice none 0 0) := (S.at_ 0 rfl).cell 0
    have f1 := (S.at_ 0 rfl).free 0
    have f2 : w2.cell? ⟨w.heap.size + 1, 1, none⟩ = some (.slice none 0 0) := (S.at_ 0 rfl).cell 1
    have f3 := (S.at_ 0 rfl).free 1
    replace S := S.put 0 rfl 0 (.slice none 0 0)
    replace c := c.setCell (p := ⟨w.heap.size + 1, 0, none⟩) (by show w.heap.size ≤ w.heap.size + 1; omega) (.slice none 0 0)
    replace S := S.put 0 rfl 1 (.slice none 0 0)
    replace c := c.setCell (p := ⟨w.heap.size + 1, 1, none⟩) (by show w.heap.size ≤ w.heap.size + 1; omega) (.slice none 0 0)
    have C := Lib.hid c
    have r0 := Lib.hid ((S.at_ 0 rfl).cell 0)
    have r1 := Lib.hid ((S.at_ 0 rfl).cell 1)
    clear S c h hr0 hr1 hl0 hl1 hok
    go_wp2
    exact bodyPost_ret (v := .tuple #[.agg #[.slice none 0 0, .slice none 0 0], .bool false]) (by simp [results, Try.results24, go_sem, r0.out, r1.out]) rfl ⟨_, _, _, _, _, _, by rw [HD.out], by rw [HD.out]; exact has_zeroN _ _, C.out⟩
  case true =>
    have f0 : w2.cell? ⟨w.heap.size, 0, none⟩ = some (.slice A0 n0 c0) := (S.at_ 1 rfl).cell 0
    have f1 : w2.cell? ⟨w.heap.size, 1, none⟩ = some (.slice A1 n1 c1) := (S.at_ 1 rfl).cell 1
    go_wp2_with fail
    refine (iHas_any A0 A1 n0 c0 n1 c1 x hn0 _).mono ?_
    rintro e w3 ⟨rfl, b⟩
    replace c := c.trans (b.mono c.size)
    replace S := S.keep b
    clear b f0 f1
    cases hth : thereB n0 x
    case false =>
      have HD := Lib.hid (show lostM t x = (t, false) by unfold lostM; rw [hok, hl0, hth]; rfl)
      clear hok hth
      have f2 : w3.cell? ⟨w.heap.size, 0, none⟩ = some (.slice A0 n0 c0) := (S.at_ 1 rfl).cell 0
      have f3 : w3.cell? ⟨w.heap.size, 1, none⟩ = some (.slice A1 n1 c1) := (S.at_ 1 rfl).cell 1
      go_wp2_with fail
      refine (iCopyN_any _ _ t _ ((h.keep c).up c.size) hs).mono ?_
      rintro e w4 ⟨Au, nu, cu, Ax, nx, cx, rfl, o, b⟩
      obtain ⟨fp_u, S'⟩ := S.has b o c.size
      replace c := c.trans (b.mono c.size)
      clear S; have S := S'; clear S' o b f2 f3
      have f4 : w4.cell? ⟨w.heap.size + 1, 0, none⟩ = some (.slice none 0 0) := (S.at_ 1 rfl).cell 0
      have f5 := (S.at_ 1 rfl).free 0
      have f6 : w4.cell? ⟨w.heap.size + 1, 1, none⟩ = some (.slice none 0 0) := (S.at_ 1 rfl).cell 1
      have f7 := (S.at_ 1 rfl).free 1
      replace S := S.put 1 rfl 0 (.slice Au nu cu)
      replace c := c.setCell (p := ⟨w.heap.size + 1, 0, none⟩) (by show w.heap.size ≤ w.heap.size + 1; omega) (.slice Au nu cu)
      replace S := S.put 1 rfl 1 (.slice Ax nx cx)
      replace c := c.setCell (p := ⟨w.heap.size + 1, 1, none⟩) (by show w.heap.size ≤ w.heap.size + 1; omega) (.slice Ax nx cx)
      replace S := S.pick 0 rfl
      have H := Lib.hid S.first
      have C := Lib.hid c
      have r0 := Lib.hid ((S.at_ 1 rfl).cell 0)
      have r1 := Lib.hid ((S.at_ 1 rfl).cell 1)
      clear S c h hr0 hr1 hl0 hl1 
      go_wp2
      exact bodyPost_ret (v := .tuple #[.agg #[.slice Au nu cu, .slice Ax nx cx], .bool false]) (by simp [results, Try.results24, go_sem, r0.out, r1.out]) rfl ⟨_, _, _, _, _, _, by rw [HD.out], by rw [HD.out]; exact H.out, C.out⟩
    case true =>
      obtain ⟨k, rfl, hk⟩ := there_nat hth
      have HD := Lib.hid (show lostM t (k : Int) = (withoutM t k, true) by unfold lostM; rw [hok, hl0, hth]; rfl)
      clear hok hth
      have f2 : w3.cell? ⟨w.heap.size, 0, none⟩ = some (.slice A0 n0 c0) := (S.at_ 1 rfl).cell 0
      have f3 : w3.cell? ⟨w.heap.size, 1, none⟩ = some (.slice A1 n1 c1) := (S.at_ 1 rfl).cell 1
      go_wp2_with fail
      refine (iRemoved_any _ _ t k _ ((h.keep c).up c.size) hs (by rw [hl0]; exact hk)).mono ?_
      rintro e w4 ⟨Au, nu, cu, Ax, nx, cx, rfl, o, b⟩
      obtain ⟨fp_u, S'⟩ := S.has b o c.size
      replace c := c.trans (b.mono c.size)
      clear S; have S := S'; clear S' o b f2 f3
      have f4 : w4.cell? ⟨w.heap.size + 1, 0, none⟩ = some (.slice none 0 0) := (S.at_ 1 rfl).cell 0
      have f5 := (S.at_ 1 rfl).free 0
      have f6 : w4.cell? ⟨w.heap.size + 1, 1, none⟩ = some (.slice none 0 0) := (S.at_ 1 rfl).cell 1
      have f7 := (S.at_ 1 rfl).free 1
      replace S := S.put 1 rfl 0 (.slice Au nu cu)
      replace c := c.setCell (p := ⟨w.heap.size + 1, 0, none⟩) (by show w.heap.size ≤ w.heap.size + 1; omega) (.slice Au nu cu)
      replace S := S.put 1 rfl 1 (.slice Ax nx cx)
      replace c := c.setCell (p := ⟨w.heap.size + 1, 1, none⟩) (by show w.heap.size ≤ w.heap.size + 1; omega) (.slice Ax nx cx)
      replace S := S.pick 0 rfl
      have H := Lib.hid S.first
      have C := Lib.hid c
      have r0 := Lib.hid ((S.at_ 1 rfl).cell 0)
      have r1 := Lib.hid ((S.at_ 1 rfl).cell 1)
      clear S c h hr0 hr1 hl0 hl1 
      go_wp2
      exact bodyPost_ret (v := .tuple #[.agg #[.slice Au nu cu, .slice Ax nx cx], .bool true]) (by simp [results, Try.results24, go_sem, r0.out, r1.out]) rfl ⟨_, _, _, _, _, _, by rw [HD.out], by rw [HD.out]; exact H.out, C.out⟩

theorem iLost_at (A0 : Option Addr) (n0 c0 : Nat) (A1 : Option Addr) (n1 c1 : Nat) (t : NetM) (x : Int) (w : World) (h : Rd w w.heap.size t.cells [.slice A0 n0 c0, .slice A1 n1 c1]) (hs : t.sz ≤ 1048576) :
    Calls Try.prog 24 #[.agg #[.slice A0 n0 c0, .slice A1 n1 c1], .int .i64 x] w fun e w' => ∃ (A0 : Option Addr) (n0 c0 : Nat) (A1 : Option Addr) (n1 c1 : Nat), e = .returned (.tuple #[.agg #[.slice A0 n0 c0, .slice A1 n1 c1], .bool (lostM t x).2]) ∧ Has w' w.heap.size ((lostM t x).1).cells [.slice A0 n0 c0, .slice A1 n1 c1] ∧ Below w.heap.size w w' :=
  iLost_any _ _ t x w h (by omega)
end Go.Proofs.Ythcagdcbifdfeaa
