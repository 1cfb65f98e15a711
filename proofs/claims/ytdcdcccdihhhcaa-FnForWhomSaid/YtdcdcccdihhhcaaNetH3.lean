/-
  Chapter 5: Healed, of the program (by program, wip/gen/gennetm.py).
-/
import Derived.Test.YtdcdcccdihhhcaaNetI3
import Derived.Test.YtdcdcccdihhhcaaNetI2
import Derived.Test.YtdcdcccdihhhcaaNetC1
import Derived.Test.YtdcdcccdihhhcaaNetC4
import Derived.Test.YtdcdcccdihhhcaaNetC5
import Derived.Test.YtdcdcccdihhhcaaNetE1
import Derived.Test.YtdcdcccdihhhcaaCls
import Derived.RegionTactic
import Derived.BigQuiet
namespace Go.Proofs.Ytdcdcccdihhhcaa
set_option maxRecDepth 100000
open Go.RowKit

def healNet (t : NetM) (k : Nat) : NetM := ⟨t.flight, t.cuts.eraseIdx k⟩
def healedM (t : NetM) (x y : Int) : NetM × Bool := if netOk t = true then (if isCut t.cuts (linkOf x y) = true then (healNet t (eqIx t.cuts (linkOf x y)), true) else (t, false)) else (zeroN, false)
theorem healNet_sz (t : NetM) (k : Nat) : (healNet t k).sz ≤ t.sz := by
  have h1 : (t.cuts.eraseIdx k).length ≤ t.cuts.length := (List.eraseIdx_sublist ..).length_le
  unfold NetM.sz healNet linkSz
  simp only
  omega
theorem healedM_sz (t : NetM) (x y : Int) (h : t.sz ≤ 1048576) : (healedM t x y).1.sz ≤ 1048577 := by
  unfold healedM
  split
  · split
    · have := healNet_sz t (eqIx t.cuts (linkOf x y))
      simp only
      omega
    · simp only
      omega
  · decide

set_option maxHeartbeats 12800000 in
theorem iHealed_any (v0 v1 : Value) (t : NetM) (x y : Int) (w : World) (h : Rd w w.heap.size t.cells [v0, v1]) (hs : t.sz ≤ 1048577) :
    Calls Try.prog 23 #[.agg #[v0, v1], .int .i64 x, .int .i64 y] w (MadeNB w (healedM t x y)) := by
  obtain ⟨A0, n0, c0, A1, n1, c1, rfl, rfl, hr0, hr1⟩ := h.netT
  have hz0 : msgSz t.flight ≤ 1048577 := by unfold NetM.sz at hs; omega
  have hz1 : linkSz t.cuts ≤ 1048577 := by unfold NetM.sz at hs; omega
  obtain ⟨hl0, hl1, _, _, _⟩ := net_len h
  have hn0 : n0 ≤ 1048577 := by unfold msgSz at hz0; omega
  have hn1 : n1 ≤ 1048577 := by unfold linkSz at hz1; omega
  have S := Sep.nil w w.heap.size
  have c := Below.refl w.heap.size w
  replace S := S.boxAt c.size (w.heap.size) rfl #[.slice A0 n0 c0, .slice A1 n1 c1] 30
  replace c := c.alloc c.size (.cells #[.slice A0 n0 c0, .slice A1 n1 c1] 30)
  replace S := S.boxAt c.size (w.heap.size + 1) (by simp) #[.slice none 0 0, .slice none 0 0] 30
  replace c := c.alloc c.size (.cells #[.slice none 0 0, .slice none 0 0] 30)
  go_enter Try.func23, Try.ntmps23
  go_wp2_with fail
  generalize (w.alloc (.cells #[.slice A0 n0 c0, .slice A1 n1 c1] 30)).alloc (.cells #[.slice none 0 0, .slice none 0 0] 30) = w1 at *
  refine (iNetOk_any _ _ t w.heap.size _ (h.keep c) c.size hs).mono ?_
  rintro e w2 ⟨rfl, b⟩
  replace c := c.trans (b.mono c.size)
  replace S := S.keep b
  clear b
  cases hok : netOk t
  case false =>
    have HD := Lib.hid (show healedM t x y = (zeroN, false) by unfold healedM; rw [hok]; rfl)
    have f0 : w2.cell? ⟨w.heap.size + 1, 0, none⟩ = some (.slice none 0 0) := (S.at_ 0 rfl).cell 0
    have f1 := (S.at_ 0 rfl).free 0
    have f2 : w2.cell? ⟨w.heap.size + 1, 1, none⟩ = some (.slice none 0 0) := (S.at_ 0 rfl).cell 1
    have f3 := (S.at_ 0 rfl).free 1
    replace S := S.put 0 rfl 0 (.slice none 0 0)
    replace c := c.setCell (p := ⟨w.heap.size + 1, 0, none⟩) (by show w.heap.size ≤ w.heap.size + 1; omega) (.slice none 0 0)
    replace S := S.put 0 rfl 1 (.slice none 0 0)
    replace c := c.setCell (p := ⟨w.heap.size + 1, 1, none⟩) (by show w.heap.size ≤ w.heap.size + 1; omega) (.slice none 0 0)
    have C := Lib.hid c
    have r0 := Lib.hid ((S.at_ 0 rfl).cell 0)
    have r1 := Lib.hid ((S.at_ 0 rfl).cell 1)
    clear S c h hr0 hr1 hl0 hl1 hok
    go_wp2
    exact bodyPost_ret (v := .tuple #[.agg #[.slice none 0 0, .slice none 0 0], .bool false]) (by simp [results, Try.results23, go_sem, r0.out, r1.out]) rfl ⟨_, _, _, _, _, _, by rw [HD.out], by rw [HD.out]; exact has_zeroN _ _, C.out⟩
  case true =>
    have hcb := (netOk_spec hok).2.2.2
    have HIS := Lib.hid (isAt_eq hcb (linkOf x y))
    have HLW := Lib.hid (fun h => eqIx_low (l := linkOf x y) hcb h)
    have HD0 := Lib.hid (show healedM t x y = if isCut t.cuts (linkOf x y) = true then (healNet t (eqIx t.cuts (linkOf x y)), true) else (t, false) by unfold healedM; rw [if_pos hok])
    clear hok hcb
    have f0 : w2.cell? ⟨w.heap.size, 0, none⟩ = some (.slice A0 n0 c0) := (S.at_ 1 rfl).cell 0
    have f1 : w2.cell? ⟨w.heap.size, 1, none⟩ = some (.slice A1 n1 c1) := (S.at_ 1 rfl).cell 1
    go_wp2_with fail
    have hr2 := hr1.keep c
    refine wp_region_cls (fun v => v.cell? ⟨w.heap.size, 1, none⟩ = some (.slice A1 n1 c1) ∧ Rd v w.heap.size [linkD t.cuts] [.slice A1 n1 c1] ∧ w.heap.size ≤ v.heap.size) (by kernel_rfl) (by kernel_rfl) (fun v hv => ⟨(hv.cell (p := ⟨w.heap.size, 1, none⟩) (lt_of_cell f1)).trans f1, hr2.keep (hv.mono c.size), Nat.le_trans c.size hv.size⟩) ?_
    intro C HF HC
    repeat
      (refine wpQuiet_step (fun K hK => ?_)
       go_simp
       first
         | (refine hK _ ?_; clear hK K)
         | (apply Exists.intro
            refine ⟨fun v hv => ?_, hK _ ?_⟩
            · obtain ⟨a0, a1, a2⟩ := HF v hv
              first
                | (go_at_call 61; exact Calls.cls HC hv (iLink_any x y v) rfl)
                | (go_at_call 62; exact Calls.cls HC hv (iPlace_any A1 n1 c1 t.cuts (linkOf x y).a (linkOf x y).b w.heap.size v a1 a2 hz1) rfl)
                | exact rfl
                | (go_simp; exact rfl)
                | (go_simp; exact ⟨rfl, hv⟩)
            clear hK K))
    refine wpQuiet_nil ?_
    intro w3 b9
    replace c := c.trans (b9.mono c.size)
    replace S := S.keep b9
    clear b9 hr2 f0 f1
    have hta : isAt t.cuts ⟨(linkOf x y).a, (linkOf x y).b⟩ = isCut t.cuts (linkOf x y) := HIS.out
    rw [hta]
    clear hta
    cases hcut : isCut t.cuts (linkOf x y)
    case false =>
      have HD := Lib.hid (show healedM t x y = (t, false) by rw [HD0.out, hcut]; rfl)
      clear hcut
      have f2 : w3.cell? ⟨w.heap.size, 0, none⟩ = some (.slice A0 n0 c0) := (S.at_ 1 rfl).cell 0
      have f3 : w3.cell? ⟨w.heap.size, 1, none⟩ = some (.slice A1 n1 c1) := (S.at_ 1 rfl).cell 1
      go_wp2_with fail
      refine (iCopyN_any _ _ t _ ((h.keep c).up c.size) hs).mono ?_
      rintro e w4 ⟨Au, nu, cu, Ax, nx, cx, rfl, o, b⟩
      obtain ⟨fp_u, S'⟩ := S.has b o c.size
      replace c := c.trans (b.mono c.size)
      clear S; have S := S'; clear S' o b f2 f3
      have f4 : w4.cell? ⟨w.heap.size + 1, 0, none⟩ = some (.slice none 0 0) := (S.at_ 1 rfl).cell 0
      have f5 := (S.at_ 1 rfl).free 0
      have f6 : w4.cell? ⟨w.heap.size + 1, 1, none⟩ = some (.slice none 0 0) := (S.at_ 1 rfl).cell 1
      have f7 := (S.at_ 1 rfl).free 1
      replace S := S.put 1 rfl 0 (.slice Au nu cu)
      replace c := c.setCell (p := ⟨w.heap.size + 1, 0, none⟩) (by show w.heap.size ≤ w.heap.size + 1; omega) (.slice Au nu cu)
      replace S := S.put 1 rfl 1 (.slice Ax nx cx)
      replace c := c.setCell (p := ⟨w.heap.size + 1, 1, none⟩) (by show w.heap.size ≤ w.heap.size + 1; omega) (.slice Ax nx cx)
      replace S := S.pick 0 rfl
      have H := Lib.hid S.first
      have C := Lib.hid c
      have r0 := Lib.hid ((S.at_ 1 rfl).cell 0)
      have r1 := Lib.hid ((S.at_ 1 rfl).cell 1)
      clear S c h hr0 hr1 hl0 hl1 
      go_wp2
      exact bodyPost_ret (v := .tuple #[.agg #[.slice Au nu cu, .slice Ax nx cx], .bool false]) (by simp [results, Try.results23, go_sem, r0.out, r1.out]) rfl ⟨_, _, _, _, _, _, by rw [HD.out], by rw [HD.out]; exact H.out, C.out⟩
    case true =>
      have hlt : eqIx t.cuts (linkOf x y) < t.cuts.length := by unfold isCut at hcut; exact of_decide_eq_true hcut
      have hlow : lowN t.cuts ⟨(linkOf x y).a, (linkOf x y).b⟩ = eqIx t.cuts (linkOf x y) := HLW.out hlt
      have HD := Lib.hid (show healedM t x y = (healNet t (eqIx t.cuts (linkOf x y)), true) by rw [HD0.out, hcut]; rfl)
      rw [hlow]
      clear hcut hlow
      obtain ⟨k, hkk⟩ : ∃ k, k = eqIx t.cuts (linkOf x y) := ⟨_, rfl⟩
      rw [← hkk] at hlt HD
      rw [← hkk]
      have hk : k < n1 := by omega
      clear hkk
      go_wp2_with fail
      refine wp_region_L (fun v => v.cell? ⟨w.heap.size, 0, none⟩ = some (.slice A0 n0 c0) ∧ v.cell? ⟨w.heap.size, 1, none⟩ = some (.slice A1 n1 c1)) 9 (by kernel_rfl) ?_
      replace S := S.keep ((Below.refl _ _).drew)
      replace c := c.drew
      generalize w3.drew = w4 at *
      have HF : w4.cell? ⟨w.heap.size, 0, none⟩ = some (.slice A0 n0 c0) ∧ w4.cell? ⟨w.heap.size, 1, none⟩ = some (.slice A1 n1 c1) := ⟨(S.at_ 1 rfl).cell 0, (S.at_ 1 rfl).cell 1⟩
      refine wpAnyL_take (i := 0) (v := ?_) rfl rfl (by kernel_rfl) (by kernel_rfl) (by kernel_rfl) (by kernel_rfl) (by kernel_rfl) (fun _ _ _ h => h) HF (Or.inl ⟨by rfl, ?_⟩) ?_
      rotate_left 1
      · (rintro v ⟨a0, a1⟩; go_simp; try with_reducible rfl)
      try simp only [Act.put]
      refine wpAnyL_take (i := 1) (v := ?_) rfl rfl (by kernel_rfl) (by kernel_rfl) (by kernel_rfl) (by kernel_rfl) (by kernel_rfl) (fun _ _ _ h => h) HF (Or.inl ⟨by rfl, ?_⟩) ?_
      rotate_left 1
      · (rintro v ⟨a0, a1⟩; go_simp; try with_reducible rfl)
      try simp only [Act.put]
      refine wpAnyL_take (i := 2) (v := ?_) rfl rfl (by kernel_rfl) (by kernel_rfl) (by kernel_rfl) (by kernel_rfl) (by kernel_rfl) (fun _ _ _ h => h) HF (Or.inl ⟨by rfl, ?_⟩) ?_
      rotate_left 1
      · (rintro v ⟨a0, a1⟩; go_simp; try with_reducible rfl)
      try simp only [Act.put]
      refine wpAnyL_take (i := 3) (v := ?_) rfl rfl (by kernel_rfl) (by kernel_rfl) (by kernel_rfl) (by kernel_rfl) (by kernel_rfl) (fun _ _ _ h => h) HF (Or.inl ⟨by rfl, ?_⟩) ?_
      rotate_left 1
      · (rintro v ⟨a0, a1⟩; go_simp; try with_reducible rfl)
      try simp only [Act.put]
      refine wpAnyL_pure (i := 4) (v := ?_) rfl rfl (by kernel_rfl) (by kernel_rfl) (by kernel_rfl) (fun _ _ _ h => h) HF (Or.inl ⟨by rfl, ?_⟩) ?_
      rotate_left 1
      · (intro v _; go_simp; try with_reducible rfl)
      try simp only [Act.put]
      refine wpAnyL_step (i := 5) (by kernel_rfl) rfl rfl ?_
      intro K hK
      go_simp
      refine (iWithoutL_any A1 n1 c1 k t.cuts w.heap.size _ (hr1.keep c) c.size hn1 hk).mono ?_
      rintro e w5 ⟨Af, cf, rfl, hrf, b⟩
      replace c := c.trans (b.mono c.size)
      replace S := S.keep b
      clear b
      have hrc := hr0.keep c
      clear HF
      have HF : w5.cell? ⟨w.heap.size, 0, none⟩ = some (.slice A0 n0 c0) ∧ w5.cell? ⟨w.heap.size, 1, none⟩ = some (.slice A1 n1 c1) := ⟨(S.at_ 1 rfl).cell 0, (S.at_ 1 rfl).cell 1⟩
      refine hK _ _ (fun _ => HF) ?_
      clear hK K
      try simp only [Act.put]
      refine wpAnyL_step (i := 6) (by kernel_rfl) rfl rfl ?_
      intro K hK
      go_simp
      refine hK _ _ (fun _ => HF) ?_
      clear hK K
      try simp only [Act.put]
      have hrd : Rd w5 w5.heap.size (healNet t k).cells [.slice A0 n0 c0, .slice Af (k + (n1 - (k + 1))) cf] := Rd.append (hrc.up c.size) hrf
      refine wpAnyL_step (i := 7) (by kernel_rfl) rfl rfl ?_
      intro K hK
      go_simp
      refine (iCopyN_any _ _ (healNet t k) _ hrd (Nat.le_trans (healNet_sz t k) hs)).mono ?_
      rintro e w6 ⟨Au, nu, cu, Ax, nx, cx, rfl, o, b⟩
      obtain ⟨fp_u, S'⟩ := S.has b o c.size
      replace c := c.trans (b.mono c.size)
      clear S; have S := S'; clear S' o b
      clear HF
      have HF : w6.cell? ⟨w.heap.size, 0, none⟩ = some (.slice A0 n0 c0) ∧ w6.cell? ⟨w.heap.size, 1, none⟩ = some (.slice A1 n1 c1) := ⟨(S.at_ 2 rfl).cell 0, (S.at_ 2 rfl).cell 1⟩
      refine hK _ _ (fun _ => HF) ?_
      clear hK K
      try simp only [Act.put]
      have f2 : w6.cell? ⟨w.heap.size + 1, 0, none⟩ = some (.slice none 0 0) := (S.at_ 1 rfl).cell 0
      have f3 := (S.at_ 1 rfl).free 0
      have f4 : w6.cell? ⟨w.heap.size + 1, 1, none⟩ = some (.slice none 0 0) := (S.at_ 1 rfl).cell 1
      have f5 := (S.at_ 1 rfl).free 1
      refine wpAnyL_step (i := 8) (by kernel_rfl) rfl rfl ?_
      intro K hK
      go_simp
      replace S := S.put 1 rfl 0 (.slice Au nu cu)
      replace c := c.setCell (p := ⟨w.heap.size + 1, 0, none⟩) (by show w.heap.size ≤ w.heap.size + 1; omega) (.slice Au nu cu)
      replace S := S.put 1 rfl 1 (.slice Ax nx cx)
      replace c := c.setCell (p := ⟨w.heap.size + 1, 1, none⟩) (by show w.heap.size ≤ w.heap.size + 1; omega) (.slice Ax nx cx)
      clear HF
      have HF : ((w6.setCell ⟨w.heap.size + 1, 0, none⟩ (.slice Au nu cu)).setCell ⟨w.heap.size + 1, 1, none⟩ (.slice Ax nx cx)).cell? ⟨w.heap.size, 0, none⟩ = some (.slice A0 n0 c0) ∧ ((w6.setCell ⟨w.heap.size + 1, 0, none⟩ (.slice Au nu cu)).setCell ⟨w.heap.size + 1, 1, none⟩ (.slice Ax nx cx)).cell? ⟨w.heap.size, 1, none⟩ = some (.slice A1 n1 c1) := ⟨(S.at_ 2 rfl).cell 0, (S.at_ 2 rfl).cell 1⟩
      refine hK _ _ (fun _ => HF) ?_
      clear hK K
      try simp only [Act.put]
      generalize (w6.setCell ⟨w.heap.size + 1, 0, none⟩ (.slice Au nu cu)).setCell ⟨w.heap.size + 1, 1, none⟩ (.slice Ax nx cx) = w7 at *
      clear f2 f3 f4 f5
      refine wpAnyL_step (i := 9) (by kernel_rfl) rfl rfl ?_
      intro K hK
      go_simp
      refine hK _ _ (fun h => nomatch (show true = false from h)) ?_
      clear hK K
      try simp only [Act.put]
      refine wpAnyL_done (by kernel_rfl) ?_ _
      replace S := S.pick 0 rfl
      have H := Lib.hid S.first
      have C := Lib.hid c
      have r0 := Lib.hid ((S.at_ 1 rfl).cell 0)
      have r1 := Lib.hid ((S.at_ 1 rfl).cell 1)
      clear S c HF hrd hrc hrf h hr0 hr1 hl0 hl1
      go_wp2
      exact bodyPost_ret (v := .tuple #[.agg #[.slice Au nu cu, .slice Ax nx cx], .bool true]) (by simp [results, Try.results23, go_sem, r0.out, r1.out]) rfl ⟨_, _, _, _, _, _, by rw [HD.out], by rw [HD.out]; exact H.out, C.out⟩

end Go.Proofs.Ytdcdcccdihhhcaa
