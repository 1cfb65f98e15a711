/-
  Chapter 5: Healed, of the model (by program, wip/gen/gennetm.py).
-/
import Derived.Test.YtdcdcccdihhhcaaNetH3
import Derived.Test.YtdcdcccdihhhcaaParts
import Derived.Test.YtdcdcccdihhhcaaNetC2
import Derived.Test.YtdcdcccdihhhcaaNetC3
import Derived.RegionTactic
import Derived.BigQuiet
namespace Go.Proofs.Ytdcdcccdihhhcaa
set_option maxRecDepth 100000
open Go.RowKit

set_option maxHeartbeats 12800000 in
theorem sHealed_any (v0 v1 : Value) (t : NetM) (x y : Int) (w : World) (h : Rd w w.heap.size t.cells [v0, v1]) (hs : t.sz ≤ 1048577) :
    Calls Try.prog 54 #[.agg #[v0, v1], .int .i64 x, .int .i64 y] w (MadeNB w (healedM t x y)) := by
  obtain ⟨A0, n0, c0, A1, n1, c1, rfl, rfl, hr0, hr1⟩ := h.netT
  have hz0 : msgSz t.flight ≤ 1048577 := by unfold NetM.sz at hs; omega
  have hz1 : linkSz t.cuts ≤ 1048577 := by unfold NetM.sz at hs; omega
  obtain ⟨hl0, hl1, _, _, _⟩ := net_len h
  have hn0 : n0 ≤ 1048577 := by unfold msgSz at hz0; omega
  have hn1 : n1 ≤ 1048577 := by unfold linkSz at hz1; omega
  have S := Sep.nil w w.heap.size
  have c := Below.refl w.heap.size w
  replace S := S.boxAt c.size (w.heap.size) rfl #[.slice A0 n0 c0, .slice A1 n1 c1] 30
  replace c := c.alloc c.size (.cells #[.slice A0 n0 c0, .slice A1 n1 c1] 30)
  replace S := S.boxAt c.size (w.heap.size + 1) (by simp) #[.slice none 0 0, .slice none 0 0] 30
  replace c := c.alloc c.size (.cells #[.slice none 0 0, .slice none 0 0] 30)
  go_enter Try.func54, Try.ntmps54
  go_wp2_with fail
  generalize (w.alloc (.cells #[.slice A0 n0 c0, .slice A1 n1 c1] 30)).alloc (.cells #[.slice none 0 0, .slice none 0 0] 30) = w1 at *
  refine (sNetOk_any _ _ t w.heap.size _ (h.keep c) c.size hs).mono ?_
  rintro e w2 ⟨rfl, b⟩
  replace c := c.trans (b.mono c.size)
  replace S := S.keep b
  clear b
  cases hok : netOk t
  case false =>
    have HD := Lib.hid (show healedM t x y = (zeroN, false) by unfold healedM; rw [hok]; rfl)
    have f0 : w2.cell? ⟨w.heap.size + 1, 0, none⟩ = some (.slice none 0 0) := (S.at_ 0 rfl).cell 0
    have f1 := (S.at_ 0 rfl).free 0
    have f2 : w2.cell? ⟨w.heap.size + 1, 1, none⟩ = some (.slice none 0 0) := (S.at_ 0 rfl).cell 1
    have f3 := (S.at_ 0 rfl).free 1
    replace S := S.put 0 rfl 0 (.slice none 0 0)
    replace c := c.setCell (p := ⟨w.heap.size + 1, 0, none⟩) (by show w.heap.size ≤ w.heap.size + 1; omega) (.slice none 0 0)
    replace S := S.put 0 rfl 1 (.slice none 0 0)
    replace c := c.setCell (p := ⟨w.heap.size + 1, 1, none⟩) (by show w.heap.size ≤ w.heap.size + 1; omega) (.slice none 0 0)
    have C := Lib.hid c
    have r0 := Lib.hid ((S.at_ 0 rfl).cell 0)
    have r1 := Lib.hid ((S.at_ 0 rfl).cell 1)
    clear S c h hr0 hr1 hl0 hl1 hok
    go_wp2
    exact bodyPost_ret (v := .tuple #[.agg #[.slice none 0 0, .slice none 0 0], .bool false]) (by simp [results, Try.results54, go_sem, r0.out, r1.out]) rfl ⟨_, _, _, _, _, _, by rw [HD.out], by rw [HD.out]; exact has_zeroN _ _, C.out⟩
  case true =>
    have HD0 := Lib.hid (show healedM t x y = if isCut t.cuts (linkOf x y) = true then (healNet t (eqIx t.cuts (linkOf x y)), true) else (t, false) by unfold healedM; rw [if_pos hok])
    clear hok
    have f0 : w2.cell? ⟨w.heap.size, 0, none⟩ = some (.slice A0 n0 c0) := (S.at_ 1 rfl).cell 0
    have f1 : w2.cell? ⟨w.heap.size, 1, none⟩ = some (.slice A1 n1 c1) := (S.at_ 1 rfl).cell 1
    go_wp2_with fail
    refine (sCopyN_any _ _ t _ ((h.keep c).up c.size) hs).mono ?_
    rintro e w3 ⟨Au, nu, cu, Ax, nx, cx, rfl, o, b⟩
    obtain ⟨fp_u, S'⟩ := S.has b o c.size
    replace c := c.trans (b.mono c.size)
    clear S; have S := S'; clear S' o b f0 f1
    have hlt2 : w.heap.size + 1 < w3.heap.size := (S.at_ 1 rfl).lt
    have hne1 : ¬ (w3.heap.size = w.heap.size + 1) := by omega
    have hne2 : ¬ (w.heap.size + 1 = w3.heap.size) := by omega
    have f2 : w3.cell? ⟨w.heap.size, 0, none⟩ = some (.slice A0 n0 c0) := (S.at_ 2 rfl).cell 0
    have f3 : w3.cell? ⟨w.heap.size, 1, none⟩ = some (.slice A1 n1 c1) := (S.at_ 2 rfl).cell 1
    replace S := S.boxAt c.size (w3.heap.size) rfl #[.slice Au nu cu, .slice Ax nx cx] 30
    replace c := c.alloc c.size (.cells #[.slice Au nu cu, .slice Ax nx cx] 30)
    have f4 : (w3.alloc (.cells #[.slice Au nu cu, .slice Ax nx cx] 30)).cell? ⟨w.heap.size, 0, none⟩ = some (.slice A0 n0 c0) := (S.at_ 3 rfl).cell 0
    have f5 : (w3.alloc (.cells #[.slice Au nu cu, .slice Ax nx cx] 30)).cell? ⟨w.heap.size, 1, none⟩ = some (.slice A1 n1 c1) := (S.at_ 3 rfl).cell 1
    go_wp2_with fail
    generalize w3.alloc (.cells #[.slice Au nu cu, .slice Ax nx cx] 30) = w4 at *
    refine (sCutAt_any _ _ t x y w.heap.size _ (h.keep c) c.size hs).mono ?_
    rintro e w5 ⟨rfl, b⟩
    replace c := c.trans (b.mono c.size)
    replace S := S.keep b
    clear b f2 f3 f4 f5
    by_cases hcut : eqIx t.cuts (linkOf x y) < t.cuts.length
    case neg =>
      have hsp : specAt t.cuts (linkOf x y) = -1 := by unfold specAt; rw [if_neg hcut]
      have HD := Lib.hid (show healedM t x y = (t, false) by rw [HD0.out, if_neg (by unfold isCut; rw [decide_eq_false hcut]; decide)])
      rw [hsp]
      clear hcut hsp
      have f6 : w5.cell? ⟨w3.heap.size, 0, none⟩ = some (.slice Au nu cu) := (S.at_ 0 rfl).cell 0
      have f7 : w5.cell? ⟨w3.heap.size, 1, none⟩ = some (.slice Ax nx cx) := (S.at_ 0 rfl).cell 1
      have f8 : w5.cell? ⟨w.heap.size + 1, 0, none⟩ = some (.slice none 0 0) := (S.at_ 2 rfl).cell 0
      have f9 := (S.at_ 2 rfl).free 0
      have f10 : w5.cell? ⟨w.heap.size + 1, 1, none⟩ = some (.slice none 0 0) := (S.at_ 2 rfl).cell 1
      have f11 := (S.at_ 2 rfl).free 1
      replace S := S.put 2 rfl 0 (.slice Au nu cu)
      replace c := c.setCell (p := ⟨w.heap.size + 1, 0, none⟩) (by show w.heap.size ≤ w.heap.size + 1; omega) (.slice Au nu cu)
      replace S := S.put 2 rfl 1 (.slice Ax nx cx)
      replace c := c.setCell (p := ⟨w.heap.size + 1, 1, none⟩) (by show w.heap.size ≤ w.heap.size + 1; omega) (.slice Ax nx cx)
      replace S := S.pick 1 rfl
      have H := Lib.hid S.first
      have C := Lib.hid c
      have r0 := Lib.hid ((S.at_ 2 rfl).cell 0)
      have r1 := Lib.hid ((S.at_ 2 rfl).cell 1)
      clear S c h hr0 hr1 hl0 hl1 
      go_wp2
      exact bodyPost_ret (v := .tuple #[.agg #[.slice Au nu cu, .slice Ax nx cx], .bool false]) (by simp [results, Try.results54, go_sem, r0.out, r1.out]) rfl ⟨_, _, _, _, _, _, by rw [HD.out], by rw [HD.out]; exact H.out, C.out⟩
    case pos =>
      have hsp : specAt t.cuts (linkOf x y) = (eqIx t.cuts (linkOf x y) : Int) := by unfold specAt; rw [if_pos hcut]
      have HD := Lib.hid (show healedM t x y = (healNet t (eqIx t.cuts (linkOf x y)), true) by rw [HD0.out, if_pos (by unfold isCut; exact decide_eq_true hcut)])
      rw [hsp]
      clear hsp
      obtain ⟨k, hkk⟩ : ∃ k, k = eqIx t.cuts (linkOf x y) := ⟨_, rfl⟩
      rw [← hkk] at hcut HD
      rw [← hkk]
      have hk : k < n1 := by omega
      clear hkk
      obtain ⟨_, _, _, e, _, hnc, hcm, hel⟩ := hr1.links
      injection e with e1 e2 e3
      subst e1 e2 e3
      obtain ⟨b, off, rfl, _⟩ := hel (by omega)
      clear hel
      have i0 : (0 : Int) ≤ (k : Int) := by omega
      have i1 : (k : Int) ≤ (c1 : Int) := by omega
      have i2 : (0 : Int) ≤ (k : Int) + 1 := by omega
      have i3 : (k : Int) + 1 ≤ (n1 : Int) := by omega
      have i4 : (k : Int) ≤ (n1 : Int) := by omega
      have ep : IntKind.i64.wrap ((k : Int) + 1) = (k : Int) + 1 := by rw [IntKind.wrap_i64]; omega
      have HN := Lib.hid hnc
      clear hnc
      have f6 : w5.cell? ⟨w.heap.size, 0, none⟩ = some (.slice A0 n0 c0) := (S.at_ 3 rfl).cell 0
      have f7 : w5.cell? ⟨w.heap.size, 1, none⟩ = some (.slice (some ⟨b, off, none⟩) n1 c1) := (S.at_ 3 rfl).cell 1
      go_wp2_with fail
      refine wp_region_L (fun v => v.cell? ⟨w.heap.size, 0, none⟩ = some (.slice A0 n0 c0) ∧ v.cell? ⟨w.heap.size, 1, none⟩ = some (.slice (some ⟨b, off, none⟩) n1 c1)) 13 (by kernel_rfl) ?_
      clear f6 f7
      replace S := S.keep ((Below.refl _ _).drew)
      replace c := c.drew
      generalize w5.drew = w6 at *
      have HF : w6.cell? ⟨w.heap.size, 0, none⟩ = some (.slice A0 n0 c0) ∧ w6.cell? ⟨w.heap.size, 1, none⟩ = some (.slice (some ⟨b, off, none⟩) n1 c1) := ⟨(S.at_ 3 rfl).cell 0, (S.at_ 3 rfl).cell 1⟩
      refine wpAnyL_take (i := 1) (v := ?_) rfl rfl (by kernel_rfl) (by kernel_rfl) (by kernel_rfl) (by kernel_rfl) (by kernel_rfl) (fun _ _ _ h => h) HF (Or.inl ⟨by rfl, ?_⟩) ?_
      rotate_left 1
      · (rintro v ⟨a0, a1⟩; go_simp; try with_reducible rfl)
      try simp only [Act.put]
      refine wpAnyL_take (i := 2) (v := ?_) rfl rfl (by kernel_rfl) (by kernel_rfl) (by kernel_rfl) (by kernel_rfl) (by kernel_rfl) (fun _ _ _ h => h) HF (Or.inl ⟨by rfl, ?_⟩) ?_
      rotate_left 1
      · (rintro v ⟨a0, a1⟩; go_simp; try with_reducible rfl)
      try simp only [Act.put]
      refine wpAnyL_pure (i := 3) (v := ?_) rfl rfl (by kernel_rfl) (by kernel_rfl) (by kernel_rfl) (fun _ _ _ h => h) HF (Or.inl ⟨by rfl, ?_⟩) ?_
      rotate_left 1
      · (intro v _; go_simp; try with_reducible rfl)
      try simp only [Act.put]
      refine wpAnyL_pure (i := 4) (v := ?_) rfl rfl (by kernel_rfl) (by kernel_rfl) (by kernel_rfl) (fun _ _ _ h => h) HF (Or.inl ⟨by rfl, ?_⟩) ?_
      rotate_left 1
      · (intro v _; go_simp; try with_reducible rfl)
      try simp only [Act.put]
      refine wpAnyL_take (i := 6) (v := ?_) rfl rfl (by kernel_rfl) (by kernel_rfl) (by kernel_rfl) (by kernel_rfl) (by kernel_rfl) (fun _ _ _ h => h) HF (Or.inl ⟨by rfl, ?_⟩) ?_
      rotate_left 1
      · (rintro v ⟨a0, a1⟩; go_simp; try with_reducible rfl)
      try simp only [Act.put]
      refine wpAnyL_take (i := 7) (v := ?_) rfl rfl (by kernel_rfl) (by kernel_rfl) (by kernel_rfl) (by kernel_rfl) (by kernel_rfl) (fun _ _ _ h => h) HF (Or.inl ⟨by rfl, ?_⟩) ?_
      rotate_left 1
      · (rintro v ⟨a0, a1⟩; go_simp; try with_reducible rfl)
      try simp only [Act.put]
      refine wpAnyL_pure (i := 8) (v := ?_) rfl rfl (by kernel_rfl) (by kernel_rfl) (by kernel_rfl) (fun _ _ _ h => h) HF (Or.inl ⟨by rfl, ?_⟩) ?_
      rotate_left 1
      · (intro v _; go_simp; try with_reducible rfl)
      try simp only [Act.put]
      refine wpAnyL_pure (i := 9) (v := ?_) rfl rfl (by kernel_rfl) (by kernel_rfl) (by kernel_rfl) (fun _ _ _ h => h) HF (Or.inl ⟨by rfl, ?_⟩) ?_
      rotate_left 1
      · (intro v _; go_simp; try with_reducible rfl)
      try simp only [Act.put]
      refine wpAnyL_pure (i := 10) (v := ?_) rfl rfl (by kernel_rfl) (by kernel_rfl) (by kernel_rfl) (fun _ _ _ h => h) HF (Or.inl ⟨by rfl, ?_⟩) ?_
      rotate_left 1
      · (intro v _; go_simp; try with_reducible rfl)
      try simp only [Act.put]
      refine wpAnyL_step (i := 0) (by kernel_rfl) rfl rfl ?_
      intro K hK
      go_simp
      replace S := S.boxAt c.size (w6.heap.size) rfl #[] 75
      replace c := c.alloc c.size (.cells #[] 75)
      clear HF
      have HF : (w6.alloc (.cells #[] 75)).cell? ⟨w.heap.size, 0, none⟩ = some (.slice A0 n0 c0) ∧ (w6.alloc (.cells #[] 75)).cell? ⟨w.heap.size, 1, none⟩ = some (.slice (some ⟨b, off, none⟩) n1 c1) := ⟨(S.at_ 4 rfl).cell 0, (S.at_ 4 rfl).cell 1⟩
      refine hK _ _ (fun _ => HF) ?_
      clear hK K
      try simp only [Act.put]
      generalize hw : w6.alloc (.cells #[] 75) = w7 at *
      have HWw7 := Lib.hid hw
      clear hw
      replace S := S.pick 0 rfl
      replace S := S.blk0 (k := 2) (f := linkC)
      replace S := (S.flat link_flat (t.cuts.take k)).swap
      have hsr := (Rd.front linkC_len (by decide) (hr1.keep c) (show k ≤ n1 by omega) (show k ≤ c1 by have := HN.out; omega) hcm).src link_flat linkC_len (by decide)
      refine wpAnyL_step (i := 5) (by kernel_rfl) rfl rfl ?_
      intro K hK
      refine wp_append_fresh (l2 := t.cuts.take k) _ _ (by rfl) Try.underlying28 infoLink (by rfl) (by decide) linkC_len (by rfl) (S.own_ 0 rfl) (S.nodup_own 0 rfl) (by rfl) hsr.1 (S.own_ 1 rfl) hsr.2 (S.nodup_own 1 rfl) S.apart (by omega) (by omega) ?_
      intro A3 c3 w8 fp3 o3 n3 s3 t3
      have S' := S.merge t3 o3 n3 s3 c.size
      replace c := c.trans (S.below 0 rfl t3 c.size)
      clear S; have S := S'; clear S' o3 n3 s3 t3 hsr
      clear HF
      have HF : w8.cell? ⟨w.heap.size, 0, none⟩ = some (.slice A0 n0 c0) ∧ w8.cell? ⟨w.heap.size, 1, none⟩ = some (.slice (some ⟨b, off, none⟩) n1 c1) := ⟨(S.at_ 4 rfl).cell 0, (S.at_ 4 rfl).cell 1⟩
      refine hK _ _ (fun _ => HF) ?_
      clear hK K
      try simp only [Act.put]
      have hsr := (Rd.back (A2 := (if c1 = k + 1 then some ⟨b, off, none⟩ else some ⟨b, off + (k + 1) * 2, none⟩)) (c' := c1 - (k + 1)) linkC_len (by decide) (hr1.keep c) (show k + 1 ≤ n1 by omega) (fun b' off' e hl => by
        have hc1 := HN.out
        injection e with e
        injection e with e1 e2
        rw [if_neg (by omega), e1, e2]) (by have := HN.out; omega) (by omega)).src link_flat linkC_len (by decide)
      have HE := Lib.hid (show t.cuts.take k ++ t.cuts.drop (k + 1) = t.cuts.eraseIdx k from (List.eraseIdx_eq_take_drop_succ ..).symm)
      replace S := (S.flat link_flat (t.cuts.drop (k + 1))).swap
      refine wpAnyL_step (i := 11) (by kernel_rfl) rfl rfl ?_
      intro K hK
      refine wp_append_many (l := t.cuts.take k) (l2 := t.cuts.drop (k + 1)) _ _ (by rfl) Try.underlying28 infoLink (by rfl) (by decide) linkC_len (by rfl) (S.own_ 0 rfl) (S.nodup_own 0 rfl) (by rfl) hsr.1 (S.own_ 1 rfl) hsr.2 (S.nodup_own 1 rfl) S.apart (by omega) (by omega) ?_
      intro A5 c5 w9 fp5 o3 n3 s3 t3
      have S' := S.merge t3 o3 n3 s3 c.size
      replace c := c.trans (S.below 0 rfl t3 c.size)
      clear S; have S := S'; clear S' o3 n3 s3 t3 hsr
      clear HF
      have HF : w9.cell? ⟨w.heap.size, 0, none⟩ = some (.slice A0 n0 c0) ∧ w9.cell? ⟨w.heap.size, 1, none⟩ = some (.slice (some ⟨b, off, none⟩) n1 c1) := ⟨(S.at_ 4 rfl).cell 0, (S.at_ 4 rfl).cell 1⟩
      refine hK _ _ (fun _ => HF) ?_
      clear hK K
      try simp only [Act.put]
      rw [HE.out] at S
      have f8 : w9.cell? ⟨w3.heap.size, 0, none⟩ = some (.slice Au nu cu) := (S.at_ 1 rfl).cell 0
      have f9 := (S.at_ 1 rfl).free 0
      have f10 : w9.cell? ⟨w3.heap.size, 1, none⟩ = some (.slice Ax nx cx) := (S.at_ 1 rfl).cell 1
      have f11 := (S.at_ 1 rfl).free 1
      refine wpAnyL_step (i := 12) (by kernel_rfl) rfl rfl ?_
      intro K hK
      go_simp
      refine hK _ _ (fun _ => HF) ?_
      clear hK K
      try simp only [Act.put]
      refine wpAnyL_step (i := 13) (by kernel_rfl) rfl rfl ?_
      intro K hK
      go_simp
      refine hK _ _ (fun h => nomatch (show true = false from h)) ?_
      clear hK K
      try simp only [Act.put]
      refine wpAnyL_done (by kernel_rfl) ?_ _
      replace c := c.setCell (p := ⟨w3.heap.size, 1, none⟩) (S.base_le 1 rfl) (.slice A5 (k + (n1 - (k + 1))) c5)
      replace S := S.put 1 rfl 1 (.slice A5 (k + (n1 - (k + 1))) c5)
      have f12 : (w9.setCell ⟨w3.heap.size, 1, none⟩ (.slice A5 (k + (n1 - (k + 1))) c5)).cell? ⟨w3.heap.size, 0, none⟩ = some (.slice Au nu cu) := (S.at_ 1 rfl).cell 0
      have f13 : (w9.setCell ⟨w3.heap.size, 1, none⟩ (.slice A5 (k + (n1 - (k + 1))) c5)).cell? ⟨w3.heap.size, 1, none⟩ = some (.slice A5 (k + (n1 - (k + 1))) c5) := (S.at_ 1 rfl).cell 1
      replace S := S.pick 2 rfl
      obtain ⟨fx, fy, S'⟩ := S.cut (ds := [msgD t.flight]) (ds' := [linkD t.cuts]) (vs := [.slice Au nu cu]) (vs' := [.slice Ax nx cx]) rfl
      clear S; have S := S'; clear S'
      have f14 : (w9.setCell ⟨w3.heap.size, 1, none⟩ (.slice A5 (k + (n1 - (k + 1))) c5)).cell? ⟨w.heap.size + 1, 0, none⟩ = some (.slice none 0 0) := (S.at_ 4 rfl).cell 0
      have f15 := (S.at_ 4 rfl).free 0
      have f16 : (w9.setCell ⟨w3.heap.size, 1, none⟩ (.slice A5 (k + (n1 - (k + 1))) c5)).cell? ⟨w.heap.size + 1, 1, none⟩ = some (.slice none 0 0) := (S.at_ 4 rfl).cell 1
      have f17 := (S.at_ 4 rfl).free 1
      replace S := S.put 4 rfl 0 (.slice Au nu cu)
      replace c := c.setCell (p := ⟨w.heap.size + 1, 0, none⟩) (by show w.heap.size ≤ w.heap.size + 1; omega) (.slice Au nu cu)
      replace S := S.put 4 rfl 1 (.slice A5 (k + (n1 - (k + 1))) c5)
      replace c := c.setCell (p := ⟨w.heap.size + 1, 1, none⟩) (by show w.heap.size ≤ w.heap.size + 1; omega) (.slice A5 (k + (n1 - (k + 1))) c5)
      replace S := S.pick 1 rfl
      replace S := S.pick 2 rfl
      have H := Lib.hid (show Has _ w.heap.size ([msgD t.flight] ++ [linkD (t.cuts.eraseIdx k)]) ([.slice Au nu cu] ++ [.slice A5 (k + (n1 - (k + 1))) c5]) from S.pair)
      have C := Lib.hid c
      have r0 := Lib.hid ((S.at_ 4 rfl).cell 0)
      have r1 := Lib.hid ((S.at_ 4 rfl).cell 1)
      clear S c HF h hr0 hr1 hl0 hl1
      go_wp2
      all_goals exact bodyPost_ret (v := .tuple #[.agg #[.slice Au nu cu, .slice A5 (k + (n1 - (k + 1))) c5], .bool true]) (by simp [results, Try.results54, go_sem, r0.out, r1.out]) rfl ⟨_, _, _, _, _, _, by rw [HD.out], by rw [HD.out]; exact H.out, C.out⟩

theorem sHealed_at (A0 : Option Addr) (n0 c0 : Nat) (A1 : Option Addr) (n1 c1 : Nat) (t : NetM) (x y : Int) (w : World) (h : Rd w w.heap.size t.cells [.slice A0 n0 c0, .slice A1 n1 c1]) (hs : t.sz ≤ 1048576) :
    Calls Try.prog 54 #[.agg #[.slice A0 n0 c0, .slice A1 n1 c1], .int .i64 x, .int .i64 y] w fun e w' => ∃ (A0 : Option Addr) (n0 c0 : Nat) (A1 : Option Addr) (n1 c1 : Nat), e = .returned (.tuple #[.agg #[.slice A0 n0 c0, .slice A1 n1 c1], .bool (healedM t x y).2]) ∧ Has w' w.heap.size ((healedM t x y).1).cells [.slice A0 n0 c0, .slice A1 n1 c1] ∧ Below w.heap.size w w' :=
  sHealed_any _ _ t x y w h (by omega)
theorem iHealed_at (A0 : Option Addr) (n0 c0 : Nat) (A1 : Option Addr) (n1 c1 : Nat) (t : NetM) (x y : Int) (w : World) (h : Rd w w.heap.size t.cells [.slice A0 n0 c0, .slice A1 n1 c1]) (hs : t.sz ≤ 1048576) :
    Calls Try.prog 23 #[.agg #[.slice A0 n0 c0, .slice A1 n1 c1], .int .i64 x, .int .i64 y] w fun e w' => ∃ (A0 : Option Addr) (n0 c0 : Nat) (A1 : Option Addr) (n1 c1 : Nat), e = .returned (.tuple #[.agg #[.slice A0 n0 c0, .slice A1 n1 c1], .bool (healedM t x y).2]) ∧ Has w' w.heap.size ((healedM t x y).1).cells [.slice A0 n0 c0, .slice A1 n1 c1] ∧ Below w.heap.size w w' :=
  iHealed_any _ _ t x y w h (by omega)
end Go.Proofs.Ytdcdcccdihhhcaa
