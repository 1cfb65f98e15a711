/-
  Chapter 5: CutOff, of the program (by program, wip/gen/gennetp.py).
-/
import Derived.Test.YthcagdcbifdfeaaNetG1
import Derived.Test.YthcagdcbifdfeaaNetI3
import Derived.Test.YthcagdcbifdfeaaNetI2
import Derived.Test.YthcagdcbifdfeaaNetC1
import Derived.Test.YthcagdcbifdfeaaNetC4
import Derived.Test.YthcagdcbifdfeaaNetC5
import Derived.Test.YthcagdcbifdfeaaNetE1
import Derived.Test.YthcagdcbifdfeaaCls
import Derived.Test.YthcagdcbifdfeaaFrontO
import Derived.Test.YthcagdcbifdfeaaParts
import Derived.RegionTactic
import Derived.BigQuiet
namespace Go.Proofs.Ythcagdcbifdfeaa
set_option maxRecDepth 100000
open Go.RowKit

set_option maxHeartbeats 12800000 in
theorem iCutOff_any (v0 v1 : Value) (t : NetM) (x y : Int) (w : World) (h : Rd w w.heap.size t.cells [v0, v1]) (hs : t.sz ≤ 1048577) :
    Calls Try.prog 21 #[.agg #[v0, v1], .int .i64 x, .int .i64 y] w (MadeNB w (cutOffM t x y)) := by
  obtain ⟨A0, n0, c0, A1, n1, c1, rfl, rfl, hr0, hr1⟩ := h.netT
  have hz0 : msgSz t.flight ≤ 1048577 := by unfold NetM.sz at hs; omega
  have hz1 : linkSz t.cuts ≤ 1048577 := by unfold NetM.sz at hs; omega
  obtain ⟨hl0, hl1, _, _, _⟩ := net_len h
  have hn0 : n0 ≤ 1048577 := by unfold msgSz at hz0; omega
  have hn1 : n1 ≤ 1048577 := by unfold linkSz at hz1; omega
  have S := Sep.nil w w.heap.size
  have c := Below.refl w.heap.size w
  replace S := S.boxAt c.size (w.heap.size) rfl #[.slice A0 n0 c0, .slice A1 n1 c1] 30
  replace c := c.alloc c.size (.cells #[.slice A0 n0 c0, .slice A1 n1 c1] 30)
  replace S := S.boxAt c.size (w.heap.size + 1) (by simp) #[.slice none 0 0, .slice none 0 0] 30
  replace c := c.alloc c.size (.cells #[.slice none 0 0, .slice none 0 0] 30)
  go_enter Try.func21, Try.ntmps21
  go_wp2_with fail
  generalize (w.alloc (.cells #[.slice A0 n0 c0, .slice A1 n1 c1] 30)).alloc (.cells #[.slice none 0 0, .slice none 0 0] 30) = w1 at *
  refine (iNetOk_any _ _ t w.heap.size _ (h.keep c) c.size hs).mono ?_
  rintro e w2 ⟨rfl, b⟩
  replace c := c.trans (b.mono c.size)
  replace S := S.keep b
  clear b
  cases hok : netOk t
  case false =>
    have HD := Lib.hid (show cutOffM t x y = (zeroN, false) by unfold cutOffM; rw [hok]; rfl)
    have f0 : w2.cell? ⟨w.heap.size + 1, 0, none⟩ = some (.slice none 0 0) := (S.at_ 0 rfl).cell 0
    have f1 := (S.at_ 0 rfl).free 0
    have f2 : w2.cell? ⟨w.heap.size + 1, 1, none⟩ = some (.slice none 0 0) := (S.at_ 0 rfl).cell 1
    have f3 := (S.at_ 0 rfl).free 1
    replace S := S.put 0 rfl 0 (.slice none 0 0)
    replace c := c.setCell (p := ⟨w.heap.size + 1, 0, none⟩) (by show w.heap.size ≤ w.heap.size + 1; omega) (.slice none 0 0)
    replace S := S.put 0 rfl 1 (.slice none 0 0)
    replace c := c.setCell (p := ⟨w.heap.size + 1, 1, none⟩) (by show w.heap.size ≤ w.heap.size + 1; omega) (.slice none 0 0)
    have C := Lib.hid c
    have r0 := Lib.hid ((S.at_ 0 rfl).cell 0)
    have r1 := Lib.hid ((S.at_ 0 rfl).cell 1)
    clear S c h hr0 hr1 hl0 hl1 hok
    go_wp2
    exact bodyPost_ret (v := .tuple #[.agg #[.slice none 0 0, .slice none 0 0], .bool false]) (by simp [results, Try.results21, go_sem, r0.out, r1.out]) rfl ⟨_, _, _, _, _, _, by rw [HD.out], by rw [HD.out]; exact has_zeroN _ _, C.out⟩
  case true =>
    have hcb := (netOk_spec hok).2.2.2
    have HIS := Lib.hid (isAt_eq hcb (linkOf x y))
    have HD0 := Lib.hid (show cutOffM t x y = if twoB x y = true then (if isCut t.cuts (linkOf x y) = true then (t, false) else (cutNet t (linkOf x y), true)) else (t, false) by unfold cutOffM; rw [if_pos hok])
    clear hok hcb
    have f0 : w2.cell? ⟨w.heap.size, 0, none⟩ = some (.slice A0 n0 c0) := (S.at_ 1 rfl).cell 0
    have f1 : w2.cell? ⟨w.heap.size, 1, none⟩ = some (.slice A1 n1 c1) := (S.at_ 1 rfl).cell 1
    go_wp2_with fail
    refine (iCopyN_any _ _ t _ ((h.keep c).up c.size) hs).mono ?_
    rintro e w3 ⟨Au, nu, cu, Ax, nx, cx, rfl, o, b⟩
    obtain ⟨fp_u, S'⟩ := S.has b o c.size
    replace c := c.trans (b.mono c.size)
    clear S; have S := S'; clear S' o b f0 f1
    have hlt2 : w.heap.size + 1 < w3.heap.size := (S.at_ 1 rfl).lt
    have hne1 : ¬ (w3.heap.size = w.heap.size + 1) := by omega
    have hne2 : ¬ (w.heap.size + 1 = w3.heap.size) := by omega
    go_wp2_with fail
    refine (iLink_any x y _).mono ?_
    rintro e w4 ⟨rfl, b⟩
    replace c := c.trans (b.mono c.size)
    replace S := S.keep b
    clear b
    obtain ⟨la, hla⟩ : ∃ q, q = (linkOf x y).a := ⟨_, rfl⟩
    obtain ⟨lb, hlb⟩ : ∃ q, q = (linkOf x y).b := ⟨_, rfl⟩
    have HLK := Lib.hid (show linkOf x y = ⟨la, lb⟩ by rw [hla, hlb])
    rw [← hla, ← hlb]
    clear hla hlb
    have hlt3 : w.heap.size + 1 < w4.heap.size := (S.at_ 1 rfl).lt
    have hne3 : ¬ (w4.heap.size = w.heap.size + 1) := by omega
    have hne4 : ¬ (w.heap.size + 1 = w4.heap.size) := by omega
    replace S := S.boxAt c.size (w4.heap.size) rfl #[.slice Au nu cu, .slice Ax nx cx] 30
    replace c := c.alloc c.size (.cells #[.slice Au nu cu, .slice Ax nx cx] 30)
    replace S := S.boxAt c.size (w4.heap.size + 1) (by simp) #[.int .i64 la, .int .i64 lb] 76
    replace c := c.alloc c.size (.cells #[.int .i64 la, .int .i64 lb] 76)
    have f2 : ((w4.alloc (.cells #[.slice Au nu cu, .slice Ax nx cx] 30)).alloc (.cells #[.int .i64 la, .int .i64 lb] 76)).cell? ⟨w.heap.size, 0, none⟩ = some (.slice A0 n0 c0) := (S.at_ 4 rfl).cell 0
    have f3 : ((w4.alloc (.cells #[.slice Au nu cu, .slice Ax nx cx] 30)).alloc (.cells #[.int .i64 la, .int .i64 lb] 76)).cell? ⟨w.heap.size, 1, none⟩ = some (.slice A1 n1 c1) := (S.at_ 4 rfl).cell 1
    have f4 : ((w4.alloc (.cells #[.slice Au nu cu, .slice Ax nx cx] 30)).alloc (.cells #[.int .i64 la, .int .i64 lb] 76)).cell? ⟨w4.heap.size + 1, 0, none⟩ = some (.int .i64 la) := (S.at_ 0 rfl).cell 0
    have f5 : ((w4.alloc (.cells #[.slice Au nu cu, .slice Ax nx cx] 30)).alloc (.cells #[.int .i64 la, .int .i64 lb] 76)).cell? ⟨w4.heap.size + 1, 1, none⟩ = some (.int .i64 lb) := (S.at_ 0 rfl).cell 1
    go_wp2_with fail
    generalize (w4.alloc (.cells #[.slice Au nu cu, .slice Ax nx cx] 30)).alloc (.cells #[.int .i64 la, .int .i64 lb] 76) = w5 at *
    have hr2 := hr1.keep c
    refine (iPlace_any A1 n1 c1 t.cuts la lb w.heap.size _ hr2 c.size hz1).mono ?_
    rintro e w6 ⟨rfl, b⟩
    replace c := c.trans (b.mono c.size)
    replace S := S.keep b
    clear b f2 f3 f4 f5
    clear hr2
    have hta : isAt t.cuts ⟨la, lb⟩ = isCut t.cuts (linkOf x y) := by rw [← HLK.out]; exact HIS.out
    rw [hta]
    clear hta HIS
    have hlo : lowN t.cuts ⟨la, lb⟩ = lowN t.cuts (linkOf x y) := by rw [HLK.out]
    rw [hlo]
    clear hlo
    obtain ⟨k, hkk⟩ : ∃ k, k = lowN t.cuts (linkOf x y) := ⟨_, rfl⟩
    have hk : k ≤ n1 := by rw [hkk, ← hl1]; exact lowN_le _ _
    rw [← hkk]
    have HKK := Lib.hid hkk
    clear hkk
    go_wp2_with fail
    refine (iTwo_any x y _).mono ?_
    rintro e _ ⟨rfl, rfl⟩
    cases htw : twoB x y
    case false =>
      have HD := Lib.hid (show cutOffM t x y = (t, false) by rw [HD0.out, htw]; rfl)
      clear htw
      have f6 : w6.cell? ⟨w4.heap.size, 0, none⟩ = some (.slice Au nu cu) := (S.at_ 1 rfl).cell 0
      have f7 : w6.cell? ⟨w4.heap.size, 1, none⟩ = some (.slice Ax nx cx) := (S.at_ 1 rfl).cell 1
      have f8 : w6.cell? ⟨w.heap.size + 1, 0, none⟩ = some (.slice none 0 0) := (S.at_ 3 rfl).cell 0
      have f9 := (S.at_ 3 rfl).free 0
      have f10 : w6.cell? ⟨w.heap.size + 1, 1, none⟩ = some (.slice none 0 0) := (S.at_ 3 rfl).cell 1
      have f11 := (S.at_ 3 rfl).free 1
      replace S := S.put 3 rfl 0 (.slice Au nu cu)
      replace c := c.setCell (p := ⟨w.heap.size + 1, 0, none⟩) (by show w.heap.size ≤ w.heap.size + 1; omega) (.slice Au nu cu)
      replace S := S.put 3 rfl 1 (.slice Ax nx cx)
      replace c := c.setCell (p := ⟨w.heap.size + 1, 1, none⟩) (by show w.heap.size ≤ w.heap.size + 1; omega) (.slice Ax nx cx)
      replace S := S.pick 2 rfl
      have H := Lib.hid S.first
      have C := Lib.hid c
      have r0 := Lib.hid ((S.at_ 3 rfl).cell 0)
      have r1 := Lib.hid ((S.at_ 3 rfl).cell 1)
      clear S c h hr0 hr1 hl0 hl1 
      go_wp2
      exact bodyPost_ret (v := .tuple #[.agg #[.slice Au nu cu, .slice Ax nx cx], .bool false]) (by simp [results, Try.results21, go_sem, r0.out, r1.out]) rfl ⟨_, _, _, _, _, _, by rw [HD.out], by rw [HD.out]; exact H.out, C.out⟩
    case true =>
      cases hcut : isCut t.cuts (linkOf x y)
      case true =>
        have HD := Lib.hid (show cutOffM t x y = (t, false) by rw [HD0.out, htw, hcut]; rfl)
        clear htw hcut
        have f6 : w6.cell? ⟨w4.heap.size, 0, none⟩ = some (.slice Au nu cu) := (S.at_ 1 rfl).cell 0
        have f7 : w6.cell? ⟨w4.heap.size, 1, none⟩ = some (.slice Ax nx cx) := (S.at_ 1 rfl).cell 1
        have f8 : w6.cell? ⟨w.heap.size + 1, 0, none⟩ = some (.slice none 0 0) := (S.at_ 3 rfl).cell 0
        have f9 := (S.at_ 3 rfl).free 0
        have f10 : w6.cell? ⟨w.heap.size + 1, 1, none⟩ = some (.slice none 0 0) := (S.at_ 3 rfl).cell 1
        have f11 := (S.at_ 3 rfl).free 1
        replace S := S.put 3 rfl 0 (.slice Au nu cu)
        replace c := c.setCell (p := ⟨w.heap.size + 1, 0, none⟩) (by show w.heap.size ≤ w.heap.size + 1; omega) (.slice Au nu cu)
        replace S := S.put 3 rfl 1 (.slice Ax nx cx)
        replace c := c.setCell (p := ⟨w.heap.size + 1, 1, none⟩) (by show w.heap.size ≤ w.heap.size + 1; omega) (.slice Ax nx cx)
        replace S := S.pick 2 rfl
        have H := Lib.hid S.first
        have C := Lib.hid c
        have r0 := Lib.hid ((S.at_ 3 rfl).cell 0)
        have r1 := Lib.hid ((S.at_ 3 rfl).cell 1)
        clear S c h hr0 hr1 hl0 hl1 
        go_wp2
        exact bodyPost_ret (v := .tuple #[.agg #[.slice Au nu cu, .slice Ax nx cx], .bool false]) (by simp [results, Try.results21, go_sem, r0.out, r1.out]) rfl ⟨_, _, _, _, _, _, by rw [HD.out], by rw [HD.out]; exact H.out, C.out⟩
      case false =>
        have HD := Lib.hid (show cutOffM t x y = (cutNet t (linkOf x y), true) by rw [HD0.out, htw, hcut]; rfl)
        clear htw hcut
        replace S := S.pick 2 rfl
        obtain ⟨hlu, hlx, _, _, _⟩ := net_len (S.own_ 0 rfl).rd
        obtain rfl : n1 = nx := by rw [← hl1, hlx]
        obtain ⟨fx, fy, S'⟩ := S.cut (ds := [msgD t.flight]) (ds' := [linkD t.cuts]) (vs := [.slice Au nu cu]) (vs' := [.slice Ax n1 cx]) rfl
        clear S; have S := S'; clear S'
        skip
        have hkc : k ≤ cx := by
          obtain ⟨_, _, _, e, _, h1, _, _⟩ := (S.own_ 0 rfl).rd.links
          injection e with e1 e2 e3
          omega
        obtain ⟨hnc, hcm⟩ : n1 ≤ c1 ∧ c1 ≤ maxLen := by
          obtain ⟨_, _, _, e, _, h1, h2, _⟩ := hr1.links
          injection e with e1 e2 e3
          subst e1 e2 e3
          exact ⟨h1, h2⟩
        have HN := Lib.hid hnc
        have HM := Lib.hid hcm
        clear hnc hcm
        have i0 : (0 : Int) ≤ (k : Int) := by omega
        have i1 : (k : Int) ≤ (cx : Int) := by omega
        have i2 : (k : Int) ≤ (n1 : Int) := by omega
        replace S := S.frontO link_flat linkC_len (by decide) k hk
        have f6 : w6.cell? ⟨w4.heap.size, 0, none⟩ = some (.slice Au nu cu) := (S.at_ 3 rfl).cell 0
        have f7 : w6.cell? ⟨w4.heap.size, 1, none⟩ = some (.slice Ax n1 cx) := (S.at_ 3 rfl).cell 1
        have f8 : w6.cell? ⟨w4.heap.size + 1, 0, none⟩ = some (.int .i64 la) := (S.at_ 2 rfl).cell 0
        have f9 : w6.cell? ⟨w4.heap.size + 1, 1, none⟩ = some (.int .i64 lb) := (S.at_ 2 rfl).cell 1
        go_wp2_with fail
        refine wp_region_L (fun v => v.cell? ⟨w4.heap.size, 1, none⟩ = some (.slice Ax n1 cx) ∧ v.cell? ⟨w4.heap.size + 1, 0, none⟩ = some (.int .i64 la) ∧ v.cell? ⟨w4.heap.size + 1, 1, none⟩ = some (.int .i64 lb)) 8 (by kernel_rfl) ?_
        clear f6 f7 f8 f9
        replace S := S.keep ((Below.refl _ _).drew)
        replace c := c.drew
        generalize w6.drew = w7 at *
        have HF : w7.cell? ⟨w4.heap.size, 1, none⟩ = some (.slice Ax n1 cx) ∧ w7.cell? ⟨w4.heap.size + 1, 0, none⟩ = some (.int .i64 la) ∧ w7.cell? ⟨w4.heap.size + 1, 1, none⟩ = some (.int .i64 lb) := ⟨(S.at_ 3 rfl).cell 1, (S.at_ 2 rfl).cell 0, (S.at_ 2 rfl).cell 1⟩
        refine wpAnyL_take (i := 0) (v := ?_) rfl rfl (by kernel_rfl) (by kernel_rfl) (by kernel_rfl) (by kernel_rfl) (by kernel_rfl) (fun _ _ _ h => h) HF (Or.inl ⟨by rfl, ?_⟩) ?_
        rotate_left 1
        · (rintro v ⟨a0, a1, a2⟩; go_simp; try with_reducible rfl)
        try simp only [Act.put]
        refine wpAnyL_take (i := 1) (v := ?_) rfl rfl (by kernel_rfl) (by kernel_rfl) (by kernel_rfl) (by kernel_rfl) (by kernel_rfl) (fun _ _ _ h => h) HF (Or.inl ⟨by rfl, ?_⟩) ?_
        rotate_left 1
        · (rintro v ⟨a0, a1, a2⟩; go_simp; try with_reducible rfl)
        try simp only [Act.put]
        refine wpAnyL_pure (i := 2) (v := ?_) rfl rfl (by kernel_rfl) (by kernel_rfl) (by kernel_rfl) (fun _ _ _ h => h) HF (Or.inl ⟨by rfl, ?_⟩) ?_
        rotate_left 1
        · (intro v _; go_simp; try with_reducible rfl)
        try simp only [Act.put]
        refine wpAnyL_pure (i := 3) (v := ?_) rfl rfl (by kernel_rfl) (by kernel_rfl) (by kernel_rfl) (fun _ _ _ h => h) HF (Or.inl ⟨by rfl, ?_⟩) ?_
        rotate_left 1
        · (intro v _; go_simp; try with_reducible rfl)
        try simp only [Act.put]
        refine wpAnyL_take (i := 4) (v := ?_) rfl rfl (by kernel_rfl) (by kernel_rfl) (by kernel_rfl) (by kernel_rfl) (by kernel_rfl) (fun _ _ _ h => h) HF (Or.inl ⟨by rfl, ?_⟩) ?_
        rotate_left 1
        · (rintro v ⟨a0, a1, a2⟩; go_simp; try with_reducible rfl)
        try simp only [Act.put]
        refine wpAnyL_step (i := 5) (by kernel_rfl) rfl rfl ?_
        intro K hK
        go_simp
        replace S := S.boxAt c.size (w7.heap.size) rfl #[.int .i64 la, .int .i64 lb] 76
        replace c := c.alloc c.size (.cells #[.int .i64 la, .int .i64 lb] 76)
        clear HF
        have HF : (w7.alloc (.cells #[.int .i64 la, .int .i64 lb] 76)).cell? ⟨w4.heap.size, 1, none⟩ = some (.slice Ax n1 cx) ∧ (w7.alloc (.cells #[.int .i64 la, .int .i64 lb] 76)).cell? ⟨w4.heap.size + 1, 0, none⟩ = some (.int .i64 la) ∧ (w7.alloc (.cells #[.int .i64 la, .int .i64 lb] 76)).cell? ⟨w4.heap.size + 1, 1, none⟩ = some (.int .i64 lb) := ⟨(S.at_ 4 rfl).cell 1, (S.at_ 3 rfl).cell 0, (S.at_ 3 rfl).cell 1⟩
        refine hK _ _ (fun _ => HF) ?_
        clear hK K
        try simp only [Act.put]
        generalize hw : w7.alloc (.cells #[.int .i64 la, .int .i64 lb] 76) = w8 at *
        have HWw8 := Lib.hid hw
        clear hw
        replace S := S.pick 1 rfl
        replace S := (S.flat link_flat ([(⟨la, lb⟩ : LinkM)])).swap
        have hsr : Src w8 (some ⟨w7.heap.size, 0, none⟩) 1 2 (ivals ([(⟨la, lb⟩ : LinkM)].flatMap fun x => [x.a, x.b])) ∧ [(⟨la, lb⟩ : LinkM)].length = 1 := ⟨Src.of_blk (S.at_ 2 rfl) (fun i hi => by
          rcases (show i = 0 ∨ i = 1 by omega) with rfl | rfl <;> rfl), rfl⟩
        refine wpAnyL_step (i := 6) (by kernel_rfl) rfl rfl ?_
        intro K hK
        refine wp_append_many (l := t.cuts.take k) (l2 := [(⟨la, lb⟩ : LinkM)]) _ _ (by rfl) Try.underlying28 infoLink (by rfl) (by decide) linkC_len (by rfl) (S.own_ 0 rfl) (S.nodup_own 0 rfl) (by rfl) hsr.1 (S.own_ 1 rfl) hsr.2 (S.nodup_own 1 rfl) S.apart (by omega) (by omega) ?_
        intro A3 c3 w9 fp3 o3 n3 s3 t3
        have S' := S.merge t3 o3 n3 s3 c.size
        replace c := c.trans (S.below 0 rfl t3 c.size)
        clear S; have S := S'; clear S' o3 n3 s3 t3 hsr
        clear HF
        have HF : w9.cell? ⟨w4.heap.size, 1, none⟩ = some (.slice Ax n1 cx) ∧ w9.cell? ⟨w4.heap.size + 1, 0, none⟩ = some (.int .i64 la) ∧ w9.cell? ⟨w4.heap.size + 1, 1, none⟩ = some (.int .i64 lb) := ⟨(S.at_ 4 rfl).cell 1, (S.at_ 3 rfl).cell 0, (S.at_ 3 rfl).cell 1⟩
        refine hK _ _ (fun _ => HF) ?_
        clear hK K
        try simp only [Act.put]
        have f10 : w9.cell? ⟨w4.heap.size, 0, none⟩ = some (.slice Au nu cu) := (S.at_ 4 rfl).cell 0
        have f11 := (S.at_ 4 rfl).free 0
        have f12 : w9.cell? ⟨w4.heap.size, 1, none⟩ = some (.slice Ax n1 cx) := (S.at_ 4 rfl).cell 1
        have f13 := (S.at_ 4 rfl).free 1
        refine wpAnyL_step (i := 7) (by kernel_rfl) rfl rfl ?_
        intro K hK
        go_simp
        refine hK _ _ (fun _ => HF) ?_
        clear hK K
        try simp only [Act.put]
        refine wpAnyL_step (i := 8) (by kernel_rfl) rfl rfl ?_
        intro K hK
        go_simp
        refine hK _ _ (fun h => nomatch (show true = false from h)) ?_
        clear hK K
        try simp only [Act.put]
        refine wpAnyL_done (by kernel_rfl) ?_ _
        replace c := c.setCell (p := ⟨w4.heap.size, 1, none⟩) (S.base_le 4 rfl) (.slice A3 (k + 1) c3)
        replace S := S.put 4 rfl 1 (.slice A3 (k + 1) c3)
        generalize w9.setCell ⟨w4.heap.size, 1, none⟩ (.slice A3 (k + 1) c3) = w10 at *
        clear HF f10 f11 f12 f13
        replace S := S.pick 0 rfl
        have f14 : w10.cell? ⟨w4.heap.size, 0, none⟩ = some (.slice Au nu cu) := (S.at_ 4 rfl).cell 0
        have f15 : w10.cell? ⟨w4.heap.size, 1, none⟩ = some (.slice A3 (k + 1) c3) := (S.at_ 4 rfl).cell 1
        have f16 : w10.cell? ⟨w.heap.size, 0, none⟩ = some (.slice A0 n0 c0) := (S.at_ 6 rfl).cell 0
        have f17 : w10.cell? ⟨w.heap.size, 1, none⟩ = some (.slice A1 n1 c1) := (S.at_ 6 rfl).cell 1
        go_wp2_with fail
        refine wp_region_L (fun v => v.cell? ⟨w4.heap.size, 1, none⟩ = some (.slice A3 (k + 1) c3) ∧ v.cell? ⟨w.heap.size, 1, none⟩ = some (.slice A1 n1 c1)) 8 (by kernel_rfl) ?_
        clear f14 f15 f16 f17
        replace S := S.keep ((Below.refl _ _).drew)
        replace c := c.drew
        generalize w10.drew = w11 at *
        have HF : w11.cell? ⟨w4.heap.size, 1, none⟩ = some (.slice A3 (k + 1) c3) ∧ w11.cell? ⟨w.heap.size, 1, none⟩ = some (.slice A1 n1 c1) := ⟨(S.at_ 4 rfl).cell 1, (S.at_ 6 rfl).cell 1⟩
        refine wpAnyL_take (i := 0) (v := ?_) rfl rfl (by kernel_rfl) (by kernel_rfl) (by kernel_rfl) (by kernel_rfl) (by kernel_rfl) (fun _ _ _ h => h) HF (Or.inl ⟨by rfl, ?_⟩) ?_
        rotate_left 1
        · (rintro v ⟨a0, a1⟩; go_simp; try with_reducible rfl)
        try simp only [Act.put]
        refine wpAnyL_take (i := 1) (v := ?_) rfl rfl (by kernel_rfl) (by kernel_rfl) (by kernel_rfl) (by kernel_rfl) (by kernel_rfl) (fun _ _ _ h => h) HF (Or.inl ⟨by rfl, ?_⟩) ?_
        rotate_left 1
        · (rintro v ⟨a0, a1⟩; go_simp; try with_reducible rfl)
        try simp only [Act.put]
        refine wpAnyL_take (i := 2) (v := ?_) rfl rfl (by kernel_rfl) (by kernel_rfl) (by kernel_rfl) (by kernel_rfl) (by kernel_rfl) (fun _ _ _ h => h) HF (Or.inl ⟨by rfl, ?_⟩) ?_
        rotate_left 1
        · (rintro v ⟨a0, a1⟩; go_simp; try with_reducible rfl)
        try simp only [Act.put]
        refine wpAnyL_take (i := 3) (v := ?_) rfl rfl (by kernel_rfl) (by kernel_rfl) (by kernel_rfl) (by kernel_rfl) (by kernel_rfl) (fun _ _ _ h => h) HF (Or.inl ⟨by rfl, ?_⟩) ?_
        rotate_left 1
        · (rintro v ⟨a0, a1⟩; go_simp; try with_reducible rfl)
        try simp only [Act.put]
        refine wpAnyL_pure (i := 4) (v := ?_) rfl rfl (by kernel_rfl) (by kernel_rfl) (by kernel_rfl) (fun _ _ _ h => h) HF (Or.inl ⟨by rfl, ?_⟩) ?_
        rotate_left 1
        · (intro v _; go_simp; try with_reducible rfl)
        try simp only [Act.put]
        refine wpAnyL_pure (i := 5) (v := ?_) rfl rfl (by kernel_rfl) (by kernel_rfl) (by kernel_rfl) (fun _ _ _ h => h) HF (Or.inl ⟨by rfl, ?_⟩) ?_
        rotate_left 1
        · (intro v _; go_simp; try with_reducible rfl)
        try simp only [Act.put]
        replace S := S.pick 0 rfl
        replace S := (S.flat link_flat (t.cuts.drop k)).swap
        have hsr := back_src link_flat linkC_len (by decide) (hr1.keep c) hk HN.out HM.out
        have HE := Lib.hid (show t.cuts.take k ++ [(⟨la, lb⟩ : LinkM)] ++ t.cuts.drop k = (cutNet t (linkOf x y)).cuts by unfold cutNet; rw [← HKK.out, HLK.out])
        refine wpAnyL_step (i := 6) (by kernel_rfl) rfl rfl ?_
        intro K hK
        refine wp_append_many (l := t.cuts.take k ++ [(⟨la, lb⟩ : LinkM)]) (l2 := t.cuts.drop k) _ _ (by rfl) Try.underlying28 infoLink (by rfl) (by decide) linkC_len (by rfl) (S.own_ 0 rfl) (S.nodup_own 0 rfl) (by rfl) hsr.1 (S.own_ 1 rfl) hsr.2 (S.nodup_own 1 rfl) S.apart (by omega) (by omega) ?_
        intro A5 c5 w12 fp5 o3 n3 s3 t3
        have S' := S.merge t3 o3 n3 s3 c.size
        replace c := c.trans (S.below 0 rfl t3 c.size)
        clear S; have S := S'; clear S' o3 n3 s3 t3 hsr
        clear HF
        have HF : w12.cell? ⟨w4.heap.size, 1, none⟩ = some (.slice A3 (k + 1) c3) ∧ w12.cell? ⟨w.heap.size, 1, none⟩ = some (.slice A1 n1 c1) := ⟨(S.at_ 4 rfl).cell 1, (S.at_ 6 rfl).cell 1⟩
        refine hK _ _ (fun _ => HF) ?_
        clear hK K
        try simp only [Act.put]
        rw [HE.out] at S
        have f18 : w12.cell? ⟨w4.heap.size, 0, none⟩ = some (.slice Au nu cu) := (S.at_ 4 rfl).cell 0
        have f19 := (S.at_ 4 rfl).free 0
        have f20 : w12.cell? ⟨w4.heap.size, 1, none⟩ = some (.slice A3 (k + 1) c3) := (S.at_ 4 rfl).cell 1
        have f21 := (S.at_ 4 rfl).free 1
        refine wpAnyL_step (i := 7) (by kernel_rfl) rfl rfl ?_
        intro K hK
        go_simp
        refine hK _ _ (fun _ => HF) ?_
        clear hK K
        try simp only [Act.put]
        refine wpAnyL_step (i := 8) (by kernel_rfl) rfl rfl ?_
        intro K hK
        go_simp
        refine hK _ _ (fun h => nomatch (show true = false from h)) ?_
        clear hK K
        try simp only [Act.put]
        refine wpAnyL_done (by kernel_rfl) ?_ _
        replace c := c.setCell (p := ⟨w4.heap.size, 1, none⟩) (S.base_le 4 rfl) (.slice A5 (k + 1 + (n1 - k)) c5)
        replace S := S.put 4 rfl 1 (.slice A5 (k + 1 + (n1 - k)) c5)
        generalize w12.setCell ⟨w4.heap.size, 1, none⟩ (.slice A5 (k + 1 + (n1 - k)) c5) = w13 at *
        clear HF f18 f19 f20 f21
        have f22 : w13.cell? ⟨w4.heap.size, 0, none⟩ = some (.slice Au nu cu) := (S.at_ 4 rfl).cell 0
        have f23 : w13.cell? ⟨w4.heap.size, 1, none⟩ = some (.slice A5 (k + 1 + (n1 - k)) c5) := (S.at_ 4 rfl).cell 1
        have f24 : w13.cell? ⟨w.heap.size + 1, 0, none⟩ = some (.slice none 0 0) := (S.at_ 5 rfl).cell 0
        have f25 := (S.at_ 5 rfl).free 0
        have f26 : w13.cell? ⟨w.heap.size + 1, 1, none⟩ = some (.slice none 0 0) := (S.at_ 5 rfl).cell 1
        have f27 := (S.at_ 5 rfl).free 1
        replace S := S.put 5 rfl 0 (.slice Au nu cu)
        replace c := c.setCell (p := ⟨w.heap.size + 1, 0, none⟩) (by show w.heap.size ≤ w.heap.size + 1; omega) (.slice Au nu cu)
        replace S := S.put 5 rfl 1 (.slice A5 (k + 1 + (n1 - k)) c5)
        replace c := c.setCell (p := ⟨w.heap.size + 1, 1, none⟩) (by show w.heap.size ≤ w.heap.size + 1; omega) (.slice A5 (k + 1 + (n1 - k)) c5)
        replace S := S.pick 2 rfl
        replace S := S.pick 1 rfl
        have H := Lib.hid (show Has _ w.heap.size ([msgD t.flight] ++ [linkD (cutNet t (linkOf x y)).cuts]) ([.slice Au nu cu] ++ [.slice A5 (k + 1 + (n1 - k)) c5]) from S.pair)
        have C := Lib.hid c
        have r0 := Lib.hid ((S.at_ 5 rfl).cell 0)
        have r1 := Lib.hid ((S.at_ 5 rfl).cell 1)
        clear S c h hr0 hr1 hl0 hl1
        go_wp2
        all_goals exact bodyPost_ret (v := .tuple #[.agg #[.slice Au nu cu, .slice A5 (k + 1 + (n1 - k)) c5], .bool true]) (by simp [results, Try.results21, go_sem, r0.out, r1.out]) rfl ⟨_, _, _, _, _, _, by rw [HD.out], by rw [HD.out]; exact H.out, C.out⟩

theorem iCutOff_at (A0 : Option Addr) (n0 c0 : Nat) (A1 : Option Addr) (n1 c1 : Nat) (t : NetM) (x y : Int) (w : World) (h : Rd w w.heap.size t.cells [.slice A0 n0 c0, .slice A1 n1 c1]) (hs : t.sz ≤ 1048576) :
    Calls Try.prog 21 #[.agg #[.slice A0 n0 c0, .slice A1 n1 c1], .int .i64 x, .int .i64 y] w fun e w' => ∃ (A0 : Option Addr) (n0 c0 : Nat) (A1 : Option Addr) (n1 c1 : Nat), e = .returned (.tuple #[.agg #[.slice A0 n0 c0, .slice A1 n1 c1], .bool (cutOffM t x y).2]) ∧ Has w' w.heap.size ((cutOffM t x y).1).cells [.slice A0 n0 c0, .slice A1 n1 c1] ∧ Below w.heap.size w w' :=
  iCutOff_any _ _ t x y w h (by omega)
end Go.Proofs.Ythcagdcbifdfeaa
