/-
  Chapter 5: Sent, of the program (by program, wip/gen/gennetq.py).
-/
import Derived.Test.YthcagdcbifdfeaaNetJ1
import Derived.Test.YthcagdcbifdfeaaNetI1
import Derived.Test.YthcagdcbifdfeaaNetC1
import Derived.RegionTactic
import Derived.BigQuiet
namespace Go.Proofs.Ythcagdcbifdfeaa
set_option maxRecDepth 100000
open Go.RowKit

set_option maxHeartbeats 12800000 in
theorem iAdded_any (v0 v1 : Value) (t : NetM) (x0 x1 : Int) (A : Option Addr) (n cc : Nat) (xs : List Int) (w : World) (h : Rd w w.heap.size t.cells [v0, v1]) (hs : t.sz ≤ 1048577) (hm : IRow w w.heap.size A n xs) (hn : n ≤ 1048577) :
    Calls Try.prog 70 #[.agg #[v0, v1], .agg #[.int .i64 x0, .int .i64 x1, .slice A n cc]] w (MadeNet w (sentNet t ⟨x0, x1, xs⟩)) := by
  obtain ⟨A0, n0, c0, A1, n1, c1, rfl, rfl, hr0, hr1⟩ := h.netT
  have hz0 : msgSz t.flight ≤ 1048577 := by unfold NetM.sz at hs; omega
  have hz1 : linkSz t.cuts ≤ 1048577 := by unfold NetM.sz at hs; omega
  obtain ⟨hl0, hl1, _, _, _⟩ := net_len h
  have hn0 : n0 ≤ 1048577 := by unfold msgSz at hz0; omega
  have hn1 : n1 ≤ 1048577 := by unfold linkSz at hz1; omega
  have S := Sep.nil w w.heap.size
  have c := Below.refl w.heap.size w
  replace S := S.boxAt c.size (w.heap.size) rfl #[.slice A0 n0 c0, .slice A1 n1 c1] 30
  replace c := c.alloc c.size (.cells #[.slice A0 n0 c0, .slice A1 n1 c1] 30)
  replace S := S.boxAt c.size (w.heap.size + 1) (by simp) #[.int .i64 x0, .int .i64 x1, .slice A n cc] 37
  replace c := c.alloc c.size (.cells #[.int .i64 x0, .int .i64 x1, .slice A n cc] 37)
  replace S := S.boxAt c.size (w.heap.size + 1 + 1) (by simp) #[.slice none 0 0, .slice none 0 0] 30
  replace c := c.alloc c.size (.cells #[.slice none 0 0, .slice none 0 0] 30)
  go_enter Try.func70, Try.ntmps70
  go_wp2_with fail
  generalize ((w.alloc (.cells #[.slice A0 n0 c0, .slice A1 n1 c1] 30)).alloc (.cells #[.int .i64 x0, .int .i64 x1, .slice A n cc] 37)).alloc (.cells #[.slice none 0 0, .slice none 0 0] 30) = w1 at *
  refine (iCopyN_any _ _ t _ ((h.keep c).up c.size) hs).mono ?_
  rintro e w2 ⟨Au, nu, cu, Ax, nx, cx, rfl, o, b⟩
  obtain ⟨fp_u, S'⟩ := S.has b o c.size
  replace c := c.trans (b.mono c.size)
  clear S; have S := S'; clear S' o b
  have hlt2 : w.heap.size + 2 < w2.heap.size := (S.at_ 1 rfl).lt
  have hne0 : ¬ (w2.heap.size = w.heap.size) := by omega
  have hne1 : ¬ (w.heap.size = w2.heap.size) := by omega
  have hne2 : ¬ (w2.heap.size = w.heap.size + 1) := by omega
  have hne3 : ¬ (w.heap.size + 1 = w2.heap.size) := by omega
  have hne4 : ¬ (w2.heap.size = w.heap.size + 2) := by omega
  have hne5 : ¬ (w.heap.size + 2 = w2.heap.size) := by omega
  replace S := S.boxAt c.size (w2.heap.size) rfl #[.slice Au nu cu, .slice Ax nx cx] 30
  replace c := c.alloc c.size (.cells #[.slice Au nu cu, .slice Ax nx cx] 30)
  replace S := S.pick 1 rfl
  obtain ⟨hlu, hlx, _, _, _⟩ := net_len (S.own_ 0 rfl).rd
  obtain rfl : n0 = nu := by rw [← hl0, hlu]
  replace S := S.pick 0 rfl
  obtain ⟨fx, fy, S'⟩ := S.cut (ds := [msgD t.flight]) (ds' := [linkD t.cuts]) (vs := [.slice Au n0 cu]) (vs' := [.slice Ax nx cx]) rfl
  clear S; have S := S'; clear S'
  have f0 : (w2.alloc (.cells #[.slice Au n0 cu, .slice Ax nx cx] 30)).cell? ⟨w2.heap.size, 0, none⟩ = some (.slice Au n0 cu) := (S.at_ 2 rfl).cell 0
  have f1 : (w2.alloc (.cells #[.slice Au n0 cu, .slice Ax nx cx] 30)).cell? ⟨w2.heap.size, 1, none⟩ = some (.slice Ax nx cx) := (S.at_ 2 rfl).cell 1
  have f2 : (w2.alloc (.cells #[.slice Au n0 cu, .slice Ax nx cx] 30)).cell? ⟨w.heap.size + 1, 0, none⟩ = some (.int .i64 x0) := (S.at_ 4 rfl).cell 0
  have f3 : (w2.alloc (.cells #[.slice Au n0 cu, .slice Ax nx cx] 30)).cell? ⟨w.heap.size + 1, 1, none⟩ = some (.int .i64 x1) := (S.at_ 4 rfl).cell 1
  have f4 : (w2.alloc (.cells #[.slice Au n0 cu, .slice Ax nx cx] 30)).cell? ⟨w.heap.size + 1, 2, none⟩ = some (.slice A n cc) := (S.at_ 4 rfl).cell 2
  go_wp2_with fail
  generalize w2.alloc (.cells #[.slice Au n0 cu, .slice Ax nx cx] 30) = w3 at *
  refine wp_region_L (fun v => v.cell? ⟨w2.heap.size, 0, none⟩ = some (.slice Au n0 cu) ∧ v.cell? ⟨w.heap.size + 1, 0, none⟩ = some (.int .i64 x0) ∧ v.cell? ⟨w.heap.size + 1, 1, none⟩ = some (.int .i64 x1) ∧ v.cell? ⟨w.heap.size + 1, 2, none⟩ = some (.slice A n cc)) 7 (by kernel_rfl) ?_
  clear f0 f1 f2 f3 f4
  replace S := S.keep ((Below.refl _ _).drew)
  replace c := c.drew
  generalize w3.drew = w4 at *
  have HF : w4.cell? ⟨w2.heap.size, 0, none⟩ = some (.slice Au n0 cu) ∧ w4.cell? ⟨w.heap.size + 1, 0, none⟩ = some (.int .i64 x0) ∧ w4.cell? ⟨w.heap.size + 1, 1, none⟩ = some (.int .i64 x1) ∧ w4.cell? ⟨w.heap.size + 1, 2, none⟩ = some (.slice A n cc) := ⟨(S.at_ 2 rfl).cell 0, (S.at_ 4 rfl).cell 0, (S.at_ 4 rfl).cell 1, (S.at_ 4 rfl).cell 2⟩
  refine wpAnyL_take (i := 0) (v := ?_) rfl rfl (by kernel_rfl) (by kernel_rfl) (by kernel_rfl) (by kernel_rfl) (by kernel_rfl) (fun _ _ _ h => h) HF (Or.inl ⟨by rfl, ?_⟩) ?_
  rotate_left 1
  · (rintro v ⟨a0, a1, a2, a3⟩; go_simp; try with_reducible rfl)
  try simp only [Act.put]
  refine wpAnyL_take (i := 1) (v := ?_) rfl rfl (by kernel_rfl) (by kernel_rfl) (by kernel_rfl) (by kernel_rfl) (by kernel_rfl) (fun _ _ _ h => h) HF (Or.inl ⟨by rfl, ?_⟩) ?_
  rotate_left 1
  · (rintro v ⟨a0, a1, a2, a3⟩; go_simp; try with_reducible rfl)
  try simp only [Act.put]
  refine wpAnyL_take (i := 2) (v := ?_) rfl rfl (by kernel_rfl) (by kernel_rfl) (by kernel_rfl) (by kernel_rfl) (by kernel_rfl) (fun _ _ _ h => h) HF (Or.inl ⟨by rfl, ?_⟩) ?_
  rotate_left 1
  · (rintro v ⟨a0, a1, a2, a3⟩; go_simp; try with_reducible rfl)
  try simp only [Act.put]
  refine wpAnyL_step (i := 3) (by kernel_rfl) rfl rfl ?_
  intro K hK
  go_simp
  refine (iMsg_any x0 x1 A n cc xs _ ((hm.below c).up c.size) hn).mono ?_
  rintro e w5 ⟨A2, n2, c2, rfl, o, b⟩
  obtain ⟨fp_lm, S'⟩ := S.has b o c.size
  replace c := c.trans (b.mono c.size)
  clear S; have S := S'; clear S' o b
  clear HF
  have HF : w5.cell? ⟨w2.heap.size, 0, none⟩ = some (.slice Au n0 cu) ∧ w5.cell? ⟨w.heap.size + 1, 0, none⟩ = some (.int .i64 x0) ∧ w5.cell? ⟨w.heap.size + 1, 1, none⟩ = some (.int .i64 x1) ∧ w5.cell? ⟨w.heap.size + 1, 2, none⟩ = some (.slice A n cc) := ⟨(S.at_ 3 rfl).cell 0, (S.at_ 5 rfl).cell 0, (S.at_ 5 rfl).cell 1, (S.at_ 5 rfl).cell 2⟩
  refine hK _ _ (fun _ => HF) ?_
  clear hK K
  try simp only [Act.put]
  refine wpAnyL_step (i := 4) (by kernel_rfl) rfl rfl ?_
  intro K hK
  go_simp
  replace S := S.boxAt c.size (w5.heap.size) rfl #[.int .i64 x0, .int .i64 x1, .slice A2 n2 c2] 37
  replace c := c.alloc c.size (.cells #[.int .i64 x0, .int .i64 x1, .slice A2 n2 c2] 37)
  clear HF
  have HF : (w5.alloc (.cells #[.int .i64 x0, .int .i64 x1, .slice A2 n2 c2] 37)).cell? ⟨w2.heap.size, 0, none⟩ = some (.slice Au n0 cu) ∧ (w5.alloc (.cells #[.int .i64 x0, .int .i64 x1, .slice A2 n2 c2] 37)).cell? ⟨w.heap.size + 1, 0, none⟩ = some (.int .i64 x0) ∧ (w5.alloc (.cells #[.int .i64 x0, .int .i64 x1, .slice A2 n2 c2] 37)).cell? ⟨w.heap.size + 1, 1, none⟩ = some (.int .i64 x1) ∧ (w5.alloc (.cells #[.int .i64 x0, .int .i64 x1, .slice A2 n2 c2] 37)).cell? ⟨w.heap.size + 1, 2, none⟩ = some (.slice A n cc) := ⟨(S.at_ 4 rfl).cell 0, (S.at_ 6 rfl).cell 0, (S.at_ 6 rfl).cell 1, (S.at_ 6 rfl).cell 2⟩
  refine hK _ _ (fun _ => HF) ?_
  clear hK K
  try simp only [Act.put]
  generalize hw : w5.alloc (.cells #[.int .i64 x0, .int .i64 x1, .slice A2 n2 c2] 37) = w6 at *
  have HWw6 := Lib.hid hw
  clear hw
  have HC : ∀ i, i < 3 → w6.cell? ⟨w5.heap.size, i, none⟩ = [Value.int .i64 x0, Value.int .i64 x1, Value.slice A2 n2 c2][i]? := fun i hi => by
    have h1 := (S.at_ 0 rfl).cell i
    rw [h1]
    simp
  replace S := S.pick 1 rfl
  replace S := S.pick 3 rfl
  refine wpAnyL_step (i := 5) (by kernel_rfl) rfl rfl ?_
  intro K hK
  refine wp_append_elem (l := t.flight) (y := (⟨x0, x1, xs⟩ : MsgM)) _ _ (by rfl) Try.underlying27 infoMsg (by rfl) (by decide) msgC_len (by rfl) (S.own_ 0 rfl) (S.nodup_own 0 rfl) (by rfl) HC (S.own_ 1 rfl) (S.nodup_own 1 rfl) S.apart (by omega) (by omega) ?_
  intro A3 c3 w7 fp3 o3 n3 s3 t3
  have S' := S.merge t3 o3 n3 s3 c.size
  replace c := c.trans (S.below 0 rfl t3 c.size)
  clear S; have S := S'; clear S' o3 n3 s3 t3 HC
  clear HF
  have HF : w7.cell? ⟨w2.heap.size, 0, none⟩ = some (.slice Au n0 cu) ∧ w7.cell? ⟨w.heap.size + 1, 0, none⟩ = some (.int .i64 x0) ∧ w7.cell? ⟨w.heap.size + 1, 1, none⟩ = some (.int .i64 x1) ∧ w7.cell? ⟨w.heap.size + 1, 2, none⟩ = some (.slice A n cc) := ⟨(S.at_ 3 rfl).cell 0, (S.at_ 5 rfl).cell 0, (S.at_ 5 rfl).cell 1, (S.at_ 5 rfl).cell 2⟩
  refine hK _ _ (fun _ => HF) ?_
  clear hK K
  try simp only [Act.put]
  have f5 : w7.cell? ⟨w2.heap.size, 0, none⟩ = some (.slice Au n0 cu) := (S.at_ 3 rfl).cell 0
  have f6 := (S.at_ 3 rfl).free 0
  have f7 : w7.cell? ⟨w2.heap.size, 1, none⟩ = some (.slice Ax nx cx) := (S.at_ 3 rfl).cell 1
  have f8 := (S.at_ 3 rfl).free 1
  refine wpAnyL_step (i := 6) (by kernel_rfl) rfl rfl ?_
  intro K hK
  go_simp
  refine hK _ _ (fun _ => HF) ?_
  clear hK K
  try simp only [Act.put]
  refine wpAnyL_step (i := 7) (by kernel_rfl) rfl rfl ?_
  intro K hK
  go_simp
  refine hK _ _ (fun h => nomatch (show true = false from h)) ?_
  clear hK K
  try simp only [Act.put]
  refine wpAnyL_done (by kernel_rfl) ?_ _
  replace c := c.setCell (p := ⟨w2.heap.size, 0, none⟩) (S.base_le 3 rfl) (.slice A3 (n0 + 1) c3)
  replace S := S.put 3 rfl 0 (.slice A3 (n0 + 1) c3)
  generalize w7.setCell ⟨w2.heap.size, 0, none⟩ (.slice A3 (n0 + 1) c3) = w8 at *
  clear HF f5 f6 f7 f8
  have f9 : w8.cell? ⟨w2.heap.size, 0, none⟩ = some (.slice A3 (n0 + 1) c3) := (S.at_ 3 rfl).cell 0
  have f10 : w8.cell? ⟨w2.heap.size, 1, none⟩ = some (.slice Ax nx cx) := (S.at_ 3 rfl).cell 1
  have f11 : w8.cell? ⟨w.heap.size + 1 + 1, 0, none⟩ = some (.slice none 0 0) := (S.at_ 4 rfl).cell 0
  have f12 := (S.at_ 4 rfl).free 0
  have f13 : w8.cell? ⟨w.heap.size + 1 + 1, 1, none⟩ = some (.slice none 0 0) := (S.at_ 4 rfl).cell 1
  have f14 := (S.at_ 4 rfl).free 1
  replace S := S.put 4 rfl 0 (.slice A3 (n0 + 1) c3)
  replace c := c.setCell (p := ⟨w.heap.size + 1 + 1, 0, none⟩) (by show w.heap.size ≤ w.heap.size + 1 + 1; omega) (.slice A3 (n0 + 1) c3)
  replace S := S.put 4 rfl 1 (.slice Ax nx cx)
  replace c := c.setCell (p := ⟨w.heap.size + 1 + 1, 1, none⟩) (by show w.heap.size ≤ w.heap.size + 1 + 1; omega) (.slice Ax nx cx)
  replace S := S.pick 0 rfl
  replace S := S.pick 2 rfl
  have H := Lib.hid (show Has _ w.heap.size ([msgD (t.flight ++ [(⟨x0, x1, xs⟩ : MsgM)])] ++ [linkD t.cuts]) ([.slice A3 (n0 + 1) c3] ++ [.slice Ax nx cx]) from S.pair)
  have C := Lib.hid c
  have r0 := Lib.hid ((S.at_ 4 rfl).cell 0)
  have r1 := Lib.hid ((S.at_ 4 rfl).cell 1)
  clear S c hm h hr0 hr1 hl0 hl1
  go_wp2
  all_goals exact bodyPost_ret (v := .agg #[.slice A3 (n0 + 1) c3, .slice Ax nx cx]) (by simp [results, Try.results70, go_sem, r0.out, r1.out]) rfl ⟨_, _, _, _, _, _, rfl, H.out, C.out⟩

set_option maxHeartbeats 12800000 in
theorem iSent_any (v0 v1 : Value) (t : NetM) (x0 x1 : Int) (A : Option Addr) (n cc : Nat) (xs : List Int) (w : World) (h : Rd w w.heap.size t.cells [v0, v1]) (hs : t.sz ≤ 1048577) (hm : IRow w w.heap.size A n xs) (hn : n ≤ 1048577) :
    Calls Try.prog 27 #[.agg #[v0, v1], .agg #[.int .i64 x0, .int .i64 x1, .slice A n cc]] w (MadeNB w (sentM t ⟨x0, x1, xs⟩)) := by
  obtain ⟨A0, n0, c0, A1, n1, c1, rfl, rfl, hr0, hr1⟩ := h.netT
  have hz0 : msgSz t.flight ≤ 1048577 := by unfold NetM.sz at hs; omega
  have hz1 : linkSz t.cuts ≤ 1048577 := by unfold NetM.sz at hs; omega
  obtain ⟨hl0, hl1, _, _, _⟩ := net_len h
  have hn0 : n0 ≤ 1048577 := by unfold msgSz at hz0; omega
  have hn1 : n1 ≤ 1048577 := by unfold linkSz at hz1; omega
  have S := Sep.nil w w.heap.size
  have c := Below.refl w.heap.size w
  replace S := S.boxAt c.size (w.heap.size) rfl #[.slice A0 n0 c0, .slice A1 n1 c1] 30
  replace c := c.alloc c.size (.cells #[.slice A0 n0 c0, .slice A1 n1 c1] 30)
  replace S := S.boxAt c.size (w.heap.size + 1) (by simp) #[.int .i64 x0, .int .i64 x1, .slice A n cc] 37
  replace c := c.alloc c.size (.cells #[.int .i64 x0, .int .i64 x1, .slice A n cc] 37)
  replace S := S.boxAt c.size (w.heap.size + 1 + 1) (by simp) #[.slice none 0 0, .slice none 0 0] 30
  replace c := c.alloc c.size (.cells #[.slice none 0 0, .slice none 0 0] 30)
  go_enter Try.func27, Try.ntmps27
  go_wp2_with fail
  generalize ((w.alloc (.cells #[.slice A0 n0 c0, .slice A1 n1 c1] 30)).alloc (.cells #[.int .i64 x0, .int .i64 x1, .slice A n cc] 37)).alloc (.cells #[.slice none 0 0, .slice none 0 0] 30) = w1 at *
  refine (iNetOk_any _ _ t w.heap.size _ (h.keep c) c.size hs).mono ?_
  rintro e w2 ⟨rfl, b⟩
  replace c := c.trans (b.mono c.size)
  replace S := S.keep b
  clear b
  cases hok : netOk t
  case false =>
    have HD := Lib.hid (show sentM t ⟨x0, x1, xs⟩ = (zeroN, false) by unfold sentM; rw [hok]; rfl)
    have f0 : w2.cell? ⟨w.heap.size + 1 + 1, 0, none⟩ = some (.slice none 0 0) := (S.at_ 0 rfl).cell 0
    have f1 := (S.at_ 0 rfl).free 0
    have f2 : w2.cell? ⟨w.heap.size + 1 + 1, 1, none⟩ = some (.slice none 0 0) := (S.at_ 0 rfl).cell 1
    have f3 := (S.at_ 0 rfl).free 1
    replace S := S.put 0 rfl 0 (.slice none 0 0)
    replace c := c.setCell (p := ⟨w.heap.size + 1 + 1, 0, none⟩) (by show w.heap.size ≤ w.heap.size + 1 + 1; omega) (.slice none 0 0)
    replace S := S.put 0 rfl 1 (.slice none 0 0)
    replace c := c.setCell (p := ⟨w.heap.size + 1 + 1, 1, none⟩) (by show w.heap.size ≤ w.heap.size + 1 + 1; omega) (.slice none 0 0)
    have C := Lib.hid c
    have r0 := Lib.hid ((S.at_ 0 rfl).cell 0)
    have r1 := Lib.hid ((S.at_ 0 rfl).cell 1)
    clear S c h hr0 hr1 hl0 hl1 hok hm
    go_wp2
    exact bodyPost_ret (v := .tuple #[.agg #[.slice none 0 0, .slice none 0 0], .bool false]) (by simp [results, Try.results27, go_sem, r0.out, r1.out]) rfl ⟨_, _, _, _, _, _, by rw [HD.out], by rw [HD.out]; exact has_zeroN _ _, C.out⟩
  case true =>
    have f0 : w2.cell? ⟨w.heap.size + 1, 0, none⟩ = some (.int .i64 x0) := (S.at_ 1 rfl).cell 0
    have f1 : w2.cell? ⟨w.heap.size + 1, 1, none⟩ = some (.int .i64 x1) := (S.at_ 1 rfl).cell 1
    have f2 : w2.cell? ⟨w.heap.size + 1, 2, none⟩ = some (.slice A n cc) := (S.at_ 1 rfl).cell 2
    go_wp2_with fail
    refine (iMsgOk_any x0 x1 A n cc w.heap.size xs _ (hm.below c) c.size hn).mono ?_
    rintro e w3 ⟨rfl, b⟩
    replace c := c.trans (b.mono c.size)
    replace S := S.keep b
    clear b f0 f1 f2
    cases hmo : msgOk ⟨x0, x1, xs⟩
    case false =>
      have HD := Lib.hid (show sentM t ⟨x0, x1, xs⟩ = (zeroN, false) by unfold sentM; rw [hok, hmo]; rfl)
      have f3 : w3.cell? ⟨w.heap.size + 1 + 1, 0, none⟩ = some (.slice none 0 0) := (S.at_ 0 rfl).cell 0
      have f4 := (S.at_ 0 rfl).free 0
      have f5 : w3.cell? ⟨w.heap.size + 1 + 1, 1, none⟩ = some (.slice none 0 0) := (S.at_ 0 rfl).cell 1
      have f6 := (S.at_ 0 rfl).free 1
      replace S := S.put 0 rfl 0 (.slice none 0 0)
      replace c := c.setCell (p := ⟨w.heap.size + 1 + 1, 0, none⟩) (by show w.heap.size ≤ w.heap.size + 1 + 1; omega) (.slice none 0 0)
      replace S := S.put 0 rfl 1 (.slice none 0 0)
      replace c := c.setCell (p := ⟨w.heap.size + 1 + 1, 1, none⟩) (by show w.heap.size ≤ w.heap.size + 1 + 1; omega) (.slice none 0 0)
      have C := Lib.hid c
      have r0 := Lib.hid ((S.at_ 0 rfl).cell 0)
      have r1 := Lib.hid ((S.at_ 0 rfl).cell 1)
      clear S c h hr0 hr1 hl0 hl1 hok hmo hm
      go_wp2
      exact bodyPost_ret (v := .tuple #[.agg #[.slice none 0 0, .slice none 0 0], .bool false]) (by simp [results, Try.results27, go_sem, r0.out, r1.out]) rfl ⟨_, _, _, _, _, _, by rw [HD.out], by rw [HD.out]; exact has_zeroN _ _, C.out⟩
    case true =>
      have HD0 := Lib.hid (show sentM t ⟨x0, x1, xs⟩ = if t.flight.length = 60 then (t, false) else (sentNet t ⟨x0, x1, xs⟩, true) by unfold sentM; rw [if_pos hok, if_pos hmo])
      clear hok hmo
      have f3 : w3.cell? ⟨w.heap.size, 0, none⟩ = some (.slice A0 n0 c0) := (S.at_ 2 rfl).cell 0
      have f4 : w3.cell? ⟨w.heap.size, 1, none⟩ = some (.slice A1 n1 c1) := (S.at_ 2 rfl).cell 1
      by_cases hq : n0 = 60
      case pos =>
        have HD := Lib.hid (show sentM t ⟨x0, x1, xs⟩ = (t, false) by rw [HD0.out, if_pos (by rw [hl0, hq])])
        subst hq
        go_wp2_with fail
        refine (iCopyN_any _ _ t _ ((h.keep c).up c.size) hs).mono ?_
        rintro e w4 ⟨Au, nu, cu, Ax, nx, cx, rfl, o, b⟩
        obtain ⟨fp_u, S'⟩ := S.has b o c.size
        replace c := c.trans (b.mono c.size)
        clear S; have S := S'; clear S' o b f3 f4
        have f5 : w4.cell? ⟨w.heap.size + 1 + 1, 0, none⟩ = some (.slice none 0 0) := (S.at_ 1 rfl).cell 0
        have f6 := (S.at_ 1 rfl).free 0
        have f7 : w4.cell? ⟨w.heap.size + 1 + 1, 1, none⟩ = some (.slice none 0 0) := (S.at_ 1 rfl).cell 1
        have f8 := (S.at_ 1 rfl).free 1
        replace S := S.put 1 rfl 0 (.slice Au nu cu)
        replace c := c.setCell (p := ⟨w.heap.size + 1 + 1, 0, none⟩) (by show w.heap.size ≤ w.heap.size + 1 + 1; omega) (.slice Au nu cu)
        replace S := S.put 1 rfl 1 (.slice Ax nx cx)
        replace c := c.setCell (p := ⟨w.heap.size + 1 + 1, 1, none⟩) (by show w.heap.size ≤ w.heap.size + 1 + 1; omega) (.slice Ax nx cx)
        replace S := S.pick 0 rfl
        have H := Lib.hid S.first
        have C := Lib.hid c
        have r0 := Lib.hid ((S.at_ 1 rfl).cell 0)
        have r1 := Lib.hid ((S.at_ 1 rfl).cell 1)
        clear S c h hr0 hr1 hl0 hl1 hm
        go_wp2
        exact bodyPost_ret (v := .tuple #[.agg #[.slice Au nu cu, .slice Ax nx cx], .bool false]) (by simp [results, Try.results27, go_sem, r0.out, r1.out]) rfl ⟨_, _, _, _, _, _, by rw [HD.out], by rw [HD.out]; exact H.out, C.out⟩
      case neg =>
        have HD := Lib.hid (show sentM t ⟨x0, x1, xs⟩ = (sentNet t ⟨x0, x1, xs⟩, true) by rw [HD0.out, if_neg (by rw [hl0]; exact hq)])
        have hq2 : ¬ ((n0 : Int) = 60) := by omega
        have f5 : w3.cell? ⟨w.heap.size + 1, 0, none⟩ = some (.int .i64 x0) := (S.at_ 1 rfl).cell 0
        have f6 : w3.cell? ⟨w.heap.size + 1, 1, none⟩ = some (.int .i64 x1) := (S.at_ 1 rfl).cell 1
        have f7 : w3.cell? ⟨w.heap.size + 1, 2, none⟩ = some (.slice A n cc) := (S.at_ 1 rfl).cell 2
        go_wp2_with fail
        refine (iAdded_any _ _ t x0 x1 A n cc xs _ ((h.keep c).up c.size) hs ((hm.below c).up c.size) hn).mono ?_
        rintro e w4 ⟨Au, nu, cu, Ax, nx, cx, rfl, o, b⟩
        obtain ⟨fp_u, S'⟩ := S.has b o c.size
        replace c := c.trans (b.mono c.size)
        clear S; have S := S'; clear S' o b f3 f4 f5 f6 f7
        have f8 : w4.cell? ⟨w.heap.size + 1 + 1, 0, none⟩ = some (.slice none 0 0) := (S.at_ 1 rfl).cell 0
        have f9 := (S.at_ 1 rfl).free 0
        have f10 : w4.cell? ⟨w.heap.size + 1 + 1, 1, none⟩ = some (.slice none 0 0) := (S.at_ 1 rfl).cell 1
        have f11 := (S.at_ 1 rfl).free 1
        replace S := S.put 1 rfl 0 (.slice Au nu cu)
        replace c := c.setCell (p := ⟨w.heap.size + 1 + 1, 0, none⟩) (by show w.heap.size ≤ w.heap.size + 1 + 1; omega) (.slice Au nu cu)
        replace S := S.put 1 rfl 1 (.slice Ax nx cx)
        replace c := c.setCell (p := ⟨w.heap.size + 1 + 1, 1, none⟩) (by show w.heap.size ≤ w.heap.size + 1 + 1; omega) (.slice Ax nx cx)
        replace S := S.pick 0 rfl
        have H := Lib.hid S.first
        have C := Lib.hid c
        have r0 := Lib.hid ((S.at_ 1 rfl).cell 0)
        have r1 := Lib.hid ((S.at_ 1 rfl).cell 1)
        clear S c h hr0 hr1 hl0 hl1 hm
        go_wp2
        exact bodyPost_ret (v := .tuple #[.agg #[.slice Au nu cu, .slice Ax nx cx], .bool true]) (by simp [results, Try.results27, go_sem, r0.out, r1.out]) rfl ⟨_, _, _, _, _, _, by rw [HD.out], by rw [HD.out]; exact H.out, C.out⟩

theorem iSent_at (A0 : Option Addr) (n0 c0 : Nat) (A1 : Option Addr) (n1 c1 : Nat) (t : NetM) (x0 x1 : Int) (A : Option Addr) (n c : Nat) (m : MsgM) (w : World) (h : Rd w w.heap.size t.cells [.slice A0 n0 c0, .slice A1 n1 c1]) (hs : t.sz ≤ 1048576) (hm : Rd w w.heap.size m.cells [.int .i64 x0, .int .i64 x1, .slice A n c]) (hms : m.sz ≤ 1048576) :
    Calls Try.prog 27 #[.agg #[.slice A0 n0 c0, .slice A1 n1 c1], .agg #[.int .i64 x0, .int .i64 x1, .slice A n c]] w fun e w' => ∃ (A0 : Option Addr) (n0 c0 : Nat) (A1 : Option Addr) (n1 c1 : Nat), e = .returned (.tuple #[.agg #[.slice A0 n0 c0, .slice A1 n1 c1], .bool (sentM t m).2]) ∧ Has w' w.heap.size ((sentM t m).1).cells [.slice A0 n0 c0, .slice A1 n1 c1] ∧ Below w.heap.size w w' := by
  obtain ⟨e, hi⟩ := msg_open hm
  have hn : n ≤ 1048577 := by have := hi.1; unfold MsgM.sz at hms; omega
  rw [e]
  exact iSent_any _ _ t x0 x1 A n c m.row w h (by omega) hi hn
end Go.Proofs.Ythcagdcbifdfeaa
