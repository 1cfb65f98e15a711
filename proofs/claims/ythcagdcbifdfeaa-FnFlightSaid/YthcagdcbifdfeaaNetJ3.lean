/-
  Chapter 5: Doubled, of the model and of the program (by program, wip/gen/gennetr.py).
-/
import Derived.Test.YthcagdcbifdfeaaNetJ2
import Derived.Test.YthcagdcbifdfeaaNetI4
import Derived.RegionTactic
import Derived.BigQuiet
namespace Go.Proofs.Ythcagdcbifdfeaa
set_option maxRecDepth 100000
open Go.RowKit

set_option maxHeartbeats 12800000 in
theorem iDoubled_any (v0 v1 : Value) (t : NetM) (x : Int) (w : World) (h : Rd w w.heap.size t.cells [v0, v1]) (hs : t.sz ≤ 1048577) :
    Calls Try.prog 25 #[.agg #[v0, v1], .int .i64 x] w (MadeNB w (doubledM t x)) := by
  obtain ⟨A0, n0, c0, A1, n1, c1, rfl, rfl, hr0, hr1⟩ := h.netT
  have hz0 : msgSz t.flight ≤ 1048577 := by unfold NetM.sz at hs; omega
  have hz1 : linkSz t.cuts ≤ 1048577 := by unfold NetM.sz at hs; omega
  obtain ⟨hl0, hl1, _, _, _⟩ := net_len h
  have hn0 : n0 ≤ 1048577 := by unfold msgSz at hz0; omega
  have hn1 : n1 ≤ 1048577 := by unfold linkSz at hz1; omega
  have S := Sep.nil w w.heap.size
  have c := Below.refl w.heap.size w
  replace S := S.boxAt c.size (w.heap.size) rfl #[.slice A0 n0 c0, .slice A1 n1 c1] 30
  replace c := c.alloc c.size (.cells #[.slice A0 n0 c0, .slice A1 n1 c1] 30)
  replace S := S.boxAt c.size (w.heap.size + 1) (by simp) #[.slice none 0 0, .slice none 0 0] 30
  replace c := c.alloc c.size (.cells #[.slice none 0 0, .slice none 0 0] 30)
  go_enter Try.func25, Try.ntmps25
  go_wp2_with fail
  generalize (w.alloc (.cells #[.slice A0 n0 c0, .slice A1 n1 c1] 30)).alloc (.cells #[.slice none 0 0, .slice none 0 0] 30) = w1 at *
  refine (iNetOk_any _ _ t w.heap.size _ (h.keep c) c.size hs).mono ?_
  rintro e w2 ⟨rfl, b⟩
  replace c := c.trans (b.mono c.size)
  replace S := S.keep b
  clear b
  cases hok : netOk t
  case false =>
    have HD := Lib.hid (show doubledM t x = (zeroN, false) by unfold doubledM; rw [hok]; rfl)
    have f0 : w2.cell? ⟨w.heap.size + 1, 0, none⟩ = some (.slice none 0 0) := (S.at_ 0 rfl).cell 0
    have f1 := (S.at_ 0 rfl).free 0
    have f2 : w2.cell? ⟨w.heap.size + 1, 1, none⟩ = some (.slice none 0 0) := (S.at_ 0 rfl).cell 1
    have f3 := (S.at_ 0 rfl).free 1
    replace S := S.put 0 rfl 0 (.slice none 0 0)
    replace c := c.setCell (p := ⟨w.heap.size + 1, 0, none⟩) (by show w.heap.size ≤ w.heap.size + 1; omega) (.slice none 0 0)
    replace S := S.put 0 rfl 1 (.slice none 0 0)
    replace c := c.setCell (p := ⟨w.heap.size + 1, 1, none⟩) (by show w.heap.size ≤ w.heap.size + 1; omega) (.slice none 0 0)
    have C := Lib.hid c
    have r0 := Lib.hid ((S.at_ 0 rfl).cell 0)
    have r1 := Lib.hid ((S.at_ 0 rfl).cell 1)
    clear S c h hr0 hr1 hl0 hl1 hok
    go_wp2
    exact bodyPost_ret (v := .tuple #[.agg #[.slice none 0 0, .slice none 0 0], .bool false]) (by simp [results, Try.results25, go_sem, r0.out, r1.out]) rfl ⟨_, _, _, _, _, _, by rw [HD.out], by rw [HD.out]; exact has_zeroN _ _, C.out⟩
  case true =>
    have f0 : w2.cell? ⟨w.heap.size, 0, none⟩ = some (.slice A0 n0 c0) := (S.at_ 1 rfl).cell 0
    have f1 : w2.cell? ⟨w.heap.size, 1, none⟩ = some (.slice A1 n1 c1) := (S.at_ 1 rfl).cell 1
    go_wp2_with fail
    refine (iHas_any A0 A1 n0 c0 n1 c1 x hn0 _).mono ?_
    rintro e w3 ⟨rfl, b⟩
    replace c := c.trans (b.mono c.size)
    replace S := S.keep b
    clear b f0 f1
    cases hth : thereB n0 x
    case false =>
      have HD := Lib.hid (show doubledM t x = (t, false) by unfold doubledM; rw [hok, hl0, hth]; rfl)
      clear hok hth
      have f2 : w3.cell? ⟨w.heap.size, 0, none⟩ = some (.slice A0 n0 c0) := (S.at_ 1 rfl).cell 0
      have f3 : w3.cell? ⟨w.heap.size, 1, none⟩ = some (.slice A1 n1 c1) := (S.at_ 1 rfl).cell 1
      go_wp2_with fail
      refine (iCopyN_any _ _ t _ ((h.keep c).up c.size) hs).mono ?_
      rintro e w4 ⟨Au, nu, cu, Ax, nx, cx, rfl, o, b⟩
      obtain ⟨fp_u, S'⟩ := S.has b o c.size
      replace c := c.trans (b.mono c.size)
      clear S; have S := S'; clear S' o b f2 f3
      have f4 : w4.cell? ⟨w.heap.size + 1, 0, none⟩ = some (.slice none 0 0) := (S.at_ 1 rfl).cell 0
      have f5 := (S.at_ 1 rfl).free 0
      have f6 : w4.cell? ⟨w.heap.size + 1, 1, none⟩ = some (.slice none 0 0) := (S.at_ 1 rfl).cell 1
      have f7 := (S.at_ 1 rfl).free 1
      replace S := S.put 1 rfl 0 (.slice Au nu cu)
      replace c := c.setCell (p := ⟨w.heap.size + 1, 0, none⟩) (by show w.heap.size ≤ w.heap.size + 1; omega) (.slice Au nu cu)
      replace S := S.put 1 rfl 1 (.slice Ax nx cx)
      replace c := c.setCell (p := ⟨w.heap.size + 1, 1, none⟩) (by show w.heap.size ≤ w.heap.size + 1; omega) (.slice Ax nx cx)
      replace S := S.pick 0 rfl
      have H := Lib.hid S.first
      have C := Lib.hid c
      have r0 := Lib.hid ((S.at_ 1 rfl).cell 0)
      have r1 := Lib.hid ((S.at_ 1 rfl).cell 1)
      clear S c h hr0 hr1 hl0 hl1 
      go_wp2
      exact bodyPost_ret (v := .tuple #[.agg #[.slice Au nu cu, .slice Ax nx cx], .bool false]) (by simp [results, Try.results25, go_sem, r0.out, r1.out]) rfl ⟨_, _, _, _, _, _, by rw [HD.out], by rw [HD.out]; exact H.out, C.out⟩
    case true =>
      obtain ⟨k, rfl, hk⟩ := there_nat hth
      have hjl : k < t.flight.length := by omega
      have hmo : msgOk t.flight[k] = true := List.all_eq_true.1 (netOk_spec hok).2.2.1 _ (List.getElem_mem hjl)
      have HM := Lib.hid (show doubledM t (k : Int) = sentM t t.flight[k] by
        have e : t.flight.getD (k : Int).toNat ⟨0, 0, []⟩ = t.flight[k] := by simp [List.getD, List.getElem?_eq_getElem hjl]
        unfold doubledM
        rw [hok, hl0, hth, e]
        rfl)
      have HS := Lib.hid (show sentM t t.flight[k] = if t.flight.length = 60 then (t, false) else (sentNet t t.flight[k], true) by unfold sentM; rw [if_pos hok, if_pos hmo])
      by_cases hq : n0 = 60
      case pos =>
        have HD := Lib.hid (show doubledM t (k : Int) = (t, false) by rw [HM.out, HS.out, if_pos (by rw [hl0, hq])])
        clear hok hth hmo HM HS
        subst hq
        have f2 : w3.cell? ⟨w.heap.size, 0, none⟩ = some (.slice A0 60 c0) := (S.at_ 1 rfl).cell 0
        have f3 : w3.cell? ⟨w.heap.size, 1, none⟩ = some (.slice A1 n1 c1) := (S.at_ 1 rfl).cell 1
        go_wp2_with fail
        refine (iCopyN_any _ _ t _ ((h.keep c).up c.size) hs).mono ?_
        rintro e w4 ⟨Au, nu, cu, Ax, nx, cx, rfl, o, b⟩
        obtain ⟨fp_u, S'⟩ := S.has b o c.size
        replace c := c.trans (b.mono c.size)
        clear S; have S := S'; clear S' o b f2 f3
        have f4 : w4.cell? ⟨w.heap.size + 1, 0, none⟩ = some (.slice none 0 0) := (S.at_ 1 rfl).cell 0
        have f5 := (S.at_ 1 rfl).free 0
        have f6 : w4.cell? ⟨w.heap.size + 1, 1, none⟩ = some (.slice none 0 0) := (S.at_ 1 rfl).cell 1
        have f7 := (S.at_ 1 rfl).free 1
        replace S := S.put 1 rfl 0 (.slice Au nu cu)
        replace c := c.setCell (p := ⟨w.heap.size + 1, 0, none⟩) (by show w.heap.size ≤ w.heap.size + 1; omega) (.slice Au nu cu)
        replace S := S.put 1 rfl 1 (.slice Ax nx cx)
        replace c := c.setCell (p := ⟨w.heap.size + 1, 1, none⟩) (by show w.heap.size ≤ w.heap.size + 1; omega) (.slice Ax nx cx)
        replace S := S.pick 0 rfl
        have H := Lib.hid S.first
        have C := Lib.hid c
        have r0 := Lib.hid ((S.at_ 1 rfl).cell 0)
        have r1 := Lib.hid ((S.at_ 1 rfl).cell 1)
        clear S c h hr0 hr1 hl0 hl1 
        go_wp2
        exact bodyPost_ret (v := .tuple #[.agg #[.slice Au nu cu, .slice Ax nx cx], .bool false]) (by simp [results, Try.results25, go_sem, r0.out, r1.out]) rfl ⟨_, _, _, _, _, _, by rw [HD.out], by rw [HD.out]; exact H.out, C.out⟩
      case neg =>
        have hq2 : ¬ ((n0 : Int) = 60) := by omega
        have HT := Lib.hid (show doubledM t (k : Int) = (sentNet t t.flight[k], true) by rw [HM.out, HS.out, if_neg (by rw [hl0]; exact hq)])
        obtain ⟨_, _, _, e, _, _, _, hel⟩ := hr0.msgs
        injection e with e1 e2 e3
        subst e1 e2 e3
        obtain ⟨b, off, rfl, hb, hc⟩ := hel (by omega)
        obtain ⟨F1, m1, d1, hc0, hc1, hc2, hrow, _⟩ := hc k hjl
        have hm1 : m1 ≤ 1048577 := by
          have h1 := pre_at (g := msgRowSz) hjl
          have h3 := hrow.1
          have h4 : msgRowSz t.flight[k] = t.flight[k].row.length := rfl
          unfold msgSz at hz0
          omega
        obtain ⟨x0, hx0⟩ : ∃ q, q = t.flight[k].frm := ⟨_, rfl⟩
        obtain ⟨x1, hx1⟩ : ∃ q, q = t.flight[k].dest := ⟨_, rfl⟩
        obtain ⟨xr, hxr⟩ : ∃ q, q = t.flight[k].row := ⟨_, rfl⟩
        have hmk : t.flight[k] = ⟨x0, x1, xr⟩ := by rw [hx0, hx1, hxr]
        rw [← hx0] at hc0
        rw [← hx1] at hc1
        rw [← hxr] at hrow
        rw [hmk] at HT
        have i0 : (0 : Int) ≤ (k : Int) := by omega
        have i1 : (k : Int) < (n0 : Int) := by omega
        clear hok hth hel hc hx0 hx1 hxr hmk hmo HM HS
        have f2 : w3.cell? ⟨w.heap.size, 0, none⟩ = some (.slice (some ⟨b, off, none⟩) n0 c0) := (S.at_ 1 rfl).cell 0
        have f3 : w3.cell? ⟨w.heap.size, 1, none⟩ = some (.slice A1 n1 c1) := (S.at_ 1 rfl).cell 1
        go_wp2_with fail
        refine wp_region_L (fun v => v.cell? ⟨w.heap.size, 0, none⟩ = some (.slice (some ⟨b, off, none⟩) n0 c0) ∧ v.cell? ⟨w.heap.size, 1, none⟩ = some (.slice A1 n1 c1) ∧ v.cell? ⟨b, off + k * 3, none⟩ = some (.int .i64 x0) ∧ v.cell? ⟨b, off + k * 3 + 1, none⟩ = some (.int .i64 x1) ∧ v.cell? ⟨b, off + k * 3 + 2, none⟩ = some (.slice F1 m1 d1)) 8 (by kernel_rfl) ?_
        clear f2 f3
        replace S := S.keep ((Below.refl _ _).drew)
        replace c := c.drew
        generalize w3.drew = w4 at *
        have HF : w4.cell? ⟨w.heap.size, 0, none⟩ = some (.slice (some ⟨b, off, none⟩) n0 c0) ∧ w4.cell? ⟨w.heap.size, 1, none⟩ = some (.slice A1 n1 c1) ∧ w4.cell? ⟨b, off + k * 3, none⟩ = some (.int .i64 x0) ∧ w4.cell? ⟨b, off + k * 3 + 1, none⟩ = some (.int .i64 x1) ∧ w4.cell? ⟨b, off + k * 3 + 2, none⟩ = some (.slice F1 m1 d1) := ⟨(S.at_ 1 rfl).cell 0, (S.at_ 1 rfl).cell 1, (c.cell (p := ⟨b, off + k * 3, none⟩) hb).trans hc0, (c.cell (p := ⟨b, off + k * 3 + 1, none⟩) hb).trans hc1, (c.cell (p := ⟨b, off + k * 3 + 2, none⟩) hb).trans hc2⟩
        refine wpAnyL_take (i := 0) (v := ?_) rfl rfl (by kernel_rfl) (by kernel_rfl) (by kernel_rfl) (by kernel_rfl) (by kernel_rfl) (fun _ _ _ h => h) HF (Or.inl ⟨by rfl, ?_⟩) ?_
        rotate_left 1
        · (rintro v ⟨a0, a1, a2, a3, a4⟩; go_simp; try with_reducible rfl)
        try simp only [Act.put]
        refine wpAnyL_take (i := 1) (v := ?_) rfl rfl (by kernel_rfl) (by kernel_rfl) (by kernel_rfl) (by kernel_rfl) (by kernel_rfl) (fun _ _ _ h => h) HF (Or.inl ⟨by rfl, ?_⟩) ?_
        rotate_left 1
        · (rintro v ⟨a0, a1, a2, a3, a4⟩; go_simp; try with_reducible rfl)
        try simp only [Act.put]
        refine wpAnyL_take (i := 2) (v := ?_) rfl rfl (by kernel_rfl) (by kernel_rfl) (by kernel_rfl) (by kernel_rfl) (by kernel_rfl) (fun _ _ _ h => h) HF (Or.inl ⟨by rfl, ?_⟩) ?_
        rotate_left 1
        · (rintro v ⟨a0, a1, a2, a3, a4⟩; go_simp; try with_reducible rfl)
        try simp only [Act.put]
        refine wpAnyL_pure (i := 3) (v := ?_) rfl rfl (by kernel_rfl) (by kernel_rfl) (by kernel_rfl) (fun _ _ _ h => h) HF (Or.inl ⟨by rfl, ?_⟩) ?_
        rotate_left 1
        · (intro v _; go_simp; try with_reducible rfl)
        try simp only [Act.put]
        refine wpAnyL_pure (i := 4) (v := ?_) rfl rfl (by kernel_rfl) (by kernel_rfl) (by kernel_rfl) (fun _ _ _ h => h) HF (Or.inl ⟨by rfl, ?_⟩) ?_
        rotate_left 1
        · (intro v _; go_simp; try with_reducible rfl)
        try simp only [Act.put]
        refine wpAnyL_take (i := 5) (v := ?_) rfl rfl (by kernel_rfl) (by kernel_rfl) (by kernel_rfl) (by kernel_rfl) (by kernel_rfl) (fun _ _ _ h => h) HF (Or.inl ⟨by rfl, ?_⟩) ?_
        rotate_left 1
        · (rintro v ⟨a0, a1, a2, a3, a4⟩; go_simp; try with_reducible rfl)
        try simp only [Act.put]
        refine wpAnyL_step (i := 6) (by kernel_rfl) rfl rfl ?_
        intro K hK
        go_simp
        refine (iAdded_any _ _ t x0 x1 F1 m1 d1 xr _ ((h.keep c).up c.size) hs ((hrow.below c).up c.size) hm1).mono ?_
        rintro e w5 ⟨Au, nu, cu, Ax, nx, cx, rfl, o, b⟩
        obtain ⟨fp_u, S'⟩ := S.has b o c.size
        replace c := c.trans (b.mono c.size)
        clear S; have S := S'; clear S' o b
        clear HF
        have HF : w5.cell? ⟨w.heap.size, 0, none⟩ = some (.slice (some ⟨b, off, none⟩) n0 c0) ∧ w5.cell? ⟨w.heap.size, 1, none⟩ = some (.slice A1 n1 c1) ∧ w5.cell? ⟨b, off + k * 3, none⟩ = some (.int .i64 x0) ∧ w5.cell? ⟨b, off + k * 3 + 1, none⟩ = some (.int .i64 x1) ∧ w5.cell? ⟨b, off + k * 3 + 2, none⟩ = some (.slice F1 m1 d1) := ⟨(S.at_ 2 rfl).cell 0, (S.at_ 2 rfl).cell 1, (c.cell (p := ⟨b, off + k * 3, none⟩) hb).trans hc0, (c.cell (p := ⟨b, off + k * 3 + 1, none⟩) hb).trans hc1, (c.cell (p := ⟨b, off + k * 3 + 2, none⟩) hb).trans hc2⟩
        refine hK _ _ (fun _ => HF) ?_
        clear hK K
        try simp only [Act.put]
        have f4 : w5.cell? ⟨w.heap.size + 1, 0, none⟩ = some (.slice none 0 0) := (S.at_ 1 rfl).cell 0
        have f5 := (S.at_ 1 rfl).free 0
        have f6 : w5.cell? ⟨w.heap.size + 1, 1, none⟩ = some (.slice none 0 0) := (S.at_ 1 rfl).cell 1
        have f7 := (S.at_ 1 rfl).free 1
        refine wpAnyL_step (i := 7) (by kernel_rfl) rfl rfl ?_
        intro K hK
        go_simp
        replace S := S.put 1 rfl 0 (.slice Au nu cu)
        replace c := c.setCell (p := ⟨w.heap.size + 1, 0, none⟩) (by show w.heap.size ≤ w.heap.size + 1; omega) (.slice Au nu cu)
        replace S := S.put 1 rfl 1 (.slice Ax nx cx)
        replace c := c.setCell (p := ⟨w.heap.size + 1, 1, none⟩) (by show w.heap.size ≤ w.heap.size + 1; omega) (.slice Ax nx cx)
        clear HF
        have HF : ((w5.setCell ⟨w.heap.size + 1, 0, none⟩ (.slice Au nu cu)).setCell ⟨w.heap.size + 1, 1, none⟩ (.slice Ax nx cx)).cell? ⟨w.heap.size, 0, none⟩ = some (.slice (some ⟨b, off, none⟩) n0 c0) ∧ ((w5.setCell ⟨w.heap.size + 1, 0, none⟩ (.slice Au nu cu)).setCell ⟨w.heap.size + 1, 1, none⟩ (.slice Ax nx cx)).cell? ⟨w.heap.size, 1, none⟩ = some (.slice A1 n1 c1) ∧ ((w5.setCell ⟨w.heap.size + 1, 0, none⟩ (.slice Au nu cu)).setCell ⟨w.heap.size + 1, 1, none⟩ (.slice Ax nx cx)).cell? ⟨b, off + k * 3, none⟩ = some (.int .i64 x0) ∧ ((w5.setCell ⟨w.heap.size + 1, 0, none⟩ (.slice Au nu cu)).setCell ⟨w.heap.size + 1, 1, none⟩ (.slice Ax nx cx)).cell? ⟨b, off + k * 3 + 1, none⟩ = some (.int .i64 x1) ∧ ((w5.setCell ⟨w.heap.size + 1, 0, none⟩ (.slice Au nu cu)).setCell ⟨w.heap.size + 1, 1, none⟩ (.slice Ax nx cx)).cell? ⟨b, off + k * 3 + 2, none⟩ = some (.slice F1 m1 d1) := ⟨(S.at_ 2 rfl).cell 0, (S.at_ 2 rfl).cell 1, (c.cell (p := ⟨b, off + k * 3, none⟩) hb).trans hc0, (c.cell (p := ⟨b, off + k * 3 + 1, none⟩) hb).trans hc1, (c.cell (p := ⟨b, off + k * 3 + 2, none⟩) hb).trans hc2⟩
        refine hK _ _ (fun _ => HF) ?_
        clear hK K
        try simp only [Act.put]
        generalize (w5.setCell ⟨w.heap.size + 1, 0, none⟩ (.slice Au nu cu)).setCell ⟨w.heap.size + 1, 1, none⟩ (.slice Ax nx cx) = w6 at *
        clear f4 f5 f6 f7
        refine wpAnyL_step (i := 8) (by kernel_rfl) rfl rfl ?_
        intro K hK
        go_simp
        refine hK _ _ (fun h => nomatch (show true = false from h)) ?_
        clear hK K
        try simp only [Act.put]
        refine wpAnyL_done (by kernel_rfl) ?_ _
        replace S := S.pick 0 rfl
        have H := Lib.hid S.first
        have C := Lib.hid c
        have r0 := Lib.hid ((S.at_ 1 rfl).cell 0)
        have r1 := Lib.hid ((S.at_ 1 rfl).cell 1)
        clear S c HF hrow h hr0 hr1 hl0 hl1
        go_wp2
        exact bodyPost_ret (v := .tuple #[.agg #[.slice Au nu cu, .slice Ax nx cx], .bool true]) (by simp [results, Try.results25, go_sem, r0.out, r1.out]) rfl ⟨_, _, _, _, _, _, by rw [HT.out], by rw [HT.out]; exact H.out, C.out⟩

theorem iDoubled_at (A0 : Option Addr) (n0 c0 : Nat) (A1 : Option Addr) (n1 c1 : Nat) (t : NetM) (x : Int) (w : World) (h : Rd w w.heap.size t.cells [.slice A0 n0 c0, .slice A1 n1 c1]) (hs : t.sz ≤ 1048576) :
    Calls Try.prog 25 #[.agg #[.slice A0 n0 c0, .slice A1 n1 c1], .int .i64 x] w fun e w' => ∃ (A0 : Option Addr) (n0 c0 : Nat) (A1 : Option Addr) (n1 c1 : Nat), e = .returned (.tuple #[.agg #[.slice A0 n0 c0, .slice A1 n1 c1], .bool (doubledM t x).2]) ∧ Has w' w.heap.size ((doubledM t x).1).cells [.slice A0 n0 c0, .slice A1 n1 c1] ∧ Below w.heap.size w w' := iDoubled_any _ _ t x w h (by omega)

end Go.Proofs.Ythcagdcbifdfeaa
