/-
  Chapter 5: Handed, of the program (by program, wip/gen/gennetk.py).
-/
import Derived.Test.YthcagdcbifdfeaaNetH1
import Derived.Test.YthcagdcbifdfeaaNetI4
import Derived.RegionTactic
import Derived.BigQuiet
namespace Go.Proofs.Ythcagdcbifdfeaa
set_option maxRecDepth 100000
open Go.RowKit

set_option maxHeartbeats 12800000 in
theorem iHanded_any (v0 v1 : Value) (t : NetM) (x : Int) (w : World) (h : Rd w w.heap.size t.cells [v0, v1]) (hs : t.sz ≤ 1048577) :
    Calls Try.prog 22 #[.agg #[v0, v1], .int .i64 x] w (MadeNMB w (handedM t x)) := by
  obtain ⟨A0, n0, c0, A1, n1, c1, rfl, rfl, hr0, hr1⟩ := h.netT
  have hz0 : msgSz t.flight ≤ 1048577 := by unfold NetM.sz at hs; omega
  have hz1 : linkSz t.cuts ≤ 1048577 := by unfold NetM.sz at hs; omega
  obtain ⟨hl0, hl1, _, _, _⟩ := net_len h
  have hn0 : n0 ≤ 1048577 := by unfold msgSz at hz0; omega
  have hn1 : n1 ≤ 1048577 := by unfold linkSz at hz1; omega
  have S := Sep.nil w w.heap.size
  have c := Below.refl w.heap.size w
  replace S := S.boxAt c.size (w.heap.size) rfl #[.slice A0 n0 c0, .slice A1 n1 c1] 30
  replace c := c.alloc c.size (.cells #[.slice A0 n0 c0, .slice A1 n1 c1] 30)
  replace S := S.boxAt c.size (w.heap.size + 1) (by simp) #[.slice none 0 0, .slice none 0 0] 30
  replace c := c.alloc c.size (.cells #[.slice none 0 0, .slice none 0 0] 30)
  replace S := S.boxAt c.size (w.heap.size + 1 + 1) (by simp) #[.int .i64 0, .int .i64 0, .slice none 0 0] 37
  replace c := c.alloc c.size (.cells #[.int .i64 0, .int .i64 0, .slice none 0 0] 37)
  go_enter Try.func22, Try.ntmps22
  go_wp2_with fail
  generalize ((w.alloc (.cells #[.slice A0 n0 c0, .slice A1 n1 c1] 30)).alloc (.cells #[.slice none 0 0, .slice none 0 0] 30)).alloc (.cells #[.int .i64 0, .int .i64 0, .slice none 0 0] 37) = w1 at *
  refine (iNetOk_any _ _ t w.heap.size _ (h.keep c) c.size hs).mono ?_
  rintro e w2 ⟨rfl, b⟩
  replace c := c.trans (b.mono c.size)
  replace S := S.keep b
  clear b
  cases hok : netOk t
  case false =>
    have HD := Lib.hid (show handedM t x = (zeroN, msg0, false) by unfold handedM; rw [hok]; rfl)
    have f0 : w2.cell? ⟨w.heap.size + 1, 0, none⟩ = some (.slice none 0 0) := (S.at_ 1 rfl).cell 0
    have f1 := (S.at_ 1 rfl).free 0
    have f2 : w2.cell? ⟨w.heap.size + 1, 1, none⟩ = some (.slice none 0 0) := (S.at_ 1 rfl).cell 1
    have f3 := (S.at_ 1 rfl).free 1
    have f4 : w2.cell? ⟨w.heap.size + 1 + 1, 0, none⟩ = some (.int .i64 0) := (S.at_ 0 rfl).cell 0
    have f5 := (S.at_ 0 rfl).free 0
    have f6 : w2.cell? ⟨w.heap.size + 1 + 1, 1, none⟩ = some (.int .i64 0) := (S.at_ 0 rfl).cell 1
    have f7 := (S.at_ 0 rfl).free 1
    have f8 : w2.cell? ⟨w.heap.size + 1 + 1, 2, none⟩ = some (.slice none 0 0) := (S.at_ 0 rfl).cell 2
    have f9 := (S.at_ 0 rfl).free 2
    replace S := S.put 1 rfl 0 (.slice none 0 0)
    replace c := c.setCell (p := ⟨w.heap.size + 1, 0, none⟩) (by show w.heap.size ≤ w.heap.size + 1; omega) (.slice none 0 0)
    replace S := S.put 1 rfl 1 (.slice none 0 0)
    replace c := c.setCell (p := ⟨w.heap.size + 1, 1, none⟩) (by show w.heap.size ≤ w.heap.size + 1; omega) (.slice none 0 0)
    replace S := S.put 0 rfl 0 (.int .i64 0)
    replace c := c.setCell (p := ⟨w.heap.size + 1 + 1, 0, none⟩) (by show w.heap.size ≤ w.heap.size + 1 + 1; omega) (.int .i64 0)
    replace S := S.put 0 rfl 1 (.int .i64 0)
    replace c := c.setCell (p := ⟨w.heap.size + 1 + 1, 1, none⟩) (by show w.heap.size ≤ w.heap.size + 1 + 1; omega) (.int .i64 0)
    replace S := S.put 0 rfl 2 (.slice none 0 0)
    replace c := c.setCell (p := ⟨w.heap.size + 1 + 1, 2, none⟩) (by show w.heap.size ≤ w.heap.size + 1 + 1; omega) (.slice none 0 0)
    have C := Lib.hid c
    have r0 := Lib.hid ((S.at_ 1 rfl).cell 0)
    have r1 := Lib.hid ((S.at_ 1 rfl).cell 1)
    have p0 := Lib.hid ((S.at_ 0 rfl).cell 0)
    have p1 := Lib.hid ((S.at_ 0 rfl).cell 1)
    have p2 := Lib.hid ((S.at_ 0 rfl).cell 2)
    clear S c h hr0 hr1 hl0 hl1 hok
    go_wp2
    exact bodyPost_ret (v := .tuple #[.agg #[.slice none 0 0, .slice none 0 0], .agg #[.int .i64 0, .int .i64 0, .slice none 0 0], .bool false]) (by simp [results, Try.results22, go_sem, r0.out, r1.out, p0.out, p1.out, p2.out]) rfl ⟨_, _, _, _, _, _, _, _, _, _, _, by rw [HD.out], by rw [HD.out]; exact has_msg0 (has_zeroN _ _), C.out⟩
  case true =>
    have f0 : w2.cell? ⟨w.heap.size, 0, none⟩ = some (.slice A0 n0 c0) := (S.at_ 2 rfl).cell 0
    have f1 : w2.cell? ⟨w.heap.size, 1, none⟩ = some (.slice A1 n1 c1) := (S.at_ 2 rfl).cell 1
    go_wp2_with fail
    refine (iHas_any A0 A1 n0 c0 n1 c1 x hn0 _).mono ?_
    rintro e w3 ⟨rfl, b⟩
    replace c := c.trans (b.mono c.size)
    replace S := S.keep b
    clear b f0 f1
    cases hth : thereB n0 x
    case false =>
      have HD := Lib.hid (show handedM t x = (t, msg0, false) by unfold handedM; rw [hok, hl0, hth]; rfl)
      clear hok hth
      have f2 : w3.cell? ⟨w.heap.size, 0, none⟩ = some (.slice A0 n0 c0) := (S.at_ 2 rfl).cell 0
      have f3 : w3.cell? ⟨w.heap.size, 1, none⟩ = some (.slice A1 n1 c1) := (S.at_ 2 rfl).cell 1
      go_wp2_with fail
      refine (iCopyN_any _ _ t _ ((h.keep c).up c.size) hs).mono ?_
      rintro e w4 ⟨Au, nu, cu, Ax, nx, cx, rfl, o, b⟩
      obtain ⟨fp_u, S'⟩ := S.has b o c.size
      replace c := c.trans (b.mono c.size)
      clear S; have S := S'; clear S' o b f2 f3
      have f4 : w4.cell? ⟨w.heap.size + 1, 0, none⟩ = some (.slice none 0 0) := (S.at_ 2 rfl).cell 0
      have f5 := (S.at_ 2 rfl).free 0
      have f6 : w4.cell? ⟨w.heap.size + 1, 1, none⟩ = some (.slice none 0 0) := (S.at_ 2 rfl).cell 1
      have f7 := (S.at_ 2 rfl).free 1
      have f8 : w4.cell? ⟨w.heap.size + 1 + 1, 0, none⟩ = some (.int .i64 0) := (S.at_ 1 rfl).cell 0
      have f9 := (S.at_ 1 rfl).free 0
      have f10 : w4.cell? ⟨w.heap.size + 1 + 1, 1, none⟩ = some (.int .i64 0) := (S.at_ 1 rfl).cell 1
      have f11 := (S.at_ 1 rfl).free 1
      have f12 : w4.cell? ⟨w.heap.size + 1 + 1, 2, none⟩ = some (.slice none 0 0) := (S.at_ 1 rfl).cell 2
      have f13 := (S.at_ 1 rfl).free 2
      replace S := S.put 2 rfl 0 (.slice Au nu cu)
      replace c := c.setCell (p := ⟨w.heap.size + 1, 0, none⟩) (by show w.heap.size ≤ w.heap.size + 1; omega) (.slice Au nu cu)
      replace S := S.put 2 rfl 1 (.slice Ax nx cx)
      replace c := c.setCell (p := ⟨w.heap.size + 1, 1, none⟩) (by show w.heap.size ≤ w.heap.size + 1; omega) (.slice Ax nx cx)
      replace S := S.put 1 rfl 0 (.int .i64 0)
      replace c := c.setCell (p := ⟨w.heap.size + 1 + 1, 0, none⟩) (by show w.heap.size ≤ w.heap.size + 1 + 1; omega) (.int .i64 0)
      replace S := S.put 1 rfl 1 (.int .i64 0)
      replace c := c.setCell (p := ⟨w.heap.size + 1 + 1, 1, none⟩) (by show w.heap.size ≤ w.heap.size + 1 + 1; omega) (.int .i64 0)
      replace S := S.put 1 rfl 2 (.slice none 0 0)
      replace c := c.setCell (p := ⟨w.heap.size + 1 + 1, 2, none⟩) (by show w.heap.size ≤ w.heap.size + 1 + 1; omega) (.slice none 0 0)
      replace S := S.pick 0 rfl
      have H := Lib.hid S.first
      have C := Lib.hid c
      have r0 := Lib.hid ((S.at_ 2 rfl).cell 0)
      have r1 := Lib.hid ((S.at_ 2 rfl).cell 1)
      have p0 := Lib.hid ((S.at_ 1 rfl).cell 0)
      have p1 := Lib.hid ((S.at_ 1 rfl).cell 1)
      have p2 := Lib.hid ((S.at_ 1 rfl).cell 2)
      clear S c h hr0 hr1 hl0 hl1 
      go_wp2
      exact bodyPost_ret (v := .tuple #[.agg #[.slice Au nu cu, .slice Ax nx cx], .agg #[.int .i64 0, .int .i64 0, .slice none 0 0], .bool false]) (by simp [results, Try.results22, go_sem, r0.out, r1.out, p0.out, p1.out, p2.out]) rfl ⟨_, _, _, _, _, _, _, _, _, _, _, by rw [HD.out], by rw [HD.out]; exact has_msg0 H.out, C.out⟩
    case true =>
      obtain ⟨k, rfl, hk⟩ := there_nat hth
      have hjl : k < t.flight.length := by omega
      have HP := Lib.hid (passes_at hok hjl)
      have HM := Lib.hid (show handedM t (k : Int) = if isCut t.cuts (linkOf t.flight[k].frm t.flight[k].dest) = true then (withoutM t k, msg0, false) else (withoutM t k, t.flight[k], true) by
        have e : t.flight.getD (k : Int).toNat msg0 = t.flight[k] := by simp [List.getD, List.getElem?_eq_getElem hjl]
        unfold handedM
        rw [hok, hl0, hth, e]
        rfl)
      obtain ⟨_, _, _, e, _, _, _, hel⟩ := hr0.msgs
      injection e with e1 e2 e3
      subst e1 e2 e3
      obtain ⟨b, off, rfl, hb, hc⟩ := hel (by omega)
      obtain ⟨F1, m1, d1, hc0, hc1, hc2, hrow, _⟩ := hc k hjl
      have cs0 := (c.cell (p := ⟨b, off + k * 3, none⟩) hb).trans hc0
      have cs1 := (c.cell (p := ⟨b, off + k * 3 + 1, none⟩) hb).trans hc1
      have cs2 := (c.cell (p := ⟨b, off + k * 3 + 2, none⟩) hb).trans hc2
      have hm1 : m1 ≤ 1048577 := by
        have h1 := pre_at (g := msgRowSz) hjl
        have h3 := hrow.1
        have h4 : msgRowSz t.flight[k] = t.flight[k].row.length := rfl
        unfold msgSz at hz0
        omega
      obtain ⟨x0, hx0⟩ : ∃ q, q = t.flight[k].frm := ⟨_, rfl⟩
      obtain ⟨x1, hx1⟩ : ∃ q, q = t.flight[k].dest := ⟨_, rfl⟩
      obtain ⟨xr, hxr⟩ : ∃ q, q = t.flight[k].row := ⟨_, rfl⟩
      have hmk : t.flight[k] = ⟨x0, x1, xr⟩ := by rw [hx0, hx1, hxr]
      rw [← hx0] at cs0
      rw [← hx1] at cs1
      rw [← hxr] at hrow
      rw [hmk] at HP HM
      have i0 : (0 : Int) ≤ (k : Int) := by omega
      have i1 : (k : Int) < (n0 : Int) := by omega
      clear hok hth hel hc hc0 hc1 hc2 hx0 hx1 hxr hmk
      have f2 : w3.cell? ⟨w.heap.size, 0, none⟩ = some (.slice (some ⟨b, off, none⟩) n0 c0) := (S.at_ 2 rfl).cell 0
      have f3 : w3.cell? ⟨w.heap.size, 1, none⟩ = some (.slice A1 n1 c1) := (S.at_ 2 rfl).cell 1
      replace S := S.boxAt c.size (w3.heap.size) rfl #[.int .i64 x0, .int .i64 x1, .slice F1 m1 d1] 37
      replace c := c.alloc c.size (.cells #[.int .i64 x0, .int .i64 x1, .slice F1 m1 d1] 37)
      have f4 : (w3.alloc (.cells #[.int .i64 x0, .int .i64 x1, .slice F1 m1 d1] 37)).cell? ⟨w.heap.size, 0, none⟩ = some (.slice (some ⟨b, off, none⟩) n0 c0) := (S.at_ 3 rfl).cell 0
      have f5 : (w3.alloc (.cells #[.int .i64 x0, .int .i64 x1, .slice F1 m1 d1] 37)).cell? ⟨w.heap.size, 1, none⟩ = some (.slice A1 n1 c1) := (S.at_ 3 rfl).cell 1
      have f6 : (w3.alloc (.cells #[.int .i64 x0, .int .i64 x1, .slice F1 m1 d1] 37)).cell? ⟨w3.heap.size, 0, none⟩ = some (.int .i64 x0) := (S.at_ 0 rfl).cell 0
      have f7 : (w3.alloc (.cells #[.int .i64 x0, .int .i64 x1, .slice F1 m1 d1] 37)).cell? ⟨w3.heap.size, 1, none⟩ = some (.int .i64 x1) := (S.at_ 0 rfl).cell 1
      have f8 : (w3.alloc (.cells #[.int .i64 x0, .int .i64 x1, .slice F1 m1 d1] 37)).cell? ⟨w3.heap.size, 2, none⟩ = some (.slice F1 m1 d1) := (S.at_ 0 rfl).cell 2
      go_wp2_with fail
      generalize w3.alloc (.cells #[.int .i64 x0, .int .i64 x1, .slice F1 m1 d1] 37) = w4 at *
      refine (iPasses_any _ _ t x0 x1 w.heap.size _ (h.keep c) c.size hs).mono ?_
      rintro e w5 ⟨rfl, b⟩
      replace c := c.trans (b.mono c.size)
      replace S := S.keep b
      clear b f2 f3 f4 f5 f6 f7 f8
      cases hcut : isCut t.cuts (linkOf x0 x1)
      case true =>
        rw [HP.out, hcut]
        have HD := Lib.hid (show handedM t (k : Int) = (withoutM t k, msg0, false) by rw [HM.out, hcut]; rfl)
        clear hcut
        have f9 : w5.cell? ⟨w.heap.size, 0, none⟩ = some (.slice (some ⟨b, off, none⟩) n0 c0) := (S.at_ 3 rfl).cell 0
        have f10 : w5.cell? ⟨w.heap.size, 1, none⟩ = some (.slice A1 n1 c1) := (S.at_ 3 rfl).cell 1
        go_wp2_with fail
        refine (iRemoved_any _ _ t k _ ((h.keep c).up c.size) hs hjl).mono ?_
        rintro e w6 ⟨Au, nu, cu, Ax, nx, cx, rfl, o, b⟩
        obtain ⟨fp_u, S'⟩ := S.has b o c.size
        replace c := c.trans (b.mono c.size)
        clear S; have S := S'; clear S' o b f9 f10
        have f11 : w6.cell? ⟨w.heap.size + 1, 0, none⟩ = some (.slice none 0 0) := (S.at_ 3 rfl).cell 0
        have f12 := (S.at_ 3 rfl).free 0
        have f13 : w6.cell? ⟨w.heap.size + 1, 1, none⟩ = some (.slice none 0 0) := (S.at_ 3 rfl).cell 1
        have f14 := (S.at_ 3 rfl).free 1
        have f15 : w6.cell? ⟨w.heap.size + 1 + 1, 0, none⟩ = some (.int .i64 0) := (S.at_ 2 rfl).cell 0
        have f16 := (S.at_ 2 rfl).free 0
        have f17 : w6.cell? ⟨w.heap.size + 1 + 1, 1, none⟩ = some (.int .i64 0) := (S.at_ 2 rfl).cell 1
        have f18 := (S.at_ 2 rfl).free 1
        have f19 : w6.cell? ⟨w.heap.size + 1 + 1, 2, none⟩ = some (.slice none 0 0) := (S.at_ 2 rfl).cell 2
        have f20 := (S.at_ 2 rfl).free 2
        replace S := S.put 3 rfl 0 (.slice Au nu cu)
        replace c := c.setCell (p := ⟨w.heap.size + 1, 0, none⟩) (by show w.heap.size ≤ w.heap.size + 1; omega) (.slice Au nu cu)
        replace S := S.put 3 rfl 1 (.slice Ax nx cx)
        replace c := c.setCell (p := ⟨w.heap.size + 1, 1, none⟩) (by show w.heap.size ≤ w.heap.size + 1; omega) (.slice Ax nx cx)
        replace S := S.put 2 rfl 0 (.int .i64 0)
        replace c := c.setCell (p := ⟨w.heap.size + 1 + 1, 0, none⟩) (by show w.heap.size ≤ w.heap.size + 1 + 1; omega) (.int .i64 0)
        replace S := S.put 2 rfl 1 (.int .i64 0)
        replace c := c.setCell (p := ⟨w.heap.size + 1 + 1, 1, none⟩) (by show w.heap.size ≤ w.heap.size + 1 + 1; omega) (.int .i64 0)
        replace S := S.put 2 rfl 2 (.slice none 0 0)
        replace c := c.setCell (p := ⟨w.heap.size + 1 + 1, 2, none⟩) (by show w.heap.size ≤ w.heap.size + 1 + 1; omega) (.slice none 0 0)
        replace S := S.pick 0 rfl
        have H := Lib.hid S.first
        have C := Lib.hid c
        have r0 := Lib.hid ((S.at_ 3 rfl).cell 0)
        have r1 := Lib.hid ((S.at_ 3 rfl).cell 1)
        have p0 := Lib.hid ((S.at_ 2 rfl).cell 0)
        have p1 := Lib.hid ((S.at_ 2 rfl).cell 1)
        have p2 := Lib.hid ((S.at_ 2 rfl).cell 2)
        clear S c h hr0 hr1 hl0 hl1 
        go_wp2
        exact bodyPost_ret (v := .tuple #[.agg #[.slice Au nu cu, .slice Ax nx cx], .agg #[.int .i64 0, .int .i64 0, .slice none 0 0], .bool false]) (by simp [results, Try.results22, go_sem, r0.out, r1.out, p0.out, p1.out, p2.out]) rfl ⟨_, _, _, _, _, _, _, _, _, _, _, by rw [HD.out], by rw [HD.out]; exact has_msg0 H.out, C.out⟩
      case false =>
        rw [HP.out, hcut]
        have HD := Lib.hid (show handedM t (k : Int) = (withoutM t k, ⟨x0, x1, xr⟩, true) by rw [HM.out, hcut]; rfl)
        clear hcut
        go_wp2_with fail
        refine wp_region_L (fun v => v.cell? ⟨w.heap.size, 0, none⟩ = some (.slice (some ⟨b, off, none⟩) n0 c0) ∧ v.cell? ⟨w.heap.size, 1, none⟩ = some (.slice A1 n1 c1) ∧ v.cell? ⟨w3.heap.size, 0, none⟩ = some (.int .i64 x0) ∧ v.cell? ⟨w3.heap.size, 1, none⟩ = some (.int .i64 x1) ∧ v.cell? ⟨w3.heap.size, 2, none⟩ = some (.slice F1 m1 d1)) 7 (by kernel_rfl) ?_
        replace S := S.keep ((Below.refl _ _).drew)
        replace c := c.drew
        generalize w5.drew = w6 at *
        have HF : w6.cell? ⟨w.heap.size, 0, none⟩ = some (.slice (some ⟨b, off, none⟩) n0 c0) ∧ w6.cell? ⟨w.heap.size, 1, none⟩ = some (.slice A1 n1 c1) ∧ w6.cell? ⟨w3.heap.size, 0, none⟩ = some (.int .i64 x0) ∧ w6.cell? ⟨w3.heap.size, 1, none⟩ = some (.int .i64 x1) ∧ w6.cell? ⟨w3.heap.size, 2, none⟩ = some (.slice F1 m1 d1) := ⟨(S.at_ 3 rfl).cell 0, (S.at_ 3 rfl).cell 1, (S.at_ 0 rfl).cell 0, (S.at_ 0 rfl).cell 1, (S.at_ 0 rfl).cell 2⟩
        refine wpAnyL_take (i := 0) (v := ?_) rfl rfl (by kernel_rfl) (by kernel_rfl) (by kernel_rfl) (by kernel_rfl) (by kernel_rfl) (fun _ _ _ h => h) HF (Or.inl ⟨by rfl, ?_⟩) ?_
        rotate_left 1
        · (rintro v ⟨a0, a1, a2, a3, a4⟩; go_simp; try with_reducible rfl)
        try simp only [Act.put]
        refine wpAnyL_pure (i := 1) (v := ?_) rfl rfl (by kernel_rfl) (by kernel_rfl) (by kernel_rfl) (fun _ _ _ h => h) HF (Or.inl ⟨by rfl, ?_⟩) ?_
        rotate_left 1
        · (intro v _; go_simp; try with_reducible rfl)
        try simp only [Act.put]
        refine wpAnyL_take (i := 3) (v := ?_) rfl rfl (by kernel_rfl) (by kernel_rfl) (by kernel_rfl) (by kernel_rfl) (by kernel_rfl) (fun _ _ _ h => h) HF (Or.inl ⟨by rfl, ?_⟩) ?_
        rotate_left 1
        · (rintro v ⟨a0, a1, a2, a3, a4⟩; go_simp; try with_reducible rfl)
        try simp only [Act.put]
        refine wpAnyL_step (i := 2) (by kernel_rfl) rfl rfl ?_
        intro K hK
        go_simp
        refine (iRemoved_any _ _ t k _ ((h.keep c).up c.size) hs hjl).mono ?_
        rintro e w7 ⟨Au, nu, cu, Ax, nx, cx, rfl, o, b⟩
        obtain ⟨fp_u, S'⟩ := S.has b o c.size
        replace c := c.trans (b.mono c.size)
        clear S; have S := S'; clear S' o b
        clear HF
        have HF : w7.cell? ⟨w.heap.size, 0, none⟩ = some (.slice (some ⟨b, off, none⟩) n0 c0) ∧ w7.cell? ⟨w.heap.size, 1, none⟩ = some (.slice A1 n1 c1) ∧ w7.cell? ⟨w3.heap.size, 0, none⟩ = some (.int .i64 x0) ∧ w7.cell? ⟨w3.heap.size, 1, none⟩ = some (.int .i64 x1) ∧ w7.cell? ⟨w3.heap.size, 2, none⟩ = some (.slice F1 m1 d1) := ⟨(S.at_ 4 rfl).cell 0, (S.at_ 4 rfl).cell 1, (S.at_ 1 rfl).cell 0, (S.at_ 1 rfl).cell 1, (S.at_ 1 rfl).cell 2⟩
        refine hK _ _ (fun _ => HF) ?_
        clear hK K
        try simp only [Act.put]
        refine wpAnyL_step (i := 4) (by kernel_rfl) rfl rfl ?_
        intro K hK
        go_simp
        refine (iMsg_any x0 x1 F1 m1 d1 xr _ ((hrow.below c).up c.size) hm1).mono ?_
        rintro e w8 ⟨A2, n2, c2, rfl, o, b⟩
        obtain ⟨fp_um, S'⟩ := S.has b o c.size
        replace c := c.trans (b.mono c.size)
        clear S; have S := S'; clear S' o b
        clear HF
        have HF : w8.cell? ⟨w.heap.size, 0, none⟩ = some (.slice (some ⟨b, off, none⟩) n0 c0) ∧ w8.cell? ⟨w.heap.size, 1, none⟩ = some (.slice A1 n1 c1) ∧ w8.cell? ⟨w3.heap.size, 0, none⟩ = some (.int .i64 x0) ∧ w8.cell? ⟨w3.heap.size, 1, none⟩ = some (.int .i64 x1) ∧ w8.cell? ⟨w3.heap.size, 2, none⟩ = some (.slice F1 m1 d1) := ⟨(S.at_ 5 rfl).cell 0, (S.at_ 5 rfl).cell 1, (S.at_ 2 rfl).cell 0, (S.at_ 2 rfl).cell 1, (S.at_ 2 rfl).cell 2⟩
        refine hK _ _ (fun _ => HF) ?_
        clear hK K
        try simp only [Act.put]
        have f9 : w8.cell? ⟨w.heap.size + 1, 0, none⟩ = some (.slice none 0 0) := (S.at_ 4 rfl).cell 0
        have f10 := (S.at_ 4 rfl).free 0
        have f11 : w8.cell? ⟨w.heap.size + 1, 1, none⟩ = some (.slice none 0 0) := (S.at_ 4 rfl).cell 1
        have f12 := (S.at_ 4 rfl).free 1
        refine wpAnyL_step (i := 5) (by kernel_rfl) rfl rfl ?_
        intro K hK
        go_simp
        replace S := S.put 4 rfl 0 (.slice Au nu cu)
        replace c := c.setCell (p := ⟨w.heap.size + 1, 0, none⟩) (by show w.heap.size ≤ w.heap.size + 1; omega) (.slice Au nu cu)
        replace S := S.put 4 rfl 1 (.slice Ax nx cx)
        replace c := c.setCell (p := ⟨w.heap.size + 1, 1, none⟩) (by show w.heap.size ≤ w.heap.size + 1; omega) (.slice Ax nx cx)
        clear HF
        have HF : ((w8.setCell ⟨w.heap.size + 1, 0, none⟩ (.slice Au nu cu)).setCell ⟨w.heap.size + 1, 1, none⟩ (.slice Ax nx cx)).cell? ⟨w.heap.size, 0, none⟩ = some (.slice (some ⟨b, off, none⟩) n0 c0) ∧ ((w8.setCell ⟨w.heap.size + 1, 0, none⟩ (.slice Au nu cu)).setCell ⟨w.heap.size + 1, 1, none⟩ (.slice Ax nx cx)).cell? ⟨w.heap.size, 1, none⟩ = some (.slice A1 n1 c1) ∧ ((w8.setCell ⟨w.heap.size + 1, 0, none⟩ (.slice Au nu cu)).setCell ⟨w.heap.size + 1, 1, none⟩ (.slice Ax nx cx)).cell? ⟨w3.heap.size, 0, none⟩ = some (.int .i64 x0) ∧ ((w8.setCell ⟨w.heap.size + 1, 0, none⟩ (.slice Au nu cu)).setCell ⟨w.heap.size + 1, 1, none⟩ (.slice Ax nx cx)).cell? ⟨w3.heap.size, 1, none⟩ = some (.int .i64 x1) ∧ ((w8.setCell ⟨w.heap.size + 1, 0, none⟩ (.slice Au nu cu)).setCell ⟨w.heap.size + 1, 1, none⟩ (.slice Ax nx cx)).cell? ⟨w3.heap.size, 2, none⟩ = some (.slice F1 m1 d1) := ⟨(S.at_ 5 rfl).cell 0, (S.at_ 5 rfl).cell 1, (S.at_ 2 rfl).cell 0, (S.at_ 2 rfl).cell 1, (S.at_ 2 rfl).cell 2⟩
        refine hK _ _ (fun _ => HF) ?_
        clear hK K
        try simp only [Act.put]
        generalize (w8.setCell ⟨w.heap.size + 1, 0, none⟩ (.slice Au nu cu)).setCell ⟨w.heap.size + 1, 1, none⟩ (.slice Ax nx cx) = w9 at *
        clear f9 f10 f11 f12
        have f13 : w9.cell? ⟨w.heap.size + 1 + 1, 0, none⟩ = some (.int .i64 0) := (S.at_ 3 rfl).cell 0
        have f14 := (S.at_ 3 rfl).free 0
        have f15 : w9.cell? ⟨w.heap.size + 1 + 1, 1, none⟩ = some (.int .i64 0) := (S.at_ 3 rfl).cell 1
        have f16 := (S.at_ 3 rfl).free 1
        have f17 : w9.cell? ⟨w.heap.size + 1 + 1, 2, none⟩ = some (.slice none 0 0) := (S.at_ 3 rfl).cell 2
        have f18 := (S.at_ 3 rfl).free 2
        refine wpAnyL_step (i := 6) (by kernel_rfl) rfl rfl ?_
        intro K hK
        go_simp
        replace S := S.put 3 rfl 0 (.int .i64 x0)
        replace c := c.setCell (p := ⟨w.heap.size + 1 + 1, 0, none⟩) (by show w.heap.size ≤ w.heap.size + 1 + 1; omega) (.int .i64 x0)
        replace S := S.put 3 rfl 1 (.int .i64 x1)
        replace c := c.setCell (p := ⟨w.heap.size + 1 + 1, 1, none⟩) (by show w.heap.size ≤ w.heap.size + 1 + 1; omega) (.int .i64 x1)
        replace S := S.put 3 rfl 2 (.slice A2 n2 c2)
        replace c := c.setCell (p := ⟨w.heap.size + 1 + 1, 2, none⟩) (by show w.heap.size ≤ w.heap.size + 1 + 1; omega) (.slice A2 n2 c2)
        clear HF
        have HF : (((w9.setCell ⟨w.heap.size + 1 + 1, 0, none⟩ (.int .i64 x0)).setCell ⟨w.heap.size + 1 + 1, 1, none⟩ (.int .i64 x1)).setCell ⟨w.heap.size + 1 + 1, 2, none⟩ (.slice A2 n2 c2)).cell? ⟨w.heap.size, 0, none⟩ = some (.slice (some ⟨b, off, none⟩) n0 c0) ∧ (((w9.setCell ⟨w.heap.size + 1 + 1, 0, none⟩ (.int .i64 x0)).setCell ⟨w.heap.size + 1 + 1, 1, none⟩ (.int .i64 x1)).setCell ⟨w.heap.size + 1 + 1, 2, none⟩ (.slice A2 n2 c2)).cell? ⟨w.heap.size, 1, none⟩ = some (.slice A1 n1 c1) ∧ (((w9.setCell ⟨w.heap.size + 1 + 1, 0, none⟩ (.int .i64 x0)).setCell ⟨w.heap.size + 1 + 1, 1, none⟩ (.int .i64 x1)).setCell ⟨w.heap.size + 1 + 1, 2, none⟩ (.slice A2 n2 c2)).cell? ⟨w3.heap.size, 0, none⟩ = some (.int .i64 x0) ∧ (((w9.setCell ⟨w.heap.size + 1 + 1, 0, none⟩ (.int .i64 x0)).setCell ⟨w.heap.size + 1 + 1, 1, none⟩ (.int .i64 x1)).setCell ⟨w.heap.size + 1 + 1, 2, none⟩ (.slice A2 n2 c2)).cell? ⟨w3.heap.size, 1, none⟩ = some (.int .i64 x1) ∧ (((w9.setCell ⟨w.heap.size + 1 + 1, 0, none⟩ (.int .i64 x0)).setCell ⟨w.heap.size + 1 + 1, 1, none⟩ (.int .i64 x1)).setCell ⟨w.heap.size + 1 + 1, 2, none⟩ (.slice A2 n2 c2)).cell? ⟨w3.heap.size, 2, none⟩ = some (.slice F1 m1 d1) := ⟨(S.at_ 5 rfl).cell 0, (S.at_ 5 rfl).cell 1, (S.at_ 2 rfl).cell 0, (S.at_ 2 rfl).cell 1, (S.at_ 2 rfl).cell 2⟩
        refine hK _ _ (fun _ => HF) ?_
        clear hK K
        try simp only [Act.put]
        generalize ((w9.setCell ⟨w.heap.size + 1 + 1, 0, none⟩ (.int .i64 x0)).setCell ⟨w.heap.size + 1 + 1, 1, none⟩ (.int .i64 x1)).setCell ⟨w.heap.size + 1 + 1, 2, none⟩ (.slice A2 n2 c2) = w10 at *
        clear f13 f14 f15 f16 f17 f18
        refine wpAnyL_step (i := 7) (by kernel_rfl) rfl rfl ?_
        intro K hK
        go_simp
        refine hK _ _ (fun h => nomatch (show true = false from h)) ?_
        clear hK K
        try simp only [Act.put]
        refine wpAnyL_done (by kernel_rfl) ?_ _
        replace S := S.pick 1 rfl
        replace S := S.pick 1 rfl
        have H := Lib.hid S.pair
        have C := Lib.hid c
        have r0 := Lib.hid ((S.at_ 4 rfl).cell 0)
        have r1 := Lib.hid ((S.at_ 4 rfl).cell 1)
        have p0 := Lib.hid ((S.at_ 3 rfl).cell 0)
        have p1 := Lib.hid ((S.at_ 3 rfl).cell 1)
        have p2 := Lib.hid ((S.at_ 3 rfl).cell 2)
        clear S c h hr0 hr1 hl0 hl1 HF hrow
        go_wp2
        exact bodyPost_ret (v := .tuple #[.agg #[.slice Au nu cu, .slice Ax nx cx], .agg #[.int .i64 x0, .int .i64 x1, .slice A2 n2 c2], .bool true]) (by simp [results, Try.results22, go_sem, r0.out, r1.out, p0.out, p1.out, p2.out]) rfl ⟨_, _, _, _, _, _, _, _, _, _, _, by rw [HD.out], by rw [HD.out]; exact H.out, C.out⟩

theorem iHanded_at (A0 : Option Addr) (n0 c0 : Nat) (A1 : Option Addr) (n1 c1 : Nat) (t : NetM) (x : Int) (w : World) (h : Rd w w.heap.size t.cells [.slice A0 n0 c0, .slice A1 n1 c1]) (hs : t.sz ≤ 1048576) :
    Calls Try.prog 22 #[.agg #[.slice A0 n0 c0, .slice A1 n1 c1], .int .i64 x] w (MadeNMB w (handedM t x)) := iHanded_any _ _ t x w h (by omega)

end Go.Proofs.Ythcagdcbifdfeaa
