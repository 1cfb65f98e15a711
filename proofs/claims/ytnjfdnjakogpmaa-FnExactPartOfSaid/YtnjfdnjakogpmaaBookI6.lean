/-
  Chapter 8: a book trimmed, of the program (by program, wip/gen/genbooki6.py).
-/
import Derived.Test.YtnjfdnjakogpmaaBookI5
import Derived.RegionTactic
import Derived.BigQuiet
import Derived.Laws.EntriesVeiled
namespace Go.Proofs.Ytnjfdnjakogpmaa
set_option maxRecDepth 100000
open Go.RowKit

theorem getD_take {l : List EntM} {d j : Nat} (h : j < d) : (l.take d).getD j ent0 = l.getD j ent0 := by
  rw [List.getD_eq_getElem?_getD, List.getElem?_take, if_pos h, ← List.getD_eq_getElem?_getD]
theorem bookB_take {b : BookM} (h : bookB b = true) (d : Nat) : bookB ⟨b.base, b.tm, b.ents.take d⟩ = true := by
  obtain ⟨h1, h2, h3, h4, h5, h6⟩ := (bookB_iff b).1 h
  rw [bookB_iff]
  have hlen : (b.ents.take d).length ≤ b.ents.length := by rw [List.length_take]; omega
  refine ⟨h1, h2, h3, Nat.le_trans hlen h4, ?_, ?_⟩
  · rw [entsB_iff] at h5 ⊢
    refine ⟨Nat.le_trans hlen h5.1, fun j hj => ?_⟩
    show entsAt (b.ents.take d) j = true
    have hj : j < (b.ents.take d).length := hj
    rw [List.length_take] at hj
    have h9 := h5.2 j (by omega)
    unfold entsAt nextAt at h9 ⊢
    rw [getD_take (show j < d by omega), getD_take (show j - 1 < d by omega)]
    exact h9
  · unfold headB at h6 ⊢
    show (decide ((b.ents.take d).length = 0) || (decide (((b.ents.take d).getD 0 ent0).idx = b.base + 1) && decide (b.tm ≤ ((b.ents.take d).getD 0 ent0).tm))) = true
    by_cases h0 : (b.ents.take d).length = 0
    · rw [decide_eq_true h0, Bool.true_or]
    · rw [List.length_take] at h0
      rw [getD_take (show 0 < d by omega)]
      rw [decide_eq_false (show ¬ b.ents.length = 0 by omega), Bool.false_or] at h6
      rw [h6, Bool.or_true]
theorem timeM_take {b : BookM} (h : bookB b = true) {i : Int} (hi : inBook b i = true) : timeM ⟨b.base, b.tm, b.ents.take (i - b.base).toNat⟩ = timeAt b i := by
  obtain ⟨h1, h2⟩ := (inB_iff _ _ _).1 hi
  unfold lastB at h2
  have hl : lastB ⟨b.base, b.tm, b.ents.take (i - b.base).toNat⟩ = i := by
    unfold lastB
    show b.base + ((b.ents.take (i - b.base).toNat).length : Int) = i
    rw [List.length_take]
    omega
  unfold timeM
  rw [if_pos (bookB_take h _), hl]
  unfold timeAt
  by_cases h0 : i = b.base
  · rw [if_pos h0, if_pos h0]
  · rw [if_neg h0, if_neg h0]
    show ((b.ents.take (i - b.base).toNat).getD (i - b.base - 1).toNat ent0).tm = _
    rw [getD_take (by omega)]
set_option maxHeartbeats 12800000 in
theorem iTrim_any (x0 x1 : Int) (A : Option Addr) (n cc B : Nat) (l : List EntM) (i : Int) (w : World) (h : Rd w B [entD l] [.slice A n cc]) (hB : B ≤ w.heap.size) (hs : entSz l ≤ 1048577) :
    Calls Try.prog 37 #[.agg #[.int .i64 x0, .int .i64 x1, .slice A n cc], .int .i64 i] w (MadeB w (trimM ⟨x0, x1, l⟩ i)) := by
  have HH := Lib.hid h
  obtain ⟨_, _, _, e, hl, _, hcm, hel⟩ := h.ents
  injection e with e1 e2 e3
  subst e1 e2 e3
  have hn : n ≤ 1048577 := by unfold entSz at hs; omega
  have HL := Lib.hid hl
  clear hel h
  have S := Sep.nil w w.heap.size
  have c := Below.refl w.heap.size w
  replace S := S.boxAt c.size (w.heap.size) rfl #[.int .i64 x0, .int .i64 x1, .slice A n cc] 29
  replace c := c.alloc c.size (.cells #[.int .i64 x0, .int .i64 x1, .slice A n cc] 29)
  replace S := S.boxAt c.size (w.heap.size + 1) (by simp) #[.int .i64 0, .int .i64 0, .slice none 0 0] 29
  replace c := c.alloc c.size (.cells #[.int .i64 0, .int .i64 0, .slice none 0 0] 29)
  go_enter Try.func37, Try.ntmps37
  have f0 : ((w.alloc (.cells #[.int .i64 x0, .int .i64 x1, .slice A n cc] 29)).alloc (.cells #[.int .i64 0, .int .i64 0, .slice none 0 0] 29)).cell? ⟨w.heap.size, 0, none⟩ = some (.int .i64 x0) := (S.at_ 1 rfl).cell 0
  have f1 : ((w.alloc (.cells #[.int .i64 x0, .int .i64 x1, .slice A n cc] 29)).alloc (.cells #[.int .i64 0, .int .i64 0, .slice none 0 0] 29)).cell? ⟨w.heap.size, 1, none⟩ = some (.int .i64 x1) := (S.at_ 1 rfl).cell 1
  have f2 : ((w.alloc (.cells #[.int .i64 x0, .int .i64 x1, .slice A n cc] 29)).alloc (.cells #[.int .i64 0, .int .i64 0, .slice none 0 0] 29)).cell? ⟨w.heap.size, 2, none⟩ = some (.slice A n cc) := (S.at_ 1 rfl).cell 2
  go_wp2_with fail
  generalize (w.alloc (.cells #[.int .i64 x0, .int .i64 x1, .slice A n cc] 29)).alloc (.cells #[.int .i64 0, .int .i64 0, .slice none 0 0] 29) = w1 at *
  refine (iBack_any x0 x1 A n cc B l i _ (HH.out.keep (c.mono hB)) (Nat.le_trans hB c.size) hs).mono ?_
  rintro e w2 ⟨y0, y1, A2, n2, c2, rfl, o, b2⟩
  cases hf : (backM ⟨x0, x1, l⟩ i).2
  case false =>
    have HV := Lib.hid (show trimM ⟨x0, x1, l⟩ i = ((backM ⟨x0, x1, l⟩ i).1, false) by
      unfold trimM backM at *
      cases hok : bookB ⟨x0, x1, l⟩
      · rfl
      · simp only [hok, if_true] at hf ⊢
        cases hin : inBook ⟨x0, x1, l⟩ i
        · rfl
        · rw [hin] at hf; cases hf)
    obtain ⟨bk, hbk⟩ : ∃ q, q = (backM ⟨x0, x1, l⟩ i).1 := ⟨_, rfl⟩
    rw [← hbk] at HV o
    clear hbk hf
    obtain ⟨fp_u, S'⟩ := S.has b2 o c.size
    replace c := c.trans (b2.mono c.size)
    clear S; have S := S'; clear S' o b2 
    replace S := S.boxAt c.size (w2.heap.size) rfl #[.int .i64 y0, .int .i64 y1, .slice A2 n2 c2] 29
    replace c := c.alloc c.size (.cells #[.int .i64 y0, .int .i64 y1, .slice A2 n2 c2] 29)
    replace S := S.pick 1 rfl
    have f3 : (w2.alloc (.cells #[.int .i64 y0, .int .i64 y1, .slice A2 n2 c2] 29)).cell? ⟨w2.heap.size, 0, none⟩ = some (.int .i64 y0) := (S.at_ 1 rfl).cell 0
    have f4 : (w2.alloc (.cells #[.int .i64 y0, .int .i64 y1, .slice A2 n2 c2] 29)).cell? ⟨w2.heap.size, 1, none⟩ = some (.int .i64 y1) := (S.at_ 1 rfl).cell 1
    have f5 : (w2.alloc (.cells #[.int .i64 y0, .int .i64 y1, .slice A2 n2 c2] 29)).cell? ⟨w2.heap.size, 2, none⟩ = some (.slice A2 n2 c2) := (S.at_ 1 rfl).cell 2
    have f6 : (w2.alloc (.cells #[.int .i64 y0, .int .i64 y1, .slice A2 n2 c2] 29)).cell? ⟨w.heap.size + 1, 0, none⟩ = some (.int .i64 0) := (S.at_ 2 rfl).cell 0
    have f7 := (S.at_ 2 rfl).free 0
    have f8 : (w2.alloc (.cells #[.int .i64 y0, .int .i64 y1, .slice A2 n2 c2] 29)).cell? ⟨w.heap.size + 1, 1, none⟩ = some (.int .i64 0) := (S.at_ 2 rfl).cell 1
    have f9 := (S.at_ 2 rfl).free 1
    have f10 : (w2.alloc (.cells #[.int .i64 y0, .int .i64 y1, .slice A2 n2 c2] 29)).cell? ⟨w.heap.size + 1, 2, none⟩ = some (.slice none 0 0) := (S.at_ 2 rfl).cell 2
    have f11 := (S.at_ 2 rfl).free 2
    replace S := S.put 2 rfl 0 (.int .i64 y0)
    replace c := c.setCell (p := ⟨w.heap.size + 1, 0, none⟩) (by show w.heap.size ≤ w.heap.size + 1; omega) (.int .i64 y0)
    replace S := S.put 2 rfl 1 (.int .i64 y1)
    replace c := c.setCell (p := ⟨w.heap.size + 1, 1, none⟩) (by show w.heap.size ≤ w.heap.size + 1; omega) (.int .i64 y1)
    replace S := S.put 2 rfl 2 (.slice A2 n2 c2)
    replace c := c.setCell (p := ⟨w.heap.size + 1, 2, none⟩) (by show w.heap.size ≤ w.heap.size + 1; omega) (.slice A2 n2 c2)
    have H := Lib.hid S.first
    have r0 := Lib.hid ((S.at_ 2 rfl).cell 0)
    have r1 := Lib.hid ((S.at_ 2 rfl).cell 1)
    have r2 := Lib.hid ((S.at_ 2 rfl).cell 2)
    have CC := Lib.hid c
    clear S c
    go_wp2
    exact bodyPost_ret (v := .tuple #[.agg #[.int .i64 y0, .int .i64 y1, .slice A2 n2 c2], .bool false]) (by simp [results, Try.results37, go_sem, r0.out, r1.out, r2.out]) rfl ⟨_, _, _, _, _, by rw [HV.out], by rw [HV.out]; exact H.out, CC.out⟩
  case true =>
    have hok : bookB ⟨x0, x1, l⟩ = true := by
      cases h9 : bookB ⟨x0, x1, l⟩
      · unfold backM at hf; rw [h9] at hf; cases hf
      · rfl
    have hin : inBook ⟨x0, x1, l⟩ i = true := by
      cases h9 : inBook ⟨x0, x1, l⟩ i
      · unfold backM at hf; rw [if_pos hok, h9] at hf; cases hf
      · rfl
    have e9 : backM ⟨x0, x1, l⟩ i = (⟨x0, x1, l.take (i - x0).toNat⟩, true) := by unfold backM; rw [if_pos hok, if_pos hin]
    have hbk := (bookB_mk' x0 x1 l).1 hok
    have hi := (inB_iff _ _ _).1 hin
    have hlast : lastB ⟨x0, x1, l⟩ = x0 + (n : Int) := by unfold lastB; rw [show (⟨x0, x1, l⟩ : BookM).ents.length = n from hl]
    rw [hlast] at hi
    have hi0 : x0 ≤ i := hi.1
    have HX := Lib.hid hbk.1
    have hn20 : n ≤ 1048576 := by have := hbk.2.2.2.1; omega
    have HV := Lib.hid (show trimM ⟨x0, x1, l⟩ i = (⟨i, timeAt ⟨x0, x1, l⟩ i, l.drop (i - x0).toNat⟩, true) by unfold trimM; rw [if_pos hok, if_pos hin])
    have HA := Lib.hid (show selE l (i + 1) 2000 = l.drop (i - x0).toNat from sel_trim (b := ⟨x0, x1, l⟩) hok hi0)
    have HT := Lib.hid (show timeM ⟨x0, x1, l.take (i - x0).toNat⟩ = timeAt ⟨x0, x1, l⟩ i from timeM_take hok hin)
    have ew : IntKind.i64.wrap (i + 1) = i + 1 := by have := HX.out; rw [IntKind.wrap_i64]; omega
    have hst : entSz (l.take (i - x0).toNat) ≤ 1048577 := by unfold entSz at *; rw [List.length_take]; omega
    have o2 : Has _ _ (BookM.cells (backM ⟨x0, x1, l⟩ i).1) _ := o
    rw [e9] at o2
    obtain ⟨z0, z1, o3⟩ := has_split o2
    have z2 : x0 = y0 := z0.symm
    have z3 : x1 = y1 := z1.symm
    clear z0 z1 o o2 hf e9 hok hin hbk hi hi0 hlast hl hcm
    subst z2 z3
    obtain ⟨fp_u, S'⟩ := S.has b2 o3 c.size
    replace c := c.trans (b2.mono c.size)
    clear S; have S := S'; clear S' o3 b2 
    replace S := S.boxAt c.size (w2.heap.size) rfl #[.int .i64 x0, .int .i64 x1, .slice A2 n2 c2] 29
    replace c := c.alloc c.size (.cells #[.int .i64 x0, .int .i64 x1, .slice A2 n2 c2] 29)
    have f3 : (w2.alloc (.cells #[.int .i64 x0, .int .i64 x1, .slice A2 n2 c2] 29)).cell? ⟨w.heap.size, 0, none⟩ = some (.int .i64 x0) := (S.at_ 3 rfl).cell 0
    have f4 : (w2.alloc (.cells #[.int .i64 x0, .int .i64 x1, .slice A2 n2 c2] 29)).cell? ⟨w.heap.size, 1, none⟩ = some (.int .i64 x1) := (S.at_ 3 rfl).cell 1
    have f5 : (w2.alloc (.cells #[.int .i64 x0, .int .i64 x1, .slice A2 n2 c2] 29)).cell? ⟨w.heap.size, 2, none⟩ = some (.slice A n cc) := (S.at_ 3 rfl).cell 2
    go_wp2_with fail
    generalize w2.alloc (.cells #[.int .i64 x0, .int .i64 x1, .slice A2 n2 c2] 29) = w3 at *
    obtain ⟨qf, hqf⟩ : ∃ q, q = w2.heap.size := ⟨_, rfl⟩
    rw [← hqf] at S ⊢
    clear hqf
    refine (iEntriesIn_at x0 x1 A n cc (i + 1) 2000 _).mono ?_
    rintro e w4 ⟨rfl, k0, k1, k2, b2⟩
    replace c := c.trans (b2.mono c.size)
    replace S := S.keep b2
    clear b2 f3 f4 f5
    have K0 := Lib.hid k0
    have K1 := Lib.hid k1
    have K2 := Lib.hid k2
    clear k0 k1 k2
    go_wp2_with fail
    refine (iCollIter_any _ _ _ B x0 x1 (i + 1) 2000 A n cc l _ K0.out K1.out K2.out (HH.out.keep (c.mono hB)) (Nat.le_trans hB c.size) hn20).mono ?_
    rintro e w5 ⟨A3, n3, c3, rfl, o, b2⟩
    obtain ⟨fp_v, S'⟩ := S.has b2 o c.size
    replace c := c.trans (b2.mono c.size)
    clear S; have S := S'; clear S' o b2
    rw [HA.out] at S
    have f6 : w5.cell? ⟨qf, 0, none⟩ = some (.int .i64 x0) := (S.at_ 1 rfl).cell 0
    have f7 : w5.cell? ⟨qf, 1, none⟩ = some (.int .i64 x1) := (S.at_ 1 rfl).cell 1
    have f8 : w5.cell? ⟨qf, 2, none⟩ = some (.slice A2 n2 c2) := (S.at_ 1 rfl).cell 2
    go_wp2_with fail
    refine (iTimeOf_any x0 x1 A2 n2 c2 _ (l.take (i - x0).toNat) _ (S.own_ 2 rfl).rd (Nat.le_refl _) hst).mono ?_
    rintro e w6 ⟨rfl, b2⟩
    replace c := c.trans (b2.mono c.size)
    replace S := S.keep b2
    clear b2 f6 f7 f8
    rw [HT.out]
    replace S := S.pick 0 rfl
    have f9 : w6.cell? ⟨w.heap.size + 1, 0, none⟩ = some (.int .i64 0) := (S.at_ 3 rfl).cell 0
    have f10 := (S.at_ 3 rfl).free 0
    have f11 : w6.cell? ⟨w.heap.size + 1, 1, none⟩ = some (.int .i64 0) := (S.at_ 3 rfl).cell 1
    have f12 := (S.at_ 3 rfl).free 1
    have f13 : w6.cell? ⟨w.heap.size + 1, 2, none⟩ = some (.slice none 0 0) := (S.at_ 3 rfl).cell 2
    have f14 := (S.at_ 3 rfl).free 2
    replace S := S.put 3 rfl 0 (.int .i64 i)
    replace c := c.setCell (p := ⟨w.heap.size + 1, 0, none⟩) (by show w.heap.size ≤ w.heap.size + 1; omega) (.int .i64 i)
    replace S := S.put 3 rfl 1 (.int .i64 (timeAt ⟨x0, x1, l⟩ i))
    replace c := c.setCell (p := ⟨w.heap.size + 1, 1, none⟩) (by show w.heap.size ≤ w.heap.size + 1; omega) (.int .i64 (timeAt ⟨x0, x1, l⟩ i))
    replace S := S.put 3 rfl 2 (.slice A3 n3 c3)
    replace c := c.setCell (p := ⟨w.heap.size + 1, 2, none⟩) (by show w.heap.size ≤ w.heap.size + 1; omega) (.slice A3 n3 c3)
    have H := Lib.hid S.first
    have r0 := Lib.hid ((S.at_ 3 rfl).cell 0)
    have r1 := Lib.hid ((S.at_ 3 rfl).cell 1)
    have r2 := Lib.hid ((S.at_ 3 rfl).cell 2)
    have CC := Lib.hid c
    clear S c
    go_wp2
    exact bodyPost_ret (v := .tuple #[.agg #[.int .i64 i, .int .i64 (timeAt ⟨x0, x1, l⟩ i), .slice A3 n3 c3], .bool true]) (by simp [results, Try.results37, go_sem, r0.out, r1.out, r2.out]) rfl ⟨_, _, _, _, _, by rw [HV.out], by rw [HV.out]; exact has_mk H.out, CC.out⟩

end Go.Proofs.Ytnjfdnjakogpmaa
