/-
  The model of chapter 4: repairs, equal disks, right rows.
-/
import Derived.Test.YtejcpoidoekleaaTwoS2
import Derived.Test.YtejcpoidoekleaaKT
import Derived.BigQuiet
namespace Go.Proofs.Ytejcpoidoekleaa
set_option maxRecDepth 100000
open Go.RowKit

theorem bothWrote_bad {t : TwoM} (h : twoOk t = false) (i : Int) (r : List Int) : (bothWrote t i r).2 = false := by simp [bothWrote, h]
theorem bothWrote_true {t : TwoM} {i : Int} {r : List Int} (h : (bothWrote t i r).2 = true) : twoOk t = true := by
  cases hok : twoOk t
  · rw [bothWrote_bad hok] at h; cases h
  · rfl

set_option maxHeartbeats 12800000 in
theorem sMendedAt_any (Aa0 : Option Addr) (na0 ca0 : Nat) (Aa1 : Option Addr) (na1 ca1 : Nat) (Aa2 : Option Addr) (na2 ca2 : Nat) (Aa3 : Option Addr) (na3 ca3 : Nat) (t : TwoM) (i : Int) (E : Option Addr) (o co : Nat) (r : List Int) (w : World) (h : Rd w w.heap.size t.cells [.slice Aa0 na0 ca0, .slice Aa1 na1 ca1, .slice Aa2 na2 ca2, .slice Aa3 na3 ca3]) (hs : t.sz ≤ 1048576) (h2 : Rd w w.heap.size (rowCells r) [.slice E o co]) (hs2 : r.length ≤ 1048576) :
    Calls Try.prog 45 #[.agg #[.slice Aa0 na0 ca0, .slice Aa1 na1 ca1, .slice Aa2 na2 ca2, .slice Aa3 na3 ca3], .int .i64 i, .slice E o co] w (MadeT w (mendedAt t i r)) := by
  cases hb : (bothWrote t i r).2
  case false =>
    have HR := Lib.hid (show mendedAt t i r = (bothWrote t i r).1 by simp [mendedAt, hb])
    have HB := Lib.hid hb
    clear hb
    have S := Sep.nil w w.heap.size
    have c := Below.refl w.heap.size w
    replace S := S.boxAt c.size (w.heap.size) rfl #[.slice Aa0 na0 ca0, .slice Aa1 na1 ca1, .slice Aa2 na2 ca2, .slice Aa3 na3 ca3] 32
    replace c := c.alloc c.size (.cells #[.slice Aa0 na0 ca0, .slice Aa1 na1 ca1, .slice Aa2 na2 ca2, .slice Aa3 na3 ca3] 32)
    replace S := S.boxAt c.size (w.heap.size + 1) (by simp) #[.slice none 0 0, .slice none 0 0, .slice none 0 0, .slice none 0 0] 32
    replace c := c.alloc c.size (.cells #[.slice none 0 0, .slice none 0 0, .slice none 0 0, .slice none 0 0] 32)
    go_enter Try.func45, Try.ntmps45
    have f0 : ((w.alloc (.cells #[.slice Aa0 na0 ca0, .slice Aa1 na1 ca1, .slice Aa2 na2 ca2, .slice Aa3 na3 ca3] 32)).alloc (.cells #[.slice none 0 0, .slice none 0 0, .slice none 0 0, .slice none 0 0] 32)).cell? ⟨w.heap.size, 0, none⟩ = some (.slice Aa0 na0 ca0) := (S.at_ 1 rfl).cell 0
    have f1 : ((w.alloc (.cells #[.slice Aa0 na0 ca0, .slice Aa1 na1 ca1, .slice Aa2 na2 ca2, .slice Aa3 na3 ca3] 32)).alloc (.cells #[.slice none 0 0, .slice none 0 0, .slice none 0 0, .slice none 0 0] 32)).cell? ⟨w.heap.size, 1, none⟩ = some (.slice Aa1 na1 ca1) := (S.at_ 1 rfl).cell 1
    have f2 : ((w.alloc (.cells #[.slice Aa0 na0 ca0, .slice Aa1 na1 ca1, .slice Aa2 na2 ca2, .slice Aa3 na3 ca3] 32)).alloc (.cells #[.slice none 0 0, .slice none 0 0, .slice none 0 0, .slice none 0 0] 32)).cell? ⟨w.heap.size, 2, none⟩ = some (.slice Aa2 na2 ca2) := (S.at_ 1 rfl).cell 2
    have f3 : ((w.alloc (.cells #[.slice Aa0 na0 ca0, .slice Aa1 na1 ca1, .slice Aa2 na2 ca2, .slice Aa3 na3 ca3] 32)).alloc (.cells #[.slice none 0 0, .slice none 0 0, .slice none 0 0, .slice none 0 0] 32)).cell? ⟨w.heap.size, 3, none⟩ = some (.slice Aa3 na3 ca3) := (S.at_ 1 rfl).cell 3
    go_wp2_with fail
    generalize (w.alloc (.cells #[.slice Aa0 na0 ca0, .slice Aa1 na1 ca1, .slice Aa2 na2 ca2, .slice Aa3 na3 ca3] 32)).alloc (.cells #[.slice none 0 0, .slice none 0 0, .slice none 0 0, .slice none 0 0] 32) = w1 at *
    refine (sBothWrote_any _ _ _ _ _ _ _ _ _ _ _ _ t i _ _ _ r _ ((h.keep c).up c.size) hs ((h2.keep c).up c.size) hs2).mono ?_
    rintro e w2 ⟨Az0, nz0, cz0, Az1, nz1, cz1, Az2, nz2, cz2, Az3, nz3, cz3, rfl, o, b⟩
    obtain ⟨fp_z, S'⟩ := S.has b o c.size
    replace c := c.trans (b.mono c.size)
    clear S; have S := S'; clear S' o b f0 f1 f2 f3
    rw [HB.out]
    replace S := S.boxAt c.size (w2.heap.size) rfl #[.slice Az0 nz0 cz0, .slice Az1 nz1 cz1, .slice Az2 nz2 cz2, .slice Az3 nz3 cz3] 32
    replace c := c.alloc c.size (.cells #[.slice Az0 nz0 cz0, .slice Az1 nz1 cz1, .slice Az2 nz2 cz2, .slice Az3 nz3 cz3] 32)
    have f4 : (w2.alloc (.cells #[.slice Az0 nz0 cz0, .slice Az1 nz1 cz1, .slice Az2 nz2 cz2, .slice Az3 nz3 cz3] 32)).cell? ⟨w2.heap.size, 0, none⟩ = some (.slice Az0 nz0 cz0) := (S.at_ 0 rfl).cell 0
    have f5 : (w2.alloc (.cells #[.slice Az0 nz0 cz0, .slice Az1 nz1 cz1, .slice Az2 nz2 cz2, .slice Az3 nz3 cz3] 32)).cell? ⟨w2.heap.size, 1, none⟩ = some (.slice Az1 nz1 cz1) := (S.at_ 0 rfl).cell 1
    have f6 : (w2.alloc (.cells #[.slice Az0 nz0 cz0, .slice Az1 nz1 cz1, .slice Az2 nz2 cz2, .slice Az3 nz3 cz3] 32)).cell? ⟨w2.heap.size, 2, none⟩ = some (.slice Az2 nz2 cz2) := (S.at_ 0 rfl).cell 2
    have f7 : (w2.alloc (.cells #[.slice Az0 nz0 cz0, .slice Az1 nz1 cz1, .slice Az2 nz2 cz2, .slice Az3 nz3 cz3] 32)).cell? ⟨w2.heap.size, 3, none⟩ = some (.slice Az3 nz3 cz3) := (S.at_ 0 rfl).cell 3
    have f8 : (w2.alloc (.cells #[.slice Az0 nz0 cz0, .slice Az1 nz1 cz1, .slice Az2 nz2 cz2, .slice Az3 nz3 cz3] 32)).cell? ⟨w.heap.size + 1, 0, none⟩ = some (.slice none 0 0) := (S.at_ 2 rfl).cell 0
    have f9 := (S.at_ 2 rfl).free 0
    have f10 : (w2.alloc (.cells #[.slice Az0 nz0 cz0, .slice Az1 nz1 cz1, .slice Az2 nz2 cz2, .slice Az3 nz3 cz3] 32)).cell? ⟨w.heap.size + 1, 1, none⟩ = some (.slice none 0 0) := (S.at_ 2 rfl).cell 1
    have f11 := (S.at_ 2 rfl).free 1
    have f12 : (w2.alloc (.cells #[.slice Az0 nz0 cz0, .slice Az1 nz1 cz1, .slice Az2 nz2 cz2, .slice Az3 nz3 cz3] 32)).cell? ⟨w.heap.size + 1, 2, none⟩ = some (.slice none 0 0) := (S.at_ 2 rfl).cell 2
    have f13 := (S.at_ 2 rfl).free 2
    have f14 : (w2.alloc (.cells #[.slice Az0 nz0 cz0, .slice Az1 nz1 cz1, .slice Az2 nz2 cz2, .slice Az3 nz3 cz3] 32)).cell? ⟨w.heap.size + 1, 3, none⟩ = some (.slice none 0 0) := (S.at_ 2 rfl).cell 3
    have f15 := (S.at_ 2 rfl).free 3
    replace S := S.put 2 rfl 0 (.slice Az0 nz0 cz0)
    replace c := c.setCell (p := ⟨w.heap.size + 1, 0, none⟩) (by show w.heap.size ≤ w.heap.size + 1; omega) (.slice Az0 nz0 cz0)
    replace S := S.put 2 rfl 1 (.slice Az1 nz1 cz1)
    replace c := c.setCell (p := ⟨w.heap.size + 1, 1, none⟩) (by show w.heap.size ≤ w.heap.size + 1; omega) (.slice Az1 nz1 cz1)
    replace S := S.put 2 rfl 2 (.slice Az2 nz2 cz2)
    replace c := c.setCell (p := ⟨w.heap.size + 1, 2, none⟩) (by show w.heap.size ≤ w.heap.size + 1; omega) (.slice Az2 nz2 cz2)
    replace S := S.put 2 rfl 3 (.slice Az3 nz3 cz3)
    replace c := c.setCell (p := ⟨w.heap.size + 1, 3, none⟩) (by show w.heap.size ≤ w.heap.size + 1; omega) (.slice Az3 nz3 cz3)
    replace S := S.sub (.cons _ (.cons_cons _ (List.nil_sublist _)))
    have H := Lib.hid S.first
    have C := Lib.hid c
    clear S c h h2
    go_wp2
    exact bodyPost_ret (v := .agg #[.slice Az0 nz0 cz0, .slice Az1 nz1 cz1, .slice Az2 nz2 cz2, .slice Az3 nz3 cz3]) (by simp [results, Try.results45, go_sem, f8, f10, f12, f14]) rfl ⟨_, _, _, _, _, _, _, _, _, _, _, _, rfl, by rw [HR.out]; exact H.out, C.out⟩
  have HR := Lib.hid (show mendedAt t i r = bothSynced (bothWrote t i r).1 by simp [mendedAt, hb])
  have hz : (bothWrote t i r).1.sz ≤ 1048576 := by
    have := ok_two_sz (bothWrote_ok (bothWrote_true hb) i r)
    omega
  have HB := Lib.hid hb
  clear hb
  have S := Sep.nil w w.heap.size
  have c := Below.refl w.heap.size w
  replace S := S.boxAt c.size (w.heap.size) rfl #[.slice Aa0 na0 ca0, .slice Aa1 na1 ca1, .slice Aa2 na2 ca2, .slice Aa3 na3 ca3] 32
  replace c := c.alloc c.size (.cells #[.slice Aa0 na0 ca0, .slice Aa1 na1 ca1, .slice Aa2 na2 ca2, .slice Aa3 na3 ca3] 32)
  replace S := S.boxAt c.size (w.heap.size + 1) (by simp) #[.slice none 0 0, .slice none 0 0, .slice none 0 0, .slice none 0 0] 32
  replace c := c.alloc c.size (.cells #[.slice none 0 0, .slice none 0 0, .slice none 0 0, .slice none 0 0] 32)
  go_enter Try.func45, Try.ntmps45
  have f0 : ((w.alloc (.cells #[.slice Aa0 na0 ca0, .slice Aa1 na1 ca1, .slice Aa2 na2 ca2, .slice Aa3 na3 ca3] 32)).alloc (.cells #[.slice none 0 0, .slice none 0 0, .slice none 0 0, .slice none 0 0] 32)).cell? ⟨w.heap.size, 0, none⟩ = some (.slice Aa0 na0 ca0) := (S.at_ 1 rfl).cell 0
  have f1 : ((w.alloc (.cells #[.slice Aa0 na0 ca0, .slice Aa1 na1 ca1, .slice Aa2 na2 ca2, .slice Aa3 na3 ca3] 32)).alloc (.cells #[.slice none 0 0, .slice none 0 0, .slice none 0 0, .slice none 0 0] 32)).cell? ⟨w.heap.size, 1, none⟩ = some (.slice Aa1 na1 ca1) := (S.at_ 1 rfl).cell 1
  have f2 : ((w.alloc (.cells #[.slice Aa0 na0 ca0, .slice Aa1 na1 ca1, .slice Aa2 na2 ca2, .slice Aa3 na3 ca3] 32)).alloc (.cells #[.slice none 0 0, .slice none 0 0, .slice none 0 0, .slice none 0 0] 32)).cell? ⟨w.heap.size, 2, none⟩ = some (.slice Aa2 na2 ca2) := (S.at_ 1 rfl).cell 2
  have f3 : ((w.alloc (.cells #[.slice Aa0 na0 ca0, .slice Aa1 na1 ca1, .slice Aa2 na2 ca2, .slice Aa3 na3 ca3] 32)).alloc (.cells #[.slice none 0 0, .slice none 0 0, .slice none 0 0, .slice none 0 0] 32)).cell? ⟨w.heap.size, 3, none⟩ = some (.slice Aa3 na3 ca3) := (S.at_ 1 rfl).cell 3
  go_wp2_with fail
  generalize (w.alloc (.cells #[.slice Aa0 na0 ca0, .slice Aa1 na1 ca1, .slice Aa2 na2 ca2, .slice Aa3 na3 ca3] 32)).alloc (.cells #[.slice none 0 0, .slice none 0 0, .slice none 0 0, .slice none 0 0] 32) = w1 at *
  refine (sBothWrote_any _ _ _ _ _ _ _ _ _ _ _ _ t i _ _ _ r _ ((h.keep c).up c.size) hs ((h2.keep c).up c.size) hs2).mono ?_
  rintro e w2 ⟨Az0, nz0, cz0, Az1, nz1, cz1, Az2, nz2, cz2, Az3, nz3, cz3, rfl, o, b⟩
  obtain ⟨fp_z, S'⟩ := S.has b o c.size
  replace c := c.trans (b.mono c.size)
  clear S; have S := S'; clear S' o b f0 f1 f2 f3
  rw [HB.out]
  replace S := S.boxAt c.size (w2.heap.size) rfl #[.slice Az0 nz0 cz0, .slice Az1 nz1 cz1, .slice Az2 nz2 cz2, .slice Az3 nz3 cz3] 32
  replace c := c.alloc c.size (.cells #[.slice Az0 nz0 cz0, .slice Az1 nz1 cz1, .slice Az2 nz2 cz2, .slice Az3 nz3 cz3] 32)
  have f4 : (w2.alloc (.cells #[.slice Az0 nz0 cz0, .slice Az1 nz1 cz1, .slice Az2 nz2 cz2, .slice Az3 nz3 cz3] 32)).cell? ⟨w2.heap.size, 0, none⟩ = some (.slice Az0 nz0 cz0) := (S.at_ 0 rfl).cell 0
  have f5 : (w2.alloc (.cells #[.slice Az0 nz0 cz0, .slice Az1 nz1 cz1, .slice Az2 nz2 cz2, .slice Az3 nz3 cz3] 32)).cell? ⟨w2.heap.size, 1, none⟩ = some (.slice Az1 nz1 cz1) := (S.at_ 0 rfl).cell 1
  have f6 : (w2.alloc (.cells #[.slice Az0 nz0 cz0, .slice Az1 nz1 cz1, .slice Az2 nz2 cz2, .slice Az3 nz3 cz3] 32)).cell? ⟨w2.heap.size, 2, none⟩ = some (.slice Az2 nz2 cz2) := (S.at_ 0 rfl).cell 2
  have f7 : (w2.alloc (.cells #[.slice Az0 nz0 cz0, .slice Az1 nz1 cz1, .slice Az2 nz2 cz2, .slice Az3 nz3 cz3] 32)).cell? ⟨w2.heap.size, 3, none⟩ = some (.slice Az3 nz3 cz3) := (S.at_ 0 rfl).cell 3
  go_wp2_with fail
  generalize w2.alloc (.cells #[.slice Az0 nz0 cz0, .slice Az1 nz1 cz1, .slice Az2 nz2 cz2, .slice Az3 nz3 cz3] 32) = w3 at *
  refine (sBothSynced_any _ _ _ _ _ _ _ _ _ _ _ _ (bothWrote t i r).1 _ ((S.own_ 1 rfl).rd) hz).mono ?_
  rintro e w4 ⟨Ay0, ny0, cy0, Ay1, ny1, cy1, Ay2, ny2, cy2, Ay3, ny3, cy3, rfl, o, b⟩
  obtain ⟨fp_y, S'⟩ := S.has b o c.size
  replace c := c.trans (b.mono c.size)
  clear S; have S := S'; clear S' o b f4 f5 f6 f7
  have f8 : w4.cell? ⟨w.heap.size + 1, 0, none⟩ = some (.slice none 0 0) := (S.at_ 3 rfl).cell 0
  have f9 := (S.at_ 3 rfl).free 0
  have f10 : w4.cell? ⟨w.heap.size + 1, 1, none⟩ = some (.slice none 0 0) := (S.at_ 3 rfl).cell 1
  have f11 := (S.at_ 3 rfl).free 1
  have f12 : w4.cell? ⟨w.heap.size + 1, 2, none⟩ = some (.slice none 0 0) := (S.at_ 3 rfl).cell 2
  have f13 := (S.at_ 3 rfl).free 2
  have f14 : w4.cell? ⟨w.heap.size + 1, 3, none⟩ = some (.slice none 0 0) := (S.at_ 3 rfl).cell 3
  have f15 := (S.at_ 3 rfl).free 3
  replace S := S.put 3 rfl 0 (.slice Ay0 ny0 cy0)
  replace c := c.setCell (p := ⟨w.heap.size + 1, 0, none⟩) (by show w.heap.size ≤ w.heap.size + 1; omega) (.slice Ay0 ny0 cy0)
  replace S := S.put 3 rfl 1 (.slice Ay1 ny1 cy1)
  replace c := c.setCell (p := ⟨w.heap.size + 1, 1, none⟩) (by show w.heap.size ≤ w.heap.size + 1; omega) (.slice Ay1 ny1 cy1)
  replace S := S.put 3 rfl 2 (.slice Ay2 ny2 cy2)
  replace c := c.setCell (p := ⟨w.heap.size + 1, 2, none⟩) (by show w.heap.size ≤ w.heap.size + 1; omega) (.slice Ay2 ny2 cy2)
  replace S := S.put 3 rfl 3 (.slice Ay3 ny3 cy3)
  replace c := c.setCell (p := ⟨w.heap.size + 1, 3, none⟩) (by show w.heap.size ≤ w.heap.size + 1; omega) (.slice Ay3 ny3 cy3)
  have H := Lib.hid S.first
  have C := Lib.hid c
  clear S c h h2
  go_wp2
  exact bodyPost_ret (v := .agg #[.slice Ay0 ny0 cy0, .slice Ay1 ny1 cy1, .slice Ay2 ny2 cy2, .slice Ay3 ny3 cy3]) (by simp [results, Try.results45, go_sem, f8, f10, f12, f14]) rfl ⟨_, _, _, _, _, _, _, _, _, _, _, _, rfl, by rw [HR.out]; exact H.out, C.out⟩

set_option maxHeartbeats 12800000 in
theorem sRightAt_any (Aa0 : Option Addr) (na0 ca0 : Nat) (Aa1 : Option Addr) (na1 ca1 : Nat) (Aa2 : Option Addr) (na2 ca2 : Nat) (Aa3 : Option Addr) (na3 ca3 : Nat) (t : TwoM) (i : Int) (w : World) (h : Rd w w.heap.size t.cells [.slice Aa0 na0 ca0, .slice Aa1 na1 ca1, .slice Aa2 na2 ca2, .slice Aa3 na3 ca3]) (hs : t.sz ≤ 1048576) :
    Calls Try.prog 28 #[.agg #[.slice Aa0 na0 ca0, .slice Aa1 na1 ca1, .slice Aa2 na2 ca2, .slice Aa3 na3 ca3], .int .i64 i] w fun e w' => ∃ A n c, e = .returned (.slice A n c) ∧ Has w' w.heap.size [keptD (rightAt t i)] [.slice A n c] ∧ Below w.heap.size w w' := by
  obtain ⟨ha, hb⟩ := h.halves
  have hsa : t.a.sz ≤ 1048576 := by unfold TwoM.sz at hs; omega
  have hsb : t.b.sz ≤ 1048576 := by unfold TwoM.sz at hs; omega
  have hn0 : na0 ≤ 1048577 := by
    have := rdKeptLen ha
    unfold DiskM.sz rowsSz at hsa
    omega
  cases hok : twoOk t
  case false =>
    have HR := Lib.hid (show rightAt t i = [] by simp [rightAt, hok])
    have HT := Lib.hid hok
    clear hok
    have S := Sep.nil w w.heap.size
    have c := Below.refl w.heap.size w
    replace S := S.boxAt c.size (w.heap.size) rfl #[.slice Aa0 na0 ca0, .slice Aa1 na1 ca1, .slice Aa2 na2 ca2, .slice Aa3 na3 ca3] 32
    replace c := c.alloc c.size (.cells #[.slice Aa0 na0 ca0, .slice Aa1 na1 ca1, .slice Aa2 na2 ca2, .slice Aa3 na3 ca3] 32)
    obtain ⟨fp_o, S'⟩ := S.has ((Below.refl _ _).alloc (Nat.le_refl _) (.cells #[] 35)) (own_lit_rows (p := w.heap.size + 1) (by simp)) c.size
    replace c := c.alloc c.size (.cells #[] 35)
    clear S; have S := S'; clear S'
    go_enter Try.func28, Try.ntmps28
    have f0 : ((w.alloc (.cells #[.slice Aa0 na0 ca0, .slice Aa1 na1 ca1, .slice Aa2 na2 ca2, .slice Aa3 na3 ca3] 32)).alloc (.cells #[] 35)).cell? ⟨w.heap.size, 0, none⟩ = some (.slice Aa0 na0 ca0) := (S.at_ 1 rfl).cell 0
    have f1 : ((w.alloc (.cells #[.slice Aa0 na0 ca0, .slice Aa1 na1 ca1, .slice Aa2 na2 ca2, .slice Aa3 na3 ca3] 32)).alloc (.cells #[] 35)).cell? ⟨w.heap.size, 1, none⟩ = some (.slice Aa1 na1 ca1) := (S.at_ 1 rfl).cell 1
    have f2 : ((w.alloc (.cells #[.slice Aa0 na0 ca0, .slice Aa1 na1 ca1, .slice Aa2 na2 ca2, .slice Aa3 na3 ca3] 32)).alloc (.cells #[] 35)).cell? ⟨w.heap.size, 2, none⟩ = some (.slice Aa2 na2 ca2) := (S.at_ 1 rfl).cell 2
    have f3 : ((w.alloc (.cells #[.slice Aa0 na0 ca0, .slice Aa1 na1 ca1, .slice Aa2 na2 ca2, .slice Aa3 na3 ca3] 32)).alloc (.cells #[] 35)).cell? ⟨w.heap.size, 3, none⟩ = some (.slice Aa3 na3 ca3) := (S.at_ 1 rfl).cell 3
    go_wp2_with fail
    generalize (w.alloc (.cells #[.slice Aa0 na0 ca0, .slice Aa1 na1 ca1, .slice Aa2 na2 ca2, .slice Aa3 na3 ca3] 32)).alloc (.cells #[] 35) = w1 at *
    refine (sTwoOk_any _ _ _ _ _ _ _ _ _ _ _ _ t _ _ (h.keep c) c.size (by omega)).mono ?_
    rintro e w2 ⟨rfl, b⟩
    replace c := c.trans (b.mono c.size)
    replace S := S.keep b
    clear b f0 f1 f2 f3
    rw [HT.out]
    replace S := S.sub (.cons_cons _ (List.nil_sublist _))
    have H := Lib.hid S.first
    have C := Lib.hid c
    clear S c h ha hb
    go_wp2
    go_ret
    exact ⟨_, _, _, rfl, by rw [HR.out]; exact H.out, C.out⟩
  have HT := Lib.hid hok
  cases hh : hasS t.a i
  case false =>
    have HR := Lib.hid (show rightAt t i = [] by simp [rightAt, hh])
    have HH := Lib.hid hh
    clear hok hh
    have S := Sep.nil w w.heap.size
    have c := Below.refl w.heap.size w
    replace S := S.boxAt c.size (w.heap.size) rfl #[.slice Aa0 na0 ca0, .slice Aa1 na1 ca1, .slice Aa2 na2 ca2, .slice Aa3 na3 ca3] 32
    replace c := c.alloc c.size (.cells #[.slice Aa0 na0 ca0, .slice Aa1 na1 ca1, .slice Aa2 na2 ca2, .slice Aa3 na3 ca3] 32)
    obtain ⟨fp_o, S'⟩ := S.has ((Below.refl _ _).alloc (Nat.le_refl _) (.cells #[] 35)) (own_lit_rows (p := w.heap.size + 1) (by simp)) c.size
    replace c := c.alloc c.size (.cells #[] 35)
    clear S; have S := S'; clear S'
    go_enter Try.func28, Try.ntmps28
    have f0 : ((w.alloc (.cells #[.slice Aa0 na0 ca0, .slice Aa1 na1 ca1, .slice Aa2 na2 ca2, .slice Aa3 na3 ca3] 32)).alloc (.cells #[] 35)).cell? ⟨w.heap.size, 0, none⟩ = some (.slice Aa0 na0 ca0) := (S.at_ 1 rfl).cell 0
    have f1 : ((w.alloc (.cells #[.slice Aa0 na0 ca0, .slice Aa1 na1 ca1, .slice Aa2 na2 ca2, .slice Aa3 na3 ca3] 32)).alloc (.cells #[] 35)).cell? ⟨w.heap.size, 1, none⟩ = some (.slice Aa1 na1 ca1) := (S.at_ 1 rfl).cell 1
    have f2 : ((w.alloc (.cells #[.slice Aa0 na0 ca0, .slice Aa1 na1 ca1, .slice Aa2 na2 ca2, .slice Aa3 na3 ca3] 32)).alloc (.cells #[] 35)).cell? ⟨w.heap.size, 2, none⟩ = some (.slice Aa2 na2 ca2) := (S.at_ 1 rfl).cell 2
    have f3 : ((w.alloc (.cells #[.slice Aa0 na0 ca0, .slice Aa1 na1 ca1, .slice Aa2 na2 ca2, .slice Aa3 na3 ca3] 32)).alloc (.cells #[] 35)).cell? ⟨w.heap.size, 3, none⟩ = some (.slice Aa3 na3 ca3) := (S.at_ 1 rfl).cell 3
    go_wp2_with fail
    generalize (w.alloc (.cells #[.slice Aa0 na0 ca0, .slice Aa1 na1 ca1, .slice Aa2 na2 ca2, .slice Aa3 na3 ca3] 32)).alloc (.cells #[] 35) = w1 at *
    refine (sTwoOk_any _ _ _ _ _ _ _ _ _ _ _ _ t _ _ (h.keep c) c.size (by omega)).mono ?_
    rintro e w2 ⟨rfl, b⟩
    replace c := c.trans (b.mono c.size)
    replace S := S.keep b
    clear b f0 f1 f2 f3
    rw [HT.out]
    have f4 : w2.cell? ⟨w.heap.size, 0, none⟩ = some (.slice Aa0 na0 ca0) := (S.at_ 1 rfl).cell 0
    have f5 : w2.cell? ⟨w.heap.size, 1, none⟩ = some (.slice Aa1 na1 ca1) := (S.at_ 1 rfl).cell 1
    go_wp2_with fail
    refine (sHas_any _ _ _ _ _ _ t.a i _ (rdKeptLen ha) hn0).mono ?_
    rintro e w3 ⟨rfl, b⟩
    replace c := c.trans (b.mono c.size)
    replace S := S.keep b
    clear b f4 f5
    rw [HH.out]
    replace S := S.sub (.cons_cons _ (List.nil_sublist _))
    have H := Lib.hid S.first
    have C := Lib.hid c
    clear S c h ha hb
    go_wp2
    go_ret
    exact ⟨_, _, _, rfl, by rw [HR.out]; exact H.out, C.out⟩
  have HH := Lib.hid hh
  cases h1 : (rightOf t.a i).2
  case false =>
    have H1 := Lib.hid (show (unsummed (readAt t.a i).1).2 = false from h1)
    cases h2 : (rightOf t.b i).2
    case false =>
      have HR := Lib.hid (show rightAt t i = [] by simp [rightAt, h1, h2])
      have H2 := Lib.hid (show (unsummed (readAt t.b i).1).2 = false from h2)
      clear hok hh h1 h2
      have S := Sep.nil w w.heap.size
      have c := Below.refl w.heap.size w
      replace S := S.boxAt c.size (w.heap.size) rfl #[.slice Aa0 na0 ca0, .slice Aa1 na1 ca1, .slice Aa2 na2 ca2, .slice Aa3 na3 ca3] 32
      replace c := c.alloc c.size (.cells #[.slice Aa0 na0 ca0, .slice Aa1 na1 ca1, .slice Aa2 na2 ca2, .slice Aa3 na3 ca3] 32)
      obtain ⟨fp_o, S'⟩ := S.has ((Below.refl _ _).alloc (Nat.le_refl _) (.cells #[] 35)) (own_lit_rows (p := w.heap.size + 1) (by simp)) c.size
      replace c := c.alloc c.size (.cells #[] 35)
      clear S; have S := S'; clear S'
      go_enter Try.func28, Try.ntmps28
      have f0 : ((w.alloc (.cells #[.slice Aa0 na0 ca0, .slice Aa1 na1 ca1, .slice Aa2 na2 ca2, .slice Aa3 na3 ca3] 32)).alloc (.cells #[] 35)).cell? ⟨w.heap.size, 0, none⟩ = some (.slice Aa0 na0 ca0) := (S.at_ 1 rfl).cell 0
      have f1 : ((w.alloc (.cells #[.slice Aa0 na0 ca0, .slice Aa1 na1 ca1, .slice Aa2 na2 ca2, .slice Aa3 na3 ca3] 32)).alloc (.cells #[] 35)).cell? ⟨w.heap.size, 1, none⟩ = some (.slice Aa1 na1 ca1) := (S.at_ 1 rfl).cell 1
      have f2 : ((w.alloc (.cells #[.slice Aa0 na0 ca0, .slice Aa1 na1 ca1, .slice Aa2 na2 ca2, .slice Aa3 na3 ca3] 32)).alloc (.cells #[] 35)).cell? ⟨w.heap.size, 2, none⟩ = some (.slice Aa2 na2 ca2) := (S.at_ 1 rfl).cell 2
      have f3 : ((w.alloc (.cells #[.slice Aa0 na0 ca0, .slice Aa1 na1 ca1, .slice Aa2 na2 ca2, .slice Aa3 na3 ca3] 32)).alloc (.cells #[] 35)).cell? ⟨w.heap.size, 3, none⟩ = some (.slice Aa3 na3 ca3) := (S.at_ 1 rfl).cell 3
      go_wp2_with fail
      generalize (w.alloc (.cells #[.slice Aa0 na0 ca0, .slice Aa1 na1 ca1, .slice Aa2 na2 ca2, .slice Aa3 na3 ca3] 32)).alloc (.cells #[] 35) = w1 at *
      refine (sTwoOk_any _ _ _ _ _ _ _ _ _ _ _ _ t _ _ (h.keep c) c.size (by omega)).mono ?_
      rintro e w2 ⟨rfl, b⟩
      replace c := c.trans (b.mono c.size)
      replace S := S.keep b
      clear b f0 f1 f2 f3
      rw [HT.out]
      have f4 : w2.cell? ⟨w.heap.size, 0, none⟩ = some (.slice Aa0 na0 ca0) := (S.at_ 1 rfl).cell 0
      have f5 : w2.cell? ⟨w.heap.size, 1, none⟩ = some (.slice Aa1 na1 ca1) := (S.at_ 1 rfl).cell 1
      go_wp2_with fail
      refine (sHas_any _ _ _ _ _ _ t.a i _ (rdKeptLen ha) hn0).mono ?_
      rintro e w3 ⟨rfl, b⟩
      replace c := c.trans (b.mono c.size)
      replace S := S.keep b
      clear b f4 f5
      rw [HH.out]
      have f6 : w3.cell? ⟨w.heap.size, 0, none⟩ = some (.slice Aa0 na0 ca0) := (S.at_ 1 rfl).cell 0
      have f7 : w3.cell? ⟨w.heap.size, 1, none⟩ = some (.slice Aa1 na1 ca1) := (S.at_ 1 rfl).cell 1
      go_wp2_with fail
      refine (sReadAt_any _ _ t.a i _ ((ha.keep c).up c.size) (by omega)).mono ?_
      rintro e w4 ⟨Ax0, nx0, cx0, rfl, o, b⟩
      obtain ⟨fp_x, S'⟩ := S.has b o c.size
      replace c := c.trans (b.mono c.size)
      clear S; have S := S'; clear S' o b f6 f7
      have f8 : w4.cell? ⟨w.heap.size, 2, none⟩ = some (.slice Aa2 na2 ca2) := (S.at_ 2 rfl).cell 2
      have f9 : w4.cell? ⟨w.heap.size, 3, none⟩ = some (.slice Aa3 na3 ca3) := (S.at_ 2 rfl).cell 3
      go_wp2_with fail
      refine (sReadAt_any _ _ t.b i _ ((hb.keep c).up c.size) (by omega)).mono ?_
      rintro e w5 ⟨Ay0, ny0, cy0, rfl, o, b⟩
      obtain ⟨fp_y, S'⟩ := S.has b o c.size
      replace c := c.trans (b.mono c.size)
      clear S; have S := S'; clear S' o b f8 f9
      go_wp2_with fail
      refine (sUnsD _ _ _ _ _ ((S.own_ 1 rfl).rd) (readAt_sz _ _ hsa)).mono ?_
      rintro e w6 ⟨Ap0, np0, cp0, rfl, o, b⟩
      obtain ⟨fp_p, S'⟩ := S.has b o c.size
      replace c := c.trans (b.mono c.size)
      clear S; have S := S'; clear S' o b
      rw [H1.out]
      go_wp2_with fail
      refine (sUnsD _ _ _ _ _ ((S.own_ 1 rfl).rd) (readAt_sz _ _ hsb)).mono ?_
      rintro e w7 ⟨Aq0, nq0, cq0, rfl, o, b⟩
      obtain ⟨fp_q, S'⟩ := S.has b o c.size
      replace c := c.trans (b.mono c.size)
      clear S; have S := S'; clear S' o b
      rw [H2.out]
      replace S := S.sub (.cons_cons _ (.cons_cons _ (.cons _ (.cons _ (.cons_cons _ (.cons_cons _ (List.nil_sublist _)))))))
      change Sep _ _ [.own (rowCells (rightOf t.b i).1) _ _, .own (rowCells (rightOf t.a i).1) _ _, _, _] at S
      replace S := S.sub (.cons _ (.cons _ (.cons_cons _ (List.nil_sublist _))))
      have H := Lib.hid S.first
      have C := Lib.hid c
      clear S c h ha hb
      go_wp2
      go_ret
      exact ⟨_, _, _, rfl, by rw [HR.out]; exact H.out, C.out⟩
    have HR := Lib.hid (show rightAt t i = [] ++ [(rightOf t.b i).1] by simp [rightAt, h1, h2, hok, hh])
    have H2 := Lib.hid (show (unsummed (readAt t.b i).1).2 = true from h2)
    clear hok hh h1 h2
    have S := Sep.nil w w.heap.size
    have c := Below.refl w.heap.size w
    replace S := S.boxAt c.size (w.heap.size) rfl #[.slice Aa0 na0 ca0, .slice Aa1 na1 ca1, .slice Aa2 na2 ca2, .slice Aa3 na3 ca3] 32
    replace c := c.alloc c.size (.cells #[.slice Aa0 na0 ca0, .slice Aa1 na1 ca1, .slice Aa2 na2 ca2, .slice Aa3 na3 ca3] 32)
    obtain ⟨fp_o, S'⟩ := S.has ((Below.refl _ _).alloc (Nat.le_refl _) (.cells #[] 35)) (own_lit_rows (p := w.heap.size + 1) (by simp)) c.size
    replace c := c.alloc c.size (.cells #[] 35)
    clear S; have S := S'; clear S'
    go_enter Try.func28, Try.ntmps28
    have f0 : ((w.alloc (.cells #[.slice Aa0 na0 ca0, .slice Aa1 na1 ca1, .slice Aa2 na2 ca2, .slice Aa3 na3 ca3] 32)).alloc (.cells #[] 35)).cell? ⟨w.heap.size, 0, none⟩ = some (.slice Aa0 na0 ca0) := (S.at_ 1 rfl).cell 0
    have f1 : ((w.alloc (.cells #[.slice Aa0 na0 ca0, .slice Aa1 na1 ca1, .slice Aa2 na2 ca2, .slice Aa3 na3 ca3] 32)).alloc (.cells #[] 35)).cell? ⟨w.heap.size, 1, none⟩ = some (.slice Aa1 na1 ca1) := (S.at_ 1 rfl).cell 1
    have f2 : ((w.alloc (.cells #[.slice Aa0 na0 ca0, .slice Aa1 na1 ca1, .slice Aa2 na2 ca2, .slice Aa3 na3 ca3] 32)).alloc (.cells #[] 35)).cell? ⟨w.heap.size, 2, none⟩ = some (.slice Aa2 na2 ca2) := (S.at_ 1 rfl).cell 2
    have f3 : ((w.alloc (.cells #[.slice Aa0 na0 ca0, .slice Aa1 na1 ca1, .slice Aa2 na2 ca2, .slice Aa3 na3 ca3] 32)).alloc (.cells #[] 35)).cell? ⟨w.heap.size, 3, none⟩ = some (.slice Aa3 na3 ca3) := (S.at_ 1 rfl).cell 3
    go_wp2_with fail
    generalize (w.alloc (.cells #[.slice Aa0 na0 ca0, .slice Aa1 na1 ca1, .slice Aa2 na2 ca2, .slice Aa3 na3 ca3] 32)).alloc (.cells #[] 35) = w1 at *
    refine (sTwoOk_any _ _ _ _ _ _ _ _ _ _ _ _ t _ _ (h.keep c) c.size (by omega)).mono ?_
    rintro e w2 ⟨rfl, b⟩
    replace c := c.trans (b.mono c.size)
    replace S := S.keep b
    clear b f0 f1 f2 f3
    rw [HT.out]
    have f4 : w2.cell? ⟨w.heap.size, 0, none⟩ = some (.slice Aa0 na0 ca0) := (S.at_ 1 rfl).cell 0
    have f5 : w2.cell? ⟨w.heap.size, 1, none⟩ = some (.slice Aa1 na1 ca1) := (S.at_ 1 rfl).cell 1
    go_wp2_with fail
    refine (sHas_any _ _ _ _ _ _ t.a i _ (rdKeptLen ha) hn0).mono ?_
    rintro e w3 ⟨rfl, b⟩
    replace c := c.trans (b.mono c.size)
    replace S := S.keep b
    clear b f4 f5
    rw [HH.out]
    have f6 : w3.cell? ⟨w.heap.size, 0, none⟩ = some (.slice Aa0 na0 ca0) := (S.at_ 1 rfl).cell 0
    have f7 : w3.cell? ⟨w.heap.size, 1, none⟩ = some (.slice Aa1 na1 ca1) := (S.at_ 1 rfl).cell 1
    go_wp2_with fail
    refine (sReadAt_any _ _ t.a i _ ((ha.keep c).up c.size) (by omega)).mono ?_
    rintro e w4 ⟨Ax0, nx0, cx0, rfl, o, b⟩
    obtain ⟨fp_x, S'⟩ := S.has b o c.size
    replace c := c.trans (b.mono c.size)
    clear S; have S := S'; clear S' o b f6 f7
    have f8 : w4.cell? ⟨w.heap.size, 2, none⟩ = some (.slice Aa2 na2 ca2) := (S.at_ 2 rfl).cell 2
    have f9 : w4.cell? ⟨w.heap.size, 3, none⟩ = some (.slice Aa3 na3 ca3) := (S.at_ 2 rfl).cell 3
    go_wp2_with fail
    refine (sReadAt_any _ _ t.b i _ ((hb.keep c).up c.size) (by omega)).mono ?_
    rintro e w5 ⟨Ay0, ny0, cy0, rfl, o, b⟩
    obtain ⟨fp_y, S'⟩ := S.has b o c.size
    replace c := c.trans (b.mono c.size)
    clear S; have S := S'; clear S' o b f8 f9
    go_wp2_with fail
    refine (sUnsD _ _ _ _ _ ((S.own_ 1 rfl).rd) (readAt_sz _ _ hsa)).mono ?_
    rintro e w6 ⟨Ap0, np0, cp0, rfl, o, b⟩
    obtain ⟨fp_p, S'⟩ := S.has b o c.size
    replace c := c.trans (b.mono c.size)
    clear S; have S := S'; clear S' o b
    rw [H1.out]
    go_wp2_with fail
    refine (sUnsD _ _ _ _ _ ((S.own_ 1 rfl).rd) (readAt_sz _ _ hsb)).mono ?_
    rintro e w7 ⟨Aq0, nq0, cq0, rfl, o, b⟩
    obtain ⟨fp_q, S'⟩ := S.has b o c.size
    replace c := c.trans (b.mono c.size)
    clear S; have S := S'; clear S' o b
    rw [H2.out]
    replace S := S.sub (.cons_cons _ (.cons_cons _ (.cons _ (.cons _ (.cons_cons _ (.cons_cons _ (List.nil_sublist _)))))))
    change Sep _ _ [.own (rowCells (rightOf t.b i).1) _ _, .own (rowCells (rightOf t.a i).1) _ _, _, _] at S
    replace S := S.boxAt c.size (w7.heap.size) rfl #[.slice Aq0 nq0 cq0] 35
    replace c := c.alloc c.size (.cells #[.slice Aq0 nq0 cq0] 35)
    have HC : ∀ i, i < 1 → (w7.alloc (.cells #[.slice Aq0 nq0 cq0] 35)).cell? ⟨w7.heap.size, i, none⟩ = [Value.slice Aq0 nq0 cq0][i]? := fun i hi => by
      have h1 := (S.at_ 0 rfl).cell i
      have : i = 0 := by omega
      subst this
      exact h1
    replace S := S.pick 1 rfl
    replace S := S.pick 3 rfl
    go_wp2_with (first
      | (at_builtin
         refine wpList_append_elem (l := []) (y := (rightOf t.b i).1) rfl (.tmp 65) (.tmp 67) (by rfl) Try.underlying27 infoRow (by rfl) (by decide) rowC_len (by rfl) (S.own_ 0 rfl) (S.nodup_own 0 rfl) (by rfl) HC (S.own_ 1 rfl) (S.nodup_own 1 rfl) S.apart (by omega) (by omega) ?_
         intro Al0 cl0 w8 fp_l o3 n3 s3 t3))
    have S' := S.merge t3 o3 n3 s3 c.size
    replace c := c.trans (S.below 0 rfl t3 c.size)
    clear S; have S := S'; clear S' o3 n3 s3 t3 HC
    replace S := S.sub (.cons_cons _ (List.nil_sublist _))
    have H := Lib.hid S.first
    have C := Lib.hid c
    clear S c h ha hb
    go_ret
    exact ⟨_, _, _, rfl, by rw [HR.out]; exact H.out, C.out⟩
  have H1 := Lib.hid (show (unsummed (readAt t.a i).1).2 = true from h1)
  cases h2 : (rightOf t.b i).2
  case false =>
    have HR := Lib.hid (show rightAt t i = [] ++ [(rightOf t.a i).1] by simp [rightAt, h1, h2, hok, hh])
    have H2 := Lib.hid (show (unsummed (readAt t.b i).1).2 = false from h2)
    clear hok hh h1 h2
    have S := Sep.nil w w.heap.size
    have c := Below.refl w.heap.size w
    replace S := S.boxAt c.size (w.heap.size) rfl #[.slice Aa0 na0 ca0, .slice Aa1 na1 ca1, .slice Aa2 na2 ca2, .slice Aa3 na3 ca3] 32
    replace c := c.alloc c.size (.cells #[.slice Aa0 na0 ca0, .slice Aa1 na1 ca1, .slice Aa2 na2 ca2, .slice Aa3 na3 ca3] 32)
    obtain ⟨fp_o, S'⟩ := S.has ((Below.refl _ _).alloc (Nat.le_refl _) (.cells #[] 35)) (own_lit_rows (p := w.heap.size + 1) (by simp)) c.size
    replace c := c.alloc c.size (.cells #[] 35)
    clear S; have S := S'; clear S'
    go_enter Try.func28, Try.ntmps28
    have f0 : ((w.alloc (.cells #[.slice Aa0 na0 ca0, .slice Aa1 na1 ca1, .slice Aa2 na2 ca2, .slice Aa3 na3 ca3] 32)).alloc (.cells #[] 35)).cell? ⟨w.heap.size, 0, none⟩ = some (.slice Aa0 na0 ca0) := (S.at_ 1 rfl).cell 0
    have f1 : ((w.alloc (.cells #[.slice Aa0 na0 ca0, .slice Aa1 na1 ca1, .slice Aa2 na2 ca2, .slice Aa3 na3 ca3] 32)).alloc (.cells #[] 35)).cell? ⟨w.heap.size, 1, none⟩ = some (.slice Aa1 na1 ca1) := (S.at_ 1 rfl).cell 1
    have f2 : ((w.alloc (.cells #[.slice Aa0 na0 ca0, .slice Aa1 na1 ca1, .slice Aa2 na2 ca2, .slice Aa3 na3 ca3] 32)).alloc (.cells #[] 35)).cell? ⟨w.heap.size, 2, none⟩ = some (.slice Aa2 na2 ca2) := (S.at_ 1 rfl).cell 2
    have f3 : ((w.alloc (.cells #[.slice Aa0 na0 ca0, .slice Aa1 na1 ca1, .slice Aa2 na2 ca2, .slice Aa3 na3 ca3] 32)).alloc (.cells #[] 35)).cell? ⟨w.heap.size, 3, none⟩ = some (.slice Aa3 na3 ca3) := (S.at_ 1 rfl).cell 3
    go_wp2_with fail
    generalize (w.alloc (.cells #[.slice Aa0 na0 ca0, .slice Aa1 na1 ca1, .slice Aa2 na2 ca2, .slice Aa3 na3 ca3] 32)).alloc (.cells #[] 35) = w1 at *
    refine (sTwoOk_any _ _ _ _ _ _ _ _ _ _ _ _ t _ _ (h.keep c) c.size (by omega)).mono ?_
    rintro e w2 ⟨rfl, b⟩
    replace c := c.trans (b.mono c.size)
    replace S := S.keep b
    clear b f0 f1 f2 f3
    rw [HT.out]
    have f4 : w2.cell? ⟨w.heap.size, 0, none⟩ = some (.slice Aa0 na0 ca0) := (S.at_ 1 rfl).cell 0
    have f5 : w2.cell? ⟨w.heap.size, 1, none⟩ = some (.slice Aa1 na1 ca1) := (S.at_ 1 rfl).cell 1
    go_wp2_with fail
    refine (sHas_any _ _ _ _ _ _ t.a i _ (rdKeptLen ha) hn0).mono ?_
    rintro e w3 ⟨rfl, b⟩
    replace c := c.trans (b.mono c.size)
    replace S := S.keep b
    clear b f4 f5
    rw [HH.out]
    have f6 : w3.cell? ⟨w.heap.size, 0, none⟩ = some (.slice Aa0 na0 ca0) := (S.at_ 1 rfl).cell 0
    have f7 : w3.cell? ⟨w.heap.size, 1, none⟩ = some (.slice Aa1 na1 ca1) := (S.at_ 1 rfl).cell 1
    go_wp2_with fail
    refine (sReadAt_any _ _ t.a i _ ((ha.keep c).up c.size) (by omega)).mono ?_
    rintro e w4 ⟨Ax0, nx0, cx0, rfl, o, b⟩
    obtain ⟨fp_x, S'⟩ := S.has b o c.size
    replace c := c.trans (b.mono c.size)
    clear S; have S := S'; clear S' o b f6 f7
    have f8 : w4.cell? ⟨w.heap.size, 2, none⟩ = some (.slice Aa2 na2 ca2) := (S.at_ 2 rfl).cell 2
    have f9 : w4.cell? ⟨w.heap.size, 3, none⟩ = some (.slice Aa3 na3 ca3) := (S.at_ 2 rfl).cell 3
    go_wp2_with fail
    refine (sReadAt_any _ _ t.b i _ ((hb.keep c).up c.size) (by omega)).mono ?_
    rintro e w5 ⟨Ay0, ny0, cy0, rfl, o, b⟩
    obtain ⟨fp_y, S'⟩ := S.has b o c.size
    replace c := c.trans (b.mono c.size)
    clear S; have S := S'; clear S' o b f8 f9
    go_wp2_with fail
    refine (sUnsD _ _ _ _ _ ((S.own_ 1 rfl).rd) (readAt_sz _ _ hsa)).mono ?_
    rintro e w6 ⟨Ap0, np0, cp0, rfl, o, b⟩
    obtain ⟨fp_p, S'⟩ := S.has b o c.size
    replace c := c.trans (b.mono c.size)
    clear S; have S := S'; clear S' o b
    rw [H1.out]
    go_wp2_with fail
    refine (sUnsD _ _ _ _ _ ((S.own_ 1 rfl).rd) (readAt_sz _ _ hsb)).mono ?_
    rintro e w7 ⟨Aq0, nq0, cq0, rfl, o, b⟩
    obtain ⟨fp_q, S'⟩ := S.has b o c.size
    replace c := c.trans (b.mono c.size)
    clear S; have S := S'; clear S' o b
    rw [H2.out]
    replace S := S.sub (.cons_cons _ (.cons_cons _ (.cons _ (.cons _ (.cons_cons _ (.cons_cons _ (List.nil_sublist _)))))))
    change Sep _ _ [.own (rowCells (rightOf t.b i).1) _ _, .own (rowCells (rightOf t.a i).1) _ _, _, _] at S
    replace S := S.boxAt c.size (w7.heap.size) rfl #[.slice Ap0 np0 cp0] 35
    replace c := c.alloc c.size (.cells #[.slice Ap0 np0 cp0] 35)
    have HC : ∀ i, i < 1 → (w7.alloc (.cells #[.slice Ap0 np0 cp0] 35)).cell? ⟨w7.heap.size, i, none⟩ = [Value.slice Ap0 np0 cp0][i]? := fun i hi => by
      have h1 := (S.at_ 0 rfl).cell i
      have : i = 0 := by omega
      subst this
      exact h1
    replace S := S.pick 2 rfl
    replace S := S.pick 3 rfl
    go_wp2_with (first
      | (at_builtin
         refine wpList_append_elem (l := []) (y := (rightOf t.a i).1) rfl (.tmp 51) (.tmp 53) (by rfl) Try.underlying27 infoRow (by rfl) (by decide) rowC_len (by rfl) (S.own_ 0 rfl) (S.nodup_own 0 rfl) (by rfl) HC (S.own_ 1 rfl) (S.nodup_own 1 rfl) S.apart (by omega) (by omega) ?_
         intro Al0 cl0 w8 fp_l o3 n3 s3 t3))
    have S' := S.merge t3 o3 n3 s3 c.size
    replace c := c.trans (S.below 0 rfl t3 c.size)
    clear S; have S := S'; clear S' o3 n3 s3 t3 HC
    replace S := S.sub (.cons_cons _ (List.nil_sublist _))
    have H := Lib.hid S.first
    have C := Lib.hid c
    clear S c h ha hb
    go_ret
    exact ⟨_, _, _, rfl, by rw [HR.out]; exact H.out, C.out⟩
  have H2 := Lib.hid (show (unsummed (readAt t.b i).1).2 = true from h2)
  have hp1 : (rightOf t.a i).1.length ≤ 1048577 := Nat.le_trans (unsummed_len _) (by omega)
  have hq1 : (rightOf t.b i).1.length ≤ 1048577 := Nat.le_trans (unsummed_len _) (by omega)
  cases hsm : sameI (rightOf t.a i).1 (rightOf t.b i).1
  case true =>
    have HS := Lib.hid hsm
    have HR := Lib.hid (show rightAt t i = [] ++ [(rightOf t.a i).1] by
      have e : (rightOf t.a i).1 = (rightOf t.b i).1 := by simpa [sameI] using hsm
      simp [rightAt, h1, h2, hok, hh, e])
    clear hok hh h1 h2 hsm
    have S := Sep.nil w w.heap.size
    have c := Below.refl w.heap.size w
    replace S := S.boxAt c.size (w.heap.size) rfl #[.slice Aa0 na0 ca0, .slice Aa1 na1 ca1, .slice Aa2 na2 ca2, .slice Aa3 na3 ca3] 32
    replace c := c.alloc c.size (.cells #[.slice Aa0 na0 ca0, .slice Aa1 na1 ca1, .slice Aa2 na2 ca2, .slice Aa3 na3 ca3] 32)
    obtain ⟨fp_o, S'⟩ := S.has ((Below.refl _ _).alloc (Nat.le_refl _) (.cells #[] 35)) (own_lit_rows (p := w.heap.size + 1) (by simp)) c.size
    replace c := c.alloc c.size (.cells #[] 35)
    clear S; have S := S'; clear S'
    go_enter Try.func28, Try.ntmps28
    have f0 : ((w.alloc (.cells #[.slice Aa0 na0 ca0, .slice Aa1 na1 ca1, .slice Aa2 na2 ca2, .slice Aa3 na3 ca3] 32)).alloc (.cells #[] 35)).cell? ⟨w.heap.size, 0, none⟩ = some (.slice Aa0 na0 ca0) := (S.at_ 1 rfl).cell 0
    have f1 : ((w.alloc (.cells #[.slice Aa0 na0 ca0, .slice Aa1 na1 ca1, .slice Aa2 na2 ca2, .slice Aa3 na3 ca3] 32)).alloc (.cells #[] 35)).cell? ⟨w.heap.size, 1, none⟩ = some (.slice Aa1 na1 ca1) := (S.at_ 1 rfl).cell 1
    have f2 : ((w.alloc (.cells #[.slice Aa0 na0 ca0, .slice Aa1 na1 ca1, .slice Aa2 na2 ca2, .slice Aa3 na3 ca3] 32)).alloc (.cells #[] 35)).cell? ⟨w.heap.size, 2, none⟩ = some (.slice Aa2 na2 ca2) := (S.at_ 1 rfl).cell 2
    have f3 : ((w.alloc (.cells #[.slice Aa0 na0 ca0, .slice Aa1 na1 ca1, .slice Aa2 na2 ca2, .slice Aa3 na3 ca3] 32)).alloc (.cells #[] 35)).cell? ⟨w.heap.size, 3, none⟩ = some (.slice Aa3 na3 ca3) := (S.at_ 1 rfl).cell 3
    go_wp2_with fail
    generalize (w.alloc (.cells #[.slice Aa0 na0 ca0, .slice Aa1 na1 ca1, .slice Aa2 na2 ca2, .slice Aa3 na3 ca3] 32)).alloc (.cells #[] 35) = w1 at *
    refine (sTwoOk_any _ _ _ _ _ _ _ _ _ _ _ _ t _ _ (h.keep c) c.size (by omega)).mono ?_
    rintro e w2 ⟨rfl, b⟩
    replace c := c.trans (b.mono c.size)
    replace S := S.keep b
    clear b f0 f1 f2 f3
    rw [HT.out]
    have f4 : w2.cell? ⟨w.heap.size, 0, none⟩ = some (.slice Aa0 na0 ca0) := (S.at_ 1 rfl).cell 0
    have f5 : w2.cell? ⟨w.heap.size, 1, none⟩ = some (.slice Aa1 na1 ca1) := (S.at_ 1 rfl).cell 1
    go_wp2_with fail
    refine (sHas_any _ _ _ _ _ _ t.a i _ (rdKeptLen ha) hn0).mono ?_
    rintro e w3 ⟨rfl, b⟩
    replace c := c.trans (b.mono c.size)
    replace S := S.keep b
    clear b f4 f5
    rw [HH.out]
    have f6 : w3.cell? ⟨w.heap.size, 0, none⟩ = some (.slice Aa0 na0 ca0) := (S.at_ 1 rfl).cell 0
    have f7 : w3.cell? ⟨w.heap.size, 1, none⟩ = some (.slice Aa1 na1 ca1) := (S.at_ 1 rfl).cell 1
    go_wp2_with fail
    refine (sReadAt_any _ _ t.a i _ ((ha.keep c).up c.size) (by omega)).mono ?_
    rintro e w4 ⟨Ax0, nx0, cx0, rfl, o, b⟩
    obtain ⟨fp_x, S'⟩ := S.has b o c.size
    replace c := c.trans (b.mono c.size)
    clear S; have S := S'; clear S' o b f6 f7
    have f8 : w4.cell? ⟨w.heap.size, 2, none⟩ = some (.slice Aa2 na2 ca2) := (S.at_ 2 rfl).cell 2
    have f9 : w4.cell? ⟨w.heap.size, 3, none⟩ = some (.slice Aa3 na3 ca3) := (S.at_ 2 rfl).cell 3
    go_wp2_with fail
    refine (sReadAt_any _ _ t.b i _ ((hb.keep c).up c.size) (by omega)).mono ?_
    rintro e w5 ⟨Ay0, ny0, cy0, rfl, o, b⟩
    obtain ⟨fp_y, S'⟩ := S.has b o c.size
    replace c := c.trans (b.mono c.size)
    clear S; have S := S'; clear S' o b f8 f9
    go_wp2_with fail
    refine (sUnsD _ _ _ _ _ ((S.own_ 1 rfl).rd) (readAt_sz _ _ hsa)).mono ?_
    rintro e w6 ⟨Ap0, np0, cp0, rfl, o, b⟩
    obtain ⟨fp_p, S'⟩ := S.has b o c.size
    replace c := c.trans (b.mono c.size)
    clear S; have S := S'; clear S' o b
    rw [H1.out]
    go_wp2_with fail
    refine (sUnsD _ _ _ _ _ ((S.own_ 1 rfl).rd) (readAt_sz _ _ hsb)).mono ?_
    rintro e w7 ⟨Aq0, nq0, cq0, rfl, o, b⟩
    obtain ⟨fp_q, S'⟩ := S.has b o c.size
    replace c := c.trans (b.mono c.size)
    clear S; have S := S'; clear S' o b
    rw [H2.out]
    replace S := S.sub (.cons_cons _ (.cons_cons _ (.cons _ (.cons _ (.cons_cons _ (.cons_cons _ (List.nil_sublist _)))))))
    change Sep _ _ [.own (rowCells (rightOf t.b i).1) _ _, .own (rowCells (rightOf t.a i).1) _ _, _, _] at S
    replace S := S.boxAt c.size (w7.heap.size) rfl #[.slice Ap0 np0 cp0] 35
    replace c := c.alloc c.size (.cells #[.slice Ap0 np0 cp0] 35)
    have HC : ∀ i, i < 1 → (w7.alloc (.cells #[.slice Ap0 np0 cp0] 35)).cell? ⟨w7.heap.size, i, none⟩ = [Value.slice Ap0 np0 cp0][i]? := fun i hi => by
      have h1 := (S.at_ 0 rfl).cell i
      have : i = 0 := by omega
      subst this
      exact h1
    replace S := S.pick 2 rfl
    replace S := S.pick 3 rfl
    go_wp2_with (first
      | (at_builtin
         refine wpList_append_elem (l := []) (y := (rightOf t.a i).1) rfl (.tmp 51) (.tmp 53) (by rfl) Try.underlying27 infoRow (by rfl) (by decide) rowC_len (by rfl) (S.own_ 0 rfl) (S.nodup_own 0 rfl) (by rfl) HC (S.own_ 1 rfl) (S.nodup_own 1 rfl) S.apart (by omega) (by omega) ?_
         intro Al0 cl0 w8 fp_l o3 n3 s3 t3))
    have OP := ((S.own_ 1 rfl).touch t3 S.apart).rd
    have S' := S.merge t3 o3 n3 s3 c.size
    replace c := c.trans (S.below 0 rfl t3 c.size)
    clear S; have S := S'; clear S' o3 n3 s3 t3 HC
    refine (sSameD _ _ _ _ _ _ _ _ _ _ _ OP ((S.own_ 2 rfl).rd) hp1 hq1).mono ?_
    rintro e w9 ⟨rfl, b⟩
    replace c := c.trans (b.mono c.size)
    replace S := S.keep b
    clear b
    rw [HS.out]
    clear OP
    replace S := S.sub (.cons_cons _ (List.nil_sublist _))
    have H := Lib.hid S.first
    have C := Lib.hid c
    clear S c h ha hb
    go_wp2
    go_ret
    exact ⟨_, _, _, rfl, by rw [HR.out]; exact H.out, C.out⟩
  have HS := Lib.hid hsm
  have HR := Lib.hid (show rightAt t i = [] ++ [(rightOf t.a i).1] ++ [(rightOf t.b i).1] by
    have e : ¬ ((rightOf t.a i).1 = (rightOf t.b i).1) := by simpa [sameI] using hsm
    simp [rightAt, h1, h2, hok, hh, e])
  clear hok hh h1 h2 hsm
  have S := Sep.nil w w.heap.size
  have c := Below.refl w.heap.size w
  replace S := S.boxAt c.size (w.heap.size) rfl #[.slice Aa0 na0 ca0, .slice Aa1 na1 ca1, .slice Aa2 na2 ca2, .slice Aa3 na3 ca3] 32
  replace c := c.alloc c.size (.cells #[.slice Aa0 na0 ca0, .slice Aa1 na1 ca1, .slice Aa2 na2 ca2, .slice Aa3 na3 ca3] 32)
  obtain ⟨fp_o, S'⟩ := S.has ((Below.refl _ _).alloc (Nat.le_refl _) (.cells #[] 35)) (own_lit_rows (p := w.heap.size + 1) (by simp)) c.size
  replace c := c.alloc c.size (.cells #[] 35)
  clear S; have S := S'; clear S'
  go_enter Try.func28, Try.ntmps28
  have f0 : ((w.alloc (.cells #[.slice Aa0 na0 ca0, .slice Aa1 na1 ca1, .slice Aa2 na2 ca2, .slice Aa3 na3 ca3] 32)).alloc (.cells #[] 35)).cell? ⟨w.heap.size, 0, none⟩ = some (.slice Aa0 na0 ca0) := (S.at_ 1 rfl).cell 0
  have f1 : ((w.alloc (.cells #[.slice Aa0 na0 ca0, .slice Aa1 na1 ca1, .slice Aa2 na2 ca2, .slice Aa3 na3 ca3] 32)).alloc (.cells #[] 35)).cell? ⟨w.heap.size, 1, none⟩ = some (.slice Aa1 na1 ca1) := (S.at_ 1 rfl).cell 1
  have f2 : ((w.alloc (.cells #[.slice Aa0 na0 ca0, .slice Aa1 na1 ca1, .slice Aa2 na2 ca2, .slice Aa3 na3 ca3] 32)).alloc (.cells #[] 35)).cell? ⟨w.heap.size, 2, none⟩ = some (.slice Aa2 na2 ca2) := (S.at_ 1 rfl).cell 2
  have f3 : ((w.alloc (.cells #[.slice Aa0 na0 ca0, .slice Aa1 na1 ca1, .slice Aa2 na2 ca2, .slice Aa3 na3 ca3] 32)).alloc (.cells #[] 35)).cell? ⟨w.heap.size, 3, none⟩ = some (.slice Aa3 na3 ca3) := (S.at_ 1 rfl).cell 3
  go_wp2_with fail
  generalize (w.alloc (.cells #[.slice Aa0 na0 ca0, .slice Aa1 na1 ca1, .slice Aa2 na2 ca2, .slice Aa3 na3 ca3] 32)).alloc (.cells #[] 35) = w1 at *
  refine (sTwoOk_any _ _ _ _ _ _ _ _ _ _ _ _ t _ _ (h.keep c) c.size (by omega)).mono ?_
  rintro e w2 ⟨rfl, b⟩
  replace c := c.trans (b.mono c.size)
  replace S := S.keep b
  clear b f0 f1 f2 f3
  rw [HT.out]
  have f4 : w2.cell? ⟨w.heap.size, 0, none⟩ = some (.slice Aa0 na0 ca0) := (S.at_ 1 rfl).cell 0
  have f5 : w2.cell? ⟨w.heap.size, 1, none⟩ = some (.slice Aa1 na1 ca1) := (S.at_ 1 rfl).cell 1
  go_wp2_with fail
  refine (sHas_any _ _ _ _ _ _ t.a i _ (rdKeptLen ha) hn0).mono ?_
  rintro e w3 ⟨rfl, b⟩
  replace c := c.trans (b.mono c.size)
  replace S := S.keep b
  clear b f4 f5
  rw [HH.out]
  have f6 : w3.cell? ⟨w.heap.size, 0, none⟩ = some (.slice Aa0 na0 ca0) := (S.at_ 1 rfl).cell 0
  have f7 : w3.cell? ⟨w.heap.size, 1, none⟩ = some (.slice Aa1 na1 ca1) := (S.at_ 1 rfl).cell 1
  go_wp2_with fail
  refine (sReadAt_any _ _ t.a i _ ((ha.keep c).up c.size) (by omega)).mono ?_
  rintro e w4 ⟨Ax0, nx0, cx0, rfl, o, b⟩
  obtain ⟨fp_x, S'⟩ := S.has b o c.size
  replace c := c.trans (b.mono c.size)
  clear S; have S := S'; clear S' o b f6 f7
  have f8 : w4.cell? ⟨w.heap.size, 2, none⟩ = some (.slice Aa2 na2 ca2) := (S.at_ 2 rfl).cell 2
  have f9 : w4.cell? ⟨w.heap.size, 3, none⟩ = some (.slice Aa3 na3 ca3) := (S.at_ 2 rfl).cell 3
  go_wp2_with fail
  refine (sReadAt_any _ _ t.b i _ ((hb.keep c).up c.size) (by omega)).mono ?_
  rintro e w5 ⟨Ay0, ny0, cy0, rfl, o, b⟩
  obtain ⟨fp_y, S'⟩ := S.has b o c.size
  replace c := c.trans (b.mono c.size)
  clear S; have S := S'; clear S' o b f8 f9
  go_wp2_with fail
  refine (sUnsD _ _ _ _ _ ((S.own_ 1 rfl).rd) (readAt_sz _ _ hsa)).mono ?_
  rintro e w6 ⟨Ap0, np0, cp0, rfl, o, b⟩
  obtain ⟨fp_p, S'⟩ := S.has b o c.size
  replace c := c.trans (b.mono c.size)
  clear S; have S := S'; clear S' o b
  rw [H1.out]
  go_wp2_with fail
  refine (sUnsD _ _ _ _ _ ((S.own_ 1 rfl).rd) (readAt_sz _ _ hsb)).mono ?_
  rintro e w7 ⟨Aq0, nq0, cq0, rfl, o, b⟩
  obtain ⟨fp_q, S'⟩ := S.has b o c.size
  replace c := c.trans (b.mono c.size)
  clear S; have S := S'; clear S' o b
  rw [H2.out]
  replace S := S.sub (.cons_cons _ (.cons_cons _ (.cons _ (.cons _ (.cons_cons _ (.cons_cons _ (List.nil_sublist _)))))))
  change Sep _ _ [.own (rowCells (rightOf t.b i).1) _ _, .own (rowCells (rightOf t.a i).1) _ _, _, _] at S
  replace S := S.boxAt c.size (w7.heap.size) rfl #[.slice Ap0 np0 cp0] 35
  replace c := c.alloc c.size (.cells #[.slice Ap0 np0 cp0] 35)
  have HC : ∀ i, i < 1 → (w7.alloc (.cells #[.slice Ap0 np0 cp0] 35)).cell? ⟨w7.heap.size, i, none⟩ = [Value.slice Ap0 np0 cp0][i]? := fun i hi => by
    have h1 := (S.at_ 0 rfl).cell i
    have : i = 0 := by omega
    subst this
    exact h1
  replace S := S.pick 2 rfl
  replace S := S.pick 3 rfl
  go_wp2_with (first
    | (at_builtin
       refine wpList_append_elem (l := []) (y := (rightOf t.a i).1) rfl (.tmp 51) (.tmp 53) (by rfl) Try.underlying27 infoRow (by rfl) (by decide) rowC_len (by rfl) (S.own_ 0 rfl) (S.nodup_own 0 rfl) (by rfl) HC (S.own_ 1 rfl) (S.nodup_own 1 rfl) S.apart (by omega) (by omega) ?_
       intro Al0 cl0 w8 fp_l o3 n3 s3 t3))
  have OP := ((S.own_ 1 rfl).touch t3 S.apart).rd
  have S' := S.merge t3 o3 n3 s3 c.size
  replace c := c.trans (S.below 0 rfl t3 c.size)
  clear S; have S := S'; clear S' o3 n3 s3 t3 HC
  refine (sSameD _ _ _ _ _ _ _ _ _ _ _ OP ((S.own_ 2 rfl).rd) hp1 hq1).mono ?_
  rintro e w9 ⟨rfl, b⟩
  replace c := c.trans (b.mono c.size)
  replace S := S.keep b
  clear b
  rw [HS.out]
  clear OP
  replace S := S.boxAt c.size (w9.heap.size) rfl #[.slice Aq0 nq0 cq0] 35
  replace c := c.alloc c.size (.cells #[.slice Aq0 nq0 cq0] 35)
  have HC : ∀ i, i < 1 → (w9.alloc (.cells #[.slice Aq0 nq0 cq0] 35)).cell? ⟨w9.heap.size, i, none⟩ = [Value.slice Aq0 nq0 cq0][i]? := fun i hi => by
    have h1 := (S.at_ 0 rfl).cell i
    have : i = 0 := by omega
    subst this
    exact h1
  replace S := S.pick 3 rfl
  replace S := S.pick 2 rfl
  go_wp2_with (first
    | (at_builtin
       refine wpList_append_elem (l := [] ++ [(rightOf t.a i).1]) (y := (rightOf t.b i).1) rfl (.tmp 65) (.tmp 67) (by rfl) Try.underlying27 infoRow (by rfl) (by decide) rowC_len (by rfl) (S.own_ 0 rfl) (S.nodup_own 0 rfl) (by rfl) HC (S.own_ 1 rfl) (S.nodup_own 1 rfl) S.apart (by omega) (by omega) ?_
       intro Am0 cm0 w10 fp_m o3 n3 s3 t3))
  have S' := S.merge t3 o3 n3 s3 c.size
  replace c := c.trans (S.below 0 rfl t3 c.size)
  clear S; have S := S'; clear S' o3 n3 s3 t3 HC
  replace S := S.sub (.cons_cons _ (List.nil_sublist _))
  have H := Lib.hid S.first
  have C := Lib.hid c
  clear S c h ha hb
  go_ret
  exact ⟨_, _, _, rfl, by rw [HR.out]; exact H.out, C.out⟩

end Go.Proofs.Ytejcpoidoekleaa
