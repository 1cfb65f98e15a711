/-
  The law FnEntryRows answers true at every slice of bytes, and writes nothing that was there (by program, wip/gen/genentw.py).
-/
import Derived.Test.YtnlbaejnpbkghaaEntW
import Derived.Test.YtnlbaejnpbkghaaEntD2
import Derived.Test.YtnlbaejnpbkghaaEntI4
import Derived.Test.YtnlbaejnpbkghaaLike
import Derived.RegionTactic
import Derived.BigQuiet
namespace Go.Proofs.Ytnlbaejnpbkghaa
set_option maxRecDepth 100000
open Go.RowKit

set_option maxHeartbeats 12800000 in
theorem lawEntryRows (A : Option Addr) (n c0 : Nat) (w : World) (h : BRow w w.heap.size A n) (hm : n ≤ maxLen) :
    Calls Try.prog 3 #[.slice A n c0] w fun e w' => e = .returned (.bool true) ∧ Below w.heap.size w w' := by
  unfold maxLen at hm
  by_cases hn : 4096 < n
  · clear h
    go_enter Try.func3, Try.ntmps3
    go_wp2_with fail
    refine (lbig_any A n c0 _).mono ?_
    rintro e w' ⟨rfl, rfl⟩
    rw [decide_eq_true hn]
    go_wp2
    go_ret
    exact ⟨rfl, Below.refl _ _⟩
  go_enter Try.func3, Try.ntmps3
  go_wp2_with fail
  refine (lbig_any A n c0 _).mono ?_
  rintro e w' ⟨rfl, rfl⟩
  rw [decide_eq_false hn]
  go_wp2_with fail
  refine (roll_any A n c0 _ h (by omega) _).mono ?_
  rintro e w1 ⟨rfl, cu, b1⟩
  have X := DrL.start cu
  have B1 := Lib.hid b1
  clear b1 cu h
  replace X := X.boxAt (w1.heap.size) rfl #[] 30
  go_wp2_with fail
  generalize w1.alloc (.cells #[] 30) = w2 at *
  refine (w9list_any _ _ 3 (by decide) _ _ _ X.cur).mono ?_
  rintro e w3 ⟨l, A, n, c, hl, hrun, rfl, cu, gr, o⟩
  obtain ⟨fp_l, X'⟩ := X.drawHas cu gr o
  clear X; have X := X'; clear X' cu gr o
  obtain ⟨_, _, _, e, hln, _, _, hel⟩ := ((X.sep.own_ 0 rfl).rd).ents
  injection e with e1 e2 e3
  subst e1 e2 e3
  obtain rfl : n = 3 := by omega
  obtain ⟨lb, lo, rfl, _, hc⟩ := hel (by omega)
  have h2 : 2 < l.length := by omega
  obtain ⟨hc0, hc1, hc2, hc3, hc4, hc5, hc6, hc7, hc8⟩ := hc 2 h2
  have hE := (hrun 2 h2).1
  obtain ⟨x0, hx0⟩ : ∃ q, q = l[2].idx := ⟨_, rfl⟩
  rw [← hx0] at hc0
  obtain ⟨x1, hx1⟩ : ∃ q, q = l[2].tm := ⟨_, rfl⟩
  rw [← hx1] at hc1
  obtain ⟨x2, hx2⟩ : ∃ q, q = l[2].cl := ⟨_, rfl⟩
  rw [← hx2] at hc2
  obtain ⟨x3, hx3⟩ : ∃ q, q = l[2].sq := ⟨_, rfl⟩
  rw [← hx3] at hc3
  obtain ⟨x4, hx4⟩ : ∃ q, q = l[2].kd := ⟨_, rfl⟩
  rw [← hx4] at hc4
  obtain ⟨x5, hx5⟩ : ∃ q, q = l[2].oa := ⟨_, rfl⟩
  rw [← hx5] at hc5
  obtain ⟨x6, hx6⟩ : ∃ q, q = l[2].ob := ⟨_, rfl⟩
  rw [← hx6] at hc6
  obtain ⟨x7, hx7⟩ : ∃ q, q = l[2].oc := ⟨_, rfl⟩
  rw [← hx7] at hc7
  obtain ⟨x8, hx8⟩ : ∃ q, q = l[2].od := ⟨_, rfl⟩
  rw [← hx8] at hc8
  rw [show l[2] = ⟨x0, x1, x2, x3, x4, x5, x6, x7, x8⟩ by rw [hx0, hx1, hx2, hx3, hx4, hx5, hx6, hx7, hx8]] at hE
  have HE := Lib.hid hE
  have HROW := Lib.hid (entRow_ns hE)
  have HBACK := Lib.hid (rowEnt_yes hE)
  have HROK := Lib.hid (entRow_ok hE)
  clear hE hrun hel hc hl hln h2 hx0 hx1 hx2 hx3 hx4 hx5 hx6 hx7 hx8
  simp only [show 2 * 9 = 18 from rfl] at hc0 hc1 hc2 hc3 hc4 hc5 hc6 hc7 hc8
  replace X := X.boxAt (w3.heap.size) rfl #[.int .i64 x0, .int .i64 x1, .int .i64 x2, .int .i64 x3, .int .i64 x4, .int .i64 x5, .int .i64 x6, .int .i64 x7, .int .i64 x8] 30
  have f0 : (w3.alloc (.cells #[.int .i64 x0, .int .i64 x1, .int .i64 x2, .int .i64 x3, .int .i64 x4, .int .i64 x5, .int .i64 x6, .int .i64 x7, .int .i64 x8] 30)).cell? ⟨w3.heap.size, 0, none⟩ = some (.int .i64 x0) := (X.sep.at_ 0 rfl).cell 0
  have f1 : (w3.alloc (.cells #[.int .i64 x0, .int .i64 x1, .int .i64 x2, .int .i64 x3, .int .i64 x4, .int .i64 x5, .int .i64 x6, .int .i64 x7, .int .i64 x8] 30)).cell? ⟨w3.heap.size, 1, none⟩ = some (.int .i64 x1) := (X.sep.at_ 0 rfl).cell 1
  have f2 : (w3.alloc (.cells #[.int .i64 x0, .int .i64 x1, .int .i64 x2, .int .i64 x3, .int .i64 x4, .int .i64 x5, .int .i64 x6, .int .i64 x7, .int .i64 x8] 30)).cell? ⟨w3.heap.size, 2, none⟩ = some (.int .i64 x2) := (X.sep.at_ 0 rfl).cell 2
  have f3 : (w3.alloc (.cells #[.int .i64 x0, .int .i64 x1, .int .i64 x2, .int .i64 x3, .int .i64 x4, .int .i64 x5, .int .i64 x6, .int .i64 x7, .int .i64 x8] 30)).cell? ⟨w3.heap.size, 3, none⟩ = some (.int .i64 x3) := (X.sep.at_ 0 rfl).cell 3
  have f4 : (w3.alloc (.cells #[.int .i64 x0, .int .i64 x1, .int .i64 x2, .int .i64 x3, .int .i64 x4, .int .i64 x5, .int .i64 x6, .int .i64 x7, .int .i64 x8] 30)).cell? ⟨w3.heap.size, 4, none⟩ = some (.int .i64 x4) := (X.sep.at_ 0 rfl).cell 4
  have f5 : (w3.alloc (.cells #[.int .i64 x0, .int .i64 x1, .int .i64 x2, .int .i64 x3, .int .i64 x4, .int .i64 x5, .int .i64 x6, .int .i64 x7, .int .i64 x8] 30)).cell? ⟨w3.heap.size, 5, none⟩ = some (.int .i64 x5) := (X.sep.at_ 0 rfl).cell 5
  have f6 : (w3.alloc (.cells #[.int .i64 x0, .int .i64 x1, .int .i64 x2, .int .i64 x3, .int .i64 x4, .int .i64 x5, .int .i64 x6, .int .i64 x7, .int .i64 x8] 30)).cell? ⟨w3.heap.size, 6, none⟩ = some (.int .i64 x6) := (X.sep.at_ 0 rfl).cell 6
  have f7 : (w3.alloc (.cells #[.int .i64 x0, .int .i64 x1, .int .i64 x2, .int .i64 x3, .int .i64 x4, .int .i64 x5, .int .i64 x6, .int .i64 x7, .int .i64 x8] 30)).cell? ⟨w3.heap.size, 7, none⟩ = some (.int .i64 x7) := (X.sep.at_ 0 rfl).cell 7
  have f8 : (w3.alloc (.cells #[.int .i64 x0, .int .i64 x1, .int .i64 x2, .int .i64 x3, .int .i64 x4, .int .i64 x5, .int .i64 x6, .int .i64 x7, .int .i64 x8] 30)).cell? ⟨w3.heap.size, 8, none⟩ = some (.int .i64 x8) := (X.sep.at_ 0 rfl).cell 8
  go_wp2_with fail
  generalize w3.alloc (.cells #[.int .i64 x0, .int .i64 x1, .int .i64 x2, .int .i64 x3, .int .i64 x4, .int .i64 x5, .int .i64 x6, .int .i64 x7, .int .i64 x8] 30) = w4 at *
  generalize w3.heap.size = re at *
  clear hc0 hc1 hc2 hc3 hc4 hc5 hc6 hc7 hc8
  refine (iEntryRow_any x0 x1 x2 x3 x4 x5 x6 x7 x8 _).mono ?_
  rintro e w5 ⟨Ar, nr, cr, rfl, o, b⟩
  rw [HROW.out] at o
  obtain ⟨fp_row, X'⟩ := X.has b o
  clear X; have X := X'; clear X' b o f0 f1 f2 f3 f4 f5 f6 f7 f8
  obtain ⟨hi, hrc, _⟩ := ow_irow (X.sep.own_ 0 rfl)
  obtain rfl : nr = 9 := hi.1.symm
  go_wp2_with fail
  refine (iRowEnt_any _ 9 cr _ [x0, x1, x2, x3, x4, x5, x6, x7, x8] _ hi (Nat.le_refl _) (by decide) hrc).mono ?_
  rintro e w6 ⟨rfl, b2⟩
  rw [HBACK.out]
  clear hi hrc
  replace X := X.keep b2
  clear b2
  replace X := X.boxAt (w6.heap.size) rfl #[.int .i64 x0, .int .i64 x1, .int .i64 x2, .int .i64 x3, .int .i64 x4, .int .i64 x5, .int .i64 x6, .int .i64 x7, .int .i64 x8] 30
  have f9 : (w6.alloc (.cells #[.int .i64 x0, .int .i64 x1, .int .i64 x2, .int .i64 x3, .int .i64 x4, .int .i64 x5, .int .i64 x6, .int .i64 x7, .int .i64 x8] 30)).cell? ⟨w6.heap.size, 0, none⟩ = some (.int .i64 x0) := (X.sep.at_ 0 rfl).cell 0
  have f10 : (w6.alloc (.cells #[.int .i64 x0, .int .i64 x1, .int .i64 x2, .int .i64 x3, .int .i64 x4, .int .i64 x5, .int .i64 x6, .int .i64 x7, .int .i64 x8] 30)).cell? ⟨w6.heap.size, 1, none⟩ = some (.int .i64 x1) := (X.sep.at_ 0 rfl).cell 1
  have f11 : (w6.alloc (.cells #[.int .i64 x0, .int .i64 x1, .int .i64 x2, .int .i64 x3, .int .i64 x4, .int .i64 x5, .int .i64 x6, .int .i64 x7, .int .i64 x8] 30)).cell? ⟨w6.heap.size, 2, none⟩ = some (.int .i64 x2) := (X.sep.at_ 0 rfl).cell 2
  have f12 : (w6.alloc (.cells #[.int .i64 x0, .int .i64 x1, .int .i64 x2, .int .i64 x3, .int .i64 x4, .int .i64 x5, .int .i64 x6, .int .i64 x7, .int .i64 x8] 30)).cell? ⟨w6.heap.size, 3, none⟩ = some (.int .i64 x3) := (X.sep.at_ 0 rfl).cell 3
  have f13 : (w6.alloc (.cells #[.int .i64 x0, .int .i64 x1, .int .i64 x2, .int .i64 x3, .int .i64 x4, .int .i64 x5, .int .i64 x6, .int .i64 x7, .int .i64 x8] 30)).cell? ⟨w6.heap.size, 4, none⟩ = some (.int .i64 x4) := (X.sep.at_ 0 rfl).cell 4
  have f14 : (w6.alloc (.cells #[.int .i64 x0, .int .i64 x1, .int .i64 x2, .int .i64 x3, .int .i64 x4, .int .i64 x5, .int .i64 x6, .int .i64 x7, .int .i64 x8] 30)).cell? ⟨w6.heap.size, 5, none⟩ = some (.int .i64 x5) := (X.sep.at_ 0 rfl).cell 5
  have f15 : (w6.alloc (.cells #[.int .i64 x0, .int .i64 x1, .int .i64 x2, .int .i64 x3, .int .i64 x4, .int .i64 x5, .int .i64 x6, .int .i64 x7, .int .i64 x8] 30)).cell? ⟨w6.heap.size, 6, none⟩ = some (.int .i64 x6) := (X.sep.at_ 0 rfl).cell 6
  have f16 : (w6.alloc (.cells #[.int .i64 x0, .int .i64 x1, .int .i64 x2, .int .i64 x3, .int .i64 x4, .int .i64 x5, .int .i64 x6, .int .i64 x7, .int .i64 x8] 30)).cell? ⟨w6.heap.size, 7, none⟩ = some (.int .i64 x7) := (X.sep.at_ 0 rfl).cell 7
  have f17 : (w6.alloc (.cells #[.int .i64 x0, .int .i64 x1, .int .i64 x2, .int .i64 x3, .int .i64 x4, .int .i64 x5, .int .i64 x6, .int .i64 x7, .int .i64 x8] 30)).cell? ⟨w6.heap.size, 8, none⟩ = some (.int .i64 x8) := (X.sep.at_ 0 rfl).cell 8
  have f18 : (w6.alloc (.cells #[.int .i64 x0, .int .i64 x1, .int .i64 x2, .int .i64 x3, .int .i64 x4, .int .i64 x5, .int .i64 x6, .int .i64 x7, .int .i64 x8] 30)).cell? ⟨re, 0, none⟩ = some (.int .i64 x0) := (X.sep.at_ 2 rfl).cell 0
  have f19 : (w6.alloc (.cells #[.int .i64 x0, .int .i64 x1, .int .i64 x2, .int .i64 x3, .int .i64 x4, .int .i64 x5, .int .i64 x6, .int .i64 x7, .int .i64 x8] 30)).cell? ⟨re, 1, none⟩ = some (.int .i64 x1) := (X.sep.at_ 2 rfl).cell 1
  have f20 : (w6.alloc (.cells #[.int .i64 x0, .int .i64 x1, .int .i64 x2, .int .i64 x3, .int .i64 x4, .int .i64 x5, .int .i64 x6, .int .i64 x7, .int .i64 x8] 30)).cell? ⟨re, 2, none⟩ = some (.int .i64 x2) := (X.sep.at_ 2 rfl).cell 2
  have f21 : (w6.alloc (.cells #[.int .i64 x0, .int .i64 x1, .int .i64 x2, .int .i64 x3, .int .i64 x4, .int .i64 x5, .int .i64 x6, .int .i64 x7, .int .i64 x8] 30)).cell? ⟨re, 3, none⟩ = some (.int .i64 x3) := (X.sep.at_ 2 rfl).cell 3
  have f22 : (w6.alloc (.cells #[.int .i64 x0, .int .i64 x1, .int .i64 x2, .int .i64 x3, .int .i64 x4, .int .i64 x5, .int .i64 x6, .int .i64 x7, .int .i64 x8] 30)).cell? ⟨re, 4, none⟩ = some (.int .i64 x4) := (X.sep.at_ 2 rfl).cell 4
  have f23 : (w6.alloc (.cells #[.int .i64 x0, .int .i64 x1, .int .i64 x2, .int .i64 x3, .int .i64 x4, .int .i64 x5, .int .i64 x6, .int .i64 x7, .int .i64 x8] 30)).cell? ⟨re, 5, none⟩ = some (.int .i64 x5) := (X.sep.at_ 2 rfl).cell 5
  have f24 : (w6.alloc (.cells #[.int .i64 x0, .int .i64 x1, .int .i64 x2, .int .i64 x3, .int .i64 x4, .int .i64 x5, .int .i64 x6, .int .i64 x7, .int .i64 x8] 30)).cell? ⟨re, 6, none⟩ = some (.int .i64 x6) := (X.sep.at_ 2 rfl).cell 6
  have f25 : (w6.alloc (.cells #[.int .i64 x0, .int .i64 x1, .int .i64 x2, .int .i64 x3, .int .i64 x4, .int .i64 x5, .int .i64 x6, .int .i64 x7, .int .i64 x8] 30)).cell? ⟨re, 7, none⟩ = some (.int .i64 x7) := (X.sep.at_ 2 rfl).cell 7
  have f26 : (w6.alloc (.cells #[.int .i64 x0, .int .i64 x1, .int .i64 x2, .int .i64 x3, .int .i64 x4, .int .i64 x5, .int .i64 x6, .int .i64 x7, .int .i64 x8] 30)).cell? ⟨re, 8, none⟩ = some (.int .i64 x8) := (X.sep.at_ 2 rfl).cell 8
  go_wp2_with fail
  generalize w6.alloc (.cells #[.int .i64 x0, .int .i64 x1, .int .i64 x2, .int .i64 x3, .int .i64 x4, .int .i64 x5, .int .i64 x6, .int .i64 x7, .int .i64 x8] 30) = w7 at *
  generalize w6.heap.size = rx at *
  obtain ⟨hi, hrc, _⟩ := ow_irow (X.sep.own_ 1 rfl)
  refine (iRowOk_any _ 9 cr _ [x0, x1, x2, x3, x4, x5, x6, x7, x8] _ hi (by decide)).mono ?_
  rintro e w9 ⟨rfl, rfl⟩
  rw [HROK.out]
  clear hi hrc f9 f10 f11 f12 f13 f14 f15 f16 f17 f18 f19 f20 f21 f22 f23 f24 f25 f26
  replace X := X.with_ (X.sep.sub (.cons _ (.cons_cons _ (List.nil_sublist _))))
  go_wp2_with fail
  refine (lbelow_any _ _ _ X.cur 9 (by decide)).mono ?_
  rintro e w8 ⟨z, hz, rfl, cu, gr⟩
  replace X := X.draw cu gr
  clear cu gr
  obtain ⟨i, rfl⟩ : ∃ i : Nat, z = (i : Int) := ⟨z.toNat, by omega⟩
  have hi9 : i < 9 := by omega
  have i0 : (0 : Int) ≤ (i : Int) := by omega
  have i1 : (i : Int) < 9 := by omega
  clear hz
  go_wp2_with fail
  refine (lbelow_any _ _ _ X.cur 2100 (by decide)).mono ?_
  rintro e w9 ⟨v, hv, rfl, cu, gr⟩
  replace X := X.draw cu gr
  clear cu gr
  obtain ⟨rg, rfl, hcell, hfree, hin, hput⟩ := row_cell (xs := [x0, x1, x2, x3, x4, x5, x6, x7, x8]) (X.sep.own_ 0 rfl) (X.sep.nodup_own 0 rfl) (show i < 9 from hi9)
  have ho := hput v
  obtain ⟨y0, y1, y2, y3, y4, y5, y6, y7, y8, hr⟩ := list9 ([x0, x1, x2, x3, x4, x5, x6, x7, x8].set i v) (by simp)
  rw [hr] at ho
  have T := Touch.of_set (w := w9) (i := i) (u := .int .i64 v) hin
  have X2 := Lib.hid (X.move (X.sep.below 0 rfl T X.grown.size) (X.sep.mark 0 rfl T ho))
  clear hput hr ho T hin X hv
  go_wp2_with fail
  have X := X2.out
  clear X2
  generalize w9.setCell ⟨rg, i, none⟩ (.int .i64 v) = w10 at *
  clear hcell hfree i0 i1 hi9
  obtain ⟨hi, hrc, _⟩ := ow_irow (xs := [y0, y1, y2, y3, y4, y5, y6, y7, y8]) (X.sep.own_ 0 rfl)
  refine (iRowEnt_any _ 9 cr _ [y0, y1, y2, y3, y4, y5, y6, y7, y8] _ hi (Nat.le_refl _) (by decide) hrc).mono ?_
  rintro e w11 ⟨rfl, b2⟩
  clear hi hrc
  replace X := X.keep b2
  clear b2
  cases hok : entB ⟨y0, y1, y2, y3, y4, y5, y6, y7, y8⟩
  case false =>
    rw [rowEnt_no hok]
    clear hok
    simp only [ent0]
    replace X := X.boxAt (w11.heap.size) rfl #[.int .i64 0, .int .i64 0, .int .i64 0, .int .i64 0, .int .i64 0, .int .i64 0, .int .i64 0, .int .i64 0, .int .i64 0] 30
    have C := Lib.hid (B1.out.trans (grown_below X.grown B1.out.size (fun k hk => by injection hk with hk; omega)))
    clear X
    go_wp2
    go_ret
    exact ⟨rfl, C.out⟩
  case true =>
    rw [rowEnt_yes hok]
    have HY := Lib.hid hok
    have HYR := Lib.hid (entRow_ns hok)
    clear hok
    replace X := X.boxAt (w11.heap.size) rfl #[.int .i64 y0, .int .i64 y1, .int .i64 y2, .int .i64 y3, .int .i64 y4, .int .i64 y5, .int .i64 y6, .int .i64 y7, .int .i64 y8] 30
    have f27 : (w11.alloc (.cells #[.int .i64 y0, .int .i64 y1, .int .i64 y2, .int .i64 y3, .int .i64 y4, .int .i64 y5, .int .i64 y6, .int .i64 y7, .int .i64 y8] 30)).cell? ⟨w11.heap.size, 0, none⟩ = some (.int .i64 y0) := (X.sep.at_ 0 rfl).cell 0
    have f28 : (w11.alloc (.cells #[.int .i64 y0, .int .i64 y1, .int .i64 y2, .int .i64 y3, .int .i64 y4, .int .i64 y5, .int .i64 y6, .int .i64 y7, .int .i64 y8] 30)).cell? ⟨w11.heap.size, 1, none⟩ = some (.int .i64 y1) := (X.sep.at_ 0 rfl).cell 1
    have f29 : (w11.alloc (.cells #[.int .i64 y0, .int .i64 y1, .int .i64 y2, .int .i64 y3, .int .i64 y4, .int .i64 y5, .int .i64 y6, .int .i64 y7, .int .i64 y8] 30)).cell? ⟨w11.heap.size, 2, none⟩ = some (.int .i64 y2) := (X.sep.at_ 0 rfl).cell 2
    have f30 : (w11.alloc (.cells #[.int .i64 y0, .int .i64 y1, .int .i64 y2, .int .i64 y3, .int .i64 y4, .int .i64 y5, .int .i64 y6, .int .i64 y7, .int .i64 y8] 30)).cell? ⟨w11.heap.size, 3, none⟩ = some (.int .i64 y3) := (X.sep.at_ 0 rfl).cell 3
    have f31 : (w11.alloc (.cells #[.int .i64 y0, .int .i64 y1, .int .i64 y2, .int .i64 y3, .int .i64 y4, .int .i64 y5, .int .i64 y6, .int .i64 y7, .int .i64 y8] 30)).cell? ⟨w11.heap.size, 4, none⟩ = some (.int .i64 y4) := (X.sep.at_ 0 rfl).cell 4
    have f32 : (w11.alloc (.cells #[.int .i64 y0, .int .i64 y1, .int .i64 y2, .int .i64 y3, .int .i64 y4, .int .i64 y5, .int .i64 y6, .int .i64 y7, .int .i64 y8] 30)).cell? ⟨w11.heap.size, 5, none⟩ = some (.int .i64 y5) := (X.sep.at_ 0 rfl).cell 5
    have f33 : (w11.alloc (.cells #[.int .i64 y0, .int .i64 y1, .int .i64 y2, .int .i64 y3, .int .i64 y4, .int .i64 y5, .int .i64 y6, .int .i64 y7, .int .i64 y8] 30)).cell? ⟨w11.heap.size, 6, none⟩ = some (.int .i64 y6) := (X.sep.at_ 0 rfl).cell 6
    have f34 : (w11.alloc (.cells #[.int .i64 y0, .int .i64 y1, .int .i64 y2, .int .i64 y3, .int .i64 y4, .int .i64 y5, .int .i64 y6, .int .i64 y7, .int .i64 y8] 30)).cell? ⟨w11.heap.size, 7, none⟩ = some (.int .i64 y7) := (X.sep.at_ 0 rfl).cell 7
    have f35 : (w11.alloc (.cells #[.int .i64 y0, .int .i64 y1, .int .i64 y2, .int .i64 y3, .int .i64 y4, .int .i64 y5, .int .i64 y6, .int .i64 y7, .int .i64 y8] 30)).cell? ⟨w11.heap.size, 8, none⟩ = some (.int .i64 y8) := (X.sep.at_ 0 rfl).cell 8
    go_wp2_with fail
    generalize w11.alloc (.cells #[.int .i64 y0, .int .i64 y1, .int .i64 y2, .int .i64 y3, .int .i64 y4, .int .i64 y5, .int .i64 y6, .int .i64 y7, .int .i64 y8] 30) = w12 at *
    generalize w11.heap.size = ry at *
    refine (iEntryRow_any y0 y1 y2 y3 y4 y5 y6 y7 y8 _).mono ?_
    rintro e w13 ⟨At, nt, ct, rfl, o, b⟩
    rw [HYR.out] at o
    obtain ⟨fp_two, X'⟩ := X.has b o
    clear X; have X := X'; clear X' b o f27 f28 f29 f30 f31 f32 f33 f34 f35
    have hi := (ow_irow (xs := [y0, y1, y2, y3, y4, y5, y6, y7, y8]) (X.sep.own_ 0 rfl)).1
    obtain rfl : nt = 9 := hi.1.symm
    have hj := (ow_irow (xs := [y0, y1, y2, y3, y4, y5, y6, y7, y8]) (X.sep.own_ 2 rfl)).1
    go_wp2_with fail
    refine (like_yes At (some ⟨rg, 0, none⟩) 9 ct cr _ _ [y0, y1, y2, y3, y4, y5, y6, y7, y8] _ hi hj (by decide)).mono ?_
    rintro e w14 ⟨rfl, dr⟩
    have b1 := dr.below w13.heap.size
    clear hi hj
    replace X := X.keep b1
    clear b1
    clear dr
    have f36 : w14.cell? ⟨ry, 0, none⟩ = some (.int .i64 y0) := (X.sep.at_ 1 rfl).cell 0
    have f37 : w14.cell? ⟨ry, 1, none⟩ = some (.int .i64 y1) := (X.sep.at_ 1 rfl).cell 1
    have f38 : w14.cell? ⟨ry, 2, none⟩ = some (.int .i64 y2) := (X.sep.at_ 1 rfl).cell 2
    have f39 : w14.cell? ⟨ry, 3, none⟩ = some (.int .i64 y3) := (X.sep.at_ 1 rfl).cell 3
    have f40 : w14.cell? ⟨ry, 4, none⟩ = some (.int .i64 y4) := (X.sep.at_ 1 rfl).cell 4
    have f41 : w14.cell? ⟨ry, 5, none⟩ = some (.int .i64 y5) := (X.sep.at_ 1 rfl).cell 5
    have f42 : w14.cell? ⟨ry, 6, none⟩ = some (.int .i64 y6) := (X.sep.at_ 1 rfl).cell 6
    have f43 : w14.cell? ⟨ry, 7, none⟩ = some (.int .i64 y7) := (X.sep.at_ 1 rfl).cell 7
    have f44 : w14.cell? ⟨ry, 8, none⟩ = some (.int .i64 y8) := (X.sep.at_ 1 rfl).cell 8
    go_wp2_with fail
    refine (iEntryOk_any y0 y1 y2 y3 y4 y5 y6 y7 y8 _).mono ?_
    rintro e w15 ⟨rfl, b2⟩
    rw [HY.out]
    replace X := X.keep b2
    clear b2 f36 f37 f38 f39 f40 f41 f42 f43 f44
    have C := Lib.hid (B1.out.trans (grown_below X.grown B1.out.size (fun k hk => by injection hk with hk; omega)))
    clear X
    go_wp2
    go_ret
    exact ⟨rfl, C.out⟩

end Go.Proofs.Ytnlbaejnpbkghaa
