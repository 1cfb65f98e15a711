/-
  The law FnFedNext answers true at every slice of bytes, and writes nothing that was there (by program, wip/gen/genfed.py).
-/
import Derived.Test.YtepnghjmpbfmcaaLetD2
import Derived.Test.YtepnghjmpbfmcaaLetDM
import Derived.Test.YtepnghjmpbfmcaaLetIG
import Derived.Test.YtepnghjmpbfmcaaHeadD3
import Derived.Test.YtepnghjmpbfmcaaRowZ
import Derived.RegionTactic
import Derived.BigQuiet
namespace Go.Proofs.Ytepnghjmpbfmcaa
set_option maxRecDepth 100000
open Go.RowKit

theorem drop_last {es : List EntM} {q : Nat} (h : es.length = q + 1) : es.drop q = [es[q]'(by omega)] := by
  rw [List.drop_eq_getElem_cons (by omega), List.drop_eq_nil_of_le (by omega)]
theorem ow_irowL {w : World} {xs : List Int} {A : Option Addr} {n c : Nat} {fp : List Nat} (h : Ow w (rowCells xs) [.slice A n c] fp) : IRow w w.heap.size A n xs ∧ n ≤ c ∧ n ≤ maxLen := by
  obtain ⟨_, _, _, e, hi, h1, h2⟩ := h.rd.rowS
  injection e with e1 e2 e3
  subst e1 e2 e3
  exact ⟨hi, h1, Nat.le_trans h1 h2⟩
set_option maxHeartbeats 12800000 in
theorem lawFedNext (A : Option Addr) (n c0 : Nat) (w : World) (h : BRow w w.heap.size A n) (hm : n ≤ maxLen) :
    Calls Try.prog 6 #[.slice A n c0] w fun e w' => e = .returned (.bool true) ∧ Below w.heap.size w w' := by
  unfold maxLen at hm
  by_cases hn : 4096 < n
  · clear h
    go_enter Try.func6, Try.ntmps6
    go_wp2_with fail
    refine (lbig_any A n c0 _).mono ?_
    rintro e w' ⟨rfl, rfl⟩
    rw [decide_eq_true hn]
    go_wp2
    go_ret
    exact ⟨rfl, Below.refl _ _⟩
  go_enter Try.func6, Try.ntmps6
  go_wp2_with fail
  refine (lbig_any A n c0 _).mono ?_
  rintro e w' ⟨rfl, rfl⟩
  rw [decide_eq_false hn]
  go_wp2_with fail
  refine (roll_any A n c0 _ h (by omega) _).mono ?_
  rintro e w1 ⟨rfl, cu, b1⟩
  have X := DrL.start cu
  have B1 := Lib.hid b1
  clear b1 cu h
  go_wp2_with fail
  refine (w9feed_any _ _ _ X.cur).mono ?_
  rintro e w2 ⟨l, Al, nl, cl, k, m, x0, x1, A2, hl, hrun, hk, hkm, hm3, h0, h1, rfl, cu, gr, o, hrd⟩
  obtain ⟨fp_l, X'⟩ := X.drawHas cu gr o
  clear X; have X := X'; clear X' cu gr o
  have hOK := fed_ok hrun hl hk hkm hm3 h0 h1
  have hm8 : m ≤ 8 := by omega
  have hlen := part_len (k := k) hl hm8
  have HG := Lib.hid (fun (q : Nat) (hq : m - k = q + 1) => fed_g (x0 := x0) hrun hl hm8 hq)
  have HH := Lib.hid (fun (q : Nat) (hq : m - k = q + 1) => fed_h (x1 := (k : Int) + 1 + 9) hrun hl hm8 hq)
  have HIX := Lib.hid (fun (j : Nat) (hj : j < ((l.drop k).take (m - k)).length) => part_idx (k := k) (m := m) hrun hl hm8 hj)
  obtain ⟨es, hes⟩ : ∃ es, es = (l.drop k).take (m - k) := ⟨_, rfl⟩
  obtain ⟨y1, hy1⟩ : ∃ y, y = (m : Int) + x1 := ⟨_, rfl⟩
  obtain ⟨c9, hc9⟩ : ∃ y, y = cl - k := ⟨_, rfl⟩
  rw [← hes] at hOK hlen hrd HG HH HIX
  rw [← hy1] at hOK ⊢
  rw [← hc9] at hrd ⊢
  obtain ⟨n9, hn9⟩ : ∃ y, y = m - k := ⟨_, rfl⟩
  rw [← hn9] at hlen hrd HG HH ⊢
  have HOK := Lib.hid hOK
  have HLEN := Lib.hid hlen
  have hn3 : n9 ≤ 3 := by omega
  have hsz : entSz es ≤ 1048577 := by unfold entSz; omega
  have hk9 : k ≤ 4 := hk
  clear hOK hlen hes hy1 hc9 hn9 hm8 hm3 hkm hk h0 h1 hl hrun
  replace X := X.boxAt (w2.heap.size) rfl #[.int .i64 x0, .int .i64 y1, .slice A2 n9 c9] 56
  have f0 : (w2.alloc (.cells #[.int .i64 x0, .int .i64 y1, .slice A2 n9 c9] 56)).cell? ⟨w2.heap.size, 0, none⟩ = some (.int .i64 x0) := (X.sep.at_ 0 rfl).cell 0
  have f1 : (w2.alloc (.cells #[.int .i64 x0, .int .i64 y1, .slice A2 n9 c9] 56)).cell? ⟨w2.heap.size, 1, none⟩ = some (.int .i64 y1) := (X.sep.at_ 0 rfl).cell 1
  have f2 : (w2.alloc (.cells #[.int .i64 x0, .int .i64 y1, .slice A2 n9 c9] 56)).cell? ⟨w2.heap.size, 2, none⟩ = some (.slice A2 n9 c9) := (X.sep.at_ 0 rfl).cell 2
  go_wp2_with fail
  generalize w2.alloc (.cells #[.int .i64 x0, .int .i64 y1, .slice A2 n9 c9] 56) = w3 at *
  generalize w2.heap.size = rf at *
  refine (iFeedOk_any x0 y1 A2 n9 c9 _ es _ (hrd ((X.sep.own_ 1 rfl).rd)) (Nat.le_refl _) hsz).mono ?_
  rintro e w4 ⟨rfl, b2⟩
  rw [HOK.out]
  replace X := X.keep b2
  clear b2 f0 f1 f2
  by_cases hz : n9 = 0
  case pos =>
    subst hz
    have f3 : w4.cell? ⟨rf, 0, none⟩ = some (.int .i64 x0) := (X.sep.at_ 0 rfl).cell 0
    have f4 : w4.cell? ⟨rf, 1, none⟩ = some (.int .i64 y1) := (X.sep.at_ 0 rfl).cell 1
    have f5 : w4.cell? ⟨rf, 2, none⟩ = some (.slice A2 0 c9) := (X.sep.at_ 0 rfl).cell 2
    go_wp2_with fail
    refine (iFeedRow_any x0 y1 A2 0 c9 _ es _ (hrd ((X.sep.own_ 1 rfl).rd)) (Nat.le_refl _) hsz).mono ?_
    rintro e w5 ⟨A3, n3, c3, rfl, o, b⟩
    obtain ⟨fp_row, X'⟩ := X.has b o
    clear X; have X := X'; clear X' b o f3 f4 f5
    have hr3 := (ow_irowL (X.sep.own_ 0 rfl)).1.1
    rw [fed_row HOK.out, HLEN.out] at hr3
    obtain rfl : n3 = 3 := by omega
    have C := Lib.hid (B1.out.trans (grown_below X.grown B1.out.size (fun k hk => by injection hk with hk; omega)))
    clear X
    go_wp2
    go_ret
    exact ⟨rfl, C.out⟩
  case neg =>
    obtain ⟨q, hq⟩ : ∃ q, n9 = q + 1 := ⟨n9 - 1, by omega⟩
    have e1 : ((n9 : Int) == 0) = false := by simp; omega
    have e2 : decide ((n9 : Int) = 0) = false := by simp; omega
    have e3 : decide (n9 = 0) = false := by simp; omega
    have e4 : (n9 == 0) = false := by simp; omega
    obtain ⟨_, _, _, e, _, hnc, hcm, hel⟩ := (hrd ((X.sep.own_ 1 rfl).rd)).ents
    injection e with e1' e2' e3'
    subst e1' e2' e3'
    obtain ⟨eb, eo, rfl, hb, hc⟩ := hel (by omega)
    have h0l : 0 < es.length := by have := HLEN.out; omega
    have hql : q < es.length := by have := HLEN.out; omega
    have HCELL := Lib.hid (fun (v : World) (B9 : Nat) (h9 : Rd v B9 [entD l] [.slice Al nl cl]) => show v.cell? ⟨eb, eo, none⟩ = some (.int .i64 ((k : Int) + 1)) ∧ v.cell? ⟨eb, eo + q * 9, none⟩ = some (.int .i64 ((k : Int) + (q : Int) + 1)) from by
      obtain ⟨_, _, _, e, _, _, _, hel⟩ := (hrd h9).ents
      injection e with e1' e2' e3'
      subst e2' e3'
      obtain ⟨b', o', e', _, hc⟩ := hel (by omega)
      rw [← e1'] at e'
      injection e' with e'
      injection e' with e1 e2
      subst e1 e2
      have ca := (hc 0 h0l).1
      have cb := (hc q hql).1
      rw [HIX.out 0 h0l, Nat.zero_mul, Nat.add_zero] at ca
      rw [HIX.out q hql] at cb
      exact ⟨by simpa using ca, cb⟩)
    have hsz2 : entSz es ≤ 1000000 := by unfold entSz; have := HLEN.out; omega
    have HBK := Lib.hid (fun (v : World) (B : Nat) (h9 : Rd v B [entD es] [.slice (some ⟨eb, eo, none⟩) n9 c9]) => show Rd v B [entD (es.drop q)] [.slice (some ⟨eb, eo + q * 9, none⟩) (n9 - q) (c9 - q)] from Rd.back entC_len (by decide) h9 (by omega) (fun b off e h => by injection e with e; injection e with e1 e2; rw [e1, e2]) (by omega) (by omega))
    have HQ := Lib.hid hq
    have ep : IntKind.i64.wrap ((n9 : Int) - 1) = (q : Int) := by rw [IntKind.wrap_i64]; omega
    have hq0 : (0 : Int) ≤ (q : Int) := by omega
    have hq1 : (q : Int) < (n9 : Int) := by omega
    have hq2 : q < n9 := by omega
    have hn0 : (0 : Int) < (n9 : Int) := by omega
    have hn0n : 0 < n9 := by omega
    have ev : IntKind.i64.wrap ((k : Int) + (q : Int) + 1 - 1) = (k : Int) + (q : Int) := by rw [IntKind.wrap_i64]; omega
    clear hel hc hq hz
    have ew9 : IntKind.i64.wrap ((k : Int) + 1 + 9) = (k : Int) + 1 + 9 := by rw [IntKind.wrap_i64]; omega
    have hcq : ¬ (c9 = q) := by have := HQ.out; omega
    have hnq : (q : Int) ≤ (n9 : Int) := by omega
    have hnqn : q ≤ n9 := by omega
    have f3 : w4.cell? ⟨rf, 0, none⟩ = some (.int .i64 x0) := (X.sep.at_ 0 rfl).cell 0
    have f4 : w4.cell? ⟨rf, 1, none⟩ = some (.int .i64 y1) := (X.sep.at_ 0 rfl).cell 1
    have f5 : w4.cell? ⟨rf, 2, none⟩ = some (.slice (some ⟨eb, eo, none⟩) n9 c9) := (X.sep.at_ 0 rfl).cell 2
    have XA := Lib.hid X
    replace X := X.boxAt (w4.heap.size) rfl #[.int .i64 x0, .int .i64 y1, .slice (some ⟨eb, eo, none⟩) n9 c9] 56
    have f6 : (w4.alloc (.cells #[.int .i64 x0, .int .i64 y1, .slice (some ⟨eb, eo, none⟩) n9 c9] 56)).cell? ⟨rf, 0, none⟩ = some (.int .i64 x0) := (X.sep.at_ 1 rfl).cell 0
    have f7 : (w4.alloc (.cells #[.int .i64 x0, .int .i64 y1, .slice (some ⟨eb, eo, none⟩) n9 c9] 56)).cell? ⟨rf, 1, none⟩ = some (.int .i64 y1) := (X.sep.at_ 1 rfl).cell 1
    have f8 : (w4.alloc (.cells #[.int .i64 x0, .int .i64 y1, .slice (some ⟨eb, eo, none⟩) n9 c9] 56)).cell? ⟨rf, 2, none⟩ = some (.slice (some ⟨eb, eo, none⟩) n9 c9) := (X.sep.at_ 1 rfl).cell 2
    have f9 : (w4.alloc (.cells #[.int .i64 x0, .int .i64 y1, .slice (some ⟨eb, eo, none⟩) n9 c9] 56)).cell? ⟨w4.heap.size, 0, none⟩ = some (.int .i64 x0) := (X.sep.at_ 0 rfl).cell 0
    have f10 := (X.sep.at_ 0 rfl).free 0
    have f11 : (w4.alloc (.cells #[.int .i64 x0, .int .i64 y1, .slice (some ⟨eb, eo, none⟩) n9 c9] 56)).cell? ⟨w4.heap.size, 1, none⟩ = some (.int .i64 y1) := (X.sep.at_ 0 rfl).cell 1
    have f12 := (X.sep.at_ 0 rfl).free 1
    have f13 : (w4.alloc (.cells #[.int .i64 x0, .int .i64 y1, .slice (some ⟨eb, eo, none⟩) n9 c9] 56)).cell? ⟨w4.heap.size, 2, none⟩ = some (.slice (some ⟨eb, eo, none⟩) n9 c9) := (X.sep.at_ 0 rfl).cell 2
    have f14 := (X.sep.at_ 0 rfl).free 2
    obtain ⟨ca1, cb1⟩ := HCELL.out _ _ ((X.sep.own_ 2 rfl).rd)
    clear X
    have X := XA.out
    replace X := X.boxAt (w4.heap.size) rfl #[.int .i64 x0, .int .i64 ((k : Int) + (q : Int)), .slice (some ⟨eb, eo, none⟩) n9 c9] 56
    have f15 : (w4.alloc (.cells #[.int .i64 x0, .int .i64 ((k : Int) + (q : Int)), .slice (some ⟨eb, eo, none⟩) n9 c9] 56)).cell? ⟨rf, 0, none⟩ = some (.int .i64 x0) := (X.sep.at_ 1 rfl).cell 0
    have f16 : (w4.alloc (.cells #[.int .i64 x0, .int .i64 ((k : Int) + (q : Int)), .slice (some ⟨eb, eo, none⟩) n9 c9] 56)).cell? ⟨rf, 1, none⟩ = some (.int .i64 y1) := (X.sep.at_ 1 rfl).cell 1
    have f17 : (w4.alloc (.cells #[.int .i64 x0, .int .i64 ((k : Int) + (q : Int)), .slice (some ⟨eb, eo, none⟩) n9 c9] 56)).cell? ⟨rf, 2, none⟩ = some (.slice (some ⟨eb, eo, none⟩) n9 c9) := (X.sep.at_ 1 rfl).cell 2
    have XB := Lib.hid X
    replace X := X.boxAt (w4.heap.size + 1) (by simp) #[.int .i64 x0, .int .i64 y1, .slice (some ⟨eb, eo, none⟩) n9 c9] 56
    have f18 : ((w4.alloc (.cells #[.int .i64 x0, .int .i64 ((k : Int) + (q : Int)), .slice (some ⟨eb, eo, none⟩) n9 c9] 56)).alloc (.cells #[.int .i64 x0, .int .i64 y1, .slice (some ⟨eb, eo, none⟩) n9 c9] 56)).cell? ⟨rf, 0, none⟩ = some (.int .i64 x0) := (X.sep.at_ 2 rfl).cell 0
    have f19 : ((w4.alloc (.cells #[.int .i64 x0, .int .i64 ((k : Int) + (q : Int)), .slice (some ⟨eb, eo, none⟩) n9 c9] 56)).alloc (.cells #[.int .i64 x0, .int .i64 y1, .slice (some ⟨eb, eo, none⟩) n9 c9] 56)).cell? ⟨rf, 1, none⟩ = some (.int .i64 y1) := (X.sep.at_ 2 rfl).cell 1
    have f20 : ((w4.alloc (.cells #[.int .i64 x0, .int .i64 ((k : Int) + (q : Int)), .slice (some ⟨eb, eo, none⟩) n9 c9] 56)).alloc (.cells #[.int .i64 x0, .int .i64 y1, .slice (some ⟨eb, eo, none⟩) n9 c9] 56)).cell? ⟨rf, 2, none⟩ = some (.slice (some ⟨eb, eo, none⟩) n9 c9) := (X.sep.at_ 2 rfl).cell 2
    have f21 : ((w4.alloc (.cells #[.int .i64 x0, .int .i64 ((k : Int) + (q : Int)), .slice (some ⟨eb, eo, none⟩) n9 c9] 56)).alloc (.cells #[.int .i64 x0, .int .i64 y1, .slice (some ⟨eb, eo, none⟩) n9 c9] 56)).cell? ⟨w4.heap.size + 1, 0, none⟩ = some (.int .i64 x0) := (X.sep.at_ 0 rfl).cell 0
    have f22 := (X.sep.at_ 0 rfl).free 0
    have f23 : ((w4.alloc (.cells #[.int .i64 x0, .int .i64 ((k : Int) + (q : Int)), .slice (some ⟨eb, eo, none⟩) n9 c9] 56)).alloc (.cells #[.int .i64 x0, .int .i64 y1, .slice (some ⟨eb, eo, none⟩) n9 c9] 56)).cell? ⟨w4.heap.size + 1, 1, none⟩ = some (.int .i64 y1) := (X.sep.at_ 0 rfl).cell 1
    have f24 := (X.sep.at_ 0 rfl).free 1
    have f25 : ((w4.alloc (.cells #[.int .i64 x0, .int .i64 ((k : Int) + (q : Int)), .slice (some ⟨eb, eo, none⟩) n9 c9] 56)).alloc (.cells #[.int .i64 x0, .int .i64 y1, .slice (some ⟨eb, eo, none⟩) n9 c9] 56)).cell? ⟨w4.heap.size + 1, 2, none⟩ = some (.slice (some ⟨eb, eo, none⟩) n9 c9) := (X.sep.at_ 0 rfl).cell 2
    have f26 := (X.sep.at_ 0 rfl).free 2
    obtain ⟨ca2, cb2⟩ := HCELL.out _ _ ((X.sep.own_ 3 rfl).rd)
    clear X
    have X := XB.out
    replace X := X.boxAt (w4.heap.size + 1) (by simp) #[.int .i64 ((k : Int) + 1), .int .i64 y1, .slice (some ⟨eb, eo, none⟩) n9 c9] 56
    have f27 : ((w4.alloc (.cells #[.int .i64 x0, .int .i64 ((k : Int) + (q : Int)), .slice (some ⟨eb, eo, none⟩) n9 c9] 56)).alloc (.cells #[.int .i64 ((k : Int) + 1), .int .i64 y1, .slice (some ⟨eb, eo, none⟩) n9 c9] 56)).cell? ⟨w4.heap.size + 1, 0, none⟩ = some (.int .i64 ((k : Int) + 1)) := (X.sep.at_ 0 rfl).cell 0
    have f28 := (X.sep.at_ 0 rfl).free 0
    have f29 : ((w4.alloc (.cells #[.int .i64 x0, .int .i64 ((k : Int) + (q : Int)), .slice (some ⟨eb, eo, none⟩) n9 c9] 56)).alloc (.cells #[.int .i64 ((k : Int) + 1), .int .i64 y1, .slice (some ⟨eb, eo, none⟩) n9 c9] 56)).cell? ⟨w4.heap.size + 1, 1, none⟩ = some (.int .i64 y1) := (X.sep.at_ 0 rfl).cell 1
    have f30 := (X.sep.at_ 0 rfl).free 1
    have f31 : ((w4.alloc (.cells #[.int .i64 x0, .int .i64 ((k : Int) + (q : Int)), .slice (some ⟨eb, eo, none⟩) n9 c9] 56)).alloc (.cells #[.int .i64 ((k : Int) + 1), .int .i64 y1, .slice (some ⟨eb, eo, none⟩) n9 c9] 56)).cell? ⟨w4.heap.size + 1, 2, none⟩ = some (.slice (some ⟨eb, eo, none⟩) n9 c9) := (X.sep.at_ 0 rfl).cell 2
    have f32 := (X.sep.at_ 0 rfl).free 2
    clear X
    have X := XB.out
    replace X := X.boxAt (w4.heap.size + 1) (by simp) #[.int .i64 ((k : Int) + 1), .int .i64 ((k : Int) + 1 + 9), .slice (some ⟨eb, eo, none⟩) n9 c9] 56
    have f33 : ((w4.alloc (.cells #[.int .i64 x0, .int .i64 ((k : Int) + (q : Int)), .slice (some ⟨eb, eo, none⟩) n9 c9] 56)).alloc (.cells #[.int .i64 ((k : Int) + 1), .int .i64 ((k : Int) + 1 + 9), .slice (some ⟨eb, eo, none⟩) n9 c9] 56)).cell? ⟨rf, 0, none⟩ = some (.int .i64 x0) := (X.sep.at_ 2 rfl).cell 0
    have f34 : ((w4.alloc (.cells #[.int .i64 x0, .int .i64 ((k : Int) + (q : Int)), .slice (some ⟨eb, eo, none⟩) n9 c9] 56)).alloc (.cells #[.int .i64 ((k : Int) + 1), .int .i64 ((k : Int) + 1 + 9), .slice (some ⟨eb, eo, none⟩) n9 c9] 56)).cell? ⟨rf, 1, none⟩ = some (.int .i64 y1) := (X.sep.at_ 2 rfl).cell 1
    have f35 : ((w4.alloc (.cells #[.int .i64 x0, .int .i64 ((k : Int) + (q : Int)), .slice (some ⟨eb, eo, none⟩) n9 c9] 56)).alloc (.cells #[.int .i64 ((k : Int) + 1), .int .i64 ((k : Int) + 1 + 9), .slice (some ⟨eb, eo, none⟩) n9 c9] 56)).cell? ⟨rf, 2, none⟩ = some (.slice (some ⟨eb, eo, none⟩) n9 c9) := (X.sep.at_ 2 rfl).cell 2
    replace X := X.boxAt (w4.heap.size + 2) (by simp) #[.int .i64 x0, .int .i64 y1, .slice (some ⟨eb, eo, none⟩) n9 c9] 56
    go_wp2_with fail
    generalize ((w4.alloc (.cells #[.int .i64 x0, .int .i64 ((k : Int) + (q : Int)), .slice (some ⟨eb, eo, none⟩) n9 c9] 56)).alloc (.cells #[.int .i64 ((k : Int) + 1), .int .i64 ((k : Int) + 1 + 9), .slice (some ⟨eb, eo, none⟩) n9 c9] 56)).alloc (.cells #[.int .i64 x0, .int .i64 y1, .slice (some ⟨eb, eo, none⟩) n9 c9] 56) = w5 at *
    clear f3 f4 f5 f6 f7 f8 f9 f10 f11 f12 f13 f14 f15 f16 f17 f18 f19 f20 f21 f22 f23 f24 f25 f26 f27 f28 f29 f30 f31 f32 f33 f34 f35
    clear XA XB ca1 cb1 ca2 cb2
    obtain ⟨q0, hq0'⟩ : ∃ y, y = w4.heap.size := ⟨_, rfl⟩
    rw [← hq0'] at X ⊢
    clear hq0'
    refine wp_region_L (fun v => v.cell? ⟨rf, 2, none⟩ = some (.slice (some ⟨eb, eo, none⟩) n9 c9)) 9 (by kernel_rfl) ?_
    replace X := X.drew
    generalize w5.drew = w6 at *
    have HF : w6.cell? ⟨rf, 2, none⟩ = some (.slice (some ⟨eb, eo, none⟩) n9 c9) := (X.sep.at_ 3 rfl).cell 2
    refine wpAnyL_take (i := 0) (v := ?_) rfl rfl (by kernel_rfl) (by kernel_rfl) (by kernel_rfl) (by kernel_rfl) (by kernel_rfl) (fun _ _ _ h => h) HF (Or.inl ⟨by rfl, ?_⟩) ?_
    rotate_left 1
    · (rintro v a0; go_simp; try with_reducible rfl)
    try simp only [Act.put]
    refine wpAnyL_take (i := 1) (v := ?_) rfl rfl (by kernel_rfl) (by kernel_rfl) (by kernel_rfl) (by kernel_rfl) (by kernel_rfl) (fun _ _ _ h => h) HF (Or.inl ⟨by rfl, ?_⟩) ?_
    rotate_left 1
    · (rintro v a0; go_simp; try with_reducible rfl)
    try simp only [Act.put]
    refine wpAnyL_take (i := 2) (v := ?_) rfl rfl (by kernel_rfl) (by kernel_rfl) (by kernel_rfl) (by kernel_rfl) (by kernel_rfl) (fun _ _ _ h => h) HF (Or.inl ⟨by rfl, ?_⟩) ?_
    rotate_left 1
    · (rintro v a0; go_simp; try with_reducible rfl)
    try simp only [Act.put]
    refine wpAnyL_take (i := 3) (v := ?_) rfl rfl (by kernel_rfl) (by kernel_rfl) (by kernel_rfl) (by kernel_rfl) (by kernel_rfl) (fun _ _ _ h => h) HF (Or.inl ⟨by rfl, ?_⟩) ?_
    rotate_left 1
    · (rintro v a0; go_simp; try with_reducible rfl)
    try simp only [Act.put]
    refine wpAnyL_take (i := 4) (v := ?_) rfl rfl (by kernel_rfl) (by kernel_rfl) (by kernel_rfl) (by kernel_rfl) (by kernel_rfl) (fun _ _ _ h => h) HF (Or.inl ⟨by rfl, ?_⟩) ?_
    rotate_left 1
    · (rintro v a0; go_simp; try with_reducible rfl)
    try simp only [Act.put]
    refine wpAnyL_take (i := 5) (v := ?_) rfl rfl (by kernel_rfl) (by kernel_rfl) (by kernel_rfl) (by kernel_rfl) (by kernel_rfl) (fun _ _ _ h => h) HF (Or.inl ⟨by rfl, ?_⟩) ?_
    rotate_left 1
    · (rintro v a0; go_simp; try with_reducible rfl)
    try simp only [Act.put]
    refine wpAnyL_take (i := 6) (v := ?_) rfl rfl (by kernel_rfl) (by kernel_rfl) (by kernel_rfl) (by kernel_rfl) (by kernel_rfl) (fun _ _ _ h => h) HF (Or.inl ⟨by rfl, ?_⟩) ?_
    rotate_left 1
    · (rintro v a0; go_simp; try with_reducible rfl)
    try simp only [Act.put]
    refine wpAnyL_step (i := 7) (by kernel_rfl) rfl rfl ?_
    intro K hK
    go_simp
    refine (w9both_any _ _ _ _ _ _ _ _ es (es.drop q) _ (hrd ((X.sep.own_ 4 rfl).rd)) (HBK.out _ _ (hrd ((X.sep.own_ 4 rfl).rd))) (Nat.le_refl _) (Nat.le_refl _) hsz2 (by unfold entSz; rw [List.length_drop]; unfold entSz at hsz2; omega)).mono ?_
    rintro e w7 ⟨A5, c5, rfl, o, b⟩
    obtain ⟨fp_ul, X'⟩ := X.has b o
    clear X; have X := X'; clear X' b o
    clear HF
    have HF : w7.cell? ⟨rf, 2, none⟩ = some (.slice (some ⟨eb, eo, none⟩) n9 c9) := (X.sep.at_ 4 rfl).cell 2
    refine hK _ _ (fun _ => HF) ?_
    clear hK K
    try simp only [Act.put]
    refine wpAnyL_take (i := 8) (v := ?_) rfl rfl (by kernel_rfl) (by kernel_rfl) (by kernel_rfl) (by kernel_rfl) (by kernel_rfl) (fun _ _ _ h => h) HF (Or.inl ⟨by rfl, ?_⟩) ?_
    rotate_left 1
    · (rintro v a0; go_simp; try with_reducible rfl)
    try simp only [Act.put]
    have f36 : w7.cell? ⟨q0 + 2, 0, none⟩ = some (.int .i64 x0) := (X.sep.at_ 1 rfl).cell 0
    have f37 := (X.sep.at_ 1 rfl).free 0
    have f38 : w7.cell? ⟨q0 + 2, 1, none⟩ = some (.int .i64 y1) := (X.sep.at_ 1 rfl).cell 1
    have f39 := (X.sep.at_ 1 rfl).free 1
    have f40 : w7.cell? ⟨q0 + 2, 2, none⟩ = some (.slice (some ⟨eb, eo, none⟩) n9 c9) := (X.sep.at_ 1 rfl).cell 2
    have f41 := (X.sep.at_ 1 rfl).free 2
    refine wpAnyL_step (i := 9) (by kernel_rfl) rfl rfl ?_
    intro K hK
    go_simp
    refine hK _ _ (fun h => nomatch (show true = false from h)) ?_
    clear hK K
    try simp only [Act.put]
    refine wpAnyL_done (by kernel_rfl) ?_ _
    replace X := X.put 1 rfl 2 (.slice A5 (n9 + (n9 - q)) c5)
    clear HF
    generalize w7.setCell ⟨q0 + 2, 2, none⟩ (.slice A5 (n9 + (n9 - q)) c5) = w8 at *
    clear f36 f37 f38 f39 f40 f41
    have HU := Lib.hid (show feedOkB ⟨x0, y1, es ++ es.drop q⟩ = false by rw [drop_last (by have := HLEN.out; have := HQ.out; omega)]; exact fed_u (q := q) (by have := HLEN.out; have := HQ.out; omega) _)
    have HGQ := Lib.hid (HG.out q HQ.out)
    have HHQ := Lib.hid (HH.out q HQ.out)
    have hszu : entSz (es ++ es.drop q) ≤ 1048577 := by unfold entSz; rw [List.length_append, List.length_drop]; unfold entSz at hsz2; omega
    have f42 : w8.cell? ⟨q0, 0, none⟩ = some (.int .i64 x0) := (X.sep.at_ 3 rfl).cell 0
    have f43 : w8.cell? ⟨q0, 1, none⟩ = some (.int .i64 ((k : Int) + (q : Int))) := (X.sep.at_ 3 rfl).cell 1
    have f44 : w8.cell? ⟨q0, 2, none⟩ = some (.slice (some ⟨eb, eo, none⟩) n9 c9) := (X.sep.at_ 3 rfl).cell 2
    go_wp2_with fail
    refine (iFeedOk_any x0 ((k : Int) + (q : Int)) (some ⟨eb, eo, none⟩) n9 c9 _ es _ (hrd ((X.sep.own_ 5 rfl).rd)) (Nat.le_refl _) hsz).mono ?_
    rintro e w9 ⟨rfl, b2⟩
    rw [HGQ.out]
    replace X := X.keep b2
    clear b2 f42 f43 f44
    have f45 : w9.cell? ⟨q0 + 1, 0, none⟩ = some (.int .i64 ((k : Int) + 1)) := (X.sep.at_ 2 rfl).cell 0
    have f46 : w9.cell? ⟨q0 + 1, 1, none⟩ = some (.int .i64 ((k : Int) + 1 + 9)) := (X.sep.at_ 2 rfl).cell 1
    have f47 : w9.cell? ⟨q0 + 1, 2, none⟩ = some (.slice (some ⟨eb, eo, none⟩) n9 c9) := (X.sep.at_ 2 rfl).cell 2
    go_wp2_with fail
    refine (iFeedOk_any ((k : Int) + 1) ((k : Int) + 1 + 9) (some ⟨eb, eo, none⟩) n9 c9 _ es _ (hrd ((X.sep.own_ 5 rfl).rd)) (Nat.le_refl _) hsz).mono ?_
    rintro e w10 ⟨rfl, b2⟩
    rw [HHQ.out]
    replace X := X.keep b2
    clear b2 f45 f46 f47
    have f48 : w10.cell? ⟨q0 + 2, 0, none⟩ = some (.int .i64 x0) := (X.sep.at_ 1 rfl).cell 0
    have f49 : w10.cell? ⟨q0 + 2, 1, none⟩ = some (.int .i64 y1) := (X.sep.at_ 1 rfl).cell 1
    have f50 : w10.cell? ⟨q0 + 2, 2, none⟩ = some (.slice A5 (n9 + (n9 - q)) c5) := (X.sep.at_ 1 rfl).cell 2
    go_wp2_with fail
    refine (iFeedOk_any x0 y1 A5 (n9 + (n9 - q)) c5 _ (es ++ es.drop q) _ ((X.sep.own_ 0 rfl).rd) (Nat.le_refl _) hszu).mono ?_
    rintro e w11 ⟨rfl, b2⟩
    rw [HU.out]
    replace X := X.keep b2
    clear b2 f48 f49 f50
    have f51 : w11.cell? ⟨q0, 0, none⟩ = some (.int .i64 x0) := (X.sep.at_ 3 rfl).cell 0
    have f52 : w11.cell? ⟨q0, 1, none⟩ = some (.int .i64 ((k : Int) + (q : Int))) := (X.sep.at_ 3 rfl).cell 1
    have f53 : w11.cell? ⟨q0, 2, none⟩ = some (.slice (some ⟨eb, eo, none⟩) n9 c9) := (X.sep.at_ 3 rfl).cell 2
    go_wp2_with fail
    refine (iFeedRow_any x0 ((k : Int) + (q : Int)) (some ⟨eb, eo, none⟩) n9 c9 _ es _ (hrd ((X.sep.own_ 5 rfl).rd)) (Nat.le_refl _) hsz).mono ?_
    rintro e w12 ⟨A6, n6, c6, rfl, o, b⟩
    obtain ⟨fp_row6, X'⟩ := X.has b o
    clear X; have X := X'; clear X' b o f51 f52 f53
    have hr6 := (ow_irowL (X.sep.own_ 0 rfl)).1.1
    rw [fed_norow HGQ.out] at hr6
    have hz6 : n6 = 0 := hr6.symm
    subst hz6
    have f54 : w12.cell? ⟨q0 + 1, 0, none⟩ = some (.int .i64 ((k : Int) + 1)) := (X.sep.at_ 3 rfl).cell 0
    have f55 : w12.cell? ⟨q0 + 1, 1, none⟩ = some (.int .i64 ((k : Int) + 1 + 9)) := (X.sep.at_ 3 rfl).cell 1
    have f56 : w12.cell? ⟨q0 + 1, 2, none⟩ = some (.slice (some ⟨eb, eo, none⟩) n9 c9) := (X.sep.at_ 3 rfl).cell 2
    go_wp2_with fail
    refine (iFeedRow_any ((k : Int) + 1) ((k : Int) + 1 + 9) (some ⟨eb, eo, none⟩) n9 c9 _ es _ (hrd ((X.sep.own_ 6 rfl).rd)) (Nat.le_refl _) hsz).mono ?_
    rintro e w13 ⟨A7, n7, c7, rfl, o, b⟩
    obtain ⟨fp_row7, X'⟩ := X.has b o
    clear X; have X := X'; clear X' b o f54 f55 f56
    have hr7 := (ow_irowL (X.sep.own_ 0 rfl)).1.1
    rw [fed_norow HHQ.out] at hr7
    have hz7 : n7 = 0 := hr7.symm
    subst hz7
    have f57 : w13.cell? ⟨rf, 0, none⟩ = some (.int .i64 x0) := (X.sep.at_ 6 rfl).cell 0
    have f58 : w13.cell? ⟨rf, 1, none⟩ = some (.int .i64 y1) := (X.sep.at_ 6 rfl).cell 1
    have f59 : w13.cell? ⟨rf, 2, none⟩ = some (.slice (some ⟨eb, eo, none⟩) n9 c9) := (X.sep.at_ 6 rfl).cell 2
    go_wp2_with fail
    refine (iFeedRow_any x0 y1 (some ⟨eb, eo, none⟩) n9 c9 _ es _ (hrd ((X.sep.own_ 7 rfl).rd)) (Nat.le_refl _) hsz).mono ?_
    rintro e w14 ⟨A8, n8, c8, rfl, o, b⟩
    obtain ⟨fp_row8, X'⟩ := X.has b o
    clear X; have X := X'; clear X' b o f57 f58 f59
    have hr8 := (ow_irowL (X.sep.own_ 0 rfl)).1.1
    rw [fed_row HOK.out, HLEN.out] at hr8
    have ew8 : IntKind.i64.wrap (9 * (n9 : Int)) = 9 * (n9 : Int) := by rw [IntKind.wrap_i64]; omega
    have ew7 : IntKind.i64.wrap (3 + 9 * (n9 : Int)) = 3 + 9 * (n9 : Int) := by rw [IntKind.wrap_i64]; omega
    have hn8 : n8 = 3 + 9 * n9 := hr8.symm
    have g8 : ((n8 : Int) == 3 + 9 * (n9 : Int)) = true := by simp; omega
    have g9 : decide ((n8 : Int) = 3 + 9 * (n9 : Int)) = true := by simp; omega
    clear hn8 hr8
    have C := Lib.hid (B1.out.trans (grown_below X.grown B1.out.size (fun k hk => by injection hk with hk; omega)))
    clear X
    go_wp2
    go_ret
    exact ⟨rfl, C.out⟩

end Go.Proofs.Ytepnghjmpbfmcaa
