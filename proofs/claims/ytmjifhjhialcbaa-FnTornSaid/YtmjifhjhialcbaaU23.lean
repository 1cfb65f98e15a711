/- Parts of my texts: LawTorn. -/
import Derived.Test.YtmjifhjhialcbaaU17
import Derived.Test.YtmjifhjhialcbaaU18
import Derived.Test.YtmjifhjhialcbaaU22
namespace Go.Proofs.Ytmjifhjhialcbaa
set_option maxRecDepth 100000
set_option linter.unusedVariables false
open Go.RowKit
set_option linter.unusedSimpArgs false
theorem ents_cellsT {w : World} {B : Nat} {l : List EntM} {lb lo n c : Nat} (h : Rd w B [entD l] [.slice (some ⟨lb, lo, none⟩) n c]) {j : Nat} (hj : j < l.length) {e0 e1 e2 e3 e4 e5 e6 e7 e8 : Int} (hE : l[j] = ⟨e0, e1, e2, e3, e4, e5, e6, e7, e8⟩) : w.cell? ⟨lb, lo + j * 9, none⟩ = some (.int .i64 e0) ∧ w.cell? ⟨lb, lo + j * 9 + 1, none⟩ = some (.int .i64 e1) ∧ w.cell? ⟨lb, lo + j * 9 + 2, none⟩ = some (.int .i64 e2) ∧ w.cell? ⟨lb, lo + j * 9 + 3, none⟩ = some (.int .i64 e3) ∧ w.cell? ⟨lb, lo + j * 9 + 4, none⟩ = some (.int .i64 e4) ∧ w.cell? ⟨lb, lo + j * 9 + 5, none⟩ = some (.int .i64 e5) ∧ w.cell? ⟨lb, lo + j * 9 + 6, none⟩ = some (.int .i64 e6) ∧ w.cell? ⟨lb, lo + j * 9 + 7, none⟩ = some (.int .i64 e7) ∧ w.cell? ⟨lb, lo + j * 9 + 8, none⟩ = some (.int .i64 e8) := by
 obtain ⟨_, _, _, e, hl, _, _, hel⟩ := h.ents
 injection e with e1 e2 e3
 subst e1 e2 e3
 obtain ⟨b, off, e, _, hc⟩ := hel (by omega)
 injection e with e
 injection e with e4 e5
 subst e4 e5
 have h9 := hc j hj
 rw [hE] at h9
 exact h9
theorem row1_rd {w : World} {q : Nat} {x : Int} {t : TypeId} (h : Blk w q #[.int .i64 x] t) : Rd w w.heap.size (rowCells [x]) [.slice (some ⟨q, 0, none⟩) 1 1] := by
 refine IRow.rd (xs := [x]) ⟨rfl, fun _ => ⟨q, 0, rfl, h.lt, fun j hj => ?_⟩⟩ (Nat.le_refl _) (by unfold maxLen; omega)
 rw [h.cell]
 have : j = 0 := by omega
 subst this
 rfl
theorem head_seen_sz {l : List EntM} (hr : RunS l) (hl : l.length = 22) {num : Int} {b : Nat} (h : 0 ≤ num ∧ num < (b : Int)) (hb : b ≤ 11) : mrkSz (headOf l num b).seen ≤ 1048577 :=
 Nat.le_trans (seen_len ((headOkB_iff _).1 (headOf_ok hr (by omega) (by omega) (by omega) (by omega)).1).2.2.2.2.1) (by decide)
set_option maxHeartbeats 12800000 in
theorem lawTorn (hS : CSlotRow 9) (hH : CHeadRow 10) (hP : CRowSlot 20) (hQ : CRowHead 21)
    (A : Option Addr) (n c0 : Nat) (w : World) (h : BRow w w.heap.size A n) (hm : n ≤ maxLen) :
    Calls Try.prog 3 #[.slice A n c0] w fun e w' => e = .returned (.bool true) ∧ Below w.heap.size w w' := by
 have HS := jd hS
 have HH := jd hH
 have HP := jd hP
 have HQ := jd hQ
 clear hS hH hP hQ
 unfold maxLen at hm
 by_cases hn : 4096 < n
 · clear h
   go_enter Try.func3, Try.ntmps3
   go_wp2_with fail
   refine (lbig_any A n c0 _).mono ?_
   rintro e w' ⟨rfl, rfl⟩
   rw [decide_eq_true hn]
   go_wp2
   go_ret
   exact ⟨rfl, Below.refl _ _⟩
 go_enter Try.func3, Try.ntmps3
 go_wp2_with fail
 refine (lbig_any A n c0 _).mono ?_
 rintro e w' ⟨rfl, rfl⟩
 rw [decide_eq_false hn]
 go_wp2_with fail
 refine (roll_any A n c0 _ h (by omega) _).mono ?_
 rintro e w1 ⟨rfl, cu, b1⟩
 have X := DrL.start cu
 have B1 := jd b1
 clear b1 cu h
 replace X := X.boxAt (w1.heap.size) rfl #[] 35
 replace X := X.with_ (X.sep.blk0 (k := 9) (f := entC))
 go_wp2_with fail
 generalize w1.alloc (.cells #[] 35) = w2 at *
 refine (w9list_from _ _ 22 (by decide) _ 0 _ [] RunT.nil (Nat.zero_le _) _ X.cur ((X.sep.own_ 0 rfl).rd)).mono ?_
 rintro e w3 ⟨l, A, n, c, hl, hrun, rfl, cu, gr, o⟩
 obtain ⟨fp_l, X'⟩ := X.drawHas cu gr o
 clear X; have X := X'; clear X' cu gr o
 replace X := X.with_ (X.sep.sub (.cons_cons _ (List.nil_sublist _)))
 have hrun : RunS l := hrun.1
 obtain ⟨_, _, _, e, hln, hnc, hcm, hel⟩ := ((X.sep.own_ 0 rfl).rd).ents
 injection e with e1 e2 e3
 subst e1 e2 e3
 have HN := jd (show n = 22 by omega)
 have HL := jd hl
 have HR := jd hrun
 obtain ⟨lb, lo, rfl, _, _⟩ := hel (by omega)
 clear hl hln hrun hel
 go_wp2_with fail
 refine (lbelow_any _ _ _ X.cur 2 (by decide)).mono ?_
 rintro e w4 ⟨z, hz, rfl, cu, gr⟩
 replace X := X.draw cu gr
 clear cu gr
 obtain ⟨k, rfl⟩ : ∃ k : Nat, z = (k : Int) := ⟨z.toNat, by omega⟩
 obtain ⟨k2, hk2⟩ : ∃ k2 : Nat, k2 = k + 20 := ⟨_, rfl⟩
 have hwk : IntKind.i64.wrap ((k : Int) + 20) = (k2 : Int) := by rw [IntKind.wrap_i64]; omega
 have hkl : k < l.length := by have := HL.out; omega
 have hkl2 : k2 < l.length := by have := HL.out; omega
 have k0 : (0 : Int) ≤ (k : Int) := by omega
 have k1 : (k : Int) < (n : Int) := by have := HN.out; omega
 have k3 : (0 : Int) ≤ (k2 : Int) := by omega
 have k4 : (k2 : Int) < (n : Int) := by have := HN.out; omega
 have HTP := jd (torn_two HR.out hkl hkl2 (by omega))
 have HKL := jd hkl
 have HKL2 := jd hkl2
 obtain ⟨E, hE⟩ : ∃ E, E = l[k] := ⟨_, rfl⟩
 obtain ⟨G, hG⟩ : ∃ G, G = l[k2] := ⟨_, rfl⟩
 have HME := jd hE.symm
 have HMG := jd hG.symm
 have HTQ := jd (show TornP (slotRowM E) (slotRowM G) 11 by rw [hE, hG]; exact HTP.out)
 clear hz hk2 hkl hkl2 hE hG HTP
 obtain ⟨e0, e1, e2, e3, e4, e5, e6, e7, e8⟩ := E
 obtain ⟨g0, g1, g2, g3, g4, g5, g6, g7, g8⟩ := G
 go_wp2_with fail
 obtain ⟨hc0, hc1, hc2, hc3, hc4, hc5, hc6, hc7, hc8⟩ := ents_cellsT ((X.sep.own_ 0 rfl).rd) HKL.out HME.out
 obtain ⟨hd0, hd1, hd2, hd3, hd4, hd5, hd6, hd7, hd8⟩ := ents_cellsT ((X.sep.own_ 0 rfl).rd) HKL2.out HMG.out
 refine wp_region_L (fun v => v.cell? ⟨lb, lo + k * 9, none⟩ = some (.int .i64 e0) ∧ v.cell? ⟨lb, lo + k * 9 + 1, none⟩ = some (.int .i64 e1) ∧ v.cell? ⟨lb, lo + k * 9 + 2, none⟩ = some (.int .i64 e2) ∧ v.cell? ⟨lb, lo + k * 9 + 3, none⟩ = some (.int .i64 e3) ∧ v.cell? ⟨lb, lo + k * 9 + 4, none⟩ = some (.int .i64 e4) ∧ v.cell? ⟨lb, lo + k * 9 + 5, none⟩ = some (.int .i64 e5) ∧ v.cell? ⟨lb, lo + k * 9 + 6, none⟩ = some (.int .i64 e6) ∧ v.cell? ⟨lb, lo + k * 9 + 7, none⟩ = some (.int .i64 e7) ∧ v.cell? ⟨lb, lo + k * 9 + 8, none⟩ = some (.int .i64 e8) ∧ v.cell? ⟨lb, lo + k2 * 9, none⟩ = some (.int .i64 g0) ∧ v.cell? ⟨lb, lo + k2 * 9 + 1, none⟩ = some (.int .i64 g1) ∧ v.cell? ⟨lb, lo + k2 * 9 + 2, none⟩ = some (.int .i64 g2) ∧ v.cell? ⟨lb, lo + k2 * 9 + 3, none⟩ = some (.int .i64 g3) ∧ v.cell? ⟨lb, lo + k2 * 9 + 4, none⟩ = some (.int .i64 g4) ∧ v.cell? ⟨lb, lo + k2 * 9 + 5, none⟩ = some (.int .i64 g5) ∧ v.cell? ⟨lb, lo + k2 * 9 + 6, none⟩ = some (.int .i64 g6) ∧ v.cell? ⟨lb, lo + k2 * 9 + 7, none⟩ = some (.int .i64 g7) ∧ v.cell? ⟨lb, lo + k2 * 9 + 8, none⟩ = some (.int .i64 g8)) 12 (by kernel_rfl) ?_
 have HF : w4.drew.cell? ⟨lb, lo + k * 9, none⟩ = some (.int .i64 e0) ∧ w4.drew.cell? ⟨lb, lo + k * 9 + 1, none⟩ = some (.int .i64 e1) ∧ w4.drew.cell? ⟨lb, lo + k * 9 + 2, none⟩ = some (.int .i64 e2) ∧ w4.drew.cell? ⟨lb, lo + k * 9 + 3, none⟩ = some (.int .i64 e3) ∧ w4.drew.cell? ⟨lb, lo + k * 9 + 4, none⟩ = some (.int .i64 e4) ∧ w4.drew.cell? ⟨lb, lo + k * 9 + 5, none⟩ = some (.int .i64 e5) ∧ w4.drew.cell? ⟨lb, lo + k * 9 + 6, none⟩ = some (.int .i64 e6) ∧ w4.drew.cell? ⟨lb, lo + k * 9 + 7, none⟩ = some (.int .i64 e7) ∧ w4.drew.cell? ⟨lb, lo + k * 9 + 8, none⟩ = some (.int .i64 e8) ∧ w4.drew.cell? ⟨lb, lo + k2 * 9, none⟩ = some (.int .i64 g0) ∧ w4.drew.cell? ⟨lb, lo + k2 * 9 + 1, none⟩ = some (.int .i64 g1) ∧ w4.drew.cell? ⟨lb, lo + k2 * 9 + 2, none⟩ = some (.int .i64 g2) ∧ w4.drew.cell? ⟨lb, lo + k2 * 9 + 3, none⟩ = some (.int .i64 g3) ∧ w4.drew.cell? ⟨lb, lo + k2 * 9 + 4, none⟩ = some (.int .i64 g4) ∧ w4.drew.cell? ⟨lb, lo + k2 * 9 + 5, none⟩ = some (.int .i64 g5) ∧ w4.drew.cell? ⟨lb, lo + k2 * 9 + 6, none⟩ = some (.int .i64 g6) ∧ w4.drew.cell? ⟨lb, lo + k2 * 9 + 7, none⟩ = some (.int .i64 g7) ∧ w4.drew.cell? ⟨lb, lo + k2 * 9 + 8, none⟩ = some (.int .i64 g8) := ⟨hc0, hc1, hc2, hc3, hc4, hc5, hc6, hc7, hc8, hd0, hd1, hd2, hd3, hd4, hd5, hd6, hd7, hd8⟩
 clear hc0 hc1 hc2 hc3 hc4 hc5 hc6 hc7 hc8 hd0 hd1 hd2 hd3 hd4 hd5 hd6 hd7 hd8
 replace X := X.drew
 generalize w4.drew = w5 at *
 refine tk 0 (v := ?_) rfl rfl HF (.inl ⟨by rfl, ?_⟩) ?_
 rotate_left 1
 · (rintro v ⟨a0, a1, a2, a3, a4, a5, a6, a7, a8, a9, a10, a11, a12, a13, a14, a15, a16, a17⟩; go_simp; try with_reducible rfl)
 try simp only [Act.put]
 refine tk 1 (v := ?_) rfl rfl HF (.inl ⟨by rfl, ?_⟩) ?_
 rotate_left 1
 · (rintro v ⟨a0, a1, a2, a3, a4, a5, a6, a7, a8, a9, a10, a11, a12, a13, a14, a15, a16, a17⟩; go_simp; try with_reducible rfl)
 try simp only [Act.put]
 refine tk 2 (v := ?_) rfl rfl HF (.inl ⟨by rfl, ?_⟩) ?_
 rotate_left 1
 · (rintro v ⟨a0, a1, a2, a3, a4, a5, a6, a7, a8, a9, a10, a11, a12, a13, a14, a15, a16, a17⟩; go_simp; try with_reducible rfl)
 try simp only [Act.put]
 refine tk 3 (v := ?_) rfl rfl HF (.inl ⟨by rfl, ?_⟩) ?_
 rotate_left 1
 · (rintro v ⟨a0, a1, a2, a3, a4, a5, a6, a7, a8, a9, a10, a11, a12, a13, a14, a15, a16, a17⟩; go_simp; try with_reducible rfl)
 try simp only [Act.put]
 refine tk 5 (v := ?_) rfl rfl HF (.inl ⟨by rfl, ?_⟩) ?_
 rotate_left 1
 · (rintro v ⟨a0, a1, a2, a3, a4, a5, a6, a7, a8, a9, a10, a11, a12, a13, a14, a15, a16, a17⟩; go_simp; try with_reducible rfl)
 try simp only [Act.put]
 refine tk 6 (v := ?_) rfl rfl HF (.inl ⟨by rfl, ?_⟩) ?_
 rotate_left 1
 · (rintro v ⟨a0, a1, a2, a3, a4, a5, a6, a7, a8, a9, a10, a11, a12, a13, a14, a15, a16, a17⟩; go_simp; try with_reducible rfl)
 try simp only [Act.put]
 refine tk 7 (v := ?_) rfl rfl HF (.inl ⟨by rfl, ?_⟩) ?_
 rotate_left 1
 · (rintro v ⟨a0, a1, a2, a3, a4, a5, a6, a7, a8, a9, a10, a11, a12, a13, a14, a15, a16, a17⟩; go_simp; try with_reducible rfl)
 try simp only [Act.put]
 refine tk 8 (v := ?_) rfl rfl HF (.inl ⟨by rfl, ?_⟩) ?_
 rotate_left 1
 · (rintro v ⟨a0, a1, a2, a3, a4, a5, a6, a7, a8, a9, a10, a11, a12, a13, a14, a15, a16, a17⟩; go_simp; try with_reducible rfl)
 try simp only [Act.put]
 refine tk 9 (v := ?_) rfl rfl HF (.inl ⟨by rfl, ?_⟩) ?_
 rotate_left 1
 · (rintro v ⟨a0, a1, a2, a3, a4, a5, a6, a7, a8, a9, a10, a11, a12, a13, a14, a15, a16, a17⟩; go_simp; try with_reducible rfl)
 try simp only [Act.put]
 refine wpAnyL_step (i := 4) (by kernel_rfl) rfl rfl ?_
 intro K hK
 go_simp
 refine (HS.out e0 e1 e2 e3 e4 e5 e6 e7 e8 _).mono ?_
 rintro e w6 ⟨Ar, nr, cr, rfl, o, b⟩
 obtain ⟨fp_r, X'⟩ := X.has b o
 clear X; have X := X'; clear X' b o HF
 obtain ⟨hc0, hc1, hc2, hc3, hc4, hc5, hc6, hc7, hc8⟩ := ents_cellsT ((X.sep.own_ 1 rfl).rd) HKL.out HME.out
 obtain ⟨hd0, hd1, hd2, hd3, hd4, hd5, hd6, hd7, hd8⟩ := ents_cellsT ((X.sep.own_ 1 rfl).rd) HKL2.out HMG.out
 have HF : w6.cell? ⟨lb, lo + k * 9, none⟩ = some (.int .i64 e0) ∧ w6.cell? ⟨lb, lo + k * 9 + 1, none⟩ = some (.int .i64 e1) ∧ w6.cell? ⟨lb, lo + k * 9 + 2, none⟩ = some (.int .i64 e2) ∧ w6.cell? ⟨lb, lo + k * 9 + 3, none⟩ = some (.int .i64 e3) ∧ w6.cell? ⟨lb, lo + k * 9 + 4, none⟩ = some (.int .i64 e4) ∧ w6.cell? ⟨lb, lo + k * 9 + 5, none⟩ = some (.int .i64 e5) ∧ w6.cell? ⟨lb, lo + k * 9 + 6, none⟩ = some (.int .i64 e6) ∧ w6.cell? ⟨lb, lo + k * 9 + 7, none⟩ = some (.int .i64 e7) ∧ w6.cell? ⟨lb, lo + k * 9 + 8, none⟩ = some (.int .i64 e8) ∧ w6.cell? ⟨lb, lo + k2 * 9, none⟩ = some (.int .i64 g0) ∧ w6.cell? ⟨lb, lo + k2 * 9 + 1, none⟩ = some (.int .i64 g1) ∧ w6.cell? ⟨lb, lo + k2 * 9 + 2, none⟩ = some (.int .i64 g2) ∧ w6.cell? ⟨lb, lo + k2 * 9 + 3, none⟩ = some (.int .i64 g3) ∧ w6.cell? ⟨lb, lo + k2 * 9 + 4, none⟩ = some (.int .i64 g4) ∧ w6.cell? ⟨lb, lo + k2 * 9 + 5, none⟩ = some (.int .i64 g5) ∧ w6.cell? ⟨lb, lo + k2 * 9 + 6, none⟩ = some (.int .i64 g6) ∧ w6.cell? ⟨lb, lo + k2 * 9 + 7, none⟩ = some (.int .i64 g7) ∧ w6.cell? ⟨lb, lo + k2 * 9 + 8, none⟩ = some (.int .i64 g8) := ⟨hc0, hc1, hc2, hc3, hc4, hc5, hc6, hc7, hc8, hd0, hd1, hd2, hd3, hd4, hd5, hd6, hd7, hd8⟩
 clear hc0 hc1 hc2 hc3 hc4 hc5 hc6 hc7 hc8 hd0 hd1 hd2 hd3 hd4 hd5 hd6 hd7 hd8
 refine hK _ _ (fun _ => HF) ?_
 clear hK K
 try simp only [Act.put]
 refine wpAnyL_step (i := 10) (by kernel_rfl) rfl rfl ?_
 intro K hK
 go_simp
 refine (HS.out g0 g1 g2 g3 g4 g5 g6 g7 g8 _).mono ?_
 rintro e w7 ⟨As, ns, cs, rfl, o, b⟩
 obtain ⟨fp_s, X'⟩ := X.has b o
 clear X; have X := X'; clear X' b o HF
 obtain ⟨hc0, hc1, hc2, hc3, hc4, hc5, hc6, hc7, hc8⟩ := ents_cellsT ((X.sep.own_ 2 rfl).rd) HKL.out HME.out
 obtain ⟨hd0, hd1, hd2, hd3, hd4, hd5, hd6, hd7, hd8⟩ := ents_cellsT ((X.sep.own_ 2 rfl).rd) HKL2.out HMG.out
 have HF : w7.cell? ⟨lb, lo + k * 9, none⟩ = some (.int .i64 e0) ∧ w7.cell? ⟨lb, lo + k * 9 + 1, none⟩ = some (.int .i64 e1) ∧ w7.cell? ⟨lb, lo + k * 9 + 2, none⟩ = some (.int .i64 e2) ∧ w7.cell? ⟨lb, lo + k * 9 + 3, none⟩ = some (.int .i64 e3) ∧ w7.cell? ⟨lb, lo + k * 9 + 4, none⟩ = some (.int .i64 e4) ∧ w7.cell? ⟨lb, lo + k * 9 + 5, none⟩ = some (.int .i64 e5) ∧ w7.cell? ⟨lb, lo + k * 9 + 6, none⟩ = some (.int .i64 e6) ∧ w7.cell? ⟨lb, lo + k * 9 + 7, none⟩ = some (.int .i64 e7) ∧ w7.cell? ⟨lb, lo + k * 9 + 8, none⟩ = some (.int .i64 e8) ∧ w7.cell? ⟨lb, lo + k2 * 9, none⟩ = some (.int .i64 g0) ∧ w7.cell? ⟨lb, lo + k2 * 9 + 1, none⟩ = some (.int .i64 g1) ∧ w7.cell? ⟨lb, lo + k2 * 9 + 2, none⟩ = some (.int .i64 g2) ∧ w7.cell? ⟨lb, lo + k2 * 9 + 3, none⟩ = some (.int .i64 g3) ∧ w7.cell? ⟨lb, lo + k2 * 9 + 4, none⟩ = some (.int .i64 g4) ∧ w7.cell? ⟨lb, lo + k2 * 9 + 5, none⟩ = some (.int .i64 g5) ∧ w7.cell? ⟨lb, lo + k2 * 9 + 6, none⟩ = some (.int .i64 g6) ∧ w7.cell? ⟨lb, lo + k2 * 9 + 7, none⟩ = some (.int .i64 g7) ∧ w7.cell? ⟨lb, lo + k2 * 9 + 8, none⟩ = some (.int .i64 g8) := ⟨hc0, hc1, hc2, hc3, hc4, hc5, hc6, hc7, hc8, hd0, hd1, hd2, hd3, hd4, hd5, hd6, hd7, hd8⟩
 clear hc0 hc1 hc2 hc3 hc4 hc5 hc6 hc7 hc8 hd0 hd1 hd2 hd3 hd4 hd5 hd6 hd7 hd8
 refine hK _ _ (fun _ => HF) ?_
 clear hK K
 try simp only [Act.put]
 refine wpAnyL_step (i := 11) (by kernel_rfl) rfl rfl ?_
 intro K hK
 go_simp
 replace X := X.boxAt (w7.heap.size) rfl #[.slice Ar nr cr, .slice As ns cs] 30
 replace X := X.with_ (X.sep.sub (.cons_cons _ (.cons_cons _ (.cons_cons _ (.cons_cons _ (List.nil_sublist _))))))
 have HF2 : (w7.alloc (.cells #[.slice Ar nr cr, .slice As ns cs] 30)).cell? ⟨lb, lo + k * 9, none⟩ = some (.int .i64 e0) ∧ (w7.alloc (.cells #[.slice Ar nr cr, .slice As ns cs] 30)).cell? ⟨lb, lo + k * 9 + 1, none⟩ = some (.int .i64 e1) ∧ (w7.alloc (.cells #[.slice Ar nr cr, .slice As ns cs] 30)).cell? ⟨lb, lo + k * 9 + 2, none⟩ = some (.int .i64 e2) ∧ (w7.alloc (.cells #[.slice Ar nr cr, .slice As ns cs] 30)).cell? ⟨lb, lo + k * 9 + 3, none⟩ = some (.int .i64 e3) ∧ (w7.alloc (.cells #[.slice Ar nr cr, .slice As ns cs] 30)).cell? ⟨lb, lo + k * 9 + 4, none⟩ = some (.int .i64 e4) ∧ (w7.alloc (.cells #[.slice Ar nr cr, .slice As ns cs] 30)).cell? ⟨lb, lo + k * 9 + 5, none⟩ = some (.int .i64 e5) ∧ (w7.alloc (.cells #[.slice Ar nr cr, .slice As ns cs] 30)).cell? ⟨lb, lo + k * 9 + 6, none⟩ = some (.int .i64 e6) ∧ (w7.alloc (.cells #[.slice Ar nr cr, .slice As ns cs] 30)).cell? ⟨lb, lo + k * 9 + 7, none⟩ = some (.int .i64 e7) ∧ (w7.alloc (.cells #[.slice Ar nr cr, .slice As ns cs] 30)).cell? ⟨lb, lo + k * 9 + 8, none⟩ = some (.int .i64 e8) ∧ (w7.alloc (.cells #[.slice Ar nr cr, .slice As ns cs] 30)).cell? ⟨lb, lo + k2 * 9, none⟩ = some (.int .i64 g0) ∧ (w7.alloc (.cells #[.slice Ar nr cr, .slice As ns cs] 30)).cell? ⟨lb, lo + k2 * 9 + 1, none⟩ = some (.int .i64 g1) ∧ (w7.alloc (.cells #[.slice Ar nr cr, .slice As ns cs] 30)).cell? ⟨lb, lo + k2 * 9 + 2, none⟩ = some (.int .i64 g2) ∧ (w7.alloc (.cells #[.slice Ar nr cr, .slice As ns cs] 30)).cell? ⟨lb, lo + k2 * 9 + 3, none⟩ = some (.int .i64 g3) ∧ (w7.alloc (.cells #[.slice Ar nr cr, .slice As ns cs] 30)).cell? ⟨lb, lo + k2 * 9 + 4, none⟩ = some (.int .i64 g4) ∧ (w7.alloc (.cells #[.slice Ar nr cr, .slice As ns cs] 30)).cell? ⟨lb, lo + k2 * 9 + 5, none⟩ = some (.int .i64 g5) ∧ (w7.alloc (.cells #[.slice Ar nr cr, .slice As ns cs] 30)).cell? ⟨lb, lo + k2 * 9 + 6, none⟩ = some (.int .i64 g6) ∧ (w7.alloc (.cells #[.slice Ar nr cr, .slice As ns cs] 30)).cell? ⟨lb, lo + k2 * 9 + 7, none⟩ = some (.int .i64 g7) ∧ (w7.alloc (.cells #[.slice Ar nr cr, .slice As ns cs] 30)).cell? ⟨lb, lo + k2 * 9 + 8, none⟩ = some (.int .i64 g8) := by
  obtain ⟨a0, a1, a2, a3, a4, a5, a6, a7, a8, a9, a10, a11, a12, a13, a14, a15, a16, a17⟩ := HF
  have b9 : Below w7.heap.size w7 (w7.alloc (.cells #[.slice Ar nr cr, .slice As ns cs] 30)) := ((Below.refl _ _).alloc (Nat.le_refl _) _)
  exact ⟨(b9.cell (lc a0)).trans a0, (b9.cell (lc a1)).trans a1, (b9.cell (lc a2)).trans a2, (b9.cell (lc a3)).trans a3, (b9.cell (lc a4)).trans a4, (b9.cell (lc a5)).trans a5, (b9.cell (lc a6)).trans a6, (b9.cell (lc a7)).trans a7, (b9.cell (lc a8)).trans a8, (b9.cell (lc a9)).trans a9, (b9.cell (lc a10)).trans a10, (b9.cell (lc a11)).trans a11, (b9.cell (lc a12)).trans a12, (b9.cell (lc a13)).trans a13, (b9.cell (lc a14)).trans a14, (b9.cell (lc a15)).trans a15, (b9.cell (lc a16)).trans a16, (b9.cell (lc a17)).trans a17⟩
 refine hK _ _ (fun _ => HF2) ?_
 clear hK K HF HF2
 try simp only [Act.put]
 generalize hw : w7.alloc (.cells #[.slice Ar nr cr, .slice As ns cs] 30) = w8 at *
 clear hw
 obtain ⟨qr, hqr⟩ : ∃ q, q = w7.heap.size := ⟨_, rfl⟩
 rw [← hqr] at X ⊢
 clear hqr
 refine wpAnyL_step (i := 12) (by kernel_rfl) rfl rfl ?_
 intro K hK
 go_simp
 refine hK _ _ (fun h => nomatch (show true = false from h)) ?_
 clear hK K
 try simp only [Act.put]
 refine wpAnyL_done (by kernel_rfl) ?_ _
 clear k0 k1 k3 k4 hwk HME HMG HKL HKL2
 go_wp2_with fail
 refine (lbelow_any _ _ _ X.cur 2 (by decide)).mono ?_
 rintro e w9 ⟨z, hz, rfl, cu, gr⟩
 replace X := X.draw cu gr
 clear cu gr
 by_cases hz0 : z = 0
 case neg =>
  have d0 : (z == 0) = false := by simpa using hz0
  generalize slotRowM ⟨e0, e1, e2, e3, e4, e5, e6, e7, e8⟩ = R0 at *
  generalize slotRowM ⟨g0, g1, g2, g3, g4, g5, g6, g7, g8⟩ = R1 at *
  have hN : 11 ≤ 11 ∧ 11 ≤ 13 := by decide
  clear hz hz0
  replace X := X.with_ (X.sep.sub (.cons_cons _ (.cons_cons _ (.cons_cons _ (List.nil_sublist _)))))
  have hr0 : nr = 11 := by have h1 := HTQ.out.1; have h2 := rdI_len ((X.sep.own_ 2 rfl).rd); omega
  have HNR := jd hr0
  obtain ⟨D0, hD0⟩ : ∃ d, d = newDisk 1 := ⟨_, rfl⟩
  obtain ⟨D1, D2, hd1, hd2, s0, s1, s2, hl0, hl1, hrest⟩ := torn_disk HTQ.out hN hD0
  have HD0 := jd hD0
  have HD1 := jd hd1
  have HD2 := jd hd2
  have HRT := jd hrest
  have HLR := jd (And.intro (show R0.length ≤ 1048576 by have := HTQ.out.1; omega) (show R1.length ≤ 1048576 by have := HTQ.out.2.1; omega))
  clear hN hr0 hD0 hd1 hd2 hrest
  go_wp2_with fail
  have XH := jd X
  clear X
  go_cut [8, 9] (fun s1 s2 wx => ∃ (qd : Nat) (Bx : Option Addr) (nx cx : Nat) (Cx : Option Addr) (mx dx : Nat) (fp_d : List Nat), s1 = .pointer (some ⟨qd, 0, none⟩) ∧ s2 = .bool true ∧ DrL w1 wx w.heap.size w.heap.size [.blk qd #[.slice Bx nx cx, .slice Cx mx dx] 44, .own D1.cells [.slice Bx nx cx, .slice Cx mx dx] fp_d, .blk qr #[.slice Ar nr cr, .slice As ns cs] 30, .own (rowCells R1) [.slice As ns cs] fp_s, .own (rowCells R0) [.slice Ar nr cr] fp_r])
  case first =>
   have X := XH.out
   refine wp_region_L (fun v => v.cell? ⟨qr, 0, none⟩ = some (.slice Ar nr cr) ∧ v.cell? ⟨qr, 1, none⟩ = some (.slice As ns cs)) 11 (by kernel_rfl) ?_
   clear XH
   replace X := X.drew
   generalize w9.drew = w10 at *
   have HF : w10.cell? ⟨qr, 0, none⟩ = some (.slice Ar nr cr) ∧ w10.cell? ⟨qr, 1, none⟩ = some (.slice As ns cs) := ⟨(X.sep.at_ 0 rfl).cell 0, (X.sep.at_ 0 rfl).cell 1⟩
   refine tk 1 (v := ?_) rfl rfl HF (.inl ⟨by rfl, ?_⟩) ?_
   rotate_left 1
   · (rintro v ⟨a0, a1⟩; go_simp; try with_reducible rfl)
   try simp only [Act.put]
   refine tk 2 (v := ?_) rfl rfl HF (.inl ⟨by rfl, ?_⟩) ?_
   rotate_left 1
   · (rintro v ⟨a0, a1⟩; go_simp; try with_reducible rfl)
   try simp only [Act.put]
   refine tk 3 (v := ?_) rfl rfl HF (.inl ⟨by rfl, ?_⟩) ?_
   rotate_left 1
   · (rintro v ⟨a0, a1⟩; go_simp; try with_reducible rfl)
   try simp only [Act.put]
   refine wpAnyL_two (i := 0) (k := 9) (by kernel_rfl) rfl rfl rfl rfl ?_ ?_
   · intro K hK
     go_simp
     refine (iNewDisk_any 1 _).mono ?_
     rintro e w11 ⟨B0, m0, c0, B1, m1, c1, rfl, o, b⟩
     rw [← HD0.out] at o
     obtain ⟨fp_d0, X'⟩ := X.has b o
     clear X; have X := X'; clear X' b o
     clear HF
     have HF : w11.cell? ⟨qr, 0, none⟩ = some (.slice Ar nr cr) ∧ w11.cell? ⟨qr, 1, none⟩ = some (.slice As ns cs) := ⟨(X.sep.at_ 1 rfl).cell 0, (X.sep.at_ 1 rfl).cell 1⟩
     refine hK _ _ (fun _ => HF) ?_
     clear hK K
     try simp only [Act.put]
     refine wpAnyL_two (i := 4) (k := 9) (by kernel_rfl) rfl rfl rfl rfl ?_ ?_
     · intro K hK
       go_simp
       refine (iWithD Ar nr cr R0 _ (X.sep.own_ 3 rfl).rd (by have := HLR.out; omega)).mono ?_
       rintro e w12 ⟨Aw, nw, cw, rfl, o, b⟩
       obtain ⟨fp_w, X'⟩ := X.has b o
       clear X; have X := X'; clear X' b o
       clear HF
       have HF : w12.cell? ⟨qr, 0, none⟩ = some (.slice Ar nr cr) ∧ w12.cell? ⟨qr, 1, none⟩ = some (.slice As ns cs) := ⟨(X.sep.at_ 2 rfl).cell 0, (X.sep.at_ 2 rfl).cell 1⟩
       refine hK _ _ (fun _ => HF) ?_
       clear hK K
       try simp only [Act.put]
       refine wpAnyL_two (i := 5) (k := 9) (by kernel_rfl) rfl rfl rfl rfl ?_ ?_
       · intro K hK
         go_simp
         refine (iWrote_any B0 m0 c0 B1 m1 c1 D0 0 Aw nw cw (withSum R0) _ (X.sep.own_ 1 rfl).rd s0 (X.sep.own_ 0 rfl).rd (by omega)).mono ?_
         rintro e w13 ⟨Bx, nx, cx, Cx, mx, dx, rfl, o, b⟩
         rw [HD1.out] at o ⊢
         obtain ⟨fp_d, X'⟩ := X.has b o
         clear X; have X := X'; clear X' b o
         clear HF
         have HF : w13.cell? ⟨qr, 0, none⟩ = some (.slice Ar nr cr) ∧ w13.cell? ⟨qr, 1, none⟩ = some (.slice As ns cs) := ⟨(X.sep.at_ 3 rfl).cell 0, (X.sep.at_ 3 rfl).cell 1⟩
         refine hK _ _ (fun _ => HF) ?_
         clear hK K
         try simp only [Act.put]
         refine wpAnyL_pure (i := 6) (v := ?_) rfl rfl (by kernel_rfl) (by kernel_rfl) (by kernel_rfl) (fun _ _ _ h => h) HF (Or.inl ⟨by rfl, ?_⟩) ?_
         rotate_left 1
         · (intro v _; go_simp; try with_reducible rfl)
         try simp only [Act.put]
         refine wpAnyL_pure (i := 7) (v := ?_) rfl rfl (by kernel_rfl) (by kernel_rfl) (by kernel_rfl) (fun _ _ _ h => h) HF (Or.inl ⟨by rfl, ?_⟩) ?_
         rotate_left 1
         · (intro v _; go_simp; try with_reducible rfl)
         try simp only [Act.put]
         refine wpAnyL_pure (i := 8) (v := ?_) rfl rfl (by kernel_rfl) (by kernel_rfl) (by kernel_rfl) (fun _ _ _ h => h) HF (Or.inl ⟨by rfl, ?_⟩) ?_
         rotate_left 1
         · (intro v _; go_simp; try with_reducible rfl)
         try simp only [Act.put]
         refine wpAnyL_step (i := 9) (by kernel_rfl) rfl rfl ?_
         intro K hK
         go_simp
         replace X := X.boxAt (w13.heap.size) rfl #[.slice none 0 0, .slice none 0 0] 44
         clear HF
         have HF : (w13.alloc (.cells #[.slice none 0 0, .slice none 0 0] 44)).cell? ⟨qr, 0, none⟩ = some (.slice Ar nr cr) ∧ (w13.alloc (.cells #[.slice none 0 0, .slice none 0 0] 44)).cell? ⟨qr, 1, none⟩ = some (.slice As ns cs) := ⟨(X.sep.at_ 4 rfl).cell 0, (X.sep.at_ 4 rfl).cell 1⟩
         refine hK _ _ (fun _ => HF) ?_
         clear hK K
         try simp only [Act.put]
         generalize hw : w13.alloc (.cells #[.slice none 0 0, .slice none 0 0] 44) = w14 at *
         clear hw
         have f0 := lk X.sep 0 0 rfl rfl
         have f1 := (X.sep.at_ 0 rfl).free 0
         have f2 := lk X.sep 0 1 rfl rfl
         have f3 := (X.sep.at_ 0 rfl).free 1
         refine wpAnyL_step (i := 10) (by kernel_rfl) rfl rfl ?_
         intro K hK
         go_simp
         replace X := X.put 0 rfl 0 (.slice Bx nx cx)
         replace X := X.put 0 rfl 1 (.slice Cx mx dx)
         replace X : DrL w1 _ _ _ [.blk (w13.heap.size) #[.slice Bx nx cx, .slice Cx mx dx] 44, _, _, _, .blk (qr) #[.slice Ar nr cr, .slice As ns cs] 30, _, _] := X
         clear HF
         have HF : ((w14.setCell ⟨w13.heap.size, 0, none⟩ (.slice Bx nx cx)).setCell ⟨w13.heap.size, 1, none⟩ (.slice Cx mx dx)).cell? ⟨qr, 0, none⟩ = some (.slice Ar nr cr) ∧ ((w14.setCell ⟨w13.heap.size, 0, none⟩ (.slice Bx nx cx)).setCell ⟨w13.heap.size, 1, none⟩ (.slice Cx mx dx)).cell? ⟨qr, 1, none⟩ = some (.slice As ns cs) := ⟨(X.sep.at_ 4 rfl).cell 0, (X.sep.at_ 4 rfl).cell 1⟩
         refine hK _ _ (fun _ => HF) ?_
         clear hK K
         try simp only [Act.put]
         generalize (w14.setCell ⟨w13.heap.size, 0, none⟩ (.slice Bx nx cx)).setCell ⟨w13.heap.size, 1, none⟩ (.slice Cx mx dx) = w15 at *
         clear f0 f1 f2 f3
         refine wpAnyL_step (i := 11) (by kernel_rfl) rfl rfl ?_
         intro K hK
         go_simp
         refine hK _ _ (fun h => nomatch (show true = false from h)) ?_
         clear hK K
         try simp only [Act.put]
         refine wpAnyL_done (by kernel_rfl) ?_ _
         replace X := X.with_ (X.sep.pick 1 rfl)
         replace X := X.with_ (X.sep.pick 1 rfl)
         replace X := X.with_ (X.sep.sub (.cons_cons _ (.cons_cons _ (.cons _ (.cons _ (.cons_cons _ (.cons_cons _ (.cons_cons _ (List.nil_sublist _)))))))))
         go_wp2_with fail
         go_meet
         exact ⟨_, _, _, _, _, _, _, _, rfl, rfl, X⟩
       · intro K hK
         go_simp
         replace X := X.boxAt (w12.heap.size) rfl #[.slice none 0 0, .slice none 0 0] 44
         clear HF
         have HF : (w12.alloc (.cells #[.slice none 0 0, .slice none 0 0] 44)).cell? ⟨qr, 0, none⟩ = some (.slice Ar nr cr) ∧ (w12.alloc (.cells #[.slice none 0 0, .slice none 0 0] 44)).cell? ⟨qr, 1, none⟩ = some (.slice As ns cs) := ⟨(X.sep.at_ 3 rfl).cell 0, (X.sep.at_ 3 rfl).cell 1⟩
         refine hK _ _ (fun _ => HF) ?_
         clear hK K
         try simp only [Act.put]
         generalize hw : w12.alloc (.cells #[.slice none 0 0, .slice none 0 0] 44) = w13 at *
         clear hw
         refine wpAnyL_step (i := 5) (by kernel_rfl) rfl rfl ?_
         intro K hK
         go_simp
         refine (iWrote_any B0 m0 c0 B1 m1 c1 D0 0 Aw nw cw (withSum R0) _ (X.sep.own_ 2 rfl).rd s0 (X.sep.own_ 1 rfl).rd (by omega)).mono ?_
         rintro e w14 ⟨Bx, nx, cx, Cx, mx, dx, rfl, o, b⟩
         rw [HD1.out] at o ⊢
         obtain ⟨fp_d, X'⟩ := X.has b o
         clear X; have X := X'; clear X' b o
         clear HF
         have HF : w14.cell? ⟨qr, 0, none⟩ = some (.slice Ar nr cr) ∧ w14.cell? ⟨qr, 1, none⟩ = some (.slice As ns cs) := ⟨(X.sep.at_ 4 rfl).cell 0, (X.sep.at_ 4 rfl).cell 1⟩
         refine hK _ _ (fun _ => HF) ?_
         clear hK K
         try simp only [Act.put]
         refine wpAnyL_pure (i := 6) (v := ?_) rfl rfl (by kernel_rfl) (by kernel_rfl) (by kernel_rfl) (fun _ _ _ h => h) HF (Or.inl ⟨by rfl, ?_⟩) ?_
         rotate_left 1
         · (intro v _; go_simp; try with_reducible rfl)
         try simp only [Act.put]
         refine wpAnyL_pure (i := 7) (v := ?_) rfl rfl (by kernel_rfl) (by kernel_rfl) (by kernel_rfl) (fun _ _ _ h => h) HF (Or.inl ⟨by rfl, ?_⟩) ?_
         rotate_left 1
         · (intro v _; go_simp; try with_reducible rfl)
         try simp only [Act.put]
         refine wpAnyL_pure (i := 8) (v := ?_) rfl rfl (by kernel_rfl) (by kernel_rfl) (by kernel_rfl) (fun _ _ _ h => h) HF (Or.inl ⟨by rfl, ?_⟩) ?_
         rotate_left 1
         · (intro v _; go_simp; try with_reducible rfl)
         try simp only [Act.put]
         have f0 := lk X.sep 1 0 rfl rfl
         have f1 := (X.sep.at_ 1 rfl).free 0
         have f2 := lk X.sep 1 1 rfl rfl
         have f3 := (X.sep.at_ 1 rfl).free 1
         refine wpAnyL_step (i := 10) (by kernel_rfl) rfl rfl ?_
         intro K hK
         go_simp
         replace X := X.put 1 rfl 0 (.slice Bx nx cx)
         replace X := X.put 1 rfl 1 (.slice Cx mx dx)
         replace X : DrL w1 _ _ _ [_, .blk (w12.heap.size) #[.slice Bx nx cx, .slice Cx mx dx] 44, _, _, .blk (qr) #[.slice Ar nr cr, .slice As ns cs] 30, _, _] := X
         clear HF
         have HF : ((w14.setCell ⟨w12.heap.size, 0, none⟩ (.slice Bx nx cx)).setCell ⟨w12.heap.size, 1, none⟩ (.slice Cx mx dx)).cell? ⟨qr, 0, none⟩ = some (.slice Ar nr cr) ∧ ((w14.setCell ⟨w12.heap.size, 0, none⟩ (.slice Bx nx cx)).setCell ⟨w12.heap.size, 1, none⟩ (.slice Cx mx dx)).cell? ⟨qr, 1, none⟩ = some (.slice As ns cs) := ⟨(X.sep.at_ 4 rfl).cell 0, (X.sep.at_ 4 rfl).cell 1⟩
         refine hK _ _ (fun _ => HF) ?_
         clear hK K
         try simp only [Act.put]
         generalize (w14.setCell ⟨w12.heap.size, 0, none⟩ (.slice Bx nx cx)).setCell ⟨w12.heap.size, 1, none⟩ (.slice Cx mx dx) = w15 at *
         clear f0 f1 f2 f3
         refine wpAnyL_step (i := 11) (by kernel_rfl) rfl rfl ?_
         intro K hK
         go_simp
         refine hK _ _ (fun h => nomatch (show true = false from h)) ?_
         clear hK K
         try simp only [Act.put]
         refine wpAnyL_done (by kernel_rfl) ?_ _
         replace X := X.with_ (X.sep.pick 0 rfl)
         replace X := X.with_ (X.sep.pick 1 rfl)
         replace X := X.with_ (X.sep.sub (.cons_cons _ (.cons_cons _ (.cons _ (.cons _ (.cons_cons _ (.cons_cons _ (.cons_cons _ (List.nil_sublist _)))))))))
         go_wp2_with fail
         go_meet
         exact ⟨_, _, _, _, _, _, _, _, rfl, rfl, X⟩
     · intro K hK
       go_simp
       replace X := X.boxAt (w11.heap.size) rfl #[.slice none 0 0, .slice none 0 0] 44
       clear HF
       have HF : (w11.alloc (.cells #[.slice none 0 0, .slice none 0 0] 44)).cell? ⟨qr, 0, none⟩ = some (.slice Ar nr cr) ∧ (w11.alloc (.cells #[.slice none 0 0, .slice none 0 0] 44)).cell? ⟨qr, 1, none⟩ = some (.slice As ns cs) := ⟨(X.sep.at_ 2 rfl).cell 0, (X.sep.at_ 2 rfl).cell 1⟩
       refine hK _ _ (fun _ => HF) ?_
       clear hK K
       try simp only [Act.put]
       generalize hw : w11.alloc (.cells #[.slice none 0 0, .slice none 0 0] 44) = w12 at *
       clear hw
       refine wpAnyL_step (i := 4) (by kernel_rfl) rfl rfl ?_
       intro K hK
       go_simp
       refine (iWithD Ar nr cr R0 _ (X.sep.own_ 4 rfl).rd (by have := HLR.out; omega)).mono ?_
       rintro e w13 ⟨Aw, nw, cw, rfl, o, b⟩
       obtain ⟨fp_w, X'⟩ := X.has b o
       clear X; have X := X'; clear X' b o
       clear HF
       have HF : w13.cell? ⟨qr, 0, none⟩ = some (.slice Ar nr cr) ∧ w13.cell? ⟨qr, 1, none⟩ = some (.slice As ns cs) := ⟨(X.sep.at_ 3 rfl).cell 0, (X.sep.at_ 3 rfl).cell 1⟩
       refine hK _ _ (fun _ => HF) ?_
       clear hK K
       try simp only [Act.put]
       refine wpAnyL_step (i := 5) (by kernel_rfl) rfl rfl ?_
       intro K hK
       go_simp
       refine (iWrote_any B0 m0 c0 B1 m1 c1 D0 0 Aw nw cw (withSum R0) _ (X.sep.own_ 2 rfl).rd s0 (X.sep.own_ 0 rfl).rd (by omega)).mono ?_
       rintro e w14 ⟨Bx, nx, cx, Cx, mx, dx, rfl, o, b⟩
       rw [HD1.out] at o ⊢
       obtain ⟨fp_d, X'⟩ := X.has b o
       clear X; have X := X'; clear X' b o
       clear HF
       have HF : w14.cell? ⟨qr, 0, none⟩ = some (.slice Ar nr cr) ∧ w14.cell? ⟨qr, 1, none⟩ = some (.slice As ns cs) := ⟨(X.sep.at_ 4 rfl).cell 0, (X.sep.at_ 4 rfl).cell 1⟩
       refine hK _ _ (fun _ => HF) ?_
       clear hK K
       try simp only [Act.put]
       refine wpAnyL_pure (i := 6) (v := ?_) rfl rfl (by kernel_rfl) (by kernel_rfl) (by kernel_rfl) (fun _ _ _ h => h) HF (Or.inl ⟨by rfl, ?_⟩) ?_
       rotate_left 1
       · (intro v _; go_simp; try with_reducible rfl)
       try simp only [Act.put]
       refine wpAnyL_pure (i := 7) (v := ?_) rfl rfl (by kernel_rfl) (by kernel_rfl) (by kernel_rfl) (fun _ _ _ h => h) HF (Or.inl ⟨by rfl, ?_⟩) ?_
       rotate_left 1
       · (intro v _; go_simp; try with_reducible rfl)
       try simp only [Act.put]
       refine wpAnyL_pure (i := 8) (v := ?_) rfl rfl (by kernel_rfl) (by kernel_rfl) (by kernel_rfl) (fun _ _ _ h => h) HF (Or.inl ⟨by rfl, ?_⟩) ?_
       rotate_left 1
       · (intro v _; go_simp; try with_reducible rfl)
       try simp only [Act.put]
       have f0 := lk X.sep 2 0 rfl rfl
       have f1 := (X.sep.at_ 2 rfl).free 0
       have f2 := lk X.sep 2 1 rfl rfl
       have f3 := (X.sep.at_ 2 rfl).free 1
       refine wpAnyL_step (i := 10) (by kernel_rfl) rfl rfl ?_
       intro K hK
       go_simp
       replace X := X.put 2 rfl 0 (.slice Bx nx cx)
       replace X := X.put 2 rfl 1 (.slice Cx mx dx)
       replace X : DrL w1 _ _ _ [_, _, .blk (w11.heap.size) #[.slice Bx nx cx, .slice Cx mx dx] 44, _, .blk (qr) #[.slice Ar nr cr, .slice As ns cs] 30, _, _] := X
       clear HF
       have HF : ((w14.setCell ⟨w11.heap.size, 0, none⟩ (.slice Bx nx cx)).setCell ⟨w11.heap.size, 1, none⟩ (.slice Cx mx dx)).cell? ⟨qr, 0, none⟩ = some (.slice Ar nr cr) ∧ ((w14.setCell ⟨w11.heap.size, 0, none⟩ (.slice Bx nx cx)).setCell ⟨w11.heap.size, 1, none⟩ (.slice Cx mx dx)).cell? ⟨qr, 1, none⟩ = some (.slice As ns cs) := ⟨(X.sep.at_ 4 rfl).cell 0, (X.sep.at_ 4 rfl).cell 1⟩
       refine hK _ _ (fun _ => HF) ?_
       clear hK K
       try simp only [Act.put]
       generalize (w14.setCell ⟨w11.heap.size, 0, none⟩ (.slice Bx nx cx)).setCell ⟨w11.heap.size, 1, none⟩ (.slice Cx mx dx) = w15 at *
       clear f0 f1 f2 f3
       refine wpAnyL_step (i := 11) (by kernel_rfl) rfl rfl ?_
       intro K hK
       go_simp
       refine hK _ _ (fun h => nomatch (show true = false from h)) ?_
       clear hK K
       try simp only [Act.put]
       refine wpAnyL_done (by kernel_rfl) ?_ _
       replace X := X.with_ (X.sep.pick 0 rfl)
       replace X := X.with_ (X.sep.pick 2 rfl)
       replace X := X.with_ (X.sep.sub (.cons_cons _ (.cons_cons _ (.cons _ (.cons _ (.cons_cons _ (.cons_cons _ (.cons_cons _ (List.nil_sublist _)))))))))
       go_wp2_with fail
       go_meet
       exact ⟨_, _, _, _, _, _, _, _, rfl, rfl, X⟩
   · intro K hK
     go_simp
     replace X := X.boxAt (w10.heap.size) rfl #[.slice none 0 0, .slice none 0 0] 44
     clear HF
     have HF : (w10.alloc (.cells #[.slice none 0 0, .slice none 0 0] 44)).cell? ⟨qr, 0, none⟩ = some (.slice Ar nr cr) ∧ (w10.alloc (.cells #[.slice none 0 0, .slice none 0 0] 44)).cell? ⟨qr, 1, none⟩ = some (.slice As ns cs) := ⟨(X.sep.at_ 1 rfl).cell 0, (X.sep.at_ 1 rfl).cell 1⟩
     refine hK _ _ (fun _ => HF) ?_
     clear hK K
     try simp only [Act.put]
     generalize hw : w10.alloc (.cells #[.slice none 0 0, .slice none 0 0] 44) = w11 at *
     clear hw
     refine wpAnyL_step (i := 0) (by kernel_rfl) rfl rfl ?_
     intro K hK
     go_simp
     refine (iNewDisk_any 1 _).mono ?_
     rintro e w12 ⟨B0, m0, c0, B1, m1, c1, rfl, o, b⟩
     rw [← HD0.out] at o
     obtain ⟨fp_d0, X'⟩ := X.has b o
     clear X; have X := X'; clear X' b o
     clear HF
     have HF : w12.cell? ⟨qr, 0, none⟩ = some (.slice Ar nr cr) ∧ w12.cell? ⟨qr, 1, none⟩ = some (.slice As ns cs) := ⟨(X.sep.at_ 2 rfl).cell 0, (X.sep.at_ 2 rfl).cell 1⟩
     refine hK _ _ (fun _ => HF) ?_
     clear hK K
     try simp only [Act.put]
     refine wpAnyL_step (i := 4) (by kernel_rfl) rfl rfl ?_
     intro K hK
     go_simp
     refine (iWithD Ar nr cr R0 _ (X.sep.own_ 4 rfl).rd (by have := HLR.out; omega)).mono ?_
     rintro e w13 ⟨Aw, nw, cw, rfl, o, b⟩
     obtain ⟨fp_w, X'⟩ := X.has b o
     clear X; have X := X'; clear X' b o
     clear HF
     have HF : w13.cell? ⟨qr, 0, none⟩ = some (.slice Ar nr cr) ∧ w13.cell? ⟨qr, 1, none⟩ = some (.slice As ns cs) := ⟨(X.sep.at_ 3 rfl).cell 0, (X.sep.at_ 3 rfl).cell 1⟩
     refine hK _ _ (fun _ => HF) ?_
     clear hK K
     try simp only [Act.put]
     refine wpAnyL_step (i := 5) (by kernel_rfl) rfl rfl ?_
     intro K hK
     go_simp
     refine (iWrote_any B0 m0 c0 B1 m1 c1 D0 0 Aw nw cw (withSum R0) _ (X.sep.own_ 1 rfl).rd s0 (X.sep.own_ 0 rfl).rd (by omega)).mono ?_
     rintro e w14 ⟨Bx, nx, cx, Cx, mx, dx, rfl, o, b⟩
     rw [HD1.out] at o ⊢
     obtain ⟨fp_d, X'⟩ := X.has b o
     clear X; have X := X'; clear X' b o
     clear HF
     have HF : w14.cell? ⟨qr, 0, none⟩ = some (.slice Ar nr cr) ∧ w14.cell? ⟨qr, 1, none⟩ = some (.slice As ns cs) := ⟨(X.sep.at_ 4 rfl).cell 0, (X.sep.at_ 4 rfl).cell 1⟩
     refine hK _ _ (fun _ => HF) ?_
     clear hK K
     try simp only [Act.put]
     refine wpAnyL_pure (i := 6) (v := ?_) rfl rfl (by kernel_rfl) (by kernel_rfl) (by kernel_rfl) (fun _ _ _ h => h) HF (Or.inl ⟨by rfl, ?_⟩) ?_
     rotate_left 1
     · (intro v _; go_simp; try with_reducible rfl)
     try simp only [Act.put]
     refine wpAnyL_pure (i := 7) (v := ?_) rfl rfl (by kernel_rfl) (by kernel_rfl) (by kernel_rfl) (fun _ _ _ h => h) HF (Or.inl ⟨by rfl, ?_⟩) ?_
     rotate_left 1
     · (intro v _; go_simp; try with_reducible rfl)
     try simp only [Act.put]
     refine wpAnyL_pure (i := 8) (v := ?_) rfl rfl (by kernel_rfl) (by kernel_rfl) (by kernel_rfl) (fun _ _ _ h => h) HF (Or.inl ⟨by rfl, ?_⟩) ?_
     rotate_left 1
     · (intro v _; go_simp; try with_reducible rfl)
     try simp only [Act.put]
     have f0 := lk X.sep 3 0 rfl rfl
     have f1 := (X.sep.at_ 3 rfl).free 0
     have f2 := lk X.sep 3 1 rfl rfl
     have f3 := (X.sep.at_ 3 rfl).free 1
     refine wpAnyL_step (i := 10) (by kernel_rfl) rfl rfl ?_
     intro K hK
     go_simp
     replace X := X.put 3 rfl 0 (.slice Bx nx cx)
     replace X := X.put 3 rfl 1 (.slice Cx mx dx)
     replace X : DrL w1 _ _ _ [_, _, _, .blk (w10.heap.size) #[.slice Bx nx cx, .slice Cx mx dx] 44, .blk (qr) #[.slice Ar nr cr, .slice As ns cs] 30, _, _] := X
     clear HF
     have HF : ((w14.setCell ⟨w10.heap.size, 0, none⟩ (.slice Bx nx cx)).setCell ⟨w10.heap.size, 1, none⟩ (.slice Cx mx dx)).cell? ⟨qr, 0, none⟩ = some (.slice Ar nr cr) ∧ ((w14.setCell ⟨w10.heap.size, 0, none⟩ (.slice Bx nx cx)).setCell ⟨w10.heap.size, 1, none⟩ (.slice Cx mx dx)).cell? ⟨qr, 1, none⟩ = some (.slice As ns cs) := ⟨(X.sep.at_ 4 rfl).cell 0, (X.sep.at_ 4 rfl).cell 1⟩
     refine hK _ _ (fun _ => HF) ?_
     clear hK K
     try simp only [Act.put]
     generalize (w14.setCell ⟨w10.heap.size, 0, none⟩ (.slice Bx nx cx)).setCell ⟨w10.heap.size, 1, none⟩ (.slice Cx mx dx) = w15 at *
     clear f0 f1 f2 f3
     refine wpAnyL_step (i := 11) (by kernel_rfl) rfl rfl ?_
     intro K hK
     go_simp
     refine hK _ _ (fun h => nomatch (show true = false from h)) ?_
     clear hK K
     try simp only [Act.put]
     refine wpAnyL_done (by kernel_rfl) ?_ _
     replace X := X.with_ (X.sep.pick 0 rfl)
     replace X := X.with_ (X.sep.pick 3 rfl)
     replace X := X.with_ (X.sep.sub (.cons_cons _ (.cons_cons _ (.cons _ (.cons _ (.cons_cons _ (.cons_cons _ (.cons_cons _ (List.nil_sublist _)))))))))
     go_wp2_with fail
     go_meet
     exact ⟨_, _, _, _, _, _, _, _, rfl, rfl, X⟩
  obtain ⟨qd, Bx, nx, cx, Cx, mx, dx, fp_d, rfl, rfl, X⟩ := hcut
  clear XH
  generalize wc = w10 at *
  have f0 := lk X.sep 0 0 rfl rfl
  have f1 := lk X.sep 0 1 rfl rfl
  go_wp2_with fail
  refine (iSynced_any Bx nx cx Cx mx dx D1 _ (X.sep.own_ 1 rfl).rd s1).mono ?_
  rintro e w11 ⟨By, ny, cy, Cy, my, dy, rfl, o, b⟩
  rw [HD2.out] at o
  obtain ⟨fp_d2, X'⟩ := X.has b o
  clear X; have X := X'; clear X' b o f0 f1
  go_wp2_with fail
  refine (lbelow_any _ _ _ X.cur 14 (by decide)).mono ?_
  rintro e w12 ⟨i9, hi9, rfl, cu, gr⟩
  replace X := X.draw cu gr
  clear cu gr
  go_wp2_with fail
  refine (lbelow_any _ _ _ X.cur 40 (by decide)).mono ?_
  rintro e w13 ⟨y9, hy9, rfl, cu, gr⟩
  replace X := X.draw cu gr
  clear cu gr
  go_wp2_with fail
  obtain ⟨D3, rb, hrot, hr3⟩ := HRT.out i9 y9
  obtain ⟨s3, D4, D5, tr, hd4, hd5, s4, s5, hrd5, ht6, ht48, hno⟩ := hr3 hy9
  have HD3 := jd hrot
  have HD4 := jd hd4
  have HD5 := jd hd5
  have HRD5 := jd hrd5
  have HNO := jd hno
  clear hrot hr3 hd4 hd5 hrd5 hno HRT hi9 hy9
  refine (iRotted_any By ny cy Cy my dy D2 0 i9 y9 _ (X.sep.own_ 0 rfl).rd s2).mono ?_
  rintro e w14 ⟨Bz, nz, cz, Cz, mz, dz, rfl, o, b⟩
  rw [HD3.out] at o ⊢
  obtain ⟨fp_d3, X'⟩ := X.has b o
  clear X; have X := X'; clear X' b o
  have f2 := lk X.sep 2 0 rfl rfl
  have f3 := (X.sep.at_ 2 rfl).free 0
  have f4 := lk X.sep 2 1 rfl rfl
  have f5 := (X.sep.at_ 2 rfl).free 1
  replace X := X.put 2 rfl 0 (.slice Bz nz cz)
  replace X := X.put 2 rfl 1 (.slice Cz mz dz)
  replace X : DrL w1 _ _ _ [_, _, .blk (qd) #[.slice Bz nz cz, .slice Cz mz dz] 44, _, .blk (qr) #[.slice Ar nr cr, .slice As ns cs] 30, _, _] := X
  replace X := X.with_ (X.sep.sub (.cons_cons _ (.cons _ (.cons_cons _ (.cons _ (.cons_cons _ (.cons_cons _ (.cons_cons _ (List.nil_sublist _)))))))))
  go_wp2_with fail
  generalize (w14.setCell ⟨qd, 0, none⟩ (.slice Bz nz cz)).setCell ⟨qd, 1, none⟩ (.slice Cz mz dz) = w15 at *
  refine wp_region_L (fun v => v.cell? ⟨qd, 0, none⟩ = some (.slice Bz nz cz) ∧ v.cell? ⟨qd, 1, none⟩ = some (.slice Cz mz dz) ∧ v.cell? ⟨qr, 0, none⟩ = some (.slice Ar nr cr) ∧ v.cell? ⟨qr, 1, none⟩ = some (.slice As ns cs)) 9 (by kernel_rfl) ?_
  clear f2 f3 f4 f5
  replace X := X.drew
  generalize w15.drew = w16 at *
  have HF : w16.cell? ⟨qd, 0, none⟩ = some (.slice Bz nz cz) ∧ w16.cell? ⟨qd, 1, none⟩ = some (.slice Cz mz dz) ∧ w16.cell? ⟨qr, 0, none⟩ = some (.slice Ar nr cr) ∧ w16.cell? ⟨qr, 1, none⟩ = some (.slice As ns cs) := ⟨(X.sep.at_ 1 rfl).cell 0, (X.sep.at_ 1 rfl).cell 1, (X.sep.at_ 2 rfl).cell 0, (X.sep.at_ 2 rfl).cell 1⟩
  refine tk 0 (v := ?_) rfl rfl HF (.inl ⟨by rfl, ?_⟩) ?_
  rotate_left 1
  · (rintro v ⟨a0, a1, a2, a3⟩; go_simp; try with_reducible rfl)
  try simp only [Act.put]
  refine tk 1 (v := ?_) rfl rfl HF (.inl ⟨by rfl, ?_⟩) ?_
  rotate_left 1
  · (rintro v ⟨a0, a1, a2, a3⟩; go_simp; try with_reducible rfl)
  try simp only [Act.put]
  refine tk 2 (v := ?_) rfl rfl HF (.inl ⟨by rfl, ?_⟩) ?_
  rotate_left 1
  · (rintro v ⟨a0, a1, a2, a3⟩; go_simp; try with_reducible rfl)
  try simp only [Act.put]
  refine tk 3 (v := ?_) rfl rfl HF (.inl ⟨by rfl, ?_⟩) ?_
  rotate_left 1
  · (rintro v ⟨a0, a1, a2, a3⟩; go_simp; try with_reducible rfl)
  try simp only [Act.put]
  refine wpAnyL_step (i := 4) (by kernel_rfl) rfl rfl ?_
  intro K hK
  go_simp
  refine (iWithD As ns cs R1 _ (X.sep.own_ 3 rfl).rd (by have := HLR.out; omega)).mono ?_
  rintro e w17 ⟨Aw, nw, cw, rfl, o, b⟩
  obtain ⟨fp_w, X'⟩ := X.has b o
  clear X; have X := X'; clear X' b o
  clear HF
  have HF : w17.cell? ⟨qd, 0, none⟩ = some (.slice Bz nz cz) ∧ w17.cell? ⟨qd, 1, none⟩ = some (.slice Cz mz dz) ∧ w17.cell? ⟨qr, 0, none⟩ = some (.slice Ar nr cr) ∧ w17.cell? ⟨qr, 1, none⟩ = some (.slice As ns cs) := ⟨(X.sep.at_ 2 rfl).cell 0, (X.sep.at_ 2 rfl).cell 1, (X.sep.at_ 3 rfl).cell 0, (X.sep.at_ 3 rfl).cell 1⟩
  refine hK _ _ (fun _ => HF) ?_
  clear hK K
  try simp only [Act.put]
  refine wpAnyL_step (i := 5) (by kernel_rfl) rfl rfl ?_
  intro K hK
  go_simp
  refine (iWrote_any Bz nz cz Cz mz dz D3 0 Aw nw cw (withSum R1) _ (X.sep.own_ 1 rfl).rd s3 (X.sep.own_ 0 rfl).rd (by omega)).mono ?_
  rintro e w18 ⟨Bu, nu, cu9, Cu, mu, du, rfl, o, b⟩
  rw [HD4.out] at o ⊢
  obtain ⟨fp_d4, X'⟩ := X.has b o
  clear X; have X := X'; clear X' b o
  clear HF
  have HF : w18.cell? ⟨qd, 0, none⟩ = some (.slice Bz nz cz) ∧ w18.cell? ⟨qd, 1, none⟩ = some (.slice Cz mz dz) ∧ w18.cell? ⟨qr, 0, none⟩ = some (.slice Ar nr cr) ∧ w18.cell? ⟨qr, 1, none⟩ = some (.slice As ns cs) := ⟨(X.sep.at_ 3 rfl).cell 0, (X.sep.at_ 3 rfl).cell 1, (X.sep.at_ 4 rfl).cell 0, (X.sep.at_ 4 rfl).cell 1⟩
  refine hK _ _ (fun _ => HF) ?_
  clear hK K
  try simp only [Act.put]
  refine wpAnyL_pure (i := 6) (v := ?_) rfl rfl (by kernel_rfl) (by kernel_rfl) (by kernel_rfl) (fun _ _ _ h => h) HF (Or.inl ⟨by rfl, ?_⟩) ?_
  rotate_left 1
  · (intro v _; go_simp; try with_reducible rfl)
  try simp only [Act.put]
  refine wpAnyL_pure (i := 7) (v := ?_) rfl rfl (by kernel_rfl) (by kernel_rfl) (by kernel_rfl) (fun _ _ _ h => h) HF (Or.inl ⟨by rfl, ?_⟩) ?_
  rotate_left 1
  · (intro v _; go_simp; try with_reducible rfl)
  try simp only [Act.put]
  refine wpAnyL_pure (i := 8) (v := ?_) rfl rfl (by kernel_rfl) (by kernel_rfl) (by kernel_rfl) (fun _ _ _ h => h) HF (Or.inl ⟨by rfl, ?_⟩) ?_
  rotate_left 1
  · (intro v _; go_simp; try with_reducible rfl)
  try simp only [Act.put]
  have f6 := lk X.sep 3 0 rfl rfl
  have f7 := (X.sep.at_ 3 rfl).free 0
  have f8 := lk X.sep 3 1 rfl rfl
  have f9 := (X.sep.at_ 3 rfl).free 1
  refine wpAnyL_step (i := 9) (by kernel_rfl) rfl rfl ?_
  intro K hK
  go_simp
  replace X := X.put 3 rfl 0 (.slice Bu nu cu9)
  replace X := X.put 3 rfl 1 (.slice Cu mu du)
  replace X : DrL w1 _ _ _ [_, _, _, .blk (qd) #[.slice Bu nu cu9, .slice Cu mu du] 44, .blk (qr) #[.slice Ar nr cr, .slice As ns cs] 30, _, _] := X
  refine hK _ _ (fun h => nomatch (show true = false from h)) ?_
  clear hK K HF
  try simp only [Act.put]
  generalize (w18.setCell ⟨qd, 0, none⟩ (.slice Bu nu cu9)).setCell ⟨qd, 1, none⟩ (.slice Cu mu du) = w19 at *
  clear f6 f7 f8 f9
  refine wpAnyL_step (i := 10) (by kernel_rfl) rfl rfl ?_
  intro K hK
  go_simp
  refine hK _ _ (fun h => nomatch (show true = false from h)) ?_
  clear hK K
  try simp only [Act.put]
  refine wpAnyL_done (by kernel_rfl) ?_ _
  replace X := X.with_ (X.sep.sub (.cons_cons _ (.cons _ (.cons _ (.cons_cons _ (.cons_cons _ (List.nil_sublist _)))))))
  have f10 := lk X.sep 1 0 rfl rfl
  have f11 := lk X.sep 1 1 rfl rfl
  replace X := X.boxAt (w19.heap.size) rfl #[.int .i64 2] 2
  have f12 := lk X.sep 2 0 rfl rfl
  have f13 := lk X.sep 2 1 rfl rfl
  go_wp2_with fail
  generalize w19.alloc (.cells #[.int .i64 2] 2) = w20 at *
  have hft : Rd w20 w20.heap.size (rowCells [2]) [.slice (some ⟨w19.heap.size, 0, none⟩) 1 1] := row1_rd (X.sep.at_ 0 rfl)
  refine (iFallen_any Bu nu cu9 Cu mu du D4 _ 1 1 [2] _ (X.sep.own_ 1 rfl).rd s4 hft (by decide)).mono ?_
  rintro e w21 ⟨Bf, nf, cf, Cf, mf, df, rfl, o, b⟩
  rw [HD5.out] at o
  clear hft
  obtain ⟨fp_d5, X'⟩ := X.has b o
  clear X; have X := X'; clear X' b o f10 f11 f12 f13
  have f14 := lk X.sep 3 0 rfl rfl
  have f15 := (X.sep.at_ 3 rfl).free 0
  have f16 := lk X.sep 3 1 rfl rfl
  have f17 := (X.sep.at_ 3 rfl).free 1
  replace X := X.put 3 rfl 0 (.slice Bf nf cf)
  replace X := X.put 3 rfl 1 (.slice Cf mf df)
  replace X : DrL w1 _ _ _ [_, .blk (w19.heap.size) #[.int .i64 2] 2, _, .blk (qd) #[.slice Bf nf cf, .slice Cf mf df] 44, .blk (qr) #[.slice Ar nr cr, .slice As ns cs] 30] := X
  replace X := X.with_ (X.sep.sub (.cons_cons _ (.cons _ (.cons _ (.cons_cons _ (.cons_cons _ (List.nil_sublist _)))))))
  have f18 := lk X.sep 1 0 rfl rfl
  have f19 := lk X.sep 1 1 rfl rfl
  go_wp2_with fail
  generalize (w21.setCell ⟨qd, 0, none⟩ (.slice Bf nf cf)).setCell ⟨qd, 1, none⟩ (.slice Cf mf df) = w22 at *
  refine (iReadAt_any (.slice Bf nf cf) (.slice Cf mf df) D5 0 _ (X.sep.own_ 0 rfl).rd (by omega)).mono ?_
  rintro e w23 ⟨At, nt, ct, rfl, o, b⟩
  rw [HRD5.out] at o ⊢
  obtain ⟨fp_t, X'⟩ := X.has b o
  clear X; have X := X'; clear X' b o f14 f15 f16 f17 f18 f19
  replace X := X.with_ (X.sep.sub (.cons_cons _ (.cons _ (.cons _ (.cons_cons _ (List.nil_sublist _))))))
  have hnt : tr.length = nt := rdI_len ((X.sep.own_ 0 rfl).rd)
  have dt : decide ((nt : Int) < 6) = false := decide_eq_false (by omega)
  have dt2 : decide (nt < 6) = false := decide_eq_false (by omega)
  have dn : decide ((nr : Int) < 11) = false := decide_eq_false (by have := HNR.out; omega)
  have dn2 : decide (nr < 11) = false := decide_eq_false (by have := HNR.out; omega)
  have HNT := jd hnt
  clear hnt
  cases rb
  case false =>
   have f20 := lk X.sep 1 0 rfl rfl
   have f21 := lk X.sep 1 1 rfl rfl
   go_wp2_with fail
   refine (iUnsD At nt ct tr _ ((X.sep.own_ 0 rfl).rd) (by omega)).mono ?_
   rintro e w24 ⟨Az, nz9, cz9, rfl, o, b⟩
   clear dt dt2 dn dn2
   obtain ⟨fp_z, X'⟩ := X.has b o
   clear X; have X := X'; clear X' b o f20 f21
   replace X := X.with_ (X.sep.sub (.cons_cons _ (List.nil_sublist _)))
   obtain ⟨ub, hub⟩ : ∃ b, b = (unsummed tr).2 := ⟨_, rfl⟩
   rw [← hub]
   cases ub
   case false =>
    clear hub
    have C := jd (B1.out.trans (grown_below X.grown B1.out.size (fun k hk => by injection hk with hk; omega)))
    clear X
    go_wp2
    go_ret
    exact ⟨rfl, C.out⟩
   case true =>
    obtain ⟨h1, h2⟩ := HNO.out (unsummed tr).1 (Prod.ext rfl hub.symm)
    generalize (unsummed tr).1 = RZ at *
    have HA := jd h1
    have HB := jd h2
    clear h1 h2 hub
    go_wp2_with fail
    refine (HP.out Az nz9 cz9 RZ _ ((X.sep.own_ 0 rfl).rd)).mono ?_
    rintro e w25 ⟨rfl, b⟩
    rw [HA.out]
    replace X := X.keep b
    clear b
    replace X := X.boxAt (w25.heap.size) rfl #[.int .i64 (rowSlotM RZ).1.idx, .int .i64 (rowSlotM RZ).1.tm, .int .i64 (rowSlotM RZ).1.cl, .int .i64 (rowSlotM RZ).1.sq, .int .i64 (rowSlotM RZ).1.kd, .int .i64 (rowSlotM RZ).1.oa, .int .i64 (rowSlotM RZ).1.ob, .int .i64 (rowSlotM RZ).1.oc, .int .i64 (rowSlotM RZ).1.od] 35
    go_wp2_with fail
    generalize w25.alloc (.cells #[.int .i64 (rowSlotM RZ).1.idx, .int .i64 (rowSlotM RZ).1.tm, .int .i64 (rowSlotM RZ).1.cl, .int .i64 (rowSlotM RZ).1.sq, .int .i64 (rowSlotM RZ).1.kd, .int .i64 (rowSlotM RZ).1.oa, .int .i64 (rowSlotM RZ).1.ob, .int .i64 (rowSlotM RZ).1.oc, .int .i64 (rowSlotM RZ).1.od] 35) = w26 at *
    replace X := X.with_ (X.sep.sub (.cons _ (.cons_cons _ (List.nil_sublist _))))
    refine (HQ.out Az nz9 cz9 RZ _ ((X.sep.own_ 0 rfl).rd)).mono ?_
    rintro e w27 ⟨z0, z1, z2, Ah, nh, ch, rfl, o, b⟩
    rw [HB.out]
    clear o
    replace X := X.keep b
    clear b
    replace X := X.boxAt (w27.heap.size) rfl #[.int .i64 z0, .int .i64 z1, .int .i64 z2, .slice Ah nh ch] 40
    have C := jd (B1.out.trans (grown_below X.grown B1.out.size (fun k hk => by injection hk with hk; omega)))
    clear X
    go_wp2
    go_ret
    exact ⟨rfl, C.out⟩
  case true =>
   have f20 := lk X.sep 1 0 rfl rfl
   have f21 := lk X.sep 1 1 rfl rfl
   go_wp2_with fail
   refine (iUnsD At nt ct tr _ ((X.sep.own_ 0 rfl).rd) (by omega)).mono ?_
   rintro e w24 ⟨Az, nz9, cz9, rfl, o, b⟩
   clear dt dt2 dn dn2
   obtain ⟨fp_z, X'⟩ := X.has b o
   clear X; have X := X'; clear X' b o f20 f21
   replace X := X.with_ (X.sep.sub (.cons_cons _ (List.nil_sublist _)))
   obtain ⟨ub, hub⟩ : ∃ b, b = (unsummed tr).2 := ⟨_, rfl⟩
   rw [← hub]
   cases ub
   case false =>
    clear hub
    have C := jd (B1.out.trans (grown_below X.grown B1.out.size (fun k hk => by injection hk with hk; omega)))
    clear X
    go_wp2
    go_ret
    exact ⟨rfl, C.out⟩
   case true =>
    obtain ⟨h1, h2⟩ := HNO.out (unsummed tr).1 (Prod.ext rfl hub.symm)
    generalize (unsummed tr).1 = RZ at *
    have HA := jd h1
    have HB := jd h2
    clear h1 h2 hub
    go_wp2_with fail
    refine (HP.out Az nz9 cz9 RZ _ ((X.sep.own_ 0 rfl).rd)).mono ?_
    rintro e w25 ⟨rfl, b⟩
    rw [HA.out]
    replace X := X.keep b
    clear b
    replace X := X.boxAt (w25.heap.size) rfl #[.int .i64 (rowSlotM RZ).1.idx, .int .i64 (rowSlotM RZ).1.tm, .int .i64 (rowSlotM RZ).1.cl, .int .i64 (rowSlotM RZ).1.sq, .int .i64 (rowSlotM RZ).1.kd, .int .i64 (rowSlotM RZ).1.oa, .int .i64 (rowSlotM RZ).1.ob, .int .i64 (rowSlotM RZ).1.oc, .int .i64 (rowSlotM RZ).1.od] 35
    go_wp2_with fail
    generalize w25.alloc (.cells #[.int .i64 (rowSlotM RZ).1.idx, .int .i64 (rowSlotM RZ).1.tm, .int .i64 (rowSlotM RZ).1.cl, .int .i64 (rowSlotM RZ).1.sq, .int .i64 (rowSlotM RZ).1.kd, .int .i64 (rowSlotM RZ).1.oa, .int .i64 (rowSlotM RZ).1.ob, .int .i64 (rowSlotM RZ).1.oc, .int .i64 (rowSlotM RZ).1.od] 35) = w26 at *
    replace X := X.with_ (X.sep.sub (.cons _ (.cons_cons _ (List.nil_sublist _))))
    refine (HQ.out Az nz9 cz9 RZ _ ((X.sep.own_ 0 rfl).rd)).mono ?_
    rintro e w27 ⟨z0, z1, z2, Ah, nh, ch, rfl, o, b⟩
    rw [HB.out]
    clear o
    replace X := X.keep b
    clear b
    replace X := X.boxAt (w27.heap.size) rfl #[.int .i64 z0, .int .i64 z1, .int .i64 z2, .slice Ah nh ch] 40
    have C := jd (B1.out.trans (grown_below X.grown B1.out.size (fun k hk => by injection hk with hk; omega)))
    clear X
    go_wp2
    go_ret
    exact ⟨rfl, C.out⟩
 case pos =>
  have d0 : (z == 0) = true := by simpa using hz0
  clear hz hz0 HTQ
  replace X := X.with_ (X.sep.sub (.cons _ (.cons _ (.cons _ (.cons_cons _ (List.nil_sublist _))))))
  go_wp2_with fail
  refine (lbelow_any _ _ _ X.cur 3 (by decide)).mono ?_
  rintro e w10 ⟨num, hnum, rfl, cu, gr⟩
  replace X := X.draw cu gr
  clear cu gr
  have hw1 : IntKind.i64.wrap (num + 1) = num + 1 := by rw [IntKind.wrap_i64]; omega
  have hw2 : IntKind.i64.wrap (num + 2) = num + 2 := by rw [IntKind.wrap_i64]; omega
  have hw6 : IntKind.i64.wrap (num + 6) = num + 6 := by rw [IntKind.wrap_i64]; omega
  go_wp2_with fail
  refine (lbelow_any _ _ _ X.cur 4 (by decide)).mono ?_
  rintro e w11 ⟨z0, hz0, rfl, cu, gr⟩
  replace X := X.draw cu gr
  clear cu gr
  obtain ⟨b0, hb0⟩ : ∃ b : Nat, (b : Int) = num + 1 + z0 := ⟨(num + 1 + z0).toNat, by omega⟩
  have hwb0 : IntKind.i64.wrap (num + 1 + z0) = (b0 : Int) := by rw [IntKind.wrap_i64]; omega
  have HBb0 := jd (show num + 0 < (b0 : Int) ∧ b0 ≤ 11 by omega)
  clear hb0 hz0
  go_wp2_with fail
  have HSZb0 := jd (head_seen_sz HR.out HL.out (show 0 ≤ num ∧ num < (b0 : Int) by have := HBb0.out; omega) HBb0.out.2)
  refine (w9head_any (some ⟨lb, lo, none⟩) n c _ l (num) b0 _ (X.sep.own_ 0 rfl) (by have := HN.out; have := HBb0.out.2; omega) (by have := HN.out; omega)).mono ?_
  rintro e w12 ⟨Ah, nh, ch, rfl, o, b⟩
  obtain ⟨fp_h, X'⟩ := X.has b o
  clear X; have X := X'; clear X' b o
  go_wp2_with fail
  refine (HH.out (num) (b0 : Int) (headOf l (num) b0).tm Ah nh ch (headOf l (num) b0).seen _ ((X.sep.own_ 0 rfl).rd) (HSZb0.out)).mono ?_
  rintro e w13 ⟨Ar, nr, cr, rfl, o, b⟩
  have o : Has _ _ (rowCells (headRowM (headOf l (num) b0))) _ := o
  obtain ⟨fp_r, X'⟩ := X.has b o
  clear X; have X := X'; clear X' b o
  replace X := X.with_ (X.sep.sub (.cons_cons _ (.cons _ (.cons_cons _ (List.nil_sublist _)))))
  go_wp2_with fail
  refine (lbelow_any _ _ _ X.cur 4 (by decide)).mono ?_
  rintro e w14 ⟨z1, hz1, rfl, cu, gr⟩
  replace X := X.draw cu gr
  clear cu gr
  obtain ⟨b1, hb1⟩ : ∃ b : Nat, (b : Int) = num + 6 + z1 := ⟨(num + 6 + z1).toNat, by omega⟩
  have hwb1 : IntKind.i64.wrap (num + 6 + z1) = (b1 : Int) := by rw [IntKind.wrap_i64]; omega
  have HBb1 := jd (show num + 2 < (b1 : Int) ∧ b1 ≤ 11 by omega)
  clear hb1 hz1
  go_wp2_with fail
  have HSZb1 := jd (head_seen_sz (num := num + 2) HR.out HL.out (show 0 ≤ num + 2 ∧ num + 2 < (b1 : Int) by have := HBb1.out; omega) HBb1.out.2)
  refine (w9head_any (some ⟨lb, lo, none⟩) n c _ l (num + 2) b1 _ (X.sep.own_ 1 rfl) (by have := HN.out; have := HBb1.out.2; omega) (by have := HN.out; omega)).mono ?_
  rintro e w15 ⟨Ah, nh, ch, rfl, o, b⟩
  obtain ⟨fp_h, X'⟩ := X.has b o
  clear X; have X := X'; clear X' b o
  go_wp2_with fail
  refine (HH.out (num + 2) (b1 : Int) (headOf l (num + 2) b1).tm Ah nh ch (headOf l (num + 2) b1).seen _ ((X.sep.own_ 0 rfl).rd) (HSZb1.out)).mono ?_
  rintro e w16 ⟨As, ns, cs, rfl, o, b⟩
  have o : Has _ _ (rowCells (headRowM (headOf l (num + 2) b1))) _ := o
  obtain ⟨fp_s, X'⟩ := X.has b o
  clear X; have X := X'; clear X' b o
  replace X := X.with_ (X.sep.sub (.cons_cons _ (.cons _ (.cons_cons _ (.cons_cons _ (List.nil_sublist _))))))
  have HTQ := jd (torn_heads HR.out HL.out hnum.1 (show num < (b0 : Int) by have := HBb0.out; omega) HBb1.out.1 HBb0.out.2 HBb1.out.2)
  replace X := X.boxAt (w16.heap.size) rfl #[.slice Ar nr cr, .slice As ns cs] 30
  go_wp2_with fail
  generalize w16.alloc (.cells #[.slice Ar nr cr, .slice As ns cs] 30) = w17 at *
  obtain ⟨qr, hqr⟩ : ∃ q, q = w16.heap.size := ⟨_, rfl⟩
  rw [← hqr] at X
  try rw [← hqr]
  clear hqr
  generalize headRowM (headOf l num b0) = R0 at *
  generalize headRowM (headOf l (num + 2) b1) = R1 at *
  have hN : 11 ≤ 13 ∧ 13 ≤ 13 := by decide
  clear hw1 hw2 hw6 hwb0 hwb1 hnum HBb0 HBb1 HSZb0 HSZb1
  replace X := X.with_ (X.sep.sub (.cons_cons _ (.cons_cons _ (.cons_cons _ (List.nil_sublist _)))))
  have hr0 : nr = 13 := by have h1 := HTQ.out.1; have h2 := rdI_len ((X.sep.own_ 2 rfl).rd); omega
  have HNR := jd hr0
  obtain ⟨D0, hD0⟩ : ∃ d, d = newDisk 1 := ⟨_, rfl⟩
  obtain ⟨D1, D2, hd1, hd2, s0, s1, s2, hl0, hl1, hrest⟩ := torn_disk HTQ.out hN hD0
  have HD0 := jd hD0
  have HD1 := jd hd1
  have HD2 := jd hd2
  have HRT := jd hrest
  have HLR := jd (And.intro (show R0.length ≤ 1048576 by have := HTQ.out.1; omega) (show R1.length ≤ 1048576 by have := HTQ.out.2.1; omega))
  clear hN hr0 hD0 hd1 hd2 hrest
  have XH := jd X
  clear X
  go_cut [8, 9] (fun s1 s2 wx => ∃ (qd : Nat) (Bx : Option Addr) (nx cx : Nat) (Cx : Option Addr) (mx dx : Nat) (fp_d : List Nat), s1 = .pointer (some ⟨qd, 0, none⟩) ∧ s2 = .bool true ∧ DrL w1 wx w.heap.size w.heap.size [.blk qd #[.slice Bx nx cx, .slice Cx mx dx] 44, .own D1.cells [.slice Bx nx cx, .slice Cx mx dx] fp_d, .blk qr #[.slice Ar nr cr, .slice As ns cs] 30, .own (rowCells R1) [.slice As ns cs] fp_s, .own (rowCells R0) [.slice Ar nr cr] fp_r])
  case first =>
   have X := XH.out
   refine wp_region_L (fun v => v.cell? ⟨qr, 0, none⟩ = some (.slice Ar nr cr) ∧ v.cell? ⟨qr, 1, none⟩ = some (.slice As ns cs)) 11 (by kernel_rfl) ?_
   clear XH
   replace X := X.drew
   generalize w17.drew = w18 at *
   have HF : w18.cell? ⟨qr, 0, none⟩ = some (.slice Ar nr cr) ∧ w18.cell? ⟨qr, 1, none⟩ = some (.slice As ns cs) := ⟨(X.sep.at_ 0 rfl).cell 0, (X.sep.at_ 0 rfl).cell 1⟩
   refine tk 1 (v := ?_) rfl rfl HF (.inl ⟨by rfl, ?_⟩) ?_
   rotate_left 1
   · (rintro v ⟨a0, a1⟩; go_simp; try with_reducible rfl)
   try simp only [Act.put]
   refine tk 2 (v := ?_) rfl rfl HF (.inl ⟨by rfl, ?_⟩) ?_
   rotate_left 1
   · (rintro v ⟨a0, a1⟩; go_simp; try with_reducible rfl)
   try simp only [Act.put]
   refine tk 3 (v := ?_) rfl rfl HF (.inl ⟨by rfl, ?_⟩) ?_
   rotate_left 1
   · (rintro v ⟨a0, a1⟩; go_simp; try with_reducible rfl)
   try simp only [Act.put]
   refine wpAnyL_two (i := 0) (k := 9) (by kernel_rfl) rfl rfl rfl rfl ?_ ?_
   · intro K hK
     go_simp
     refine (iNewDisk_any 1 _).mono ?_
     rintro e w19 ⟨B0, m0, c0, B1, m1, c1, rfl, o, b⟩
     rw [← HD0.out] at o
     obtain ⟨fp_d0, X'⟩ := X.has b o
     clear X; have X := X'; clear X' b o
     clear HF
     have HF : w19.cell? ⟨qr, 0, none⟩ = some (.slice Ar nr cr) ∧ w19.cell? ⟨qr, 1, none⟩ = some (.slice As ns cs) := ⟨(X.sep.at_ 1 rfl).cell 0, (X.sep.at_ 1 rfl).cell 1⟩
     refine hK _ _ (fun _ => HF) ?_
     clear hK K
     try simp only [Act.put]
     refine wpAnyL_two (i := 4) (k := 9) (by kernel_rfl) rfl rfl rfl rfl ?_ ?_
     · intro K hK
       go_simp
       refine (iWithD Ar nr cr R0 _ (X.sep.own_ 3 rfl).rd (by have := HLR.out; omega)).mono ?_
       rintro e w20 ⟨Aw, nw, cw, rfl, o, b⟩
       obtain ⟨fp_w, X'⟩ := X.has b o
       clear X; have X := X'; clear X' b o
       clear HF
       have HF : w20.cell? ⟨qr, 0, none⟩ = some (.slice Ar nr cr) ∧ w20.cell? ⟨qr, 1, none⟩ = some (.slice As ns cs) := ⟨(X.sep.at_ 2 rfl).cell 0, (X.sep.at_ 2 rfl).cell 1⟩
       refine hK _ _ (fun _ => HF) ?_
       clear hK K
       try simp only [Act.put]
       refine wpAnyL_two (i := 5) (k := 9) (by kernel_rfl) rfl rfl rfl rfl ?_ ?_
       · intro K hK
         go_simp
         refine (iWrote_any B0 m0 c0 B1 m1 c1 D0 0 Aw nw cw (withSum R0) _ (X.sep.own_ 1 rfl).rd s0 (X.sep.own_ 0 rfl).rd (by omega)).mono ?_
         rintro e w21 ⟨Bx, nx, cx, Cx, mx, dx, rfl, o, b⟩
         rw [HD1.out] at o ⊢
         obtain ⟨fp_d, X'⟩ := X.has b o
         clear X; have X := X'; clear X' b o
         clear HF
         have HF : w21.cell? ⟨qr, 0, none⟩ = some (.slice Ar nr cr) ∧ w21.cell? ⟨qr, 1, none⟩ = some (.slice As ns cs) := ⟨(X.sep.at_ 3 rfl).cell 0, (X.sep.at_ 3 rfl).cell 1⟩
         refine hK _ _ (fun _ => HF) ?_
         clear hK K
         try simp only [Act.put]
         refine wpAnyL_pure (i := 6) (v := ?_) rfl rfl (by kernel_rfl) (by kernel_rfl) (by kernel_rfl) (fun _ _ _ h => h) HF (Or.inl ⟨by rfl, ?_⟩) ?_
         rotate_left 1
         · (intro v _; go_simp; try with_reducible rfl)
         try simp only [Act.put]
         refine wpAnyL_pure (i := 7) (v := ?_) rfl rfl (by kernel_rfl) (by kernel_rfl) (by kernel_rfl) (fun _ _ _ h => h) HF (Or.inl ⟨by rfl, ?_⟩) ?_
         rotate_left 1
         · (intro v _; go_simp; try with_reducible rfl)
         try simp only [Act.put]
         refine wpAnyL_pure (i := 8) (v := ?_) rfl rfl (by kernel_rfl) (by kernel_rfl) (by kernel_rfl) (fun _ _ _ h => h) HF (Or.inl ⟨by rfl, ?_⟩) ?_
         rotate_left 1
         · (intro v _; go_simp; try with_reducible rfl)
         try simp only [Act.put]
         refine wpAnyL_step (i := 9) (by kernel_rfl) rfl rfl ?_
         intro K hK
         go_simp
         replace X := X.boxAt (w21.heap.size) rfl #[.slice none 0 0, .slice none 0 0] 44
         clear HF
         have HF : (w21.alloc (.cells #[.slice none 0 0, .slice none 0 0] 44)).cell? ⟨qr, 0, none⟩ = some (.slice Ar nr cr) ∧ (w21.alloc (.cells #[.slice none 0 0, .slice none 0 0] 44)).cell? ⟨qr, 1, none⟩ = some (.slice As ns cs) := ⟨(X.sep.at_ 4 rfl).cell 0, (X.sep.at_ 4 rfl).cell 1⟩
         refine hK _ _ (fun _ => HF) ?_
         clear hK K
         try simp only [Act.put]
         generalize hw : w21.alloc (.cells #[.slice none 0 0, .slice none 0 0] 44) = w22 at *
         clear hw
         have f0 := lk X.sep 0 0 rfl rfl
         have f1 := (X.sep.at_ 0 rfl).free 0
         have f2 := lk X.sep 0 1 rfl rfl
         have f3 := (X.sep.at_ 0 rfl).free 1
         refine wpAnyL_step (i := 10) (by kernel_rfl) rfl rfl ?_
         intro K hK
         go_simp
         replace X := X.put 0 rfl 0 (.slice Bx nx cx)
         replace X := X.put 0 rfl 1 (.slice Cx mx dx)
         replace X : DrL w1 _ _ _ [.blk (w21.heap.size) #[.slice Bx nx cx, .slice Cx mx dx] 44, _, _, _, .blk (qr) #[.slice Ar nr cr, .slice As ns cs] 30, _, _] := X
         clear HF
         have HF : ((w22.setCell ⟨w21.heap.size, 0, none⟩ (.slice Bx nx cx)).setCell ⟨w21.heap.size, 1, none⟩ (.slice Cx mx dx)).cell? ⟨qr, 0, none⟩ = some (.slice Ar nr cr) ∧ ((w22.setCell ⟨w21.heap.size, 0, none⟩ (.slice Bx nx cx)).setCell ⟨w21.heap.size, 1, none⟩ (.slice Cx mx dx)).cell? ⟨qr, 1, none⟩ = some (.slice As ns cs) := ⟨(X.sep.at_ 4 rfl).cell 0, (X.sep.at_ 4 rfl).cell 1⟩
         refine hK _ _ (fun _ => HF) ?_
         clear hK K
         try simp only [Act.put]
         generalize (w22.setCell ⟨w21.heap.size, 0, none⟩ (.slice Bx nx cx)).setCell ⟨w21.heap.size, 1, none⟩ (.slice Cx mx dx) = w23 at *
         clear f0 f1 f2 f3
         refine wpAnyL_step (i := 11) (by kernel_rfl) rfl rfl ?_
         intro K hK
         go_simp
         refine hK _ _ (fun h => nomatch (show true = false from h)) ?_
         clear hK K
         try simp only [Act.put]
         refine wpAnyL_done (by kernel_rfl) ?_ _
         replace X := X.with_ (X.sep.pick 1 rfl)
         replace X := X.with_ (X.sep.pick 1 rfl)
         replace X := X.with_ (X.sep.sub (.cons_cons _ (.cons_cons _ (.cons _ (.cons _ (.cons_cons _ (.cons_cons _ (.cons_cons _ (List.nil_sublist _)))))))))
         go_wp2_with fail
         go_meet
         exact ⟨_, _, _, _, _, _, _, _, rfl, rfl, X⟩
       · intro K hK
         go_simp
         replace X := X.boxAt (w20.heap.size) rfl #[.slice none 0 0, .slice none 0 0] 44
         clear HF
         have HF : (w20.alloc (.cells #[.slice none 0 0, .slice none 0 0] 44)).cell? ⟨qr, 0, none⟩ = some (.slice Ar nr cr) ∧ (w20.alloc (.cells #[.slice none 0 0, .slice none 0 0] 44)).cell? ⟨qr, 1, none⟩ = some (.slice As ns cs) := ⟨(X.sep.at_ 3 rfl).cell 0, (X.sep.at_ 3 rfl).cell 1⟩
         refine hK _ _ (fun _ => HF) ?_
         clear hK K
         try simp only [Act.put]
         generalize hw : w20.alloc (.cells #[.slice none 0 0, .slice none 0 0] 44) = w21 at *
         clear hw
         refine wpAnyL_step (i := 5) (by kernel_rfl) rfl rfl ?_
         intro K hK
         go_simp
         refine (iWrote_any B0 m0 c0 B1 m1 c1 D0 0 Aw nw cw (withSum R0) _ (X.sep.own_ 2 rfl).rd s0 (X.sep.own_ 1 rfl).rd (by omega)).mono ?_
         rintro e w22 ⟨Bx, nx, cx, Cx, mx, dx, rfl, o, b⟩
         rw [HD1.out] at o ⊢
         obtain ⟨fp_d, X'⟩ := X.has b o
         clear X; have X := X'; clear X' b o
         clear HF
         have HF : w22.cell? ⟨qr, 0, none⟩ = some (.slice Ar nr cr) ∧ w22.cell? ⟨qr, 1, none⟩ = some (.slice As ns cs) := ⟨(X.sep.at_ 4 rfl).cell 0, (X.sep.at_ 4 rfl).cell 1⟩
         refine hK _ _ (fun _ => HF) ?_
         clear hK K
         try simp only [Act.put]
         refine wpAnyL_pure (i := 6) (v := ?_) rfl rfl (by kernel_rfl) (by kernel_rfl) (by kernel_rfl) (fun _ _ _ h => h) HF (Or.inl ⟨by rfl, ?_⟩) ?_
         rotate_left 1
         · (intro v _; go_simp; try with_reducible rfl)
         try simp only [Act.put]
         refine wpAnyL_pure (i := 7) (v := ?_) rfl rfl (by kernel_rfl) (by kernel_rfl) (by kernel_rfl) (fun _ _ _ h => h) HF (Or.inl ⟨by rfl, ?_⟩) ?_
         rotate_left 1
         · (intro v _; go_simp; try with_reducible rfl)
         try simp only [Act.put]
         refine wpAnyL_pure (i := 8) (v := ?_) rfl rfl (by kernel_rfl) (by kernel_rfl) (by kernel_rfl) (fun _ _ _ h => h) HF (Or.inl ⟨by rfl, ?_⟩) ?_
         rotate_left 1
         · (intro v _; go_simp; try with_reducible rfl)
         try simp only [Act.put]
         have f0 := lk X.sep 1 0 rfl rfl
         have f1 := (X.sep.at_ 1 rfl).free 0
         have f2 := lk X.sep 1 1 rfl rfl
         have f3 := (X.sep.at_ 1 rfl).free 1
         refine wpAnyL_step (i := 10) (by kernel_rfl) rfl rfl ?_
         intro K hK
         go_simp
         replace X := X.put 1 rfl 0 (.slice Bx nx cx)
         replace X := X.put 1 rfl 1 (.slice Cx mx dx)
         replace X : DrL w1 _ _ _ [_, .blk (w20.heap.size) #[.slice Bx nx cx, .slice Cx mx dx] 44, _, _, .blk (qr) #[.slice Ar nr cr, .slice As ns cs] 30, _, _] := X
         clear HF
         have HF : ((w22.setCell ⟨w20.heap.size, 0, none⟩ (.slice Bx nx cx)).setCell ⟨w20.heap.size, 1, none⟩ (.slice Cx mx dx)).cell? ⟨qr, 0, none⟩ = some (.slice Ar nr cr) ∧ ((w22.setCell ⟨w20.heap.size, 0, none⟩ (.slice Bx nx cx)).setCell ⟨w20.heap.size, 1, none⟩ (.slice Cx mx dx)).cell? ⟨qr, 1, none⟩ = some (.slice As ns cs) := ⟨(X.sep.at_ 4 rfl).cell 0, (X.sep.at_ 4 rfl).cell 1⟩
         refine hK _ _ (fun _ => HF) ?_
         clear hK K
         try simp only [Act.put]
         generalize (w22.setCell ⟨w20.heap.size, 0, none⟩ (.slice Bx nx cx)).setCell ⟨w20.heap.size, 1, none⟩ (.slice Cx mx dx) = w23 at *
         clear f0 f1 f2 f3
         refine wpAnyL_step (i := 11) (by kernel_rfl) rfl rfl ?_
         intro K hK
         go_simp
         refine hK _ _ (fun h => nomatch (show true = false from h)) ?_
         clear hK K
         try simp only [Act.put]
         refine wpAnyL_done (by kernel_rfl) ?_ _
         replace X := X.with_ (X.sep.pick 0 rfl)
         replace X := X.with_ (X.sep.pick 1 rfl)
         replace X := X.with_ (X.sep.sub (.cons_cons _ (.cons_cons _ (.cons _ (.cons _ (.cons_cons _ (.cons_cons _ (.cons_cons _ (List.nil_sublist _)))))))))
         go_wp2_with fail
         go_meet
         exact ⟨_, _, _, _, _, _, _, _, rfl, rfl, X⟩
     · intro K hK
       go_simp
       replace X := X.boxAt (w19.heap.size) rfl #[.slice none 0 0, .slice none 0 0] 44
       clear HF
       have HF : (w19.alloc (.cells #[.slice none 0 0, .slice none 0 0] 44)).cell? ⟨qr, 0, none⟩ = some (.slice Ar nr cr) ∧ (w19.alloc (.cells #[.slice none 0 0, .slice none 0 0] 44)).cell? ⟨qr, 1, none⟩ = some (.slice As ns cs) := ⟨(X.sep.at_ 2 rfl).cell 0, (X.sep.at_ 2 rfl).cell 1⟩
       refine hK _ _ (fun _ => HF) ?_
       clear hK K
       try simp only [Act.put]
       generalize hw : w19.alloc (.cells #[.slice none 0 0, .slice none 0 0] 44) = w20 at *
       clear hw
       refine wpAnyL_step (i := 4) (by kernel_rfl) rfl rfl ?_
       intro K hK
       go_simp
       refine (iWithD Ar nr cr R0 _ (X.sep.own_ 4 rfl).rd (by have := HLR.out; omega)).mono ?_
       rintro e w21 ⟨Aw, nw, cw, rfl, o, b⟩
       obtain ⟨fp_w, X'⟩ := X.has b o
       clear X; have X := X'; clear X' b o
       clear HF
       have HF : w21.cell? ⟨qr, 0, none⟩ = some (.slice Ar nr cr) ∧ w21.cell? ⟨qr, 1, none⟩ = some (.slice As ns cs) := ⟨(X.sep.at_ 3 rfl).cell 0, (X.sep.at_ 3 rfl).cell 1⟩
       refine hK _ _ (fun _ => HF) ?_
       clear hK K
       try simp only [Act.put]
       refine wpAnyL_step (i := 5) (by kernel_rfl) rfl rfl ?_
       intro K hK
       go_simp
       refine (iWrote_any B0 m0 c0 B1 m1 c1 D0 0 Aw nw cw (withSum R0) _ (X.sep.own_ 2 rfl).rd s0 (X.sep.own_ 0 rfl).rd (by omega)).mono ?_
       rintro e w22 ⟨Bx, nx, cx, Cx, mx, dx, rfl, o, b⟩
       rw [HD1.out] at o ⊢
       obtain ⟨fp_d, X'⟩ := X.has b o
       clear X; have X := X'; clear X' b o
       clear HF
       have HF : w22.cell? ⟨qr, 0, none⟩ = some (.slice Ar nr cr) ∧ w22.cell? ⟨qr, 1, none⟩ = some (.slice As ns cs) := ⟨(X.sep.at_ 4 rfl).cell 0, (X.sep.at_ 4 rfl).cell 1⟩
       refine hK _ _ (fun _ => HF) ?_
       clear hK K
       try simp only [Act.put]
       refine wpAnyL_pure (i := 6) (v := ?_) rfl rfl (by kernel_rfl) (by kernel_rfl) (by kernel_rfl) (fun _ _ _ h => h) HF (Or.inl ⟨by rfl, ?_⟩) ?_
       rotate_left 1
       · (intro v _; go_simp; try with_reducible rfl)
       try simp only [Act.put]
       refine wpAnyL_pure (i := 7) (v := ?_) rfl rfl (by kernel_rfl) (by kernel_rfl) (by kernel_rfl) (fun _ _ _ h => h) HF (Or.inl ⟨by rfl, ?_⟩) ?_
       rotate_left 1
       · (intro v _; go_simp; try with_reducible rfl)
       try simp only [Act.put]
       refine wpAnyL_pure (i := 8) (v := ?_) rfl rfl (by kernel_rfl) (by kernel_rfl) (by kernel_rfl) (fun _ _ _ h => h) HF (Or.inl ⟨by rfl, ?_⟩) ?_
       rotate_left 1
       · (intro v _; go_simp; try with_reducible rfl)
       try simp only [Act.put]
       have f0 := lk X.sep 2 0 rfl rfl
       have f1 := (X.sep.at_ 2 rfl).free 0
       have f2 := lk X.sep 2 1 rfl rfl
       have f3 := (X.sep.at_ 2 rfl).free 1
       refine wpAnyL_step (i := 10) (by kernel_rfl) rfl rfl ?_
       intro K hK
       go_simp
       replace X := X.put 2 rfl 0 (.slice Bx nx cx)
       replace X := X.put 2 rfl 1 (.slice Cx mx dx)
       replace X : DrL w1 _ _ _ [_, _, .blk (w19.heap.size) #[.slice Bx nx cx, .slice Cx mx dx] 44, _, .blk (qr) #[.slice Ar nr cr, .slice As ns cs] 30, _, _] := X
       clear HF
       have HF : ((w22.setCell ⟨w19.heap.size, 0, none⟩ (.slice Bx nx cx)).setCell ⟨w19.heap.size, 1, none⟩ (.slice Cx mx dx)).cell? ⟨qr, 0, none⟩ = some (.slice Ar nr cr) ∧ ((w22.setCell ⟨w19.heap.size, 0, none⟩ (.slice Bx nx cx)).setCell ⟨w19.heap.size, 1, none⟩ (.slice Cx mx dx)).cell? ⟨qr, 1, none⟩ = some (.slice As ns cs) := ⟨(X.sep.at_ 4 rfl).cell 0, (X.sep.at_ 4 rfl).cell 1⟩
       refine hK _ _ (fun _ => HF) ?_
       clear hK K
       try simp only [Act.put]
       generalize (w22.setCell ⟨w19.heap.size, 0, none⟩ (.slice Bx nx cx)).setCell ⟨w19.heap.size, 1, none⟩ (.slice Cx mx dx) = w23 at *
       clear f0 f1 f2 f3
       refine wpAnyL_step (i := 11) (by kernel_rfl) rfl rfl ?_
       intro K hK
       go_simp
       refine hK _ _ (fun h => nomatch (show true = false from h)) ?_
       clear hK K
       try simp only [Act.put]
       refine wpAnyL_done (by kernel_rfl) ?_ _
       replace X := X.with_ (X.sep.pick 0 rfl)
       replace X := X.with_ (X.sep.pick 2 rfl)
       replace X := X.with_ (X.sep.sub (.cons_cons _ (.cons_cons _ (.cons _ (.cons _ (.cons_cons _ (.cons_cons _ (.cons_cons _ (List.nil_sublist _)))))))))
       go_wp2_with fail
       go_meet
       exact ⟨_, _, _, _, _, _, _, _, rfl, rfl, X⟩
   · intro K hK
     go_simp
     replace X := X.boxAt (w18.heap.size) rfl #[.slice none 0 0, .slice none 0 0] 44
     clear HF
     have HF : (w18.alloc (.cells #[.slice none 0 0, .slice none 0 0] 44)).cell? ⟨qr, 0, none⟩ = some (.slice Ar nr cr) ∧ (w18.alloc (.cells #[.slice none 0 0, .slice none 0 0] 44)).cell? ⟨qr, 1, none⟩ = some (.slice As ns cs) := ⟨(X.sep.at_ 1 rfl).cell 0, (X.sep.at_ 1 rfl).cell 1⟩
     refine hK _ _ (fun _ => HF) ?_
     clear hK K
     try simp only [Act.put]
     generalize hw : w18.alloc (.cells #[.slice none 0 0, .slice none 0 0] 44) = w19 at *
     clear hw
     refine wpAnyL_step (i := 0) (by kernel_rfl) rfl rfl ?_
     intro K hK
     go_simp
     refine (iNewDisk_any 1 _).mono ?_
     rintro e w20 ⟨B0, m0, c0, B1, m1, c1, rfl, o, b⟩
     rw [← HD0.out] at o
     obtain ⟨fp_d0, X'⟩ := X.has b o
     clear X; have X := X'; clear X' b o
     clear HF
     have HF : w20.cell? ⟨qr, 0, none⟩ = some (.slice Ar nr cr) ∧ w20.cell? ⟨qr, 1, none⟩ = some (.slice As ns cs) := ⟨(X.sep.at_ 2 rfl).cell 0, (X.sep.at_ 2 rfl).cell 1⟩
     refine hK _ _ (fun _ => HF) ?_
     clear hK K
     try simp only [Act.put]
     refine wpAnyL_step (i := 4) (by kernel_rfl) rfl rfl ?_
     intro K hK
     go_simp
     refine (iWithD Ar nr cr R0 _ (X.sep.own_ 4 rfl).rd (by have := HLR.out; omega)).mono ?_
     rintro e w21 ⟨Aw, nw, cw, rfl, o, b⟩
     obtain ⟨fp_w, X'⟩ := X.has b o
     clear X; have X := X'; clear X' b o
     clear HF
     have HF : w21.cell? ⟨qr, 0, none⟩ = some (.slice Ar nr cr) ∧ w21.cell? ⟨qr, 1, none⟩ = some (.slice As ns cs) := ⟨(X.sep.at_ 3 rfl).cell 0, (X.sep.at_ 3 rfl).cell 1⟩
     refine hK _ _ (fun _ => HF) ?_
     clear hK K
     try simp only [Act.put]
     refine wpAnyL_step (i := 5) (by kernel_rfl) rfl rfl ?_
     intro K hK
     go_simp
     refine (iWrote_any B0 m0 c0 B1 m1 c1 D0 0 Aw nw cw (withSum R0) _ (X.sep.own_ 1 rfl).rd s0 (X.sep.own_ 0 rfl).rd (by omega)).mono ?_
     rintro e w22 ⟨Bx, nx, cx, Cx, mx, dx, rfl, o, b⟩
     rw [HD1.out] at o ⊢
     obtain ⟨fp_d, X'⟩ := X.has b o
     clear X; have X := X'; clear X' b o
     clear HF
     have HF : w22.cell? ⟨qr, 0, none⟩ = some (.slice Ar nr cr) ∧ w22.cell? ⟨qr, 1, none⟩ = some (.slice As ns cs) := ⟨(X.sep.at_ 4 rfl).cell 0, (X.sep.at_ 4 rfl).cell 1⟩
     refine hK _ _ (fun _ => HF) ?_
     clear hK K
     try simp only [Act.put]
     refine wpAnyL_pure (i := 6) (v := ?_) rfl rfl (by kernel_rfl) (by kernel_rfl) (by kernel_rfl) (fun _ _ _ h => h) HF (Or.inl ⟨by rfl, ?_⟩) ?_
     rotate_left 1
     · (intro v _; go_simp; try with_reducible rfl)
     try simp only [Act.put]
     refine wpAnyL_pure (i := 7) (v := ?_) rfl rfl (by kernel_rfl) (by kernel_rfl) (by kernel_rfl) (fun _ _ _ h => h) HF (Or.inl ⟨by rfl, ?_⟩) ?_
     rotate_left 1
     · (intro v _; go_simp; try with_reducible rfl)
     try simp only [Act.put]
     refine wpAnyL_pure (i := 8) (v := ?_) rfl rfl (by kernel_rfl) (by kernel_rfl) (by kernel_rfl) (fun _ _ _ h => h) HF (Or.inl ⟨by rfl, ?_⟩) ?_
     rotate_left 1
     · (intro v _; go_simp; try with_reducible rfl)
     try simp only [Act.put]
     have f0 := lk X.sep 3 0 rfl rfl
     have f1 := (X.sep.at_ 3 rfl).free 0
     have f2 := lk X.sep 3 1 rfl rfl
     have f3 := (X.sep.at_ 3 rfl).free 1
     refine wpAnyL_step (i := 10) (by kernel_rfl) rfl rfl ?_
     intro K hK
     go_simp
     replace X := X.put 3 rfl 0 (.slice Bx nx cx)
     replace X := X.put 3 rfl 1 (.slice Cx mx dx)
     replace X : DrL w1 _ _ _ [_, _, _, .blk (w18.heap.size) #[.slice Bx nx cx, .slice Cx mx dx] 44, .blk (qr) #[.slice Ar nr cr, .slice As ns cs] 30, _, _] := X
     clear HF
     have HF : ((w22.setCell ⟨w18.heap.size, 0, none⟩ (.slice Bx nx cx)).setCell ⟨w18.heap.size, 1, none⟩ (.slice Cx mx dx)).cell? ⟨qr, 0, none⟩ = some (.slice Ar nr cr) ∧ ((w22.setCell ⟨w18.heap.size, 0, none⟩ (.slice Bx nx cx)).setCell ⟨w18.heap.size, 1, none⟩ (.slice Cx mx dx)).cell? ⟨qr, 1, none⟩ = some (.slice As ns cs) := ⟨(X.sep.at_ 4 rfl).cell 0, (X.sep.at_ 4 rfl).cell 1⟩
     refine hK _ _ (fun _ => HF) ?_
     clear hK K
     try simp only [Act.put]
     generalize (w22.setCell ⟨w18.heap.size, 0, none⟩ (.slice Bx nx cx)).setCell ⟨w18.heap.size, 1, none⟩ (.slice Cx mx dx) = w23 at *
     clear f0 f1 f2 f3
     refine wpAnyL_step (i := 11) (by kernel_rfl) rfl rfl ?_
     intro K hK
     go_simp
     refine hK _ _ (fun h => nomatch (show true = false from h)) ?_
     clear hK K
     try simp only [Act.put]
     refine wpAnyL_done (by kernel_rfl) ?_ _
     replace X := X.with_ (X.sep.pick 0 rfl)
     replace X := X.with_ (X.sep.pick 3 rfl)
     replace X := X.with_ (X.sep.sub (.cons_cons _ (.cons_cons _ (.cons _ (.cons _ (.cons_cons _ (.cons_cons _ (.cons_cons _ (List.nil_sublist _)))))))))
     go_wp2_with fail
     go_meet
     exact ⟨_, _, _, _, _, _, _, _, rfl, rfl, X⟩
  obtain ⟨qd, Bx, nx, cx, Cx, mx, dx, fp_d, rfl, rfl, X⟩ := hcut
  clear XH
  generalize wc = w18 at *
  have f0 := lk X.sep 0 0 rfl rfl
  have f1 := lk X.sep 0 1 rfl rfl
  go_wp2_with fail
  refine (iSynced_any Bx nx cx Cx mx dx D1 _ (X.sep.own_ 1 rfl).rd s1).mono ?_
  rintro e w19 ⟨By, ny, cy, Cy, my, dy, rfl, o, b⟩
  rw [HD2.out] at o
  obtain ⟨fp_d2, X'⟩ := X.has b o
  clear X; have X := X'; clear X' b o f0 f1
  go_wp2_with fail
  refine (lbelow_any _ _ _ X.cur 14 (by decide)).mono ?_
  rintro e w20 ⟨i9, hi9, rfl, cu, gr⟩
  replace X := X.draw cu gr
  clear cu gr
  go_wp2_with fail
  refine (lbelow_any _ _ _ X.cur 40 (by decide)).mono ?_
  rintro e w21 ⟨y9, hy9, rfl, cu, gr⟩
  replace X := X.draw cu gr
  clear cu gr
  go_wp2_with fail
  obtain ⟨D3, rb, hrot, hr3⟩ := HRT.out i9 y9
  obtain ⟨s3, D4, D5, tr, hd4, hd5, s4, s5, hrd5, ht6, ht48, hno⟩ := hr3 hy9
  have HD3 := jd hrot
  have HD4 := jd hd4
  have HD5 := jd hd5
  have HRD5 := jd hrd5
  have HNO := jd hno
  clear hrot hr3 hd4 hd5 hrd5 hno HRT hi9 hy9
  refine (iRotted_any By ny cy Cy my dy D2 0 i9 y9 _ (X.sep.own_ 0 rfl).rd s2).mono ?_
  rintro e w22 ⟨Bz, nz, cz, Cz, mz, dz, rfl, o, b⟩
  rw [HD3.out] at o ⊢
  obtain ⟨fp_d3, X'⟩ := X.has b o
  clear X; have X := X'; clear X' b o
  have f2 := lk X.sep 2 0 rfl rfl
  have f3 := (X.sep.at_ 2 rfl).free 0
  have f4 := lk X.sep 2 1 rfl rfl
  have f5 := (X.sep.at_ 2 rfl).free 1
  replace X := X.put 2 rfl 0 (.slice Bz nz cz)
  replace X := X.put 2 rfl 1 (.slice Cz mz dz)
  replace X : DrL w1 _ _ _ [_, _, .blk (qd) #[.slice Bz nz cz, .slice Cz mz dz] 44, _, .blk (qr) #[.slice Ar nr cr, .slice As ns cs] 30, _, _] := X
  replace X := X.with_ (X.sep.sub (.cons_cons _ (.cons _ (.cons_cons _ (.cons _ (.cons_cons _ (.cons_cons _ (.cons_cons _ (List.nil_sublist _)))))))))
  go_wp2_with fail
  generalize (w22.setCell ⟨qd, 0, none⟩ (.slice Bz nz cz)).setCell ⟨qd, 1, none⟩ (.slice Cz mz dz) = w23 at *
  refine wp_region_L (fun v => v.cell? ⟨qd, 0, none⟩ = some (.slice Bz nz cz) ∧ v.cell? ⟨qd, 1, none⟩ = some (.slice Cz mz dz) ∧ v.cell? ⟨qr, 0, none⟩ = some (.slice Ar nr cr) ∧ v.cell? ⟨qr, 1, none⟩ = some (.slice As ns cs)) 9 (by kernel_rfl) ?_
  clear f2 f3 f4 f5
  replace X := X.drew
  generalize w23.drew = w24 at *
  have HF : w24.cell? ⟨qd, 0, none⟩ = some (.slice Bz nz cz) ∧ w24.cell? ⟨qd, 1, none⟩ = some (.slice Cz mz dz) ∧ w24.cell? ⟨qr, 0, none⟩ = some (.slice Ar nr cr) ∧ w24.cell? ⟨qr, 1, none⟩ = some (.slice As ns cs) := ⟨(X.sep.at_ 1 rfl).cell 0, (X.sep.at_ 1 rfl).cell 1, (X.sep.at_ 2 rfl).cell 0, (X.sep.at_ 2 rfl).cell 1⟩
  refine tk 0 (v := ?_) rfl rfl HF (.inl ⟨by rfl, ?_⟩) ?_
  rotate_left 1
  · (rintro v ⟨a0, a1, a2, a3⟩; go_simp; try with_reducible rfl)
  try simp only [Act.put]
  refine tk 1 (v := ?_) rfl rfl HF (.inl ⟨by rfl, ?_⟩) ?_
  rotate_left 1
  · (rintro v ⟨a0, a1, a2, a3⟩; go_simp; try with_reducible rfl)
  try simp only [Act.put]
  refine tk 2 (v := ?_) rfl rfl HF (.inl ⟨by rfl, ?_⟩) ?_
  rotate_left 1
  · (rintro v ⟨a0, a1, a2, a3⟩; go_simp; try with_reducible rfl)
  try simp only [Act.put]
  refine tk 3 (v := ?_) rfl rfl HF (.inl ⟨by rfl, ?_⟩) ?_
  rotate_left 1
  · (rintro v ⟨a0, a1, a2, a3⟩; go_simp; try with_reducible rfl)
  try simp only [Act.put]
  refine wpAnyL_step (i := 4) (by kernel_rfl) rfl rfl ?_
  intro K hK
  go_simp
  refine (iWithD As ns cs R1 _ (X.sep.own_ 3 rfl).rd (by have := HLR.out; omega)).mono ?_
  rintro e w25 ⟨Aw, nw, cw, rfl, o, b⟩
  obtain ⟨fp_w, X'⟩ := X.has b o
  clear X; have X := X'; clear X' b o
  clear HF
  have HF : w25.cell? ⟨qd, 0, none⟩ = some (.slice Bz nz cz) ∧ w25.cell? ⟨qd, 1, none⟩ = some (.slice Cz mz dz) ∧ w25.cell? ⟨qr, 0, none⟩ = some (.slice Ar nr cr) ∧ w25.cell? ⟨qr, 1, none⟩ = some (.slice As ns cs) := ⟨(X.sep.at_ 2 rfl).cell 0, (X.sep.at_ 2 rfl).cell 1, (X.sep.at_ 3 rfl).cell 0, (X.sep.at_ 3 rfl).cell 1⟩
  refine hK _ _ (fun _ => HF) ?_
  clear hK K
  try simp only [Act.put]
  refine wpAnyL_step (i := 5) (by kernel_rfl) rfl rfl ?_
  intro K hK
  go_simp
  refine (iWrote_any Bz nz cz Cz mz dz D3 0 Aw nw cw (withSum R1) _ (X.sep.own_ 1 rfl).rd s3 (X.sep.own_ 0 rfl).rd (by omega)).mono ?_
  rintro e w26 ⟨Bu, nu, cu9, Cu, mu, du, rfl, o, b⟩
  rw [HD4.out] at o ⊢
  obtain ⟨fp_d4, X'⟩ := X.has b o
  clear X; have X := X'; clear X' b o
  clear HF
  have HF : w26.cell? ⟨qd, 0, none⟩ = some (.slice Bz nz cz) ∧ w26.cell? ⟨qd, 1, none⟩ = some (.slice Cz mz dz) ∧ w26.cell? ⟨qr, 0, none⟩ = some (.slice Ar nr cr) ∧ w26.cell? ⟨qr, 1, none⟩ = some (.slice As ns cs) := ⟨(X.sep.at_ 3 rfl).cell 0, (X.sep.at_ 3 rfl).cell 1, (X.sep.at_ 4 rfl).cell 0, (X.sep.at_ 4 rfl).cell 1⟩
  refine hK _ _ (fun _ => HF) ?_
  clear hK K
  try simp only [Act.put]
  refine wpAnyL_pure (i := 6) (v := ?_) rfl rfl (by kernel_rfl) (by kernel_rfl) (by kernel_rfl) (fun _ _ _ h => h) HF (Or.inl ⟨by rfl, ?_⟩) ?_
  rotate_left 1
  · (intro v _; go_simp; try with_reducible rfl)
  try simp only [Act.put]
  refine wpAnyL_pure (i := 7) (v := ?_) rfl rfl (by kernel_rfl) (by kernel_rfl) (by kernel_rfl) (fun _ _ _ h => h) HF (Or.inl ⟨by rfl, ?_⟩) ?_
  rotate_left 1
  · (intro v _; go_simp; try with_reducible rfl)
  try simp only [Act.put]
  refine wpAnyL_pure (i := 8) (v := ?_) rfl rfl (by kernel_rfl) (by kernel_rfl) (by kernel_rfl) (fun _ _ _ h => h) HF (Or.inl ⟨by rfl, ?_⟩) ?_
  rotate_left 1
  · (intro v _; go_simp; try with_reducible rfl)
  try simp only [Act.put]
  have f6 := lk X.sep 3 0 rfl rfl
  have f7 := (X.sep.at_ 3 rfl).free 0
  have f8 := lk X.sep 3 1 rfl rfl
  have f9 := (X.sep.at_ 3 rfl).free 1
  refine wpAnyL_step (i := 9) (by kernel_rfl) rfl rfl ?_
  intro K hK
  go_simp
  replace X := X.put 3 rfl 0 (.slice Bu nu cu9)
  replace X := X.put 3 rfl 1 (.slice Cu mu du)
  replace X : DrL w1 _ _ _ [_, _, _, .blk (qd) #[.slice Bu nu cu9, .slice Cu mu du] 44, .blk (qr) #[.slice Ar nr cr, .slice As ns cs] 30, _, _] := X
  refine hK _ _ (fun h => nomatch (show true = false from h)) ?_
  clear hK K HF
  try simp only [Act.put]
  generalize (w26.setCell ⟨qd, 0, none⟩ (.slice Bu nu cu9)).setCell ⟨qd, 1, none⟩ (.slice Cu mu du) = w27 at *
  clear f6 f7 f8 f9
  refine wpAnyL_step (i := 10) (by kernel_rfl) rfl rfl ?_
  intro K hK
  go_simp
  refine hK _ _ (fun h => nomatch (show true = false from h)) ?_
  clear hK K
  try simp only [Act.put]
  refine wpAnyL_done (by kernel_rfl) ?_ _
  replace X := X.with_ (X.sep.sub (.cons_cons _ (.cons _ (.cons _ (.cons_cons _ (.cons_cons _ (List.nil_sublist _)))))))
  have f10 := lk X.sep 1 0 rfl rfl
  have f11 := lk X.sep 1 1 rfl rfl
  replace X := X.boxAt (w27.heap.size) rfl #[.int .i64 2] 2
  have f12 := lk X.sep 2 0 rfl rfl
  have f13 := lk X.sep 2 1 rfl rfl
  go_wp2_with fail
  generalize w27.alloc (.cells #[.int .i64 2] 2) = w28 at *
  have hft : Rd w28 w28.heap.size (rowCells [2]) [.slice (some ⟨w27.heap.size, 0, none⟩) 1 1] := row1_rd (X.sep.at_ 0 rfl)
  refine (iFallen_any Bu nu cu9 Cu mu du D4 _ 1 1 [2] _ (X.sep.own_ 1 rfl).rd s4 hft (by decide)).mono ?_
  rintro e w29 ⟨Bf, nf, cf, Cf, mf, df, rfl, o, b⟩
  rw [HD5.out] at o
  clear hft
  obtain ⟨fp_d5, X'⟩ := X.has b o
  clear X; have X := X'; clear X' b o f10 f11 f12 f13
  have f14 := lk X.sep 3 0 rfl rfl
  have f15 := (X.sep.at_ 3 rfl).free 0
  have f16 := lk X.sep 3 1 rfl rfl
  have f17 := (X.sep.at_ 3 rfl).free 1
  replace X := X.put 3 rfl 0 (.slice Bf nf cf)
  replace X := X.put 3 rfl 1 (.slice Cf mf df)
  replace X : DrL w1 _ _ _ [_, .blk (w27.heap.size) #[.int .i64 2] 2, _, .blk (qd) #[.slice Bf nf cf, .slice Cf mf df] 44, .blk (qr) #[.slice Ar nr cr, .slice As ns cs] 30] := X
  replace X := X.with_ (X.sep.sub (.cons_cons _ (.cons _ (.cons _ (.cons_cons _ (.cons_cons _ (List.nil_sublist _)))))))
  have f18 := lk X.sep 1 0 rfl rfl
  have f19 := lk X.sep 1 1 rfl rfl
  go_wp2_with fail
  generalize (w29.setCell ⟨qd, 0, none⟩ (.slice Bf nf cf)).setCell ⟨qd, 1, none⟩ (.slice Cf mf df) = w30 at *
  refine (iReadAt_any (.slice Bf nf cf) (.slice Cf mf df) D5 0 _ (X.sep.own_ 0 rfl).rd (by omega)).mono ?_
  rintro e w31 ⟨At, nt, ct, rfl, o, b⟩
  rw [HRD5.out] at o ⊢
  obtain ⟨fp_t, X'⟩ := X.has b o
  clear X; have X := X'; clear X' b o f14 f15 f16 f17 f18 f19
  replace X := X.with_ (X.sep.sub (.cons_cons _ (.cons _ (.cons _ (.cons_cons _ (List.nil_sublist _))))))
  have hnt : tr.length = nt := rdI_len ((X.sep.own_ 0 rfl).rd)
  have dt : decide ((nt : Int) < 6) = false := decide_eq_false (by omega)
  have dt2 : decide (nt < 6) = false := decide_eq_false (by omega)
  have dn : decide ((nr : Int) < 11) = false := decide_eq_false (by have := HNR.out; omega)
  have dn2 : decide (nr < 11) = false := decide_eq_false (by have := HNR.out; omega)
  have HNT := jd hnt
  clear hnt
  cases rb
  case false =>
   have f20 := lk X.sep 1 0 rfl rfl
   have f21 := lk X.sep 1 1 rfl rfl
   go_wp2_with fail
   refine (iUnsD At nt ct tr _ ((X.sep.own_ 0 rfl).rd) (by omega)).mono ?_
   rintro e w32 ⟨Az, nz9, cz9, rfl, o, b⟩
   clear dt dt2 dn dn2
   obtain ⟨fp_z, X'⟩ := X.has b o
   clear X; have X := X'; clear X' b o f20 f21
   replace X := X.with_ (X.sep.sub (.cons_cons _ (List.nil_sublist _)))
   obtain ⟨ub, hub⟩ : ∃ b, b = (unsummed tr).2 := ⟨_, rfl⟩
   rw [← hub]
   cases ub
   case false =>
    clear hub
    have C := jd (B1.out.trans (grown_below X.grown B1.out.size (fun k hk => by injection hk with hk; omega)))
    clear X
    go_wp2
    go_ret
    exact ⟨rfl, C.out⟩
   case true =>
    obtain ⟨h1, h2⟩ := HNO.out (unsummed tr).1 (Prod.ext rfl hub.symm)
    generalize (unsummed tr).1 = RZ at *
    have HA := jd h1
    have HB := jd h2
    clear h1 h2 hub
    go_wp2_with fail
    refine (HP.out Az nz9 cz9 RZ _ ((X.sep.own_ 0 rfl).rd)).mono ?_
    rintro e w33 ⟨rfl, b⟩
    rw [HA.out]
    replace X := X.keep b
    clear b
    replace X := X.boxAt (w33.heap.size) rfl #[.int .i64 (rowSlotM RZ).1.idx, .int .i64 (rowSlotM RZ).1.tm, .int .i64 (rowSlotM RZ).1.cl, .int .i64 (rowSlotM RZ).1.sq, .int .i64 (rowSlotM RZ).1.kd, .int .i64 (rowSlotM RZ).1.oa, .int .i64 (rowSlotM RZ).1.ob, .int .i64 (rowSlotM RZ).1.oc, .int .i64 (rowSlotM RZ).1.od] 35
    go_wp2_with fail
    generalize w33.alloc (.cells #[.int .i64 (rowSlotM RZ).1.idx, .int .i64 (rowSlotM RZ).1.tm, .int .i64 (rowSlotM RZ).1.cl, .int .i64 (rowSlotM RZ).1.sq, .int .i64 (rowSlotM RZ).1.kd, .int .i64 (rowSlotM RZ).1.oa, .int .i64 (rowSlotM RZ).1.ob, .int .i64 (rowSlotM RZ).1.oc, .int .i64 (rowSlotM RZ).1.od] 35) = w34 at *
    replace X := X.with_ (X.sep.sub (.cons _ (.cons_cons _ (List.nil_sublist _))))
    refine (HQ.out Az nz9 cz9 RZ _ ((X.sep.own_ 0 rfl).rd)).mono ?_
    rintro e w35 ⟨z0, z1, z2, Ah, nh, ch, rfl, o, b⟩
    rw [HB.out]
    clear o
    replace X := X.keep b
    clear b
    replace X := X.boxAt (w35.heap.size) rfl #[.int .i64 z0, .int .i64 z1, .int .i64 z2, .slice Ah nh ch] 40
    have C := jd (B1.out.trans (grown_below X.grown B1.out.size (fun k hk => by injection hk with hk; omega)))
    clear X
    go_wp2
    go_ret
    exact ⟨rfl, C.out⟩
  case true =>
   have f20 := lk X.sep 1 0 rfl rfl
   have f21 := lk X.sep 1 1 rfl rfl
   go_wp2_with fail
   refine (iUnsD At nt ct tr _ ((X.sep.own_ 0 rfl).rd) (by omega)).mono ?_
   rintro e w32 ⟨Az, nz9, cz9, rfl, o, b⟩
   clear dt dt2 dn dn2
   obtain ⟨fp_z, X'⟩ := X.has b o
   clear X; have X := X'; clear X' b o f20 f21
   replace X := X.with_ (X.sep.sub (.cons_cons _ (List.nil_sublist _)))
   obtain ⟨ub, hub⟩ : ∃ b, b = (unsummed tr).2 := ⟨_, rfl⟩
   rw [← hub]
   cases ub
   case false =>
    clear hub
    have C := jd (B1.out.trans (grown_below X.grown B1.out.size (fun k hk => by injection hk with hk; omega)))
    clear X
    go_wp2
    go_ret
    exact ⟨rfl, C.out⟩
   case true =>
    obtain ⟨h1, h2⟩ := HNO.out (unsummed tr).1 (Prod.ext rfl hub.symm)
    generalize (unsummed tr).1 = RZ at *
    have HA := jd h1
    have HB := jd h2
    clear h1 h2 hub
    go_wp2_with fail
    refine (HP.out Az nz9 cz9 RZ _ ((X.sep.own_ 0 rfl).rd)).mono ?_
    rintro e w33 ⟨rfl, b⟩
    rw [HA.out]
    replace X := X.keep b
    clear b
    replace X := X.boxAt (w33.heap.size) rfl #[.int .i64 (rowSlotM RZ).1.idx, .int .i64 (rowSlotM RZ).1.tm, .int .i64 (rowSlotM RZ).1.cl, .int .i64 (rowSlotM RZ).1.sq, .int .i64 (rowSlotM RZ).1.kd, .int .i64 (rowSlotM RZ).1.oa, .int .i64 (rowSlotM RZ).1.ob, .int .i64 (rowSlotM RZ).1.oc, .int .i64 (rowSlotM RZ).1.od] 35
    go_wp2_with fail
    generalize w33.alloc (.cells #[.int .i64 (rowSlotM RZ).1.idx, .int .i64 (rowSlotM RZ).1.tm, .int .i64 (rowSlotM RZ).1.cl, .int .i64 (rowSlotM RZ).1.sq, .int .i64 (rowSlotM RZ).1.kd, .int .i64 (rowSlotM RZ).1.oa, .int .i64 (rowSlotM RZ).1.ob, .int .i64 (rowSlotM RZ).1.oc, .int .i64 (rowSlotM RZ).1.od] 35) = w34 at *
    replace X := X.with_ (X.sep.sub (.cons _ (.cons_cons _ (List.nil_sublist _))))
    refine (HQ.out Az nz9 cz9 RZ _ ((X.sep.own_ 0 rfl).rd)).mono ?_
    rintro e w35 ⟨z0, z1, z2, Ah, nh, ch, rfl, o, b⟩
    rw [HB.out]
    clear o
    replace X := X.keep b
    clear b
    replace X := X.boxAt (w35.heap.size) rfl #[.int .i64 z0, .int .i64 z1, .int .i64 z2, .slice Ah nh ch] 40
    have C := jd (B1.out.trans (grown_below X.grown B1.out.size (fun k hk => by injection hk with hk; omega)))
    clear X
    go_wp2
    go_ret
    exact ⟨rfl, C.out⟩
end Go.Proofs.Ytmjifhjhialcbaa
