/- Parts of my texts: RecS1 RecS2. -/
import Derived.Test.YtmjifhjhialcbaaGreatK21
namespace Go.Proofs.YtmjifhjhialcbaaGreat
set_option maxRecDepth 100000
set_option linter.unusedVariables false
open Go.RowKit
theorem pick_skip {b : BookM} {s : List MarkM} {R : List (List Int)} {i : Nat} (h : i < R.length) (hf : fitsM b s R[i] = false) : pickM b s (R.drop i) = pickM b s (R.drop (i + 1)) := by
 rw [List.drop_eq_getElem_cons h]
 unfold pickM
 rw [List.find?_cons, hf]
theorem pick_take {b : BookM} {s : List MarkM} {R : List (List Int)} {i : Nat} (h : i < R.length) (hf : fitsM b s R[i] = true) : pickM b s (R.drop i) = ((rowSlotM R[i]).1, true) := by
 rw [List.drop_eq_getElem_cons h]
 unfold pickM
 rw [List.find?_cons, hf]
theorem sRowSlot_at (A : Option Addr) (n cc B : Nat) (d : List Int) (w : World) (h : Rd w B (rowCells d) [.slice A n cc]) (hB : B ≤ w.heap.size) :
    Calls Tryz.prog 138 #[.slice A n cc] w fun e w' => ∃ (z0 z1 z2 z3 z4 z5 z6 z7 z8 : Int) (ok : Bool), rowSlotM d = ((⟨z0, z1, z2, z3, z4, z5, z6, z7, z8⟩ : EntM), ok) ∧ e = .returned (.tuple #[.agg #[.int .i64 z0, .int .i64 z1, .int .i64 z2, .int .i64 z3, .int .i64 z4, .int .i64 z5, .int .i64 z6, .int .i64 z7, .int .i64 z8], .bool ok]) ∧ Below w.heap.size w w' := by
 refine (sRowSlot_any A n cc B d w h hB).mono ?_
 rintro e w' ⟨rfl, b⟩
 exact ⟨_, _, _, _, _, _, _, _, _, _, rfl, rfl, b⟩
set_option maxHeartbeats 12800000 in
theorem sNext_any (Aa0 : Option Addr) (na0 ca0 : Nat) (Aa1 : Option Addr) (na1 ca1 : Nat) (Aa2 : Option Addr) (na2 ca2 : Nat) (Aa3 : Option Addr) (na3 ca3 : Nat) (t : TwoM) (x0 x1 : Int) (A : Option Addr) (n cc : Nat) (l : List EntM) (As : Option Addr) (ns cs : Nat) (s : List MarkM) (w : World) (h : Rd w w.heap.size t.cells [.slice Aa0 na0 ca0, .slice Aa1 na1 ca1, .slice Aa2 na2 ca2, .slice Aa3 na3 ca3]) (hs : t.sz ≤ 1048576) (h2 : Rd w w.heap.size [entD l] [.slice A n cc]) (hb : bookB ⟨x0, x1, l⟩ = true) (h3 : Rd w w.heap.size [mrkD s] [.slice As ns cs]) (hs3 : mrkSz s ≤ 1048577) :
    Calls Tryz.prog 82 #[.agg #[.slice Aa0 na0 ca0, .slice Aa1 na1 ca1, .slice Aa2 na2 ca2, .slice Aa3 na3 ca3], .agg #[.int .i64 x0, .int .i64 x1, .slice A n cc], .slice As ns cs] w fun e w' => ∃ (z0 z1 z2 z3 z4 z5 z6 z7 z8 : Int) (ok : Bool), nextM t ⟨x0, x1, l⟩ s = ((⟨z0, z1, z2, z3, z4, z5, z6, z7, z8⟩ : EntM), ok) ∧ e = .returned (.tuple #[.agg #[.int .i64 z0, .int .i64 z1, .int .i64 z2, .int .i64 z3, .int .i64 z4, .int .i64 z5, .int .i64 z6, .int .i64 z7, .int .i64 z8], .bool ok]) ∧ Below w.heap.size w w' := by
 have HH := jd h
 have H2 := jd h2
 have H3 := jd h3
 obtain ⟨_, _, _, e, hl, _, hcm, hel⟩ := h2.ents
 injection e with e1 e2 e3
 subst e1 e2 e3
 have hx := ((bookB_iff ⟨x0, x1, l⟩).1 hb).1
 have hl20 : l.length ≤ 20 := bookB_len hb
 have hn20 : n ≤ 20 := by omega
 have hs2 : entSz l ≤ 1048577 := by unfold entSz; omega
 have HX := jd (show 0 ≤ x0 ∧ x0 ≤ 2000 from hx)
 obtain ⟨q, hq⟩ : ∃ q, q = x0 + (n : Int) + 1 := ⟨_, rfl⟩
 have HQ := jd (show lastB ⟨x0, x1, l⟩ + 1 = q by rw [hq]; unfold lastB; rw [show ((⟨x0, x1, l⟩ : BookM).ents.length : Int) = (n : Int) from congrArg _ hl])
 have ew : IntKind.i64.wrap (x0 + (n : Int) + 1) = q := by have := HX.out; rw [IntKind.wrap_i64]; omega
 have HNX := jd (show nextM t ⟨x0, x1, l⟩ s = pickM ⟨x0, x1, l⟩ s (rightAt t (slotOfM q)) by unfold nextM; rw [HQ.out])
 clear hel hcm h h2 h3 hl hb hx hq
 have S := Sep.nil w w.heap.size
 have c := Below.refl w.heap.size w
 replace S := S.boxAt c.size (w.heap.size) rfl #[.slice Aa0 na0 ca0, .slice Aa1 na1 ca1, .slice Aa2 na2 ca2, .slice Aa3 na3 ca3] 35
 replace c := al c S
 replace S := S.boxAt c.size (w.heap.size + 1) (by simp) #[.int .i64 x0, .int .i64 x1, .slice A n cc] 47
 replace c := al c S
 replace S := S.boxAt c.size (w.heap.size + 1 + 1) (by simp) #[.int .i64 0, .int .i64 0, .int .i64 0, .int .i64 0, .int .i64 0, .int .i64 0, .int .i64 0, .int .i64 0, .int .i64 0] 87
 replace c := al c S
 go_enter Tryz.func82, Tryz.ntmps82
 have f0 := lk S 1 0 rfl rfl
 have f1 := lk S 1 1 rfl rfl
 have f2 := lk S 1 2 rfl rfl
 go_wp2_with fail
 generalize ((w.alloc (.cells #[.slice Aa0 na0 ca0, .slice Aa1 na1 ca1, .slice Aa2 na2 ca2, .slice Aa3 na3 ca3] 35)).alloc (.cells #[.int .i64 x0, .int .i64 x1, .slice A n cc] 47)).alloc (.cells #[.int .i64 0, .int .i64 0, .int .i64 0, .int .i64 0, .int .i64 0, .int .i64 0, .int .i64 0, .int .i64 0, .int .i64 0] 87) = w1 at *
 refine (sLast_any x0 x1 A n cc _ (by have := HX.out; omega) (by omega)).mono ?_
 rintro e w2 ⟨rfl, b2⟩
 replace c := c.trans (b2.mono c.size)
 replace S := S.keep b2
 clear b2 f0 f1 f2
 go_wp2_with fail
 refine wp_region_L (fun v => v.cell? ⟨w.heap.size, 0, none⟩ = some (.slice Aa0 na0 ca0) ∧ v.cell? ⟨w.heap.size, 1, none⟩ = some (.slice Aa1 na1 ca1) ∧ v.cell? ⟨w.heap.size, 2, none⟩ = some (.slice Aa2 na2 ca2) ∧ v.cell? ⟨w.heap.size, 3, none⟩ = some (.slice Aa3 na3 ca3)) 4 (by kernel_rfl) ?_
 replace S := S.keep ((Below.refl _ _).drew)
 replace c := c.drew
 generalize w2.drew = w3 at *
 have HF : w3.cell? ⟨w.heap.size, 0, none⟩ = some (.slice Aa0 na0 ca0) ∧ w3.cell? ⟨w.heap.size, 1, none⟩ = some (.slice Aa1 na1 ca1) ∧ w3.cell? ⟨w.heap.size, 2, none⟩ = some (.slice Aa2 na2 ca2) ∧ w3.cell? ⟨w.heap.size, 3, none⟩ = some (.slice Aa3 na3 ca3) := ⟨(S.at_ 2 rfl).cell 0, (S.at_ 2 rfl).cell 1, (S.at_ 2 rfl).cell 2, (S.at_ 2 rfl).cell 3⟩
 refine tk 0 (v := ?_) rfl rfl HF (.inl ⟨by rfl, ?_⟩) ?_
 rotate_left 1
 · (rintro v ⟨a0, a1, a2, a3⟩; go_simp; try with_reducible rfl)
 try simp only [Act.put]
 refine tk 1 (v := ?_) rfl rfl HF (.inl ⟨by rfl, ?_⟩) ?_
 rotate_left 1
 · (rintro v ⟨a0, a1, a2, a3⟩; go_simp; try with_reducible rfl)
 try simp only [Act.put]
 refine wpAnyL_step (i := 2) (by kernel_rfl) rfl rfl ?_
 intro K hK
 go_simp
 refine (sSlotOf_any q _).mono ?_
 rintro e w4 ⟨rfl, b2⟩
 replace c := c.trans (b2.mono c.size)
 replace S := S.keep b2
 clear b2
 clear HF
 have HF : w4.cell? ⟨w.heap.size, 0, none⟩ = some (.slice Aa0 na0 ca0) ∧ w4.cell? ⟨w.heap.size, 1, none⟩ = some (.slice Aa1 na1 ca1) ∧ w4.cell? ⟨w.heap.size, 2, none⟩ = some (.slice Aa2 na2 ca2) ∧ w4.cell? ⟨w.heap.size, 3, none⟩ = some (.slice Aa3 na3 ca3) := ⟨(S.at_ 2 rfl).cell 0, (S.at_ 2 rfl).cell 1, (S.at_ 2 rfl).cell 2, (S.at_ 2 rfl).cell 3⟩
 refine hK _ _ (fun _ => HF) ?_
 clear hK K
 try simp only [Act.put]
 refine wpAnyL_step (i := 3) (by kernel_rfl) rfl rfl ?_
 intro K hK
 go_simp
 refine (sRightAt_any Aa0 na0 ca0 Aa1 na1 ca1 Aa2 na2 ca2 Aa3 na3 ca3 t (slotOfM q) _ ((HH.out.keep c).up c.size) hs).mono ?_
 rintro e w5 ⟨Ar, nr, cr, rfl, o, b⟩
 obtain ⟨fp_ro, S'⟩ := S.has b o c.size
 replace c := c.trans (b.mono c.size)
 clear S; have S := S'; clear S' o b
 clear HF
 have HF : w5.cell? ⟨w.heap.size, 0, none⟩ = some (.slice Aa0 na0 ca0) ∧ w5.cell? ⟨w.heap.size, 1, none⟩ = some (.slice Aa1 na1 ca1) ∧ w5.cell? ⟨w.heap.size, 2, none⟩ = some (.slice Aa2 na2 ca2) ∧ w5.cell? ⟨w.heap.size, 3, none⟩ = some (.slice Aa3 na3 ca3) := ⟨(S.at_ 3 rfl).cell 0, (S.at_ 3 rfl).cell 1, (S.at_ 3 rfl).cell 2, (S.at_ 3 rfl).cell 3⟩
 refine hK _ _ (fun _ => HF) ?_
 clear hK K
 try simp only [Act.put]
 refine wpAnyL_step (i := 4) (by kernel_rfl) rfl rfl ?_
 intro K hK
 go_simp
 refine hK _ _ (fun h => nomatch (show true = false from h)) ?_
 clear hK K
 try simp only [Act.put]
 refine wpAnyL_done (by kernel_rfl) ?_ _
 clear HF
 have HR2 := jd (rightAt_len t (slotOfM q))
 generalize rightAt t (slotOfM q) = R at *
 have hrl : R.length = nr := by
  obtain ⟨_, _, _, e, hl, _⟩ := Rd.kept (S.own_ 0 rfl).rd
  injection e with e1 e2 e3
  rw [hl, e2]
 have HRN := jd hrl
 have hn2 : nr ≤ 2 := by have := HR2.out; omega
 have S1 := jd S
 have B1 := jd c
 clear S c hrl
 go_wp2
 go_loopw [10] (fun iv wr => ∃ (i : Nat), i ≤ nr ∧ iv = .int .i64 (i : Int) ∧ nextM t ⟨x0, x1, l⟩ s = pickM ⟨x0, x1, l⟩ s (R.drop i) ∧ Sep wr w.heap.size [.own [keptD R] [.slice Ar nr cr] fp_ro, .blk (w.heap.size + 1 + 1) #[.int .i64 0, .int .i64 0, .int .i64 0, .int .i64 0, .int .i64 0, .int .i64 0, .int .i64 0, .int .i64 0, .int .i64 0] 87, .blk (w.heap.size + 1) #[.int .i64 x0, .int .i64 x1, .slice A n cc] 47, .blk w.heap.size #[.slice Aa0 na0 ca0, .slice Aa1 na1 ca1, .slice Aa2 na2 ca2, .slice Aa3 na3 ca3] 35] ∧ Below w.heap.size w wr) (fun iv _ => nr - (intOf iv).toNat)
 case atStart => exact ⟨0, Nat.zero_le _, rfl, HNX.out, S1.out, B1.out⟩
 case round =>
  obtain ⟨i, hi, rfl, hb9, S, c⟩ := hrel
  clear S1 B1 HNX
  by_cases hik : i < nr
  case neg =>
   have HV := jd (show nextM t ⟨x0, x1, l⟩ s = (ent0, false) by rw [hb9, List.drop_eq_nil_of_le (by have := HRN.out; omega)]; rfl)
   clear hb9
   have f3 := lk S 1 0 rfl rfl
   have f4 := (S.at_ 1 rfl).free 0
   have f5 := lk S 1 1 rfl rfl
   have f6 := (S.at_ 1 rfl).free 1
   have f7 := lk S 1 2 rfl rfl
   have f8 := (S.at_ 1 rfl).free 2
   have f9 := lk S 1 3 rfl rfl
   have f10 := (S.at_ 1 rfl).free 3
   have f11 := lk S 1 4 rfl rfl
   have f12 := (S.at_ 1 rfl).free 4
   have f13 := lk S 1 5 rfl rfl
   have f14 := (S.at_ 1 rfl).free 5
   have f15 := lk S 1 6 rfl rfl
   have f16 := (S.at_ 1 rfl).free 6
   have f17 := lk S 1 7 rfl rfl
   have f18 := (S.at_ 1 rfl).free 7
   have f19 := lk S 1 8 rfl rfl
   have f20 := (S.at_ 1 rfl).free 8
   replace S := S.put 1 rfl 0 (.int .i64 0)
   replace c := st c S (by omega)
   replace S := S.put 1 rfl 1 (.int .i64 0)
   replace c := st c S (by omega)
   replace S := S.put 1 rfl 2 (.int .i64 0)
   replace c := st c S (by omega)
   replace S := S.put 1 rfl 3 (.int .i64 0)
   replace c := st c S (by omega)
   replace S := S.put 1 rfl 4 (.int .i64 0)
   replace c := st c S (by omega)
   replace S := S.put 1 rfl 5 (.int .i64 0)
   replace c := st c S (by omega)
   replace S := S.put 1 rfl 6 (.int .i64 0)
   replace c := st c S (by omega)
   replace S := S.put 1 rfl 7 (.int .i64 0)
   replace c := st c S (by omega)
   replace S := S.put 1 rfl 8 (.int .i64 0)
   replace c := st c S (by omega)
   have r0 := jd ((S.at_ 1 rfl).cell 0)
   have r1 := jd ((S.at_ 1 rfl).cell 1)
   have r2 := jd ((S.at_ 1 rfl).cell 2)
   have r3 := jd ((S.at_ 1 rfl).cell 3)
   have r4 := jd ((S.at_ 1 rfl).cell 4)
   have r5 := jd ((S.at_ 1 rfl).cell 5)
   have r6 := jd ((S.at_ 1 rfl).cell 6)
   have r7 := jd ((S.at_ 1 rfl).cell 7)
   have r8 := jd ((S.at_ 1 rfl).cell 8)
   have CC := jd c
   clear S c
   go_wp2
   exact bodyPost_ret (v := .tuple #[.agg #[.int .i64 0, .int .i64 0, .int .i64 0, .int .i64 0, .int .i64 0, .int .i64 0, .int .i64 0, .int .i64 0, .int .i64 0], .bool false]) (by simp [results, Tryz.results82, go_sem, r0.out, r1.out, r2.out, r3.out, r4.out, r5.out, r6.out, r7.out, r8.out]) rfl ⟨0, 0, 0, 0, 0, 0, 0, 0, 0, false, HV.out, rfl, CC.out⟩
  case pos =>
   have hil : i < R.length := by have := HRN.out; omega
   obtain ⟨_, _, _, e, _, _, _, hel⟩ := Rd.kept (S.own_ 0 rfl).rd
   injection e with e1 e2 e3
   subst e1 e2 e3
   obtain ⟨bb, off, rfl, hbb, hcc⟩ := hel (by omega)
   obtain ⟨A9, m9, c9, hcell, hrow, hmc, hcM⟩ := hcc i hil
   have hrd : Rd wr wr.heap.size (rowCells R[i]) [.slice A9 m9 c9] := hrow.rd hmc hcM
   obtain ⟨d, hd⟩ : ∃ d, d = R[i] := ⟨_, rfl⟩
   have HNO := jd (show fitsM ⟨x0, x1, l⟩ s d = false → nextM t ⟨x0, x1, l⟩ s = pickM ⟨x0, x1, l⟩ s (R.drop (i + 1)) from fun h9 => by rw [hb9]; exact pick_skip hil (by rw [← hd]; exact h9))
   have HYES := jd (show fitsM ⟨x0, x1, l⟩ s d = true → nextM t ⟨x0, x1, l⟩ s = ((rowSlotM d).1, true) from fun h9 => by rw [hb9, hd]; exact pick_take hil (by rw [← hd]; exact h9))
   rw [← hd] at hrd
   have HRD := jd hrd
   have i0 : (0 : Int) ≤ (i : Int) := by omega
   have i1 : (i : Int) < (nr : Int) := by omega
   clear hel hcc hrow hmc hcM hrd hd hb9 hil
   go_wp2_with fail
   refine (sRowSlot_at A9 m9 c9 _ d _ HRD.out (Nat.le_refl _)).mono ?_
   rintro e w6 ⟨z0, z1, z2, z3, z4, z5, z6, z7, z8, ok, hrh, rfl, b9⟩
   replace c := c.trans (b9.mono c.size)
   replace S := S.keep b9
   clear b9
   clear hcell HRD
   have HFS := jd (show fitsM ⟨x0, x1, l⟩ s d = (ok && (decide (z0 = q) && ((appM ⟨x0, x1, l⟩ ⟨z0, z1, z2, z3, z4, z5, z6, z7, z8⟩).2 && (markedM s ⟨z0, z1, z2, z3, z4, z5, z6, z7, z8⟩).2))) by unfold fitsM; rw [hrh, HQ.out])
   have HRH := jd hrh
   clear hrh
   replace S := S.boxAt c.size (w6.heap.size) rfl #[.int .i64 z0, .int .i64 z1, .int .i64 z2, .int .i64 z3, .int .i64 z4, .int .i64 z5, .int .i64 z6, .int .i64 z7, .int .i64 z8] 87
   replace c := al c S
   have f3 := lk S 0 0 rfl rfl
   have f4 := lk S 0 1 rfl rfl
   have f5 := lk S 0 2 rfl rfl
   have f6 := lk S 0 3 rfl rfl
   have f7 := lk S 0 4 rfl rfl
   have f8 := lk S 0 5 rfl rfl
   have f9 := lk S 0 6 rfl rfl
   have f10 := lk S 0 7 rfl rfl
   have f11 := lk S 0 8 rfl rfl
   have f12 := lk S 3 0 rfl rfl
   have f13 := lk S 3 1 rfl rfl
   have f14 := lk S 3 2 rfl rfl
   cases ok
   case false =>
    have HN := jd (HNO.out (by rw [HFS.out]; rfl))
    clear HYES HFS HRH
    replace S := S.sub (.cons _ (.cons_cons _ (.cons_cons _ (.cons_cons _ (.cons_cons _ (List.nil_sublist _))))))
    have SS := jd S
    have CC := jd c
    clear S c
    go_wp2
    go_roundw
    case rel => exact ⟨i + 1, by omega, by go_num, HN.out, SS.out, CC.out⟩
    case measure => simp [intOf] <;> omega
   case true =>
    by_cases hz : z0 = q
    case neg =>
     have HN := jd (HNO.out (by rw [HFS.out]; rw [decide_eq_false hz]; rfl))
     have e1 : (z0 != q) = true := by simpa using hz
     have e2 : (z0 == q) = false := by simpa using hz
     have e3 : decide (z0 = q) = false := decide_eq_false hz
     clear HYES HFS HRH hz
     replace S := S.sub (.cons _ (.cons_cons _ (.cons_cons _ (.cons_cons _ (.cons_cons _ (List.nil_sublist _))))))
     have SS := jd S
     have CC := jd c
     clear S c
     go_wp2
     go_roundw
     case rel => exact ⟨i + 1, by omega, by go_num, HN.out, SS.out, CC.out⟩
     case measure => simp [intOf] <;> omega
    case pos =>
     have HZ := jd hz
     have e1 : (z0 != q) = false := by simpa using hz
     have e2 : (z0 == q) = true := by simpa using hz
     have e3 : decide (z0 = q) = true := decide_eq_true hz
     clear hz
     obtain ⟨ga, hga⟩ : ∃ g, g = (appM ⟨x0, x1, l⟩ ⟨z0, z1, z2, z3, z4, z5, z6, z7, z8⟩).2 := ⟨_, rfl⟩
     obtain ⟨gm, hgm⟩ : ∃ g, g = (markedM s ⟨z0, z1, z2, z3, z4, z5, z6, z7, z8⟩).2 := ⟨_, rfl⟩
     have HFG := jd (show fitsM ⟨x0, x1, l⟩ s d = (ga && gm) by rw [HFS.out, decide_eq_true HZ.out, ← hga, ← hgm]; rfl)
     clear HFS
     have HGA := jd hga
     have HGM := jd hgm
     clear hga hgm
     go_wp2_with fail
     generalize w6.alloc (.cells #[.int .i64 z0, .int .i64 z1, .int .i64 z2, .int .i64 z3, .int .i64 z4, .int .i64 z5, .int .i64 z6, .int .i64 z7, .int .i64 z8] 87) = w7 at *
     refine (sApp_any x0 x1 A n cc _ l z0 z1 z2 z3 z4 z5 z6 z7 z8 _ (H2.out.keep c) c.size hs2).mono ?_
     rintro e w8 ⟨y0, y1, Ay, ny, cy, rfl, o, b⟩
     obtain ⟨fp_y, S'⟩ := S.has b o c.size
     replace c := c.trans (b.mono c.size)
     clear S; have S := S'; clear S' o b f3 f4 f5 f6 f7 f8 f9 f10 f11 f12 f13 f14
     rw [← HGA.out]
     replace S := S.boxAt c.size (w8.heap.size) rfl #[.int .i64 y0, .int .i64 y1, .slice Ay ny cy] 47
     replace c := al c S
     have f15 := lk S 2 0 rfl rfl
     have f16 := lk S 2 1 rfl rfl
     have f17 := lk S 2 2 rfl rfl
     have f18 := lk S 2 3 rfl rfl
     have f19 := lk S 2 4 rfl rfl
     have f20 := lk S 2 5 rfl rfl
     have f21 := lk S 2 6 rfl rfl
     have f22 := lk S 2 7 rfl rfl
     have f23 := lk S 2 8 rfl rfl
     go_wp2_with fail
     generalize w8.alloc (.cells #[.int .i64 y0, .int .i64 y1, .slice Ay ny cy] 47) = w9 at *
     refine (sMarked_any As ns cs _ s z0 z1 z2 z3 z4 z5 z6 z7 z8 _ (H3.out.keep c) c.size hs3).mono ?_
     rintro e w10 ⟨Am, nm, cm, rfl, o, b⟩
     obtain ⟨fp_m, S'⟩ := S.has b o c.size
     replace c := c.trans (b.mono c.size)
     clear S; have S := S'; clear S' o b f15 f16 f17 f18 f19 f20 f21 f22 f23
     rw [← HGM.out]
     clear HGA HGM
     cases ga
     case false =>
      have HN := jd (HNO.out (by rw [HFG.out]; rfl))
      clear HYES HRH HFG
      replace S := S.sub (.cons _ (.cons _ (.cons _ (.cons _ (.cons_cons _ (.cons_cons _ (.cons_cons _ (.cons_cons _ (List.nil_sublist _)))))))))
      have SS := jd S
      have CC := jd c
      clear S c
      go_wp2
      go_roundw
      case rel => exact ⟨i + 1, by omega, by go_num, HN.out, SS.out, CC.out⟩
      case measure => simp [intOf] <;> omega
     case true =>
      cases gm
      case false =>
       have HN := jd (HNO.out (by rw [HFG.out]; rfl))
       clear HYES HRH HFG
       replace S := S.sub (.cons _ (.cons _ (.cons _ (.cons _ (.cons_cons _ (.cons_cons _ (.cons_cons _ (.cons_cons _ (List.nil_sublist _)))))))))
       have SS := jd S
       have CC := jd c
       clear S c
       go_wp2
       go_roundw
       case rel => exact ⟨i + 1, by omega, by go_num, HN.out, SS.out, CC.out⟩
       case measure => simp [intOf] <;> omega
      case true =>
       have HV := jd (show nextM t ⟨x0, x1, l⟩ s = ((⟨z0, z1, z2, z3, z4, z5, z6, z7, z8⟩ : EntM), true) by rw [HYES.out (by rw [HFG.out]; rfl), HRH.out])
       clear HYES HFG HRH HNO
       have f24 := lk S 3 0 rfl rfl
       have f25 := lk S 3 1 rfl rfl
       have f26 := lk S 3 2 rfl rfl
       have f27 := lk S 3 3 rfl rfl
       have f28 := lk S 3 4 rfl rfl
       have f29 := lk S 3 5 rfl rfl
       have f30 := lk S 3 6 rfl rfl
       have f31 := lk S 3 7 rfl rfl
       have f32 := lk S 3 8 rfl rfl
       have f33 := lk S 5 0 rfl rfl
       have f34 := (S.at_ 5 rfl).free 0
       have f35 := lk S 5 1 rfl rfl
       have f36 := (S.at_ 5 rfl).free 1
       have f37 := lk S 5 2 rfl rfl
       have f38 := (S.at_ 5 rfl).free 2
       have f39 := lk S 5 3 rfl rfl
       have f40 := (S.at_ 5 rfl).free 3
       have f41 := lk S 5 4 rfl rfl
       have f42 := (S.at_ 5 rfl).free 4
       have f43 := lk S 5 5 rfl rfl
       have f44 := (S.at_ 5 rfl).free 5
       have f45 := lk S 5 6 rfl rfl
       have f46 := (S.at_ 5 rfl).free 6
       have f47 := lk S 5 7 rfl rfl
       have f48 := (S.at_ 5 rfl).free 7
       have f49 := lk S 5 8 rfl rfl
       have f50 := (S.at_ 5 rfl).free 8
       replace S := S.put 5 rfl 0 (.int .i64 z0)
       replace c := st c S (by omega)
       replace S := S.put 5 rfl 1 (.int .i64 z1)
       replace c := st c S (by omega)
       replace S := S.put 5 rfl 2 (.int .i64 z2)
       replace c := st c S (by omega)
       replace S := S.put 5 rfl 3 (.int .i64 z3)
       replace c := st c S (by omega)
       replace S := S.put 5 rfl 4 (.int .i64 z4)
       replace c := st c S (by omega)
       replace S := S.put 5 rfl 5 (.int .i64 z5)
       replace c := st c S (by omega)
       replace S := S.put 5 rfl 6 (.int .i64 z6)
       replace c := st c S (by omega)
       replace S := S.put 5 rfl 7 (.int .i64 z7)
       replace c := st c S (by omega)
       replace S := S.put 5 rfl 8 (.int .i64 z8)
       replace c := st c S (by omega)
       have r0 := jd ((S.at_ 5 rfl).cell 0)
       have r1 := jd ((S.at_ 5 rfl).cell 1)
       have r2 := jd ((S.at_ 5 rfl).cell 2)
       have r3 := jd ((S.at_ 5 rfl).cell 3)
       have r4 := jd ((S.at_ 5 rfl).cell 4)
       have r5 := jd ((S.at_ 5 rfl).cell 5)
       have r6 := jd ((S.at_ 5 rfl).cell 6)
       have r7 := jd ((S.at_ 5 rfl).cell 7)
       have r8 := jd ((S.at_ 5 rfl).cell 8)
       have CC := jd c
       clear S c
       go_wp2
       exact bodyPost_ret (v := .tuple #[.agg #[.int .i64 z0, .int .i64 z1, .int .i64 z2, .int .i64 z3, .int .i64 z4, .int .i64 z5, .int .i64 z6, .int .i64 z7, .int .i64 z8], .bool true]) (by simp [results, Tryz.results82, go_sem, r0.out, r1.out, r2.out, r3.out, r4.out, r5.out, r6.out, r7.out, r8.out]) rfl ⟨z0, z1, z2, z3, z4, z5, z6, z7, z8, true, HV.out, rfl, CC.out⟩
theorem next_step {t : TwoM} {h : HeadM} {j : Nat} {x1 x2 : Int} {le : List EntM} {ls : List MarkM} {E : EntM} (hba : bookAt t h j = ((⟨x1, x2, le⟩ : BookM), ls)) (hn : nextM t ⟨x1, x2, le⟩ ls = (E, true)) :
    appM ⟨x1, x2, le⟩ E = ((⟨x1, x2, le ++ [E]⟩ : BookM), true) ∧ markedM ls E = (insM ls ⟨E.cl, E.sq, E.idx⟩, true) ∧ bookAt t h (j + 1) = ((⟨x1, x2, le ++ [E]⟩ : BookM), insM ls ⟨E.cl, E.sq, E.idx⟩) := by
 obtain ⟨e, he, h1, h2, h3, h4, h5, h6, h7⟩ := step_yes (t := t) (x := ((⟨x1, x2, le⟩ : BookM), ls)) (congrArg Prod.snd hn)
 have he' : E = e := (congrArg Prod.fst hn).symm.trans he
 subst he'
 refine ⟨Prod.ext (app_yes h6).2.2 h6, Prod.ext (mark_yes h7).2.2 h7, ?_⟩
 show stepM t (bookAt t h j) = _
 rw [hba, h3]
 rfl
def MadeBk (w : World) (b : BookM) (e : Ending) (w' : World) : Prop :=
 ∃ (x0 x1 : Int) (A : Option Addr) (n c : Nat), e = .returned (.agg #[.int .i64 x0, .int .i64 x1, .slice A n c]) ∧ Has w' w.heap.size b.cells [.int .i64 x0, .int .i64 x1, .slice A n c] ∧ Below w.heap.size w w'
set_option maxHeartbeats 12800000 in
theorem sBookIn_any (Aa0 : Option Addr) (na0 ca0 : Nat) (Aa1 : Option Addr) (na1 ca1 : Nat) (Aa2 : Option Addr) (na2 ca2 : Nat) (Aa3 : Option Addr) (na3 ca3 : Nat) (t : TwoM) (x0 x1 x2 : Int) (A : Option Addr) (n cc : Nat) (l : List MarkM) (w : World) (h : Rd w w.heap.size t.cells [.slice Aa0 na0 ca0, .slice Aa1 na1 ca1, .slice Aa2 na2 ca2, .slice Aa3 na3 ca3]) (hs : t.sz ≤ 1048576) (h2 : Rd w w.heap.size [mrkD l] [.slice A n cc]) (hs2 : mrkSz l ≤ 1048576) :
    Calls Tryz.prog 31 #[.agg #[.slice Aa0 na0 ca0, .slice Aa1 na1 ca1, .slice Aa2 na2 ca2, .slice Aa3 na3 ca3], .agg #[.int .i64 x0, .int .i64 x1, .int .i64 x2, .slice A n cc]] w (MadeBk w (bookInM t ⟨x0, x1, x2, l⟩)) := by
 have HH := jd h
 have H2 := jd h2
 clear h h2
 have S := Sep.nil w w.heap.size
 have c := Below.refl w.heap.size w
 replace S := S.boxAt c.size (w.heap.size) rfl #[.slice Aa0 na0 ca0, .slice Aa1 na1 ca1, .slice Aa2 na2 ca2, .slice Aa3 na3 ca3] 35
 replace c := al c S
 replace S := S.boxAt c.size (w.heap.size + 1) (by simp) #[.int .i64 x0, .int .i64 x1, .int .i64 x2, .slice A n cc] 45
 replace c := al c S
 replace S := S.boxAt c.size (w.heap.size + 1 + 1) (by simp) #[.int .i64 0, .int .i64 0, .slice none 0 0] 47
 replace c := al c S
 go_enter Tryz.func31, Tryz.ntmps31
 have f0 := lk S 2 0 rfl rfl
 have f1 := lk S 2 1 rfl rfl
 have f2 := lk S 2 2 rfl rfl
 have f3 := lk S 2 3 rfl rfl
 go_wp2_with fail
 generalize ((w.alloc (.cells #[.slice Aa0 na0 ca0, .slice Aa1 na1 ca1, .slice Aa2 na2 ca2, .slice Aa3 na3 ca3] 35)).alloc (.cells #[.int .i64 x0, .int .i64 x1, .int .i64 x2, .slice A n cc] 45)).alloc (.cells #[.int .i64 0, .int .i64 0, .slice none 0 0] 47) = w1 at *
 refine (sKeptOk_any Aa0 na0 ca0 Aa1 na1 ca1 Aa2 na2 ca2 Aa3 na3 ca3 t _ _ (HH.out.keep c) c.size (by omega)).mono ?_
 rintro e w2 ⟨rfl, b2⟩
 replace c := c.trans (b2.mono c.size)
 replace S := S.keep b2
 clear b2 f0 f1 f2 f3
 cases hk : keptB t
 case false =>
  have HV := jd (show bookInM t ⟨x0, x1, x2, l⟩ = book0 by unfold bookInM; exact if_neg (by rw [hk]; rintro ⟨h9, _⟩; cases h9))
  have f4 := lk S 0 0 rfl rfl
  have f5 := (S.at_ 0 rfl).free 0
  have f6 := lk S 0 1 rfl rfl
  have f7 := (S.at_ 0 rfl).free 1
  have f8 := lk S 0 2 rfl rfl
  have f9 := (S.at_ 0 rfl).free 2
  replace S := S.put 0 rfl 0 (.int .i64 0)
  replace c := st c S (by omega)
  replace S := S.put 0 rfl 1 (.int .i64 0)
  replace c := st c S (by omega)
  replace S := S.put 0 rfl 2 (.slice none 0 0)
  replace c := st c S (by omega)
  have r0 := jd ((S.at_ 0 rfl).cell 0)
  have r1 := jd ((S.at_ 0 rfl).cell 1)
  have r2 := jd ((S.at_ 0 rfl).cell 2)
  have CC := jd c
  clear S c
  go_wp2
  exact bodyPost_ret (v := .agg #[.int .i64 0, .int .i64 0, .slice none 0 0]) (by simp [results, Tryz.results31, go_sem, r0.out, r1.out, r2.out]) rfl ⟨_, _, _, _, _, rfl, by rw [HV.out]; exact has_book0 _ _, CC.out⟩
 case true =>
  have f4 := lk S 1 0 rfl rfl
  have f5 := lk S 1 1 rfl rfl
  have f6 := lk S 1 2 rfl rfl
  have f7 := lk S 1 3 rfl rfl
  go_wp2_with fail
  refine (sHeadOk_any x0 x1 x2 A n cc _ l _ (H2.out.keep c) c.size (by omega)).mono ?_
  rintro e w3 ⟨rfl, b2⟩
  replace c := c.trans (b2.mono c.size)
  replace S := S.keep b2
  clear b2 f4 f5 f6 f7
  cases hok : headOkB ⟨x0, x1, x2, l⟩
  case false =>
   have HV := jd (show bookInM t ⟨x0, x1, x2, l⟩ = book0 by unfold bookInM; exact if_neg (by rw [hok]; rintro ⟨_, h9⟩; cases h9))
   have f8 := lk S 0 0 rfl rfl
   have f9 := (S.at_ 0 rfl).free 0
   have f10 := lk S 0 1 rfl rfl
   have f11 := (S.at_ 0 rfl).free 1
   have f12 := lk S 0 2 rfl rfl
   have f13 := (S.at_ 0 rfl).free 2
   replace S := S.put 0 rfl 0 (.int .i64 0)
   replace c := st c S (by omega)
   replace S := S.put 0 rfl 1 (.int .i64 0)
   replace c := st c S (by omega)
   replace S := S.put 0 rfl 2 (.slice none 0 0)
   replace c := st c S (by omega)
   have r0 := jd ((S.at_ 0 rfl).cell 0)
   have r1 := jd ((S.at_ 0 rfl).cell 1)
   have r2 := jd ((S.at_ 0 rfl).cell 2)
   have CC := jd c
   clear S c
   go_wp2
   exact bodyPost_ret (v := .agg #[.int .i64 0, .int .i64 0, .slice none 0 0]) (by simp [results, Tryz.results31, go_sem, r0.out, r1.out, r2.out]) rfl ⟨_, _, _, _, _, rfl, by rw [HV.out]; exact has_book0 _ _, CC.out⟩
  case true =>
   have HKK := jd hk
   have HOK := jd hok
   clear hk hok
   have f8 := lk S 1 0 rfl rfl
   have f9 := lk S 1 1 rfl rfl
   have f10 := lk S 1 2 rfl rfl
   have f11 := lk S 1 3 rfl rfl
   replace S := S.boxAt c.size (w3.heap.size) rfl #[.int .i64 x1, .int .i64 x2, .slice none 0 0] 47
   replace c := al c S
   have f12 := lk S 2 3 rfl rfl
   go_wp2_with fail
   generalize w3.alloc (.cells #[.int .i64 x1, .int .i64 x2, .slice none 0 0] 47) = w4 at *
   obtain ⟨qb, hqb⟩ : ∃ q, q = w3.heap.size := ⟨_, rfl⟩
   rw [← hqb] at S ⊢
   clear hqb
   refine (sCopyMs_any A n cc _ l _ (H2.out.keep c) c.size (by omega)).mono ?_
   rintro e w5 ⟨As, cs, rfl, o, b⟩
   obtain ⟨fp_m, S'⟩ := S.has b o c.size
   replace c := c.trans (b.mono c.size)
   clear S; have S := S'; clear S' o b f8 f9 f10 f11 f12
   replace S := S.own0 (ow_nil_ents _)
   have HB0 := jd (show bookAt t ⟨x0, x1, x2, l⟩ 0 = ((⟨x1, x2, []⟩ : BookM), l) from rfl)
   have S0 := jd S
   have B0 := jd c
   clear S c
   go_wp2
   go_loopw [6] (fun sv wr => ∃ (j : Nat) (le : List EntM) (ls : List MarkM) (G : Option Addr) (m gc : Nat) (As : Option Addr) (ns cs : Nat) (fe fm : List Nat), sv = .slice As ns cs ∧ le.length = j ∧ bookAt t ⟨x0, x1, x2, l⟩ j = ((⟨x1, x2, le⟩ : BookM), ls) ∧ Sep wr w.heap.size [.own [entD le] [.slice G m gc] fe, .own [mrkD ls] [.slice As ns cs] fm, .blk qb #[.int .i64 x1, .int .i64 x2, .slice G m gc] 47, .blk (w.heap.size + 1 + 1) #[.int .i64 0, .int .i64 0, .slice none 0 0] 47, .blk (w.heap.size + 1) #[.int .i64 x0, .int .i64 x1, .int .i64 x2, .slice A n cc] 45, .blk w.heap.size #[.slice Aa0 na0 ca0, .slice Aa1 na1 ca1, .slice Aa2 na2 ca2, .slice Aa3 na3 ca3] 35] ∧ Below w.heap.size w wr) (fun _ wr => match wr.cell? ⟨qb, 2, none⟩ with | some (.slice _ m _) => 21 - m | _ => 0)
   case atStart => exact ⟨0, [], l, none, 0, 0, As, n, cs, _, _, rfl, rfl, HB0.out, S0.out, B0.out⟩
   case round =>
    obtain ⟨j, le, ls, G, m, gc, As, ns, cs, fe, fm, rfl, hlj, hba, S, c⟩ := hrel
    clear S0 B0 HB0
    have hgood := bookAt_good (t := t) HOK.out j
    rw [hba] at hgood
    have HG := jd hgood
    have HBA := jd hba
    have HLJ := jd hlj
    have HM1 := jd ((S.at_ 2 rfl).cell 2)
    have hmj : m = j := by
     obtain ⟨_, _, _, e, hl, _⟩ := ((S.own_ 0 rfl).rd).ents
     injection e with e1 e2 e3
     omega
    subst hmj
    clear hgood hba hlj
    have f13 := lk S 5 0 rfl rfl
    have f14 := lk S 5 1 rfl rfl
    have f15 := lk S 5 2 rfl rfl
    have f16 := lk S 5 3 rfl rfl
    have f17 := lk S 2 0 rfl rfl
    have f18 := lk S 2 1 rfl rfl
    have f19 := lk S 2 2 rfl rfl
    go_wp2_with fail
    refine (sNext_any Aa0 na0 ca0 Aa1 na1 ca1 Aa2 na2 ca2 Aa3 na3 ca3 t x1 x2 G m gc le As ns cs ls _ ((HH.out.keep c).up c.size) hs (S.own_ 0 rfl).rd HG.out.1 (S.own_ 1 rfl).rd (Nat.le_trans (seen_len HG.out.2) (by decide))).mono ?_
    rintro e w6 ⟨z0, z1, z2, z3, z4, z5, z6, z7, z8, ok, hn, rfl, b2⟩
    replace c := c.trans (b2.mono c.size)
    replace S := S.keep b2
    clear b2 f13 f14 f15 f16 f17 f18 f19
    replace S := S.boxAt c.size (w6.heap.size) rfl #[.int .i64 z0, .int .i64 z1, .int .i64 z2, .int .i64 z3, .int .i64 z4, .int .i64 z5, .int .i64 z6, .int .i64 z7, .int .i64 z8] 87
    replace c := al c S
    have HN := jd hn
    clear hn
    cases ok
    case false =>
     have hm21 : m ≤ 21 := by have h9 : le.length ≤ 20 := bookB_len HG.out.1; have := HLJ.out; omega
     have HV := jd (show bookInM t ⟨x0, x1, x2, l⟩ = (⟨x1, x2, le⟩ : BookM) from (bookIn_end HKK.out HOK.out hm21 (by rw [HBA.out]; exact congrArg Prod.snd HN.out)).trans (congrArg Prod.fst HBA.out))
     clear hm21 HN
     have f20 := lk S 3 0 rfl rfl
     have f21 := lk S 3 1 rfl rfl
     have f22 := lk S 3 2 rfl rfl
     have f23 := lk S 4 0 rfl rfl
     have f24 := (S.at_ 4 rfl).free 0
     have f25 := lk S 4 1 rfl rfl
     have f26 := (S.at_ 4 rfl).free 1
     have f27 := lk S 4 2 rfl rfl
     have f28 := (S.at_ 4 rfl).free 2
     replace S := S.put 4 rfl 0 (.int .i64 x1)
     replace c := st c S (by omega)
     replace S := S.put 4 rfl 1 (.int .i64 x2)
     replace c := st c S (by omega)
     replace S := S.put 4 rfl 2 (.slice G m gc)
     replace c := st c S (by omega)
     replace S := S.pick 1 rfl
     have H := jd S.first
     have r0 := jd ((S.at_ 4 rfl).cell 0)
     have r1 := jd ((S.at_ 4 rfl).cell 1)
     have r2 := jd ((S.at_ 4 rfl).cell 2)
     have CC := jd c
     clear S c
     go_wp2
     exact bodyPost_ret (v := .agg #[.int .i64 x1, .int .i64 x2, .slice G m gc]) (by simp [results, Tryz.results31, go_sem, r0.out, r1.out, r2.out]) rfl ⟨_, _, _, _, _, rfl, by rw [HV.out]; exact has_mk H.out, CC.out⟩
    case true =>
     obtain ⟨h1, h2, h3⟩ := next_step HBA.out HN.out
     have HA := jd h1
     have HMK := jd h2
     have HB1 := jd h3
     clear h1 h2 h3
     have f20 := lk S 3 0 rfl rfl
     have f21 := lk S 3 1 rfl rfl
     have f22 := lk S 3 2 rfl rfl
     have f23 := lk S 0 0 rfl rfl
     have f24 := lk S 0 1 rfl rfl
     have f25 := lk S 0 2 rfl rfl
     have f26 := lk S 0 3 rfl rfl
     have f27 := lk S 0 4 rfl rfl
     have f28 := lk S 0 5 rfl rfl
     have f29 := lk S 0 6 rfl rfl
     have f30 := lk S 0 7 rfl rfl
     have f31 := lk S 0 8 rfl rfl
     go_wp2_with fail
     generalize w6.alloc (.cells #[.int .i64 z0, .int .i64 z1, .int .i64 z2, .int .i64 z3, .int .i64 z4, .int .i64 z5, .int .i64 z6, .int .i64 z7, .int .i64 z8] 87) = w7 at *
     refine (sApp_any x1 x2 G m gc _ le z0 z1 z2 z3 z4 z5 z6 z7 z8 _ (S.own_ 1 rfl).rd (Nat.le_refl _) (by have h9 : le.length ≤ 20 := bookB_len HG.out.1; unfold entSz; omega)).mono ?_
     rintro e w8 ⟨y0, y1, Ay, ny, cy, rfl, o, b⟩
     rw [HA.out] at o ⊢
     obtain ⟨hy0, hy1, o⟩ := has_split o
     have hy0 : y0 = x1 := hy0
     have hy1 : y1 = x2 := hy1
     subst hy0 hy1
     obtain ⟨fp_y, S'⟩ := S.has b o c.size
     replace c := c.trans (b.mono c.size)
     clear S; have S := S'; clear S' o b f20 f21 f22 f23 f24 f25 f26 f27 f28 f29 f30 f31
     have f32 := lk S 4 0 rfl rfl
     have f33 := (S.at_ 4 rfl).free 0
     have f34 := lk S 4 1 rfl rfl
     have f35 := (S.at_ 4 rfl).free 1
     have f36 := lk S 4 2 rfl rfl
     have f37 := (S.at_ 4 rfl).free 2
     replace S := S.put 4 rfl 0 (.int .i64 y0)
     replace c := st c S (S.base_le 4 rfl)
     replace S := S.put 4 rfl 1 (.int .i64 y1)
     replace c := st c S (S.base_le 4 rfl)
     replace S := S.put 4 rfl 2 (.slice Ay ny cy)
     replace c := st c S (S.base_le 4 rfl)
     have f38 := lk S 1 0 rfl rfl
     have f39 := lk S 1 1 rfl rfl
     have f40 := lk S 1 2 rfl rfl
     have f41 := lk S 1 3 rfl rfl
     have f42 := lk S 1 4 rfl rfl
     have f43 := lk S 1 5 rfl rfl
     have f44 := lk S 1 6 rfl rfl
     have f45 := lk S 1 7 rfl rfl
     have f46 := lk S 1 8 rfl rfl
     go_wp2_with fail
     generalize ((w8.setCell ⟨qb, 0, none⟩ (.int .i64 y0)).setCell ⟨qb, 1, none⟩ (.int .i64 y1)).setCell ⟨qb, 2, none⟩ (.slice Ay ny cy) = w9 at *
     refine (sMarked_any As ns cs _ ls z0 z1 z2 z3 z4 z5 z6 z7 z8 _ (S.own_ 3 rfl).rd (Nat.le_refl _) (Nat.le_trans (seen_len HG.out.2) (by decide))).mono ?_
     rintro e w10 ⟨Am, nm, cm, rfl, o, b⟩
     rw [HMK.out] at o ⊢
     obtain ⟨fp_m, S'⟩ := S.has b o c.size
     replace c := c.trans (b.mono c.size)
     clear S; have S := S'; clear S' o b f32 f33 f34 f35 f36 f37 f38 f39 f40 f41 f42 f43 f44 f45 f46
     replace S := S.sub (.cons_cons _ (.cons_cons _ (.cons _ (.cons _ (.cons _ (.cons_cons _ (.cons_cons _ (.cons_cons _ (.cons_cons _ (List.nil_sublist _))))))))))
     replace S := S.swap
     have HM2 := jd ((S.at_ 2 rfl).cell 2)
     have HNY := jd (show ny = m + 1 by
      obtain ⟨_, _, _, e, hl, _⟩ := ((S.own_ 0 rfl).rd).ents
      injection e with e1 e2 e3
      rw [List.length_append] at hl
      have := HLJ.out
      simp only [List.length_cons, List.length_nil] at hl
      omega)
     have HM20 := jd (show m ≤ 20 by have h9 : le.length ≤ 20 := bookB_len HG.out.1; have := HLJ.out; omega)
     have SS := jd S
     have CC := jd c
     clear S c HN HA HMK
     go_wp2
     go_roundw
     case rel => exact ⟨m + 1, _, _, Ay, ny, cy, Am, nm, cm, _, _, rfl, by rw [List.length_append, HLJ.out]; rfl, HB1.out, SS.out, CC.out⟩
     case measure =>
      rw [HM1.out]
      first | rw [HM2.out] | simp only [HM2.out]
      have := HNY.out
      have := HM20.out
      show 21 - ny < 21 - m
      omega
end Go.Proofs.YtmjifhjhialcbaaGreat
