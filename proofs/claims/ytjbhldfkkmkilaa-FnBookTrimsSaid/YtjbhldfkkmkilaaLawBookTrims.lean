/-
  The law FnBookTrims, over the contracts of the program's functions: it answers true at every slice of bytes, and writes nothing that was there (by program, wip/gen/genbookt.py).
-/
import Derived.Test.YtjbhldfkkmkilaaBookC
import Derived.Test.YtjbhldfkkmkilaaBookU
import Derived.Test.YtjbhldfkkmkilaaBookX
import Derived.Test.YtjbhldfkkmkilaaCls
import Derived.RegionTactic
import Derived.BigQuiet
import Derived.Deep.DeepCutAuto
namespace Go.Proofs.Ytjbhldfkkmkilaa
set_option maxRecDepth 100000
open Go.RowKit

theorem rd_none (w : World) (B : Nat) : Rd w B [entD []] [.slice none 0 0] := Rd.of_lst (us := []) entC_len rfl (Nat.le_refl _) (Nat.zero_le _) (fun h => absurd h (by omega)) (by simpa using Rd.nil)
set_option maxHeartbeats 12800000 in
theorem lawBookTrims (hG : CGrown 20) (hS : CSameBook 21) (hT0 : CLastOf 22) (hK : CBookOk 23) (hT : CTimeOf 24) (hE : CEntryAt 25) (hR9 : CTrimmedTo 28)
    (A : Option Addr) (n c0 : Nat) (w : World) (h : BRow w w.heap.size A n) (hm : n ≤ maxLen) :
    Calls Try.prog 4 #[.slice A n c0] w fun e w' => e = .returned (.bool true) ∧ Below w.heap.size w w' := by
  have HG := Lib.hid hG
  have HS := Lib.hid hS
  have HT0 := Lib.hid hT0
  have HK := Lib.hid hK
  have HT := Lib.hid hT
  have HE := Lib.hid hE
  have HR9 := Lib.hid hR9
  clear hG hS hT0 hK hT hE hR9
  unfold maxLen at hm
  by_cases hn : 4096 < n
  · clear h
    go_enter Try.func4, Try.ntmps4
    go_wp2_with fail
    refine (lbig_any A n c0 _).mono ?_
    rintro e w' ⟨rfl, rfl⟩
    rw [decide_eq_true hn]
    go_wp2
    go_ret
    exact ⟨rfl, Below.refl _ _⟩
  go_enter Try.func4, Try.ntmps4
  go_wp2_with fail
  refine (lbig_any A n c0 _).mono ?_
  rintro e w' ⟨rfl, rfl⟩
  rw [decide_eq_false hn]
  go_wp2_with fail
  refine (roll_any A n c0 _ h (by omega) _).mono ?_
  rintro e w1 ⟨rfl, cu, b1⟩
  have X := DrL.start cu
  have B1 := Lib.hid b1
  clear b1 cu h
  replace X := X.boxAt (w1.heap.size) rfl #[] 40
  go_wp2_with fail
  generalize w1.alloc (.cells #[] 40) = w2 at *
  refine (lbelow_any _ _ _ X.cur 15 (by decide)).mono ?_
  rintro e w3 ⟨z, hz, rfl, cu, gr⟩
  replace X := X.draw cu gr
  clear cu gr
  obtain ⟨m, hm9⟩ : ∃ m : Nat, 1 + z = (m : Int) := ⟨(1 + z).toNat, by omega⟩
  have hm : 1 ≤ m ∧ m ≤ 15 := by omega
  have hwz : IntKind.i64.wrap (1 + z) = (m : Int) := by rw [IntKind.wrap_i64]; omega
  clear hz hm9
  go_wp2_with fail
  refine (w9list_any _ _ m (by omega) _ _ _ X.cur).mono ?_
  rintro e w4 ⟨l, A, n, c, hl, hrun, rfl, cu, gr, o⟩
  obtain ⟨fp_l, X'⟩ := X.drawHas cu gr o
  clear X; have X := X'; clear X' cu gr o
  replace X := X.with_ (X.sep.sub (.cons_cons _ (List.nil_sublist _)))
  clear hwz
  obtain ⟨_, _, _, e, hln, hnc, hcm, _⟩ := ((X.sep.own_ 0 rfl).rd).ents
  injection e with e1 e2 e3
  subst e1 e2 e3
  obtain rfl : n = m := by omega
  have HL := Lib.hid hl
  have HR := Lib.hid hrun
  have hl20 : l.length ≤ 20 := by omega
  have HB := Lib.hid (hrun.book hl20)
  have hsz : entSz l ≤ 1048577 := by unfold entSz; omega
  clear hl hln hrun
  have hn1 : n - 1 < l.length := by have := HL.out; omega
  have hn0 : 0 < l.length := by have := HL.out; omega
  have HG0 := Lib.hid (HR.out.grow0 hl20)
  have hw1 : IntKind.i64.wrap ((n : Int) + 1) = (n : Int) + 1 := by rw [IntKind.wrap_i64]; omega
  go_wp2_with fail
  refine (HG.out 0 0 none 0 0 [] A n c l _ (rd_none _ _) (by decide) ((X.sep.own_ 0 rfl).rd) hsz).mono ?_
  rintro e w5 ⟨y0, y1, Abx, nbx, cbx, rfl, o', b9⟩
  have e9 := HG0.out
  have o2 : Has w5 _ (BookM.cells (growM book0 l).1) _ := o'
  rw [e9] at o2
  obtain ⟨z0, z1, o⟩ := has_split o2
  have hfl : (growM book0 l).2 = true := congrArg Prod.snd e9
  first | rw [hfl] | (simp only [show (growM ⟨0, 0, []⟩ l).2 = true from hfl])
  have z2 : 0 = y0 := z0.symm
  have z3 : 0 = y1 := z1.symm
  clear e9 hfl o' o2 z0 z1
  subst z2 z3
  obtain ⟨fp_bx, X'⟩ := X.has b9 o
  clear X; have X := X'; clear X' b9 o
  replace X := X.boxAt (w5.heap.size) rfl #[.int .i64 0, .int .i64 0, .slice Abx nbx cbx] 31
  go_wp2_with fail
  generalize w5.alloc (.cells #[.int .i64 0, .int .i64 0, .slice Abx nbx cbx] 31) = w6 at *
  generalize w5.heap.size = rb at *
  refine (lbelow_any _ _ _ X.cur ((n : Int) + 1) (by omega)).mono ?_
  rintro e w7 ⟨z, hz, rfl, cu, gr⟩
  replace X := X.draw cu gr
  clear cu gr
  obtain ⟨k, rfl⟩ : ∃ k : Nat, z = (k : Int) := ⟨z.toNat, by omega⟩
  have hk : k ≤ n := by omega
  clear hz
  have hw2 : IntKind.i64.wrap ((n : Int) - (k : Int)) = (n : Int) - (k : Int) := by rw [IntKind.wrap_i64]; omega
  have hw3 : IntKind.i64.wrap ((n : Int) - (k : Int) + 1) = (n : Int) - (k : Int) + 1 := by rw [IntKind.wrap_i64]; omega
  go_wp2_with fail
  refine (lbelow_any _ _ _ X.cur ((n : Int) - (k : Int) + 1) (by omega)).mono ?_
  rintro e w8 ⟨z, hz, rfl, cu, gr⟩
  replace X := X.draw cu gr
  clear cu gr
  obtain ⟨m, hm9⟩ : ∃ m : Nat, (k : Int) + z = (m : Int) := ⟨((k : Int) + z).toNat, by omega⟩
  have hkm : k ≤ m := by omega
  have hmn : m ≤ n := by omega
  have hw4 : IntKind.i64.wrap ((k : Int) + z) = (m : Int) := by rw [IntKind.wrap_i64]; omega
  have hml : m ≤ l.length := by have := HL.out; omega
  obtain ⟨tk, htk⟩ : ∃ t, t = timeAt ⟨0, 0, l⟩ (k : Int) := ⟨_, rfl⟩
  obtain ⟨tm, htm⟩ : ∃ t, t = timeAt ⟨0, 0, l⟩ (m : Int) := ⟨_, rfl⟩
  have ck : (⟨(k : Int), tk, l.drop k⟩ : BookM) = cutB l k := by rw [htk]; rfl
  have cm : (⟨(m : Int), tm, l.drop m⟩ : BookM) = cutB l m := by rw [htm]; rfl
  have HT1 := Lib.hid (show trimM ⟨0, 0, l⟩ (k : Int) = (⟨(k : Int), tk, l.drop k⟩, true) by rw [ck]; have h9 := trim_run HR.out hl20 (Nat.zero_le k) (by omega); rwa [cutB_zero] at h9)
  have HT2 := Lib.hid (show trimM ⟨(k : Int), tk, l.drop k⟩ (m : Int) = (⟨(m : Int), tm, l.drop m⟩, true) by rw [ck, cm]; exact trim_run HR.out hl20 hkm hml)
  have HT3 := Lib.hid (show trimM ⟨0, 0, l⟩ (m : Int) = (⟨(m : Int), tm, l.drop m⟩, true) by rw [cm]; have h9 := trim_run HR.out hl20 (Nat.zero_le m) hml; rwa [cutB_zero] at h9)
  have HTB := Lib.hid (show trimM ⟨(m : Int), tm, l.drop m⟩ ((m : Int) - 1) = (⟨(m : Int), tm, l.drop m⟩, false) by rw [cm]; exact trim_back HR.out hl20 hml)
  have HLm := Lib.hid (show lastM ⟨(m : Int), tm, l.drop m⟩ = (n : Int) by rw [cm, last_run HR.out hl20 hml, HL.out])
  have HBm := Lib.hid (show bookB ⟨(m : Int), tm, l.drop m⟩ = true by rw [cm]; exact cutB_book HR.out hl20 hml)
  have HAy := Lib.hid (fun (j : Nat) (h1 : m ≤ j) (h2 : j < l.length) => show atM ⟨(m : Int), tm, l.drop m⟩ ((j : Int) + 1) = (l[j], true) by rw [cm]; exact at_run_yes HR.out hl20 hml h1 h2)
  have HAn := Lib.hid (fun (i : Int) (h1 : i ≤ (m : Int)) => show atM ⟨(m : Int), tm, l.drop m⟩ i = (ent0, false) by rw [cm]; exact at_run_no HR.out hl20 hml h1)
  obtain ⟨te, hte⟩ : ∃ t, t = (l[n - 1]'hn1).tm := ⟨_, rfl⟩
  have HTE := Lib.hid hte
  have HTm := Lib.hid (show timeM ⟨(m : Int), tm, l.drop m⟩ = te by rw [cm, time_run HR.out hl20 hml hn0, hte]; congr 2; rw [HL.out])
  have HTb := Lib.hid (show timeM ⟨0, 0, l⟩ = te by rw [HR.out.time hl20 hn0, hte]; congr 2; rw [HL.out])
  have hszk : entSz (l.drop k) ≤ 1048577 := by unfold entSz; rw [List.length_drop]; omega
  have hszm : entSz (l.drop m) ≤ 1048577 := by unfold entSz; rw [List.length_drop]; omega
  clear hz hm9 htk htm ck cm hte
  have f0 : w8.cell? ⟨rb, 0, none⟩ = some (.int .i64 0) := (X.sep.at_ 0 rfl).cell 0
  have f1 : w8.cell? ⟨rb, 1, none⟩ = some (.int .i64 0) := (X.sep.at_ 0 rfl).cell 1
  have f2 : w8.cell? ⟨rb, 2, none⟩ = some (.slice Abx nbx cbx) := (X.sep.at_ 0 rfl).cell 2
  go_wp2_with fail
  refine (HR9.out 0 0 Abx nbx cbx l (k : Int) _ ((X.sep.own_ 1 rfl).rd) hsz).mono ?_
  rintro e w9 ⟨y0, y1, Axx, nxx, cxx, rfl, o', b9⟩
  have e9 := HT1.out
  have o2 : Has w9 _ (BookM.cells (trimM ⟨0, 0, l⟩ (k : Int)).1) _ := o'
  rw [e9] at o2
  obtain ⟨z0, z1, o⟩ := has_split o2
  have hfl : (trimM ⟨0, 0, l⟩ (k : Int)).2 = true := congrArg Prod.snd e9
  first | rw [hfl] | (simp only [show (trimM ⟨0, 0, l⟩ (k : Int)).2 = true from hfl])
  have z2 : (k : Int) = y0 := z0.symm
  have z3 : tk = y1 := z1.symm
  clear e9 hfl o' o2 z0 z1
  subst z2 z3
  obtain ⟨fp_xx, X'⟩ := X.has b9 o
  clear X; have X := X'; clear X' b9 o f0 f1 f2
  replace X := X.boxAt (w9.heap.size) rfl #[.int .i64 (k : Int), .int .i64 tk, .slice Axx nxx cxx] 31
  have f3 : (w9.alloc (.cells #[.int .i64 (k : Int), .int .i64 tk, .slice Axx nxx cxx] 31)).cell? ⟨w9.heap.size, 0, none⟩ = some (.int .i64 (k : Int)) := (X.sep.at_ 0 rfl).cell 0
  have f4 : (w9.alloc (.cells #[.int .i64 (k : Int), .int .i64 tk, .slice Axx nxx cxx] 31)).cell? ⟨w9.heap.size, 1, none⟩ = some (.int .i64 tk) := (X.sep.at_ 0 rfl).cell 1
  have f5 : (w9.alloc (.cells #[.int .i64 (k : Int), .int .i64 tk, .slice Axx nxx cxx] 31)).cell? ⟨w9.heap.size, 2, none⟩ = some (.slice Axx nxx cxx) := (X.sep.at_ 0 rfl).cell 2
  go_wp2_with fail
  generalize w9.alloc (.cells #[.int .i64 (k : Int), .int .i64 tk, .slice Axx nxx cxx] 31) = w10 at *
  generalize w9.heap.size = rx at *
  refine (HR9.out (k : Int) tk Axx nxx cxx (l.drop k) (m : Int) _ ((X.sep.own_ 1 rfl).rd) hszk).mono ?_
  rintro e w11 ⟨y0, y1, Ayy, nyy, cyy, rfl, o', b9⟩
  have e9 := HT2.out
  have o2 : Has w11 _ (BookM.cells (trimM ⟨(k : Int), tk, l.drop k⟩ (m : Int)).1) _ := o'
  rw [e9] at o2
  obtain ⟨z0, z1, o⟩ := has_split o2
  have hfl : (trimM ⟨(k : Int), tk, l.drop k⟩ (m : Int)).2 = true := congrArg Prod.snd e9
  first | rw [hfl] | (simp only [show (trimM ⟨(k : Int), tk, l.drop k⟩ (m : Int)).2 = true from hfl])
  have z2 : (m : Int) = y0 := z0.symm
  have z3 : tm = y1 := z1.symm
  clear e9 hfl o' o2 z0 z1
  subst z2 z3
  obtain ⟨fp_yy, X'⟩ := X.has b9 o
  clear X; have X := X'; clear X' b9 o f3 f4 f5
  replace X := X.boxAt (w11.heap.size) rfl #[.int .i64 (m : Int), .int .i64 tm, .slice Ayy nyy cyy] 31
  have f6 : (w11.alloc (.cells #[.int .i64 (m : Int), .int .i64 tm, .slice Ayy nyy cyy] 31)).cell? ⟨rb, 0, none⟩ = some (.int .i64 0) := (X.sep.at_ 4 rfl).cell 0
  have f7 : (w11.alloc (.cells #[.int .i64 (m : Int), .int .i64 tm, .slice Ayy nyy cyy] 31)).cell? ⟨rb, 1, none⟩ = some (.int .i64 0) := (X.sep.at_ 4 rfl).cell 1
  have f8 : (w11.alloc (.cells #[.int .i64 (m : Int), .int .i64 tm, .slice Ayy nyy cyy] 31)).cell? ⟨rb, 2, none⟩ = some (.slice Abx nbx cbx) := (X.sep.at_ 4 rfl).cell 2
  go_wp2_with fail
  generalize w11.alloc (.cells #[.int .i64 (m : Int), .int .i64 tm, .slice Ayy nyy cyy] 31) = w12 at *
  generalize w11.heap.size = ry at *
  refine (HR9.out 0 0 Abx nbx cbx l (m : Int) _ ((X.sep.own_ 5 rfl).rd) hsz).mono ?_
  rintro e w13 ⟨y0, y1, Azz, nzz, czz, rfl, o', b9⟩
  have e9 := HT3.out
  have o2 : Has w13 _ (BookM.cells (trimM ⟨0, 0, l⟩ (m : Int)).1) _ := o'
  rw [e9] at o2
  obtain ⟨z0, z1, o⟩ := has_split o2
  have hfl : (trimM ⟨0, 0, l⟩ (m : Int)).2 = true := congrArg Prod.snd e9
  first | rw [hfl] | (simp only [show (trimM ⟨0, 0, l⟩ (m : Int)).2 = true from hfl])
  have z2 : (m : Int) = y0 := z0.symm
  have z3 : tm = y1 := z1.symm
  clear e9 hfl o' o2 z0 z1
  subst z2 z3
  obtain ⟨fp_zz, X'⟩ := X.has b9 o
  clear X; have X := X'; clear X' b9 o f6 f7 f8
  replace X := X.boxAt (w13.heap.size) rfl #[.int .i64 (m : Int), .int .i64 tm, .slice Azz nzz czz] 31
  go_wp2_with fail
  generalize w13.alloc (.cells #[.int .i64 (m : Int), .int .i64 tm, .slice Azz nzz czz] 31) = w14 at *
  generalize w13.heap.size = rz at *
  replace X := X.with_ (X.sep.sub (.cons_cons _ (.cons_cons _ (.cons_cons _ (.cons_cons _ (.cons _ (.cons _ (.cons_cons _ (.cons_cons _ (.cons_cons _ (List.nil_sublist _)))))))))))
  replace X := X.with_ (X.sep.pick 6 rfl)
  replace X := X.with_ (X.sep.pick 1 rfl)
  replace X := X.with_ (X.sep.pick 2 rfl)
  replace X := X.with_ (X.sep.pick 3 rfl)
  replace X := X.with_ (X.sep.pick 4 rfl)
  replace X := X.with_ (X.sep.pick 5 rfl)
  replace X := X.with_ (X.sep.pick 6 rfl)
  obtain ⟨jn, hjn⟩ : ∃ jn, n = jn + 1 := ⟨n - 1, by omega⟩
  have hjl : jn < l.length := by have := HL.out; omega
  obtain ⟨_, _, _, e, _, _, _, hel⟩ := ((X.sep.own_ 6 rfl).rd).ents
  injection e with e1 e2 e3
  subst e1 e2 e3
  obtain ⟨lb, lo, rfl, _, hc⟩ := hel (by omega)
  obtain ⟨_, hc1, _⟩ := hc jn hjl
  rw [show l[jn].tm = te by rw [HTE.out]; congr 2; omega] at hc1
  have ep : IntKind.i64.wrap ((n : Int) - 1) = (jn : Int) := by rw [IntKind.wrap_i64]; omega
  have j0 : (0 : Int) ≤ (jn : Int) := by omega
  have j1 : (jn : Int) < (n : Int) := by omega
  have hne1 : ((n : Int) != (n : Int)) = false := by simp
  have hne2 : (te != te) = false := by simp
  clear hel hc hjn
  have f9 : w14.cell? ⟨rb, 0, none⟩ = some (.int .i64 0) := (X.sep.at_ 1 rfl).cell 0
  have f10 : w14.cell? ⟨rb, 1, none⟩ = some (.int .i64 0) := (X.sep.at_ 1 rfl).cell 1
  have f11 : w14.cell? ⟨rb, 2, none⟩ = some (.slice Abx nbx cbx) := (X.sep.at_ 1 rfl).cell 2
  have f12 : w14.cell? ⟨ry, 0, none⟩ = some (.int .i64 (m : Int)) := (X.sep.at_ 3 rfl).cell 0
  have f13 : w14.cell? ⟨ry, 1, none⟩ = some (.int .i64 tm) := (X.sep.at_ 3 rfl).cell 1
  have f14 : w14.cell? ⟨ry, 2, none⟩ = some (.slice Ayy nyy cyy) := (X.sep.at_ 3 rfl).cell 2
  have f15 : w14.cell? ⟨rz, 0, none⟩ = some (.int .i64 (m : Int)) := (X.sep.at_ 5 rfl).cell 0
  have f16 : w14.cell? ⟨rz, 1, none⟩ = some (.int .i64 tm) := (X.sep.at_ 5 rfl).cell 1
  have f17 : w14.cell? ⟨rz, 2, none⟩ = some (.slice Azz nzz czz) := (X.sep.at_ 5 rfl).cell 2
  have rd_yy := ((X.sep.own_ 2 rfl).rd)
  have rd_zz := ((X.sep.own_ 4 rfl).rd)
  have rd_bx := ((X.sep.own_ 0 rfl).rd)
  have hTy : ∀ v : World, Rd v w14.heap.size [entD (l.drop m)] [.slice Ayy nyy cyy] → w14.heap.size ≤ v.heap.size → Calls Try.prog 24 #[.agg #[.int .i64 (m : Int), .int .i64 tm, .slice Ayy nyy cyy]] v (fun e w' => e = .returned (.int .i64 te) ∧ Below v.heap.size v w') := fun v h1 h2 => by
    have h3 := HT.out (m : Int) tm Ayy nyy cyy (l.drop m) v (h1.up h2) hszm
    rw [HTm.out] at h3
    exact h3
  have hTb : ∀ v : World, Rd v w14.heap.size [entD l] [.slice Abx nbx cbx] → w14.heap.size ≤ v.heap.size → Calls Try.prog 24 #[.agg #[.int .i64 0, .int .i64 0, .slice Abx nbx cbx]] v (fun e w' => e = .returned (.int .i64 te) ∧ Below v.heap.size v w') := fun v h1 h2 => by
    have h3 := HT.out 0 0 Abx nbx cbx l v (h1.up h2) hsz
    rw [HTb.out] at h3
    exact h3
  have XH := Lib.hid X
  clear X
  refine wp_region_cls (fun v => v.cell? ⟨rb, 0, none⟩ = some (.int .i64 0) ∧ v.cell? ⟨rb, 1, none⟩ = some (.int .i64 0) ∧ v.cell? ⟨rb, 2, none⟩ = some (.slice Abx nbx cbx) ∧ v.cell? ⟨ry, 0, none⟩ = some (.int .i64 (m : Int)) ∧ v.cell? ⟨ry, 1, none⟩ = some (.int .i64 tm) ∧ v.cell? ⟨ry, 2, none⟩ = some (.slice Ayy nyy cyy) ∧ v.cell? ⟨rz, 0, none⟩ = some (.int .i64 (m : Int)) ∧ v.cell? ⟨rz, 1, none⟩ = some (.int .i64 tm) ∧ v.cell? ⟨rz, 2, none⟩ = some (.slice Azz nzz czz) ∧ Rd v w14.heap.size [entD (l.drop m)] [.slice Ayy nyy cyy] ∧ Rd v w14.heap.size [entD (l.drop m)] [.slice Azz nzz czz] ∧ Rd v w14.heap.size [entD l] [.slice Abx nbx cbx] ∧ w14.heap.size ≤ v.heap.size ∧ v.cell? ⟨lb, lo + jn * 9 + 1, none⟩ = some (.int .i64 te)) (by kernel_rfl) (by kernel_rfl) (fun v hv => ⟨(hv.cell (p := ⟨rb, 0, none⟩) (lt_of_cell f9)).trans f9, (hv.cell (p := ⟨rb, 1, none⟩) (lt_of_cell f10)).trans f10, (hv.cell (p := ⟨rb, 2, none⟩) (lt_of_cell f11)).trans f11, (hv.cell (p := ⟨ry, 0, none⟩) (lt_of_cell f12)).trans f12, (hv.cell (p := ⟨ry, 1, none⟩) (lt_of_cell f13)).trans f13, (hv.cell (p := ⟨ry, 2, none⟩) (lt_of_cell f14)).trans f14, (hv.cell (p := ⟨rz, 0, none⟩) (lt_of_cell f15)).trans f15, (hv.cell (p := ⟨rz, 1, none⟩) (lt_of_cell f16)).trans f16, (hv.cell (p := ⟨rz, 2, none⟩) (lt_of_cell f17)).trans f17, rd_yy.keep hv, rd_zz.keep hv, rd_bx.keep hv, hv.size, (hv.cell (p := ⟨lb, lo + jn * 9 + 1, none⟩) (lt_of_cell hc1)).trans hc1⟩) ?_
  intro CL HF HC
  repeat
    (first
       | go_big_quiet_skip
       | (go_big_quiet_want
          go_big_quiet_op
          first
            | go_big_quiet_on
            | (apply Exists.intro
               refine ⟨fun v hv => ?_, ?_⟩
               · obtain ⟨a0, a1, a2, a3, a4, a5, a6, a7, a8, a9, a10, a11, a12, a13⟩ := HF v hv
                 first
                   | (go_at_call 21; exact Calls.cls HC hv (HS.out (m : Int) tm (m : Int) tm Ayy Azz nyy cyy nzz czz (l.drop m) (l.drop m) v (a9.up a12) hszm (a10.up a12) hszm) (congrArg Value.bool (show sameBook ⟨(m : Int), tm, l.drop m⟩ ⟨(m : Int), tm, l.drop m⟩ = true from (sameBook_iff _ _).2 rfl)))
                   | (go_at_call 22; exact Calls.cls HC hv (HT0.out (m : Int) tm Ayy nyy cyy (l.drop m) v (a9.up a12) hszm) (congrArg (Value.int .i64) HLm.out))
                   | (go_at_call 24; with_reducible exact Calls.cls HC hv (hTy v a9 a12) rfl)
                   | (go_at_call 24; with_reducible exact Calls.cls HC hv (hTb v a11 a12) rfl)
                   | exact rfl
                   | (go_simp; exact rfl)
                   | (go_simp; exact ⟨rfl, hv⟩)
               go_big_quiet_on)))
  refine wpQuiet_nil ?_
  intro w9 b9
  have X := XH.out.keep b9
  clear XH b9 hc1 j0 j1 ep hTy hTb rd_yy rd_zz rd_bx f9 f10 f11 f12 f13 f14 f15 f16 f17
  replace X := X.with_ (X.sep.sub (.cons _ (.cons _ (.cons_cons _ (.cons_cons _ (.cons _ (.cons _ (.cons_cons _ (List.nil_sublist _)))))))))
  have X0 := Lib.hid X
  clear X
  go_wp2_with fail
  go_loopw [16] (fun kv wr => ∃ (i : Nat), kv = .int .i64 (i : Int) ∧ 1 ≤ i ∧ i ≤ n + 1 ∧ DrL w1 wr w.heap.size w.heap.size [.own [entD (l.drop m)] [.slice Ayy nyy cyy] fp_yy, .blk ry #[.int .i64 (m : Int), .int .i64 tm, .slice Ayy nyy cyy] 31, .own [entD l] [.slice (some ⟨lb, lo, none⟩) n c] fp_l]) (fun kv _ => n + 1 - (intOf kv).toNat)
  case atStart => exact ⟨1, rfl, by omega, by omega, X0.out⟩
  case round =>
    obtain ⟨i, rfl, hi1, hi2, X⟩ := hrel
    clear X0
    obtain ⟨j, rfl⟩ : ∃ j, i = j + 1 := ⟨i - 1, by omega⟩
    have hij : ((j + 1 : Nat) : Int) = (j : Int) + 1 := by omega
    rw [hij]
    by_cases hlt : j < n
    · have c1 : decide ((j : Int) + 1 ≤ (n : Int)) = true := decide_eq_true (by omega)
      have c2 : decide ((j : Int) < (n : Int)) = true := decide_eq_true (by omega)
      have HLT := Lib.hid hlt
      have hjl : j < l.length := by have := HL.out; omega
      by_cases hmj : m ≤ j
      · have hat := HAy.out j hmj hjl
        obtain ⟨_, _, _, e, _, _, _, hel⟩ := ((X.sep.own_ 2 rfl).rd).ents
        injection e with e1 e2 e3
        subst e1 e2 e3
        obtain ⟨lb2, lo2, e, _, hc⟩ := hel (by omega)
        injection e with e
        injection e with e4 e5
        subst e4 e5
        obtain ⟨x0, hx0⟩ : ∃ q, q = l[j].idx := ⟨_, rfl⟩
        obtain ⟨x1, hx1⟩ : ∃ q, q = l[j].tm := ⟨_, rfl⟩
        obtain ⟨x2, hx2⟩ : ∃ q, q = l[j].cl := ⟨_, rfl⟩
        obtain ⟨x3, hx3⟩ : ∃ q, q = l[j].sq := ⟨_, rfl⟩
        obtain ⟨x4, hx4⟩ : ∃ q, q = l[j].kd := ⟨_, rfl⟩
        obtain ⟨x5, hx5⟩ : ∃ q, q = l[j].oa := ⟨_, rfl⟩
        obtain ⟨x6, hx6⟩ : ∃ q, q = l[j].ob := ⟨_, rfl⟩
        obtain ⟨x7, hx7⟩ : ∃ q, q = l[j].oc := ⟨_, rfl⟩
        obtain ⟨x8, hx8⟩ : ∃ q, q = l[j].od := ⟨_, rfl⟩
        have hmk : l[j] = ⟨x0, x1, x2, x3, x4, x5, x6, x7, x8⟩ := by rw [hx0, hx1, hx2, hx3, hx4, hx5, hx6, hx7, hx8]
        rw [hmk] at hat
        have HAT := Lib.hid hat
        have HMK := Lib.hid hmk
        have j0 : (0 : Int) ≤ (j : Int) := by omega
        have j1 : (j : Int) < (n : Int) := by omega
        have ep : IntKind.i64.wrap (j : Int) = (j : Int) := by rw [IntKind.wrap_i64]; omega
        have d1 : decide ((j : Int) + 1 > (m : Int)) = true := decide_eq_true (by omega)
        have d2 : decide ((m : Int) < (j : Int) + 1) = true := decide_eq_true (by omega)
        clear hel hc hat hmk hmj hlt hx0 hx1 hx2 hx3 hx4 hx5 hx6 hx7 hx8
        have f18 : wr.cell? ⟨ry, 0, none⟩ = some (.int .i64 (m : Int)) := (X.sep.at_ 1 rfl).cell 0
        have f19 : wr.cell? ⟨ry, 1, none⟩ = some (.int .i64 tm) := (X.sep.at_ 1 rfl).cell 1
        have f20 : wr.cell? ⟨ry, 2, none⟩ = some (.slice Ayy nyy cyy) := (X.sep.at_ 1 rfl).cell 2
        go_wp2_with fail
        refine (HE.out (m : Int) tm Ayy nyy cyy (l.drop m) ((j : Int) + 1) _ ((X.sep.own_ 0 rfl).rd) hszm).mono ?_
        rintro e w15 ⟨rfl, b1⟩
        rw [HAT.out]
        replace X := X.keep b1
        clear b1 f18 f19 f20
        replace X := X.boxAt (w15.heap.size) rfl #[.int .i64 x0, .int .i64 x1, .int .i64 x2, .int .i64 x3, .int .i64 x4, .int .i64 x5, .int .i64 x6, .int .i64 x7, .int .i64 x8] 40
        have f21 : (w15.alloc (.cells #[.int .i64 x0, .int .i64 x1, .int .i64 x2, .int .i64 x3, .int .i64 x4, .int .i64 x5, .int .i64 x6, .int .i64 x7, .int .i64 x8] 40)).cell? ⟨w15.heap.size, 0, none⟩ = some (.int .i64 x0) := (X.sep.at_ 0 rfl).cell 0
        have f22 : (w15.alloc (.cells #[.int .i64 x0, .int .i64 x1, .int .i64 x2, .int .i64 x3, .int .i64 x4, .int .i64 x5, .int .i64 x6, .int .i64 x7, .int .i64 x8] 40)).cell? ⟨w15.heap.size, 1, none⟩ = some (.int .i64 x1) := (X.sep.at_ 0 rfl).cell 1
        have f23 : (w15.alloc (.cells #[.int .i64 x0, .int .i64 x1, .int .i64 x2, .int .i64 x3, .int .i64 x4, .int .i64 x5, .int .i64 x6, .int .i64 x7, .int .i64 x8] 40)).cell? ⟨w15.heap.size, 2, none⟩ = some (.int .i64 x2) := (X.sep.at_ 0 rfl).cell 2
        have f24 : (w15.alloc (.cells #[.int .i64 x0, .int .i64 x1, .int .i64 x2, .int .i64 x3, .int .i64 x4, .int .i64 x5, .int .i64 x6, .int .i64 x7, .int .i64 x8] 40)).cell? ⟨w15.heap.size, 3, none⟩ = some (.int .i64 x3) := (X.sep.at_ 0 rfl).cell 3
        have f25 : (w15.alloc (.cells #[.int .i64 x0, .int .i64 x1, .int .i64 x2, .int .i64 x3, .int .i64 x4, .int .i64 x5, .int .i64 x6, .int .i64 x7, .int .i64 x8] 40)).cell? ⟨w15.heap.size, 4, none⟩ = some (.int .i64 x4) := (X.sep.at_ 0 rfl).cell 4
        have f26 : (w15.alloc (.cells #[.int .i64 x0, .int .i64 x1, .int .i64 x2, .int .i64 x3, .int .i64 x4, .int .i64 x5, .int .i64 x6, .int .i64 x7, .int .i64 x8] 40)).cell? ⟨w15.heap.size, 5, none⟩ = some (.int .i64 x5) := (X.sep.at_ 0 rfl).cell 5
        have f27 : (w15.alloc (.cells #[.int .i64 x0, .int .i64 x1, .int .i64 x2, .int .i64 x3, .int .i64 x4, .int .i64 x5, .int .i64 x6, .int .i64 x7, .int .i64 x8] 40)).cell? ⟨w15.heap.size, 6, none⟩ = some (.int .i64 x6) := (X.sep.at_ 0 rfl).cell 6
        have f28 : (w15.alloc (.cells #[.int .i64 x0, .int .i64 x1, .int .i64 x2, .int .i64 x3, .int .i64 x4, .int .i64 x5, .int .i64 x6, .int .i64 x7, .int .i64 x8] 40)).cell? ⟨w15.heap.size, 7, none⟩ = some (.int .i64 x7) := (X.sep.at_ 0 rfl).cell 7
        have f29 : (w15.alloc (.cells #[.int .i64 x0, .int .i64 x1, .int .i64 x2, .int .i64 x3, .int .i64 x4, .int .i64 x5, .int .i64 x6, .int .i64 x7, .int .i64 x8] 40)).cell? ⟨w15.heap.size, 8, none⟩ = some (.int .i64 x8) := (X.sep.at_ 0 rfl).cell 8
        go_wp2_with fail
        generalize w15.alloc (.cells #[.int .i64 x0, .int .i64 x1, .int .i64 x2, .int .i64 x3, .int .i64 x4, .int .i64 x5, .int .i64 x6, .int .i64 x7, .int .i64 x8] 40) = w16 at *
        generalize w15.heap.size = re at *
        obtain ⟨_, _, _, e, _, _, _, hel⟩ := ((X.sep.own_ 3 rfl).rd).ents
        injection e with e1 e2 e3
        subst e1 e2 e3
        obtain ⟨lb2, lo2, e, _, hc⟩ := hel (by omega)
        injection e with e
        injection e with e4 e5
        subst e4 e5
        obtain ⟨k0, k1, k2, k3, k4, k5, k6, k7, k8⟩ := hc j hjl
        rw [HMK.out] at k0 k1 k2 k3 k4 k5 k6 k7 k8
        clear hel hc
        have XH := Lib.hid X
        clear X
        go_wp2_with fail
        go_quiet (fail)
        have X := XH.out.keep (below_drewN (Below.refl w16.heap.size w16) nq)
        clear XH f21 f22 f23 f24 f25 f26 f27 f28 f29 k0 k1 k2 k3 k4 k5 k6 k7 k8
        generalize w16.drewN nq = w8 at *
        replace X := X.with_ (X.sep.sub (.cons _ (.cons_cons _ (.cons_cons _ (.cons_cons _ (List.nil_sublist _))))))
        have X1 := Lib.hid X
        clear X
        go_wp2
        go_roundw
        case rel => exact ⟨j + 1 + 1, by go_num, by omega, by have := HLT.out; omega, X1.out⟩
        case measure => have := HLT.out; simp [intOf] <;> omega
      · have HAT := Lib.hid (HAn.out ((j : Int) + 1) (by omega))
        have d1 : decide ((j : Int) + 1 > (m : Int)) = false := decide_eq_false (by omega)
        have d2 : decide ((m : Int) < (j : Int) + 1) = false := decide_eq_false (by omega)
        clear hmj hlt
        have f18 : wr.cell? ⟨ry, 0, none⟩ = some (.int .i64 (m : Int)) := (X.sep.at_ 1 rfl).cell 0
        have f19 : wr.cell? ⟨ry, 1, none⟩ = some (.int .i64 tm) := (X.sep.at_ 1 rfl).cell 1
        have f20 : wr.cell? ⟨ry, 2, none⟩ = some (.slice Ayy nyy cyy) := (X.sep.at_ 1 rfl).cell 2
        go_wp2_with fail
        refine (HE.out (m : Int) tm Ayy nyy cyy (l.drop m) ((j : Int) + 1) _ ((X.sep.own_ 0 rfl).rd) hszm).mono ?_
        rintro e w15 ⟨rfl, b1⟩
        rw [HAT.out]
        simp only [ent0]
        replace X := X.keep b1
        clear b1 f18 f19 f20
        replace X := X.boxAt (w15.heap.size) rfl #[.int .i64 0, .int .i64 0, .int .i64 0, .int .i64 0, .int .i64 0, .int .i64 0, .int .i64 0, .int .i64 0, .int .i64 0] 40
        have f21 : (w15.alloc (.cells #[.int .i64 0, .int .i64 0, .int .i64 0, .int .i64 0, .int .i64 0, .int .i64 0, .int .i64 0, .int .i64 0, .int .i64 0] 40)).cell? ⟨w15.heap.size, 0, none⟩ = some (.int .i64 0) := (X.sep.at_ 0 rfl).cell 0
        have f22 : (w15.alloc (.cells #[.int .i64 0, .int .i64 0, .int .i64 0, .int .i64 0, .int .i64 0, .int .i64 0, .int .i64 0, .int .i64 0, .int .i64 0] 40)).cell? ⟨w15.heap.size, 1, none⟩ = some (.int .i64 0) := (X.sep.at_ 0 rfl).cell 1
        have f23 : (w15.alloc (.cells #[.int .i64 0, .int .i64 0, .int .i64 0, .int .i64 0, .int .i64 0, .int .i64 0, .int .i64 0, .int .i64 0, .int .i64 0] 40)).cell? ⟨w15.heap.size, 2, none⟩ = some (.int .i64 0) := (X.sep.at_ 0 rfl).cell 2
        have f24 : (w15.alloc (.cells #[.int .i64 0, .int .i64 0, .int .i64 0, .int .i64 0, .int .i64 0, .int .i64 0, .int .i64 0, .int .i64 0, .int .i64 0] 40)).cell? ⟨w15.heap.size, 3, none⟩ = some (.int .i64 0) := (X.sep.at_ 0 rfl).cell 3
        have f25 : (w15.alloc (.cells #[.int .i64 0, .int .i64 0, .int .i64 0, .int .i64 0, .int .i64 0, .int .i64 0, .int .i64 0, .int .i64 0, .int .i64 0] 40)).cell? ⟨w15.heap.size, 4, none⟩ = some (.int .i64 0) := (X.sep.at_ 0 rfl).cell 4
        have f26 : (w15.alloc (.cells #[.int .i64 0, .int .i64 0, .int .i64 0, .int .i64 0, .int .i64 0, .int .i64 0, .int .i64 0, .int .i64 0, .int .i64 0] 40)).cell? ⟨w15.heap.size, 5, none⟩ = some (.int .i64 0) := (X.sep.at_ 0 rfl).cell 5
        have f27 : (w15.alloc (.cells #[.int .i64 0, .int .i64 0, .int .i64 0, .int .i64 0, .int .i64 0, .int .i64 0, .int .i64 0, .int .i64 0, .int .i64 0] 40)).cell? ⟨w15.heap.size, 6, none⟩ = some (.int .i64 0) := (X.sep.at_ 0 rfl).cell 6
        have f28 : (w15.alloc (.cells #[.int .i64 0, .int .i64 0, .int .i64 0, .int .i64 0, .int .i64 0, .int .i64 0, .int .i64 0, .int .i64 0, .int .i64 0] 40)).cell? ⟨w15.heap.size, 7, none⟩ = some (.int .i64 0) := (X.sep.at_ 0 rfl).cell 7
        have f29 : (w15.alloc (.cells #[.int .i64 0, .int .i64 0, .int .i64 0, .int .i64 0, .int .i64 0, .int .i64 0, .int .i64 0, .int .i64 0, .int .i64 0] 40)).cell? ⟨w15.heap.size, 8, none⟩ = some (.int .i64 0) := (X.sep.at_ 0 rfl).cell 8
        go_wp2_with fail
        generalize w15.alloc (.cells #[.int .i64 0, .int .i64 0, .int .i64 0, .int .i64 0, .int .i64 0, .int .i64 0, .int .i64 0, .int .i64 0, .int .i64 0] 40) = w16 at *
        generalize w15.heap.size = re at *
        have XH := Lib.hid X
        clear X
        go_wp2_with fail
        go_quiet (fail)
        have X := XH.out.keep (below_drewN (Below.refl w16.heap.size w16) nq)
        clear XH f21 f22 f23 f24 f25 f26 f27 f28 f29 
        generalize w16.drewN nq = w8 at *
        replace X := X.with_ (X.sep.sub (.cons _ (.cons_cons _ (.cons_cons _ (.cons_cons _ (List.nil_sublist _))))))
        have X1 := Lib.hid X
        clear X
        go_wp2
        go_roundw
        case rel => exact ⟨j + 1 + 1, by go_num, by omega, by have := HLT.out; omega, X1.out⟩
        case measure => have := HLT.out; simp [intOf] <;> omega
    · obtain rfl : j = n := by omega
      have c1 : decide ((j : Int) + 1 ≤ (j : Int)) = false := decide_eq_false (by omega)
      have c2 : ¬ ((j : Int) + 1 ≤ (j : Int)) := by omega
      have hw5 : IntKind.i64.wrap ((m : Int) - 1) = (m : Int) - 1 := by rw [IntKind.wrap_i64]; omega
      clear hi1 hi2 hlt hij
      have f18 : wr.cell? ⟨ry, 0, none⟩ = some (.int .i64 (m : Int)) := (X.sep.at_ 1 rfl).cell 0
      have f19 : wr.cell? ⟨ry, 1, none⟩ = some (.int .i64 tm) := (X.sep.at_ 1 rfl).cell 1
      have f20 : wr.cell? ⟨ry, 2, none⟩ = some (.slice Ayy nyy cyy) := (X.sep.at_ 1 rfl).cell 2
      go_wp2_with fail
      refine (HR9.out (m : Int) tm Ayy nyy cyy (l.drop m) ((m : Int) - 1) _ ((X.sep.own_ 0 rfl).rd) hszm).mono ?_
      rintro e w15 ⟨y0, y1, Aqq, nqq, cqq, rfl, o', b9⟩
      have e9 := HTB.out
      have o2 : Has w15 _ (BookM.cells (trimM ⟨(m : Int), tm, l.drop m⟩ ((m : Int) - 1)).1) _ := o'
      rw [e9] at o2
      obtain ⟨z0, z1, o⟩ := has_split o2
      have hfl : (trimM ⟨(m : Int), tm, l.drop m⟩ ((m : Int) - 1)).2 = false := congrArg Prod.snd e9
      first | rw [hfl] | (simp only [show (trimM ⟨(m : Int), tm, l.drop m⟩ ((m : Int) - 1)).2 = false from hfl])
      have z2 : (m : Int) = y0 := z0.symm
      have z3 : tm = y1 := z1.symm
      clear e9 hfl o' o2 z0 z1
      subst z2 z3
      obtain ⟨fp_qq, X'⟩ := X.has b9 o
      clear X; have X := X'; clear X' b9 o f18 f19 f20
      replace X := X.boxAt (w15.heap.size) rfl #[.int .i64 (m : Int), .int .i64 tm, .slice Aqq nqq cqq] 31
      have f21 : (w15.alloc (.cells #[.int .i64 (m : Int), .int .i64 tm, .slice Aqq nqq cqq] 31)).cell? ⟨ry, 0, none⟩ = some (.int .i64 (m : Int)) := (X.sep.at_ 3 rfl).cell 0
      have f22 : (w15.alloc (.cells #[.int .i64 (m : Int), .int .i64 tm, .slice Aqq nqq cqq] 31)).cell? ⟨ry, 1, none⟩ = some (.int .i64 tm) := (X.sep.at_ 3 rfl).cell 1
      have f23 : (w15.alloc (.cells #[.int .i64 (m : Int), .int .i64 tm, .slice Aqq nqq cqq] 31)).cell? ⟨ry, 2, none⟩ = some (.slice Ayy nyy cyy) := (X.sep.at_ 3 rfl).cell 2
      go_wp2_with fail
      generalize w15.alloc (.cells #[.int .i64 (m : Int), .int .i64 tm, .slice Aqq nqq cqq] 31) = w16 at *
      generalize w15.heap.size = rq at *
      refine (HK.out (m : Int) tm Ayy nyy cyy (l.drop m) _ ((X.sep.own_ 2 rfl).rd) hszm).mono ?_
      rintro e w17 ⟨rfl, b1⟩
      rw [HBm.out]
      replace X := X.keep b1
      clear b1 f21 f22 f23
      have C := Lib.hid (B1.out.trans (grown_below X.grown B1.out.size (fun k hk => by injection hk with hk; omega)))
      clear X
      go_wp2
      go_ret
      exact ⟨rfl, C.out⟩

end Go.Proofs.Ytjbhldfkkmkilaa
