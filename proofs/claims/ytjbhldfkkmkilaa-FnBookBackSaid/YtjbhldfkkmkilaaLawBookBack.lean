/-
  The law FnBookBack, over the contracts of the program's functions: it answers true at every slice of bytes, and writes nothing that was there (by program, wip/gen/genbookb.py).
-/
import Derived.Test.YtjbhldfkkmkilaaBookC
import Derived.Test.YtjbhldfkkmkilaaBookU
import Derived.Test.YtjbhldfkkmkilaaBookX
import Derived.Test.YtjbhldfkkmkilaaCls
import Derived.RegionTactic
import Derived.BigQuiet
import Derived.Deep.DeepCutAuto
namespace Go.Proofs.Ytjbhldfkkmkilaa
set_option maxRecDepth 100000
open Go.RowKit

theorem rd_none (w : World) (B : Nat) : Rd w B [entD []] [.slice none 0 0] := Rd.of_lst (us := []) entC_len rfl (Nat.le_refl _) (Nat.zero_le _) (fun h => absurd h (by omega)) (by simpa using Rd.nil)
set_option maxHeartbeats 12800000 in
theorem lawBookBack (hG : CGrown 20) (hS : CSameBook 21) (hT0 : CLastOf 22) (hK : CBookOk 23) (hB9 : CBackTo 29) (hA : CAppended 30)
    (A : Option Addr) (n c0 : Nat) (w : World) (h : BRow w w.heap.size A n) (hm : n ≤ maxLen) :
    Calls Try.prog 5 #[.slice A n c0] w fun e w' => e = .returned (.bool true) ∧ Below w.heap.size w w' := by
  have HG := Lib.hid hG
  have HS := Lib.hid hS
  have HT0 := Lib.hid hT0
  have HK := Lib.hid hK
  have HB9 := Lib.hid hB9
  have HA := Lib.hid hA
  clear hG hS hT0 hK hB9 hA
  unfold maxLen at hm
  by_cases hn : 4096 < n
  · clear h
    go_enter Try.func5, Try.ntmps5
    go_wp2_with fail
    refine (lbig_any A n c0 _).mono ?_
    rintro e w' ⟨rfl, rfl⟩
    rw [decide_eq_true hn]
    go_wp2
    go_ret
    exact ⟨rfl, Below.refl _ _⟩
  go_enter Try.func5, Try.ntmps5
  go_wp2_with fail
  refine (lbig_any A n c0 _).mono ?_
  rintro e w' ⟨rfl, rfl⟩
  rw [decide_eq_false hn]
  go_wp2_with fail
  refine (roll_any A n c0 _ h (by omega) _).mono ?_
  rintro e w1 ⟨rfl, cu, b1⟩
  have X := DrL.start cu
  have B1 := Lib.hid b1
  clear b1 cu h
  replace X := X.boxAt (w1.heap.size) rfl #[] 40
  go_wp2_with fail
  generalize w1.alloc (.cells #[] 40) = w2 at *
  refine (lbelow_any _ _ _ X.cur 15 (by decide)).mono ?_
  rintro e w3 ⟨z, hz, rfl, cu, gr⟩
  replace X := X.draw cu gr
  clear cu gr
  obtain ⟨m, hm9⟩ : ∃ m : Nat, 1 + z = (m : Int) := ⟨(1 + z).toNat, by omega⟩
  have hm : 1 ≤ m ∧ m ≤ 15 := by omega
  have hwz : IntKind.i64.wrap (1 + z) = (m : Int) := by rw [IntKind.wrap_i64]; omega
  clear hz hm9
  go_wp2_with fail
  refine (w9list_any _ _ m (by omega) _ _ _ X.cur).mono ?_
  rintro e w4 ⟨l, A, n, c, hl, hrun, rfl, cu, gr, o⟩
  obtain ⟨fp_l, X'⟩ := X.drawHas cu gr o
  clear X; have X := X'; clear X' cu gr o
  replace X := X.with_ (X.sep.sub (.cons_cons _ (List.nil_sublist _)))
  clear hwz
  obtain ⟨_, _, _, e, hln, hnc, hcm, _⟩ := ((X.sep.own_ 0 rfl).rd).ents
  injection e with e1 e2 e3
  subst e1 e2 e3
  obtain rfl : n = m := by omega
  have HL := Lib.hid hl
  have HR := Lib.hid hrun
  have hl20 : l.length ≤ 20 := by omega
  have HB := Lib.hid (hrun.book hl20)
  have hsz : entSz l ≤ 1048577 := by unfold entSz; omega
  clear hl hln hrun
  have hw1 : IntKind.i64.wrap ((n : Int) + 1) = (n : Int) + 1 := by rw [IntKind.wrap_i64]; omega
  go_wp2_with fail
  refine (lbelow_any _ _ _ X.cur ((n : Int) + 1) (by omega)).mono ?_
  rintro e w5 ⟨z, hz, rfl, cu, gr⟩
  replace X := X.draw cu gr
  clear cu gr
  obtain ⟨k, rfl⟩ : ∃ k : Nat, z = (k : Int) := ⟨z.toNat, by omega⟩
  have hk : k ≤ n := by omega
  clear hz
  have HG0 := Lib.hid (HR.out.grow0 hl20)
  have HBR := Lib.hid (back_run HR.out hl20 (k := k) (by have := HL.out; omega))
  have HGD := Lib.hid (HR.out.grow hl20 k)
  have hkl : (l.take k).length = k := by rw [List.length_take]; have := HL.out; omega
  have HKL := Lib.hid hkl
  have hszk : entSz (l.take k) ≤ 1048577 := by unfold entSz; omega
  have HLK := Lib.hid (((HR.out.take k).last (by omega)).trans (by rw [hkl]) : lastM ⟨0, 0, l.take k⟩ = (k : Int))
  have HBK := Lib.hid ((HR.out.take k).book (by omega))
  clear hkl
  go_wp2_with fail
  refine (HG.out 0 0 none 0 0 [] A n c l _ (rd_none _ _) (by decide) ((X.sep.own_ 0 rfl).rd) hsz).mono ?_
  rintro e w6 ⟨y0, y1, Abx, nbx, cbx, rfl, o', b9⟩
  have e9 := HG0.out
  have o2 : Has w6 _ (BookM.cells (growM book0 l).1) _ := o'
  rw [e9] at o2
  obtain ⟨z0, z1, o⟩ := has_split o2
  have hfl : (growM book0 l).2 = true := congrArg Prod.snd e9
  first | rw [hfl] | (simp only [show (growM ⟨0, 0, []⟩ l).2 = true from hfl])
  have z2 : 0 = y0 := z0.symm
  have z3 : 0 = y1 := z1.symm
  clear e9 hfl o' o2 z0 z1
  subst z2 z3
  obtain ⟨fp_bx, X'⟩ := X.has b9 o
  clear X; have X := X'; clear X' b9 o
  replace X := X.boxAt (w6.heap.size) rfl #[.int .i64 0, .int .i64 0, .slice Abx nbx cbx] 31
  have f0 : (w6.alloc (.cells #[.int .i64 0, .int .i64 0, .slice Abx nbx cbx] 31)).cell? ⟨w6.heap.size, 0, none⟩ = some (.int .i64 0) := (X.sep.at_ 0 rfl).cell 0
  have f1 : (w6.alloc (.cells #[.int .i64 0, .int .i64 0, .slice Abx nbx cbx] 31)).cell? ⟨w6.heap.size, 1, none⟩ = some (.int .i64 0) := (X.sep.at_ 0 rfl).cell 1
  have f2 : (w6.alloc (.cells #[.int .i64 0, .int .i64 0, .slice Abx nbx cbx] 31)).cell? ⟨w6.heap.size, 2, none⟩ = some (.slice Abx nbx cbx) := (X.sep.at_ 0 rfl).cell 2
  go_wp2_with fail
  generalize w6.alloc (.cells #[.int .i64 0, .int .i64 0, .slice Abx nbx cbx] 31) = w7 at *
  generalize w6.heap.size = rb at *
  refine (HB9.out 0 0 Abx nbx cbx l (k : Int) _ ((X.sep.own_ 1 rfl).rd) hsz).mono ?_
  rintro e w8 ⟨y0, y1, Axx, nxx, cxx, rfl, o', b9⟩
  have e9 := HBR.out
  have o2 : Has w8 _ (BookM.cells (backM ⟨0, 0, l⟩ (k : Int)).1) _ := o'
  rw [e9] at o2
  obtain ⟨z0, z1, o⟩ := has_split o2
  have hfl : (backM ⟨0, 0, l⟩ (k : Int)).2 = true := congrArg Prod.snd e9
  first | rw [hfl] | (simp only [show (backM ⟨0, 0, l⟩ (k : Int)).2 = true from hfl])
  have z2 : 0 = y0 := z0.symm
  have z3 : 0 = y1 := z1.symm
  clear e9 hfl o' o2 z0 z1
  subst z2 z3
  obtain ⟨fp_xx, X'⟩ := X.has b9 o
  clear X; have X := X'; clear X' b9 o f0 f1 f2
  replace X := X.boxAt (w8.heap.size) rfl #[.int .i64 0, .int .i64 0, .slice Axx nxx cxx] 31
  have f3 : (w8.alloc (.cells #[.int .i64 0, .int .i64 0, .slice Axx nxx cxx] 31)).cell? ⟨w8.heap.size, 0, none⟩ = some (.int .i64 0) := (X.sep.at_ 0 rfl).cell 0
  have f4 : (w8.alloc (.cells #[.int .i64 0, .int .i64 0, .slice Axx nxx cxx] 31)).cell? ⟨w8.heap.size, 1, none⟩ = some (.int .i64 0) := (X.sep.at_ 0 rfl).cell 1
  have f5 : (w8.alloc (.cells #[.int .i64 0, .int .i64 0, .slice Axx nxx cxx] 31)).cell? ⟨w8.heap.size, 2, none⟩ = some (.slice Axx nxx cxx) := (X.sep.at_ 0 rfl).cell 2
  go_wp2_with fail
  generalize w8.alloc (.cells #[.int .i64 0, .int .i64 0, .slice Axx nxx cxx] 31) = w9 at *
  generalize w8.heap.size = rx at *
  refine (HT0.out 0 0 Axx nxx cxx (l.take k) _ ((X.sep.own_ 1 rfl).rd) hszk).mono ?_
  rintro e w10 ⟨rfl, b1⟩
  rw [HLK.out]
  replace X := X.keep b1
  clear b1 f3 f4 f5
  have hnn : ((k : Int) != (k : Int)) = false := by simp
  have f6 : w10.cell? ⟨rx, 0, none⟩ = some (.int .i64 0) := (X.sep.at_ 0 rfl).cell 0
  have f7 : w10.cell? ⟨rx, 1, none⟩ = some (.int .i64 0) := (X.sep.at_ 0 rfl).cell 1
  have f8 : w10.cell? ⟨rx, 2, none⟩ = some (.slice Axx nxx cxx) := (X.sep.at_ 0 rfl).cell 2
  go_wp2_with fail
  refine (HK.out 0 0 Axx nxx cxx (l.take k) _ ((X.sep.own_ 1 rfl).rd) hszk).mono ?_
  rintro e w11 ⟨rfl, b1⟩
  rw [HBK.out]
  replace X := X.keep b1
  clear b1 f6 f7 f8
  obtain ⟨A2, hs2, hb2⟩ := slice_back (l := l) (X.sep.own_ 4 rfl) hk
  replace X := X.with_ (X.sep.pick 4 rfl)
  replace X := X.with_ (X.sep.pick 1 rfl)
  replace X := X.with_ (X.sep.pick 2 rfl)
  replace X := X.with_ (X.sep.pick 3 rfl)
  replace X := X.with_ (X.sep.pick 4 rfl)
  have XH := Lib.hid X
  clear X
  go_wp2_with fail
  go_cut [11, 12] (fun s0 s1 wx => ∃ (pyy : Nat) (Ayy : Option Addr) (nyy cyy : Nat) (fp_yy : List Nat), s0 = .pointer (some ⟨pyy, 0, none⟩) ∧ s1 = .bool true ∧ DrL w1 wx w.heap.size w.heap.size [.blk pyy #[.int .i64 0, .int .i64 0, .slice Ayy nyy cyy] 31, .own [entD l] [.slice Ayy nyy cyy] fp_yy, .own [entD l] [.slice Abx nbx cbx] fp_bx, .blk rb #[.int .i64 0, .int .i64 0, .slice Abx nbx cbx] 31, .own [entD (l.take k)] [.slice Axx nxx cxx] fp_xx, .blk rx #[.int .i64 0, .int .i64 0, .slice Axx nxx cxx] 31, .own [entD l] [.slice A n c] fp_l])
  case first =>
    have X := XH.out
    clear XH
    refine wp_region_L (fun v => v.cell? ⟨rx, 0, none⟩ = some (.int .i64 0) ∧ v.cell? ⟨rx, 1, none⟩ = some (.int .i64 0) ∧ v.cell? ⟨rx, 2, none⟩ = some (.slice Axx nxx cxx)) 10 (by kernel_rfl) ?_
    replace X := X.drew
    generalize w11.drew = w12 at *
    have HF : w12.cell? ⟨rx, 0, none⟩ = some (.int .i64 0) ∧ w12.cell? ⟨rx, 1, none⟩ = some (.int .i64 0) ∧ w12.cell? ⟨rx, 2, none⟩ = some (.slice Axx nxx cxx) := ⟨(X.sep.at_ 3 rfl).cell 0, (X.sep.at_ 3 rfl).cell 1, (X.sep.at_ 3 rfl).cell 2⟩
    refine wpAnyL_take (i := 0) (v := ?_) rfl rfl (by kernel_rfl) (by kernel_rfl) (by kernel_rfl) (by kernel_rfl) (by kernel_rfl) (fun _ _ _ h => h) HF (Or.inl ⟨by rfl, ?_⟩) ?_
    rotate_left 1
    · (rintro v ⟨a0, a1, a2⟩; go_simp; try with_reducible rfl)
    try simp only [Act.put]
    refine wpAnyL_take (i := 1) (v := ?_) rfl rfl (by kernel_rfl) (by kernel_rfl) (by kernel_rfl) (by kernel_rfl) (by kernel_rfl) (fun _ _ _ h => h) HF (Or.inl ⟨by rfl, ?_⟩) ?_
    rotate_left 1
    · (rintro v ⟨a0, a1, a2⟩; go_simp; try with_reducible rfl)
    try simp only [Act.put]
    refine wpAnyL_take (i := 2) (v := ?_) rfl rfl (by kernel_rfl) (by kernel_rfl) (by kernel_rfl) (by kernel_rfl) (by kernel_rfl) (fun _ _ _ h => h) HF (Or.inl ⟨by rfl, ?_⟩) ?_
    rotate_left 1
    · (rintro v ⟨a0, a1, a2⟩; go_simp; try with_reducible rfl)
    try simp only [Act.put]
    refine wpAnyL_take (i := 3) (v := ?_) rfl rfl (by kernel_rfl) (by kernel_rfl) (by kernel_rfl) (by kernel_rfl) (by kernel_rfl) (fun _ _ _ h => h) HF (Or.inl ⟨by rfl, ?_⟩) ?_
    rotate_left 1
    · (rintro v ⟨a0, a1, a2⟩; go_simp; try with_reducible rfl)
    try simp only [Act.put]
    clear hs2
    refine wpAnyL_two (i := 4) (k := 8) (by kernel_rfl) rfl rfl rfl rfl ?_ ?_
    · intro K hK
      go_simp
      refine (HG.out 0 0 Axx nxx cxx (l.take k) A2 (n - k) (c - k) (l.drop k) _ ((X.sep.own_ 2 rfl).rd) hszk (hb2 ((X.sep.own_ 4 rfl).rd)) (by unfold entSz; rw [List.length_drop]; have := HL.out; omega)).mono ?_
      rintro e w13 ⟨y0, y1, Ayy, nyy, cyy, rfl, o', b9⟩
      have e9 := HGD.out
      have o2 : Has w13 _ (BookM.cells (growM ⟨0, 0, l.take k⟩ (l.drop k)).1) _ := o'
      rw [e9] at o2
      obtain ⟨z0, z1, o⟩ := has_split o2
      have hfl : (growM ⟨0, 0, l.take k⟩ (l.drop k)).2 = true := congrArg Prod.snd e9
      first | rw [hfl] | (simp only [show (growM ⟨0, 0, l.take k⟩ (l.drop k)).2 = true from hfl])
      have z2 : 0 = y0 := z0.symm
      have z3 : 0 = y1 := z1.symm
      clear e9 hfl o' o2 z0 z1
      subst z2 z3
      obtain ⟨fp_yy, X'⟩ := X.has b9 o
      clear X; have X := X'; clear X' b9 o
      clear HF
      have HF : w13.cell? ⟨rx, 0, none⟩ = some (.int .i64 0) ∧ w13.cell? ⟨rx, 1, none⟩ = some (.int .i64 0) ∧ w13.cell? ⟨rx, 2, none⟩ = some (.slice Axx nxx cxx) := ⟨(X.sep.at_ 4 rfl).cell 0, (X.sep.at_ 4 rfl).cell 1, (X.sep.at_ 4 rfl).cell 2⟩
      refine hK _ _ (fun _ => HF) ?_
      clear hK K
      try simp only [Act.put]
      refine wpAnyL_pure (i := 5) (v := ?_) rfl rfl (by kernel_rfl) (by kernel_rfl) (by kernel_rfl) (fun _ _ _ h => h) HF (Or.inl ⟨by rfl, ?_⟩) ?_
      rotate_left 1
      · (intro v _; go_simp; try with_reducible rfl)
      try simp only [Act.put]
      refine wpAnyL_pure (i := 6) (v := ?_) rfl rfl (by kernel_rfl) (by kernel_rfl) (by kernel_rfl) (fun _ _ _ h => h) HF (Or.inl ⟨by rfl, ?_⟩) ?_
      rotate_left 1
      · (intro v _; go_simp; try with_reducible rfl)
      try simp only [Act.put]
      refine wpAnyL_pure (i := 7) (v := ?_) rfl rfl (by kernel_rfl) (by kernel_rfl) (by kernel_rfl) (fun _ _ _ h => h) HF (Or.inl ⟨by rfl, ?_⟩) ?_
      rotate_left 1
      · (intro v _; go_simp; try with_reducible rfl)
      try simp only [Act.put]
      refine wpAnyL_step (i := 8) (by kernel_rfl) rfl rfl ?_
      intro K hK
      go_simp
      replace X := X.boxAt (w13.heap.size) rfl #[.int .i64 0, .int .i64 0, .slice none 0 0] 31
      clear HF
      have HF : (w13.alloc (.cells #[.int .i64 0, .int .i64 0, .slice none 0 0] 31)).cell? ⟨rx, 0, none⟩ = some (.int .i64 0) ∧ (w13.alloc (.cells #[.int .i64 0, .int .i64 0, .slice none 0 0] 31)).cell? ⟨rx, 1, none⟩ = some (.int .i64 0) ∧ (w13.alloc (.cells #[.int .i64 0, .int .i64 0, .slice none 0 0] 31)).cell? ⟨rx, 2, none⟩ = some (.slice Axx nxx cxx) := ⟨(X.sep.at_ 5 rfl).cell 0, (X.sep.at_ 5 rfl).cell 1, (X.sep.at_ 5 rfl).cell 2⟩
      refine hK _ _ (fun _ => HF) ?_
      clear hK K
      try simp only [Act.put]
      generalize hw : w13.alloc (.cells #[.int .i64 0, .int .i64 0, .slice none 0 0] 31) = w14 at *
      clear hw
      have f9 : w14.cell? ⟨w13.heap.size, 0, none⟩ = some (.int .i64 0) := (X.sep.at_ 0 rfl).cell 0
      have f10 := (X.sep.at_ 0 rfl).free 0
      have f11 : w14.cell? ⟨w13.heap.size, 1, none⟩ = some (.int .i64 0) := (X.sep.at_ 0 rfl).cell 1
      have f12 := (X.sep.at_ 0 rfl).free 1
      have f13 : w14.cell? ⟨w13.heap.size, 2, none⟩ = some (.slice none 0 0) := (X.sep.at_ 0 rfl).cell 2
      have f14 := (X.sep.at_ 0 rfl).free 2
      refine wpAnyL_step (i := 9) (by kernel_rfl) rfl rfl ?_
      intro K hK
      go_simp
      replace X := X.put 0 rfl 0 (.int .i64 0)
      replace X := X.put 0 rfl 1 (.int .i64 0)
      replace X := X.put 0 rfl 2 (.slice Ayy nyy cyy)
      replace X : DrL w1 _ _ _ [.blk (w13.heap.size) #[.int .i64 0, .int .i64 0, .slice Ayy nyy cyy] 31, _, _, .blk (rb) #[.int .i64 0, .int .i64 0, .slice Abx nbx cbx] 31, _, .blk (rx) #[.int .i64 0, .int .i64 0, .slice Axx nxx cxx] 31, _] := X
      clear HF
      have HF : (((w14.setCell ⟨w13.heap.size, 0, none⟩ (.int .i64 0)).setCell ⟨w13.heap.size, 1, none⟩ (.int .i64 0)).setCell ⟨w13.heap.size, 2, none⟩ (.slice Ayy nyy cyy)).cell? ⟨rx, 0, none⟩ = some (.int .i64 0) ∧ (((w14.setCell ⟨w13.heap.size, 0, none⟩ (.int .i64 0)).setCell ⟨w13.heap.size, 1, none⟩ (.int .i64 0)).setCell ⟨w13.heap.size, 2, none⟩ (.slice Ayy nyy cyy)).cell? ⟨rx, 1, none⟩ = some (.int .i64 0) ∧ (((w14.setCell ⟨w13.heap.size, 0, none⟩ (.int .i64 0)).setCell ⟨w13.heap.size, 1, none⟩ (.int .i64 0)).setCell ⟨w13.heap.size, 2, none⟩ (.slice Ayy nyy cyy)).cell? ⟨rx, 2, none⟩ = some (.slice Axx nxx cxx) := ⟨(X.sep.at_ 5 rfl).cell 0, (X.sep.at_ 5 rfl).cell 1, (X.sep.at_ 5 rfl).cell 2⟩
      refine hK _ _ (fun _ => HF) ?_
      clear hK K
      try simp only [Act.put]
      generalize ((w14.setCell ⟨w13.heap.size, 0, none⟩ (.int .i64 0)).setCell ⟨w13.heap.size, 1, none⟩ (.int .i64 0)).setCell ⟨w13.heap.size, 2, none⟩ (.slice Ayy nyy cyy) = w15 at *
      clear f9 f10 f11 f12 f13 f14
      refine wpAnyL_step (i := 10) (by kernel_rfl) rfl rfl ?_
      intro K hK
      go_simp
      refine hK _ _ (fun h => nomatch (show true = false from h)) ?_
      clear hK K
      try simp only [Act.put]
      refine wpAnyL_done (by kernel_rfl) ?_ _
      clear HF
      replace X := X.with_ (X.sep.pick 1 rfl)
      replace X := X.with_ (X.sep.pick 1 rfl)
      replace X := X.with_ (X.sep.sub (.cons_cons _ (.cons_cons _ (.cons_cons _ (.cons_cons _ (.cons_cons _ (.cons_cons _ (.cons_cons _ (List.nil_sublist _)))))))))
      replace X := X.with_ (X.sep.pick 6 rfl)
      replace X := X.with_ (X.sep.pick 6 rfl)
      replace X := X.with_ (X.sep.pick 6 rfl)
      replace X := X.with_ (X.sep.pick 6 rfl)
      replace X := X.with_ (X.sep.pick 6 rfl)
      replace X := X.with_ (X.sep.pick 6 rfl)
      replace X := X.with_ (X.sep.pick 6 rfl)
      go_wp2_with fail
      go_meet
      exact ⟨_, _, _, _, _, rfl, rfl, X⟩
    · intro K hK
      go_simp
      replace X := X.boxAt (w12.heap.size) rfl #[.int .i64 0, .int .i64 0, .slice none 0 0] 31
      clear HF
      have HF : (w12.alloc (.cells #[.int .i64 0, .int .i64 0, .slice none 0 0] 31)).cell? ⟨rx, 0, none⟩ = some (.int .i64 0) ∧ (w12.alloc (.cells #[.int .i64 0, .int .i64 0, .slice none 0 0] 31)).cell? ⟨rx, 1, none⟩ = some (.int .i64 0) ∧ (w12.alloc (.cells #[.int .i64 0, .int .i64 0, .slice none 0 0] 31)).cell? ⟨rx, 2, none⟩ = some (.slice Axx nxx cxx) := ⟨(X.sep.at_ 4 rfl).cell 0, (X.sep.at_ 4 rfl).cell 1, (X.sep.at_ 4 rfl).cell 2⟩
      refine hK _ _ (fun _ => HF) ?_
      clear hK K
      try simp only [Act.put]
      generalize hw : w12.alloc (.cells #[.int .i64 0, .int .i64 0, .slice none 0 0] 31) = w13 at *
      clear hw
      refine wpAnyL_step (i := 4) (by kernel_rfl) rfl rfl ?_
      intro K hK
      go_simp
      refine (HG.out 0 0 Axx nxx cxx (l.take k) A2 (n - k) (c - k) (l.drop k) _ ((X.sep.own_ 3 rfl).rd) hszk (hb2 ((X.sep.own_ 5 rfl).rd)) (by unfold entSz; rw [List.length_drop]; have := HL.out; omega)).mono ?_
      rintro e w14 ⟨y0, y1, Ayy, nyy, cyy, rfl, o', b9⟩
      have e9 := HGD.out
      have o2 : Has w14 _ (BookM.cells (growM ⟨0, 0, l.take k⟩ (l.drop k)).1) _ := o'
      rw [e9] at o2
      obtain ⟨z0, z1, o⟩ := has_split o2
      have hfl : (growM ⟨0, 0, l.take k⟩ (l.drop k)).2 = true := congrArg Prod.snd e9
      first | rw [hfl] | (simp only [show (growM ⟨0, 0, l.take k⟩ (l.drop k)).2 = true from hfl])
      have z2 : 0 = y0 := z0.symm
      have z3 : 0 = y1 := z1.symm
      clear e9 hfl o' o2 z0 z1
      subst z2 z3
      obtain ⟨fp_yy, X'⟩ := X.has b9 o
      clear X; have X := X'; clear X' b9 o
      clear HF
      have HF : w14.cell? ⟨rx, 0, none⟩ = some (.int .i64 0) ∧ w14.cell? ⟨rx, 1, none⟩ = some (.int .i64 0) ∧ w14.cell? ⟨rx, 2, none⟩ = some (.slice Axx nxx cxx) := ⟨(X.sep.at_ 5 rfl).cell 0, (X.sep.at_ 5 rfl).cell 1, (X.sep.at_ 5 rfl).cell 2⟩
      refine hK _ _ (fun _ => HF) ?_
      clear hK K
      try simp only [Act.put]
      refine wpAnyL_pure (i := 5) (v := ?_) rfl rfl (by kernel_rfl) (by kernel_rfl) (by kernel_rfl) (fun _ _ _ h => h) HF (Or.inl ⟨by rfl, ?_⟩) ?_
      rotate_left 1
      · (intro v _; go_simp; try with_reducible rfl)
      try simp only [Act.put]
      refine wpAnyL_pure (i := 6) (v := ?_) rfl rfl (by kernel_rfl) (by kernel_rfl) (by kernel_rfl) (fun _ _ _ h => h) HF (Or.inl ⟨by rfl, ?_⟩) ?_
      rotate_left 1
      · (intro v _; go_simp; try with_reducible rfl)
      try simp only [Act.put]
      refine wpAnyL_pure (i := 7) (v := ?_) rfl rfl (by kernel_rfl) (by kernel_rfl) (by kernel_rfl) (fun _ _ _ h => h) HF (Or.inl ⟨by rfl, ?_⟩) ?_
      rotate_left 1
      · (intro v _; go_simp; try with_reducible rfl)
      try simp only [Act.put]
      have f9 : w14.cell? ⟨w12.heap.size, 0, none⟩ = some (.int .i64 0) := (X.sep.at_ 1 rfl).cell 0
      have f10 := (X.sep.at_ 1 rfl).free 0
      have f11 : w14.cell? ⟨w12.heap.size, 1, none⟩ = some (.int .i64 0) := (X.sep.at_ 1 rfl).cell 1
      have f12 := (X.sep.at_ 1 rfl).free 1
      have f13 : w14.cell? ⟨w12.heap.size, 2, none⟩ = some (.slice none 0 0) := (X.sep.at_ 1 rfl).cell 2
      have f14 := (X.sep.at_ 1 rfl).free 2
      refine wpAnyL_step (i := 9) (by kernel_rfl) rfl rfl ?_
      intro K hK
      go_simp
      replace X := X.put 1 rfl 0 (.int .i64 0)
      replace X := X.put 1 rfl 1 (.int .i64 0)
      replace X := X.put 1 rfl 2 (.slice Ayy nyy cyy)
      replace X : DrL w1 _ _ _ [_, .blk (w12.heap.size) #[.int .i64 0, .int .i64 0, .slice Ayy nyy cyy] 31, _, .blk (rb) #[.int .i64 0, .int .i64 0, .slice Abx nbx cbx] 31, _, .blk (rx) #[.int .i64 0, .int .i64 0, .slice Axx nxx cxx] 31, _] := X
      clear HF
      have HF : (((w14.setCell ⟨w12.heap.size, 0, none⟩ (.int .i64 0)).setCell ⟨w12.heap.size, 1, none⟩ (.int .i64 0)).setCell ⟨w12.heap.size, 2, none⟩ (.slice Ayy nyy cyy)).cell? ⟨rx, 0, none⟩ = some (.int .i64 0) ∧ (((w14.setCell ⟨w12.heap.size, 0, none⟩ (.int .i64 0)).setCell ⟨w12.heap.size, 1, none⟩ (.int .i64 0)).setCell ⟨w12.heap.size, 2, none⟩ (.slice Ayy nyy cyy)).cell? ⟨rx, 1, none⟩ = some (.int .i64 0) ∧ (((w14.setCell ⟨w12.heap.size, 0, none⟩ (.int .i64 0)).setCell ⟨w12.heap.size, 1, none⟩ (.int .i64 0)).setCell ⟨w12.heap.size, 2, none⟩ (.slice Ayy nyy cyy)).cell? ⟨rx, 2, none⟩ = some (.slice Axx nxx cxx) := ⟨(X.sep.at_ 5 rfl).cell 0, (X.sep.at_ 5 rfl).cell 1, (X.sep.at_ 5 rfl).cell 2⟩
      refine hK _ _ (fun _ => HF) ?_
      clear hK K
      try simp only [Act.put]
      generalize ((w14.setCell ⟨w12.heap.size, 0, none⟩ (.int .i64 0)).setCell ⟨w12.heap.size, 1, none⟩ (.int .i64 0)).setCell ⟨w12.heap.size, 2, none⟩ (.slice Ayy nyy cyy) = w15 at *
      clear f9 f10 f11 f12 f13 f14
      refine wpAnyL_step (i := 10) (by kernel_rfl) rfl rfl ?_
      intro K hK
      go_simp
      refine hK _ _ (fun h => nomatch (show true = false from h)) ?_
      clear hK K
      try simp only [Act.put]
      refine wpAnyL_done (by kernel_rfl) ?_ _
      clear HF
      replace X := X.with_ (X.sep.pick 0 rfl)
      replace X := X.with_ (X.sep.pick 1 rfl)
      replace X := X.with_ (X.sep.sub (.cons_cons _ (.cons_cons _ (.cons_cons _ (.cons_cons _ (.cons_cons _ (.cons_cons _ (.cons_cons _ (List.nil_sublist _)))))))))
      replace X := X.with_ (X.sep.pick 6 rfl)
      replace X := X.with_ (X.sep.pick 6 rfl)
      replace X := X.with_ (X.sep.pick 6 rfl)
      replace X := X.with_ (X.sep.pick 6 rfl)
      replace X := X.with_ (X.sep.pick 6 rfl)
      replace X := X.with_ (X.sep.pick 6 rfl)
      replace X := X.with_ (X.sep.pick 6 rfl)
      go_wp2_with fail
      go_meet
      exact ⟨_, _, _, _, _, rfl, rfl, X⟩
  obtain ⟨pyy, Ayy, nyy, cyy, fp_yy, rfl, rfl, X⟩ := hcut
  clear XH hs2
  generalize wc = w72 at *
  have hw2 : IntKind.i64.wrap ((k : Int) + 2) = (k : Int) + 2 := by rw [IntKind.wrap_i64]; omega
  have HFAR := Lib.hid (fun e2 e3 e4 e5 e6 e7 e8 e9 : Int => app_far (b := ⟨0, 0, l.take k⟩) (e := ⟨(k : Int) + 2, e2, e3, e4, e5, e6, e7, e8, e9⟩) HBK.out (by unfold lastB; show (k : Int) + 2 ≠ 0 + ((l.take k).length : Int) + 1; have := HKL.out; omega))
  have XH := Lib.hid X
  clear X
  go_wp2_with fail
  go_cut [13, 14] (fun s0 s1 wx => ∃ (pzz : Nat) (Azz : Option Addr) (nzz czz : Nat) (fp_zz : List Nat), s0 = .pointer (some ⟨pzz, 0, none⟩) ∧ s1 = .bool false ∧ DrL w1 wx w.heap.size w.heap.size [.blk pzz #[.int .i64 0, .int .i64 0, .slice Azz nzz czz] 31, .own [entD (l.take k)] [.slice Azz nzz czz] fp_zz, .blk pyy #[.int .i64 0, .int .i64 0, .slice Ayy nyy cyy] 31, .own [entD l] [.slice Ayy nyy cyy] fp_yy, .own [entD l] [.slice Abx nbx cbx] fp_bx, .blk rb #[.int .i64 0, .int .i64 0, .slice Abx nbx cbx] 31, .own [entD (l.take k)] [.slice Axx nxx cxx] fp_xx, .blk rx #[.int .i64 0, .int .i64 0, .slice Axx nxx cxx] 31, .own [entD l] [.slice A n c] fp_l])
  case first =>
    have X := XH.out
    clear XH
    refine wp_region_L (fun v => v.cell? ⟨rx, 0, none⟩ = some (.int .i64 0) ∧ v.cell? ⟨rx, 1, none⟩ = some (.int .i64 0) ∧ v.cell? ⟨rx, 2, none⟩ = some (.slice Axx nxx cxx)) 12 (by kernel_rfl) ?_
    replace X := X.drew
    generalize w72.drew = w73 at *
    have HF : w73.cell? ⟨rx, 0, none⟩ = some (.int .i64 0) ∧ w73.cell? ⟨rx, 1, none⟩ = some (.int .i64 0) ∧ w73.cell? ⟨rx, 2, none⟩ = some (.slice Axx nxx cxx) := ⟨(X.sep.at_ 5 rfl).cell 0, (X.sep.at_ 5 rfl).cell 1, (X.sep.at_ 5 rfl).cell 2⟩
    refine wpAnyL_take (i := 0) (v := ?_) rfl rfl (by kernel_rfl) (by kernel_rfl) (by kernel_rfl) (by kernel_rfl) (by kernel_rfl) (fun _ _ _ h => h) HF (Or.inl ⟨by rfl, ?_⟩) ?_
    rotate_left 1
    · (rintro v ⟨a0, a1, a2⟩; go_simp; try with_reducible rfl)
    try simp only [Act.put]
    refine wpAnyL_pure (i := 1) (v := ?_) rfl rfl (by kernel_rfl) (by kernel_rfl) (by kernel_rfl) (fun _ _ _ h => h) HF (Or.inl ⟨by rfl, ?_⟩) ?_
    rotate_left 1
    · (intro v _; go_simp; try with_reducible rfl)
    try simp only [Act.put]
    refine wpAnyL_pure (i := 2) (v := ?_) rfl rfl (by kernel_rfl) (by kernel_rfl) (by kernel_rfl) (fun _ _ _ h => h) HF (Or.inl ⟨by rfl, ?_⟩) ?_
    rotate_left 1
    · (intro v _; go_simp; try with_reducible rfl)
    try simp only [Act.put]
    refine wpAnyL_pure (i := 3) (v := ?_) rfl rfl (by kernel_rfl) (by kernel_rfl) (by kernel_rfl) (fun _ _ _ h => h) HF (Or.inl ⟨by rfl, ?_⟩) ?_
    rotate_left 1
    · (intro v _; go_simp; try with_reducible rfl)
    try simp only [Act.put]
    refine wpAnyL_two (i := 4) (k := 10) (by kernel_rfl) rfl rfl rfl rfl ?_ ?_
    · intro K hK
      go_simp
      refine (w9op_any _ _ _ X.cur).mono ?_
      rintro e w74 ⟨v0, v1, v2, v3, v4, hop, rfl, cu, gr⟩
      replace X := X.draw cu gr
      clear cu gr
      clear HF
      have HF : w74.cell? ⟨rx, 0, none⟩ = some (.int .i64 0) ∧ w74.cell? ⟨rx, 1, none⟩ = some (.int .i64 0) ∧ w74.cell? ⟨rx, 2, none⟩ = some (.slice Axx nxx cxx) := ⟨(X.sep.at_ 5 rfl).cell 0, (X.sep.at_ 5 rfl).cell 1, (X.sep.at_ 5 rfl).cell 2⟩
      refine hK _ _ (fun _ => HF) ?_
      clear hK K
      try simp only [Act.put]
      refine wpAnyL_pure (i := 5) (v := ?_) rfl rfl (by kernel_rfl) (by kernel_rfl) (by kernel_rfl) (fun _ _ _ h => h) HF (Or.inl ⟨by rfl, ?_⟩) ?_
      rotate_left 1
      · (intro v _; go_simp; try with_reducible rfl)
      try simp only [Act.put]
      refine wpAnyL_two (i := 6) (k := 10) (by kernel_rfl) rfl rfl rfl rfl ?_ ?_
      · intro K hK
        go_simp
        refine (HA.out 0 0 Axx nxx cxx (l.take k) ((k : Int) + 2) 90000 4 1 v0 v1 v2 v3 v4 _ ((X.sep.own_ 4 rfl).rd) hszk).mono ?_
        rintro e w75 ⟨y0, y1, Azz, nzz, czz, rfl, o', b9⟩
        have e9 := HFAR.out 90000 4 1 v0 v1 v2 v3 v4
        have o2 : Has w75 _ (BookM.cells (appM ⟨0, 0, l.take k⟩ ⟨(k : Int) + 2, 90000, 4, 1, v0, v1, v2, v3, v4⟩).1) _ := o'
        rw [e9] at o2
        obtain ⟨z0, z1, o⟩ := has_split o2
        have hfl : (appM ⟨0, 0, l.take k⟩ ⟨(k : Int) + 2, 90000, 4, 1, v0, v1, v2, v3, v4⟩).2 = false := congrArg Prod.snd e9
        first | rw [hfl] | (simp only [show (appM ⟨0, 0, l.take k⟩ ⟨(k : Int) + 2, 90000, 4, 1, v0, v1, v2, v3, v4⟩).2 = false from hfl])
        have z2 : 0 = y0 := z0.symm
        have z3 : 0 = y1 := z1.symm
        clear e9 hfl o' o2 z0 z1
        subst z2 z3
        obtain ⟨fp_zz, X'⟩ := X.has b9 o
        clear X; have X := X'; clear X' b9 o
        clear HF
        have HF : w75.cell? ⟨rx, 0, none⟩ = some (.int .i64 0) ∧ w75.cell? ⟨rx, 1, none⟩ = some (.int .i64 0) ∧ w75.cell? ⟨rx, 2, none⟩ = some (.slice Axx nxx cxx) := ⟨(X.sep.at_ 6 rfl).cell 0, (X.sep.at_ 6 rfl).cell 1, (X.sep.at_ 6 rfl).cell 2⟩
        refine hK _ _ (fun _ => HF) ?_
        clear hK K
        try simp only [Act.put]
        refine wpAnyL_pure (i := 7) (v := ?_) rfl rfl (by kernel_rfl) (by kernel_rfl) (by kernel_rfl) (fun _ _ _ h => h) HF (Or.inl ⟨by rfl, ?_⟩) ?_
        rotate_left 1
        · (intro v _; go_simp; try with_reducible rfl)
        try simp only [Act.put]
        refine wpAnyL_pure (i := 8) (v := ?_) rfl rfl (by kernel_rfl) (by kernel_rfl) (by kernel_rfl) (fun _ _ _ h => h) HF (Or.inl ⟨by rfl, ?_⟩) ?_
        rotate_left 1
        · (intro v _; go_simp; try with_reducible rfl)
        try simp only [Act.put]
        refine wpAnyL_pure (i := 9) (v := ?_) rfl rfl (by kernel_rfl) (by kernel_rfl) (by kernel_rfl) (fun _ _ _ h => h) HF (Or.inl ⟨by rfl, ?_⟩) ?_
        rotate_left 1
        · (intro v _; go_simp; try with_reducible rfl)
        try simp only [Act.put]
        refine wpAnyL_step (i := 10) (by kernel_rfl) rfl rfl ?_
        intro K hK
        go_simp
        replace X := X.boxAt (w75.heap.size) rfl #[.int .i64 0, .int .i64 0, .slice none 0 0] 31
        clear HF
        have HF : (w75.alloc (.cells #[.int .i64 0, .int .i64 0, .slice none 0 0] 31)).cell? ⟨rx, 0, none⟩ = some (.int .i64 0) ∧ (w75.alloc (.cells #[.int .i64 0, .int .i64 0, .slice none 0 0] 31)).cell? ⟨rx, 1, none⟩ = some (.int .i64 0) ∧ (w75.alloc (.cells #[.int .i64 0, .int .i64 0, .slice none 0 0] 31)).cell? ⟨rx, 2, none⟩ = some (.slice Axx nxx cxx) := ⟨(X.sep.at_ 7 rfl).cell 0, (X.sep.at_ 7 rfl).cell 1, (X.sep.at_ 7 rfl).cell 2⟩
        refine hK _ _ (fun _ => HF) ?_
        clear hK K
        try simp only [Act.put]
        generalize hw : w75.alloc (.cells #[.int .i64 0, .int .i64 0, .slice none 0 0] 31) = w76 at *
        clear hw
        have f9 : w76.cell? ⟨w75.heap.size, 0, none⟩ = some (.int .i64 0) := (X.sep.at_ 0 rfl).cell 0
        have f10 := (X.sep.at_ 0 rfl).free 0
        have f11 : w76.cell? ⟨w75.heap.size, 1, none⟩ = some (.int .i64 0) := (X.sep.at_ 0 rfl).cell 1
        have f12 := (X.sep.at_ 0 rfl).free 1
        have f13 : w76.cell? ⟨w75.heap.size, 2, none⟩ = some (.slice none 0 0) := (X.sep.at_ 0 rfl).cell 2
        have f14 := (X.sep.at_ 0 rfl).free 2
        refine wpAnyL_step (i := 11) (by kernel_rfl) rfl rfl ?_
        intro K hK
        go_simp
        replace X := X.put 0 rfl 0 (.int .i64 0)
        replace X := X.put 0 rfl 1 (.int .i64 0)
        replace X := X.put 0 rfl 2 (.slice Azz nzz czz)
        replace X : DrL w1 _ _ _ [.blk (w75.heap.size) #[.int .i64 0, .int .i64 0, .slice Azz nzz czz] 31, _, .blk (pyy) #[.int .i64 0, .int .i64 0, .slice Ayy nyy cyy] 31, _, _, .blk (rb) #[.int .i64 0, .int .i64 0, .slice Abx nbx cbx] 31, _, .blk (rx) #[.int .i64 0, .int .i64 0, .slice Axx nxx cxx] 31, _] := X
        clear HF
        have HF : (((w76.setCell ⟨w75.heap.size, 0, none⟩ (.int .i64 0)).setCell ⟨w75.heap.size, 1, none⟩ (.int .i64 0)).setCell ⟨w75.heap.size, 2, none⟩ (.slice Azz nzz czz)).cell? ⟨rx, 0, none⟩ = some (.int .i64 0) ∧ (((w76.setCell ⟨w75.heap.size, 0, none⟩ (.int .i64 0)).setCell ⟨w75.heap.size, 1, none⟩ (.int .i64 0)).setCell ⟨w75.heap.size, 2, none⟩ (.slice Azz nzz czz)).cell? ⟨rx, 1, none⟩ = some (.int .i64 0) ∧ (((w76.setCell ⟨w75.heap.size, 0, none⟩ (.int .i64 0)).setCell ⟨w75.heap.size, 1, none⟩ (.int .i64 0)).setCell ⟨w75.heap.size, 2, none⟩ (.slice Azz nzz czz)).cell? ⟨rx, 2, none⟩ = some (.slice Axx nxx cxx) := ⟨(X.sep.at_ 7 rfl).cell 0, (X.sep.at_ 7 rfl).cell 1, (X.sep.at_ 7 rfl).cell 2⟩
        refine hK _ _ (fun _ => HF) ?_
        clear hK K
        try simp only [Act.put]
        generalize ((w76.setCell ⟨w75.heap.size, 0, none⟩ (.int .i64 0)).setCell ⟨w75.heap.size, 1, none⟩ (.int .i64 0)).setCell ⟨w75.heap.size, 2, none⟩ (.slice Azz nzz czz) = w77 at *
        clear f9 f10 f11 f12 f13 f14
        refine wpAnyL_step (i := 12) (by kernel_rfl) rfl rfl ?_
        intro K hK
        go_simp
        refine hK _ _ (fun h => nomatch (show true = false from h)) ?_
        clear hK K
        try simp only [Act.put]
        refine wpAnyL_done (by kernel_rfl) ?_ _
        clear HF
        replace X := X.with_ (X.sep.pick 1 rfl)
        replace X := X.with_ (X.sep.pick 1 rfl)
        replace X := X.with_ (X.sep.sub (.cons_cons _ (.cons_cons _ (.cons_cons _ (.cons_cons _ (.cons_cons _ (.cons_cons _ (.cons_cons _ (.cons_cons _ (.cons_cons _ (List.nil_sublist _)))))))))))
        replace X := X.with_ (X.sep.pick 8 rfl)
        replace X := X.with_ (X.sep.pick 8 rfl)
        replace X := X.with_ (X.sep.pick 8 rfl)
        replace X := X.with_ (X.sep.pick 8 rfl)
        replace X := X.with_ (X.sep.pick 8 rfl)
        replace X := X.with_ (X.sep.pick 8 rfl)
        replace X := X.with_ (X.sep.pick 8 rfl)
        replace X := X.with_ (X.sep.pick 8 rfl)
        replace X := X.with_ (X.sep.pick 8 rfl)
        go_wp2_with fail
        go_meet
        exact ⟨_, _, _, _, _, rfl, rfl, X⟩
      · intro K hK
        go_simp
        replace X := X.boxAt (w74.heap.size) rfl #[.int .i64 0, .int .i64 0, .slice none 0 0] 31
        clear HF
        have HF : (w74.alloc (.cells #[.int .i64 0, .int .i64 0, .slice none 0 0] 31)).cell? ⟨rx, 0, none⟩ = some (.int .i64 0) ∧ (w74.alloc (.cells #[.int .i64 0, .int .i64 0, .slice none 0 0] 31)).cell? ⟨rx, 1, none⟩ = some (.int .i64 0) ∧ (w74.alloc (.cells #[.int .i64 0, .int .i64 0, .slice none 0 0] 31)).cell? ⟨rx, 2, none⟩ = some (.slice Axx nxx cxx) := ⟨(X.sep.at_ 6 rfl).cell 0, (X.sep.at_ 6 rfl).cell 1, (X.sep.at_ 6 rfl).cell 2⟩
        refine hK _ _ (fun _ => HF) ?_
        clear hK K
        try simp only [Act.put]
        generalize hw : w74.alloc (.cells #[.int .i64 0, .int .i64 0, .slice none 0 0] 31) = w75 at *
        clear hw
        refine wpAnyL_step (i := 6) (by kernel_rfl) rfl rfl ?_
        intro K hK
        go_simp
        refine (HA.out 0 0 Axx nxx cxx (l.take k) ((k : Int) + 2) 90000 4 1 v0 v1 v2 v3 v4 _ ((X.sep.own_ 5 rfl).rd) hszk).mono ?_
        rintro e w76 ⟨y0, y1, Azz, nzz, czz, rfl, o', b9⟩
        have e9 := HFAR.out 90000 4 1 v0 v1 v2 v3 v4
        have o2 : Has w76 _ (BookM.cells (appM ⟨0, 0, l.take k⟩ ⟨(k : Int) + 2, 90000, 4, 1, v0, v1, v2, v3, v4⟩).1) _ := o'
        rw [e9] at o2
        obtain ⟨z0, z1, o⟩ := has_split o2
        have hfl : (appM ⟨0, 0, l.take k⟩ ⟨(k : Int) + 2, 90000, 4, 1, v0, v1, v2, v3, v4⟩).2 = false := congrArg Prod.snd e9
        first | rw [hfl] | (simp only [show (appM ⟨0, 0, l.take k⟩ ⟨(k : Int) + 2, 90000, 4, 1, v0, v1, v2, v3, v4⟩).2 = false from hfl])
        have z2 : 0 = y0 := z0.symm
        have z3 : 0 = y1 := z1.symm
        clear e9 hfl o' o2 z0 z1
        subst z2 z3
        obtain ⟨fp_zz, X'⟩ := X.has b9 o
        clear X; have X := X'; clear X' b9 o
        clear HF
        have HF : w76.cell? ⟨rx, 0, none⟩ = some (.int .i64 0) ∧ w76.cell? ⟨rx, 1, none⟩ = some (.int .i64 0) ∧ w76.cell? ⟨rx, 2, none⟩ = some (.slice Axx nxx cxx) := ⟨(X.sep.at_ 7 rfl).cell 0, (X.sep.at_ 7 rfl).cell 1, (X.sep.at_ 7 rfl).cell 2⟩
        refine hK _ _ (fun _ => HF) ?_
        clear hK K
        try simp only [Act.put]
        refine wpAnyL_pure (i := 7) (v := ?_) rfl rfl (by kernel_rfl) (by kernel_rfl) (by kernel_rfl) (fun _ _ _ h => h) HF (Or.inl ⟨by rfl, ?_⟩) ?_
        rotate_left 1
        · (intro v _; go_simp; try with_reducible rfl)
        try simp only [Act.put]
        refine wpAnyL_pure (i := 8) (v := ?_) rfl rfl (by kernel_rfl) (by kernel_rfl) (by kernel_rfl) (fun _ _ _ h => h) HF (Or.inl ⟨by rfl, ?_⟩) ?_
        rotate_left 1
        · (intro v _; go_simp; try with_reducible rfl)
        try simp only [Act.put]
        refine wpAnyL_pure (i := 9) (v := ?_) rfl rfl (by kernel_rfl) (by kernel_rfl) (by kernel_rfl) (fun _ _ _ h => h) HF (Or.inl ⟨by rfl, ?_⟩) ?_
        rotate_left 1
        · (intro v _; go_simp; try with_reducible rfl)
        try simp only [Act.put]
        have f9 : w76.cell? ⟨w74.heap.size, 0, none⟩ = some (.int .i64 0) := (X.sep.at_ 1 rfl).cell 0
        have f10 := (X.sep.at_ 1 rfl).free 0
        have f11 : w76.cell? ⟨w74.heap.size, 1, none⟩ = some (.int .i64 0) := (X.sep.at_ 1 rfl).cell 1
        have f12 := (X.sep.at_ 1 rfl).free 1
        have f13 : w76.cell? ⟨w74.heap.size, 2, none⟩ = some (.slice none 0 0) := (X.sep.at_ 1 rfl).cell 2
        have f14 := (X.sep.at_ 1 rfl).free 2
        refine wpAnyL_step (i := 11) (by kernel_rfl) rfl rfl ?_
        intro K hK
        go_simp
        replace X := X.put 1 rfl 0 (.int .i64 0)
        replace X := X.put 1 rfl 1 (.int .i64 0)
        replace X := X.put 1 rfl 2 (.slice Azz nzz czz)
        replace X : DrL w1 _ _ _ [_, .blk (w74.heap.size) #[.int .i64 0, .int .i64 0, .slice Azz nzz czz] 31, .blk (pyy) #[.int .i64 0, .int .i64 0, .slice Ayy nyy cyy] 31, _, _, .blk (rb) #[.int .i64 0, .int .i64 0, .slice Abx nbx cbx] 31, _, .blk (rx) #[.int .i64 0, .int .i64 0, .slice Axx nxx cxx] 31, _] := X
        clear HF
        have HF : (((w76.setCell ⟨w74.heap.size, 0, none⟩ (.int .i64 0)).setCell ⟨w74.heap.size, 1, none⟩ (.int .i64 0)).setCell ⟨w74.heap.size, 2, none⟩ (.slice Azz nzz czz)).cell? ⟨rx, 0, none⟩ = some (.int .i64 0) ∧ (((w76.setCell ⟨w74.heap.size, 0, none⟩ (.int .i64 0)).setCell ⟨w74.heap.size, 1, none⟩ (.int .i64 0)).setCell ⟨w74.heap.size, 2, none⟩ (.slice Azz nzz czz)).cell? ⟨rx, 1, none⟩ = some (.int .i64 0) ∧ (((w76.setCell ⟨w74.heap.size, 0, none⟩ (.int .i64 0)).setCell ⟨w74.heap.size, 1, none⟩ (.int .i64 0)).setCell ⟨w74.heap.size, 2, none⟩ (.slice Azz nzz czz)).cell? ⟨rx, 2, none⟩ = some (.slice Axx nxx cxx) := ⟨(X.sep.at_ 7 rfl).cell 0, (X.sep.at_ 7 rfl).cell 1, (X.sep.at_ 7 rfl).cell 2⟩
        refine hK _ _ (fun _ => HF) ?_
        clear hK K
        try simp only [Act.put]
        generalize ((w76.setCell ⟨w74.heap.size, 0, none⟩ (.int .i64 0)).setCell ⟨w74.heap.size, 1, none⟩ (.int .i64 0)).setCell ⟨w74.heap.size, 2, none⟩ (.slice Azz nzz czz) = w77 at *
        clear f9 f10 f11 f12 f13 f14
        refine wpAnyL_step (i := 12) (by kernel_rfl) rfl rfl ?_
        intro K hK
        go_simp
        refine hK _ _ (fun h => nomatch (show true = false from h)) ?_
        clear hK K
        try simp only [Act.put]
        refine wpAnyL_done (by kernel_rfl) ?_ _
        clear HF
        replace X := X.with_ (X.sep.pick 0 rfl)
        replace X := X.with_ (X.sep.pick 1 rfl)
        replace X := X.with_ (X.sep.sub (.cons_cons _ (.cons_cons _ (.cons_cons _ (.cons_cons _ (.cons_cons _ (.cons_cons _ (.cons_cons _ (.cons_cons _ (.cons_cons _ (List.nil_sublist _)))))))))))
        replace X := X.with_ (X.sep.pick 8 rfl)
        replace X := X.with_ (X.sep.pick 8 rfl)
        replace X := X.with_ (X.sep.pick 8 rfl)
        replace X := X.with_ (X.sep.pick 8 rfl)
        replace X := X.with_ (X.sep.pick 8 rfl)
        replace X := X.with_ (X.sep.pick 8 rfl)
        replace X := X.with_ (X.sep.pick 8 rfl)
        replace X := X.with_ (X.sep.pick 8 rfl)
        replace X := X.with_ (X.sep.pick 8 rfl)
        go_wp2_with fail
        go_meet
        exact ⟨_, _, _, _, _, rfl, rfl, X⟩
    · intro K hK
      go_simp
      replace X := X.boxAt (w73.heap.size) rfl #[.int .i64 0, .int .i64 0, .slice none 0 0] 31
      clear HF
      have HF : (w73.alloc (.cells #[.int .i64 0, .int .i64 0, .slice none 0 0] 31)).cell? ⟨rx, 0, none⟩ = some (.int .i64 0) ∧ (w73.alloc (.cells #[.int .i64 0, .int .i64 0, .slice none 0 0] 31)).cell? ⟨rx, 1, none⟩ = some (.int .i64 0) ∧ (w73.alloc (.cells #[.int .i64 0, .int .i64 0, .slice none 0 0] 31)).cell? ⟨rx, 2, none⟩ = some (.slice Axx nxx cxx) := ⟨(X.sep.at_ 6 rfl).cell 0, (X.sep.at_ 6 rfl).cell 1, (X.sep.at_ 6 rfl).cell 2⟩
      refine hK _ _ (fun _ => HF) ?_
      clear hK K
      try simp only [Act.put]
      generalize hw : w73.alloc (.cells #[.int .i64 0, .int .i64 0, .slice none 0 0] 31) = w74 at *
      clear hw
      refine wpAnyL_step (i := 4) (by kernel_rfl) rfl rfl ?_
      intro K hK
      go_simp
      refine (w9op_any _ _ _ X.cur).mono ?_
      rintro e w75 ⟨v0, v1, v2, v3, v4, hop, rfl, cu, gr⟩
      replace X := X.draw cu gr
      clear cu gr
      clear HF
      have HF : w75.cell? ⟨rx, 0, none⟩ = some (.int .i64 0) ∧ w75.cell? ⟨rx, 1, none⟩ = some (.int .i64 0) ∧ w75.cell? ⟨rx, 2, none⟩ = some (.slice Axx nxx cxx) := ⟨(X.sep.at_ 6 rfl).cell 0, (X.sep.at_ 6 rfl).cell 1, (X.sep.at_ 6 rfl).cell 2⟩
      refine hK _ _ (fun _ => HF) ?_
      clear hK K
      try simp only [Act.put]
      refine wpAnyL_pure (i := 5) (v := ?_) rfl rfl (by kernel_rfl) (by kernel_rfl) (by kernel_rfl) (fun _ _ _ h => h) HF (Or.inl ⟨by rfl, ?_⟩) ?_
      rotate_left 1
      · (intro v _; go_simp; try with_reducible rfl)
      try simp only [Act.put]
      refine wpAnyL_step (i := 6) (by kernel_rfl) rfl rfl ?_
      intro K hK
      go_simp
      refine (HA.out 0 0 Axx nxx cxx (l.take k) ((k : Int) + 2) 90000 4 1 v0 v1 v2 v3 v4 _ ((X.sep.own_ 5 rfl).rd) hszk).mono ?_
      rintro e w76 ⟨y0, y1, Azz, nzz, czz, rfl, o', b9⟩
      have e9 := HFAR.out 90000 4 1 v0 v1 v2 v3 v4
      have o2 : Has w76 _ (BookM.cells (appM ⟨0, 0, l.take k⟩ ⟨(k : Int) + 2, 90000, 4, 1, v0, v1, v2, v3, v4⟩).1) _ := o'
      rw [e9] at o2
      obtain ⟨z0, z1, o⟩ := has_split o2
      have hfl : (appM ⟨0, 0, l.take k⟩ ⟨(k : Int) + 2, 90000, 4, 1, v0, v1, v2, v3, v4⟩).2 = false := congrArg Prod.snd e9
      first | rw [hfl] | (simp only [show (appM ⟨0, 0, l.take k⟩ ⟨(k : Int) + 2, 90000, 4, 1, v0, v1, v2, v3, v4⟩).2 = false from hfl])
      have z2 : 0 = y0 := z0.symm
      have z3 : 0 = y1 := z1.symm
      clear e9 hfl o' o2 z0 z1
      subst z2 z3
      obtain ⟨fp_zz, X'⟩ := X.has b9 o
      clear X; have X := X'; clear X' b9 o
      clear HF
      have HF : w76.cell? ⟨rx, 0, none⟩ = some (.int .i64 0) ∧ w76.cell? ⟨rx, 1, none⟩ = some (.int .i64 0) ∧ w76.cell? ⟨rx, 2, none⟩ = some (.slice Axx nxx cxx) := ⟨(X.sep.at_ 7 rfl).cell 0, (X.sep.at_ 7 rfl).cell 1, (X.sep.at_ 7 rfl).cell 2⟩
      refine hK _ _ (fun _ => HF) ?_
      clear hK K
      try simp only [Act.put]
      refine wpAnyL_pure (i := 7) (v := ?_) rfl rfl (by kernel_rfl) (by kernel_rfl) (by kernel_rfl) (fun _ _ _ h => h) HF (Or.inl ⟨by rfl, ?_⟩) ?_
      rotate_left 1
      · (intro v _; go_simp; try with_reducible rfl)
      try simp only [Act.put]
      refine wpAnyL_pure (i := 8) (v := ?_) rfl rfl (by kernel_rfl) (by kernel_rfl) (by kernel_rfl) (fun _ _ _ h => h) HF (Or.inl ⟨by rfl, ?_⟩) ?_
      rotate_left 1
      · (intro v _; go_simp; try with_reducible rfl)
      try simp only [Act.put]
      refine wpAnyL_pure (i := 9) (v := ?_) rfl rfl (by kernel_rfl) (by kernel_rfl) (by kernel_rfl) (fun _ _ _ h => h) HF (Or.inl ⟨by rfl, ?_⟩) ?_
      rotate_left 1
      · (intro v _; go_simp; try with_reducible rfl)
      try simp only [Act.put]
      have f9 : w76.cell? ⟨w73.heap.size, 0, none⟩ = some (.int .i64 0) := (X.sep.at_ 1 rfl).cell 0
      have f10 := (X.sep.at_ 1 rfl).free 0
      have f11 : w76.cell? ⟨w73.heap.size, 1, none⟩ = some (.int .i64 0) := (X.sep.at_ 1 rfl).cell 1
      have f12 := (X.sep.at_ 1 rfl).free 1
      have f13 : w76.cell? ⟨w73.heap.size, 2, none⟩ = some (.slice none 0 0) := (X.sep.at_ 1 rfl).cell 2
      have f14 := (X.sep.at_ 1 rfl).free 2
      refine wpAnyL_step (i := 11) (by kernel_rfl) rfl rfl ?_
      intro K hK
      go_simp
      replace X := X.put 1 rfl 0 (.int .i64 0)
      replace X := X.put 1 rfl 1 (.int .i64 0)
      replace X := X.put 1 rfl 2 (.slice Azz nzz czz)
      replace X : DrL w1 _ _ _ [_, .blk (w73.heap.size) #[.int .i64 0, .int .i64 0, .slice Azz nzz czz] 31, .blk (pyy) #[.int .i64 0, .int .i64 0, .slice Ayy nyy cyy] 31, _, _, .blk (rb) #[.int .i64 0, .int .i64 0, .slice Abx nbx cbx] 31, _, .blk (rx) #[.int .i64 0, .int .i64 0, .slice Axx nxx cxx] 31, _] := X
      clear HF
      have HF : (((w76.setCell ⟨w73.heap.size, 0, none⟩ (.int .i64 0)).setCell ⟨w73.heap.size, 1, none⟩ (.int .i64 0)).setCell ⟨w73.heap.size, 2, none⟩ (.slice Azz nzz czz)).cell? ⟨rx, 0, none⟩ = some (.int .i64 0) ∧ (((w76.setCell ⟨w73.heap.size, 0, none⟩ (.int .i64 0)).setCell ⟨w73.heap.size, 1, none⟩ (.int .i64 0)).setCell ⟨w73.heap.size, 2, none⟩ (.slice Azz nzz czz)).cell? ⟨rx, 1, none⟩ = some (.int .i64 0) ∧ (((w76.setCell ⟨w73.heap.size, 0, none⟩ (.int .i64 0)).setCell ⟨w73.heap.size, 1, none⟩ (.int .i64 0)).setCell ⟨w73.heap.size, 2, none⟩ (.slice Azz nzz czz)).cell? ⟨rx, 2, none⟩ = some (.slice Axx nxx cxx) := ⟨(X.sep.at_ 7 rfl).cell 0, (X.sep.at_ 7 rfl).cell 1, (X.sep.at_ 7 rfl).cell 2⟩
      refine hK _ _ (fun _ => HF) ?_
      clear hK K
      try simp only [Act.put]
      generalize ((w76.setCell ⟨w73.heap.size, 0, none⟩ (.int .i64 0)).setCell ⟨w73.heap.size, 1, none⟩ (.int .i64 0)).setCell ⟨w73.heap.size, 2, none⟩ (.slice Azz nzz czz) = w77 at *
      clear f9 f10 f11 f12 f13 f14
      refine wpAnyL_step (i := 12) (by kernel_rfl) rfl rfl ?_
      intro K hK
      go_simp
      refine hK _ _ (fun h => nomatch (show true = false from h)) ?_
      clear hK K
      try simp only [Act.put]
      refine wpAnyL_done (by kernel_rfl) ?_ _
      clear HF
      replace X := X.with_ (X.sep.pick 0 rfl)
      replace X := X.with_ (X.sep.pick 1 rfl)
      replace X := X.with_ (X.sep.sub (.cons_cons _ (.cons_cons _ (.cons_cons _ (.cons_cons _ (.cons_cons _ (.cons_cons _ (.cons_cons _ (.cons_cons _ (.cons_cons _ (List.nil_sublist _)))))))))))
      replace X := X.with_ (X.sep.pick 8 rfl)
      replace X := X.with_ (X.sep.pick 8 rfl)
      replace X := X.with_ (X.sep.pick 8 rfl)
      replace X := X.with_ (X.sep.pick 8 rfl)
      replace X := X.with_ (X.sep.pick 8 rfl)
      replace X := X.with_ (X.sep.pick 8 rfl)
      replace X := X.with_ (X.sep.pick 8 rfl)
      replace X := X.with_ (X.sep.pick 8 rfl)
      replace X := X.with_ (X.sep.pick 8 rfl)
      go_wp2_with fail
      go_meet
      exact ⟨_, _, _, _, _, rfl, rfl, X⟩
  obtain ⟨pzz, Azz, nzz, czz, fp_zz, rfl, rfl, X⟩ := hcut
  clear XH
  generalize wc = w133 at *
  have f9 : w133.cell? ⟨pyy, 0, none⟩ = some (.int .i64 0) := (X.sep.at_ 2 rfl).cell 0
  have f10 : w133.cell? ⟨pyy, 1, none⟩ = some (.int .i64 0) := (X.sep.at_ 2 rfl).cell 1
  have f11 : w133.cell? ⟨pyy, 2, none⟩ = some (.slice Ayy nyy cyy) := (X.sep.at_ 2 rfl).cell 2
  have f12 : w133.cell? ⟨rb, 0, none⟩ = some (.int .i64 0) := (X.sep.at_ 5 rfl).cell 0
  have f13 : w133.cell? ⟨rb, 1, none⟩ = some (.int .i64 0) := (X.sep.at_ 5 rfl).cell 1
  have f14 : w133.cell? ⟨rb, 2, none⟩ = some (.slice Abx nbx cbx) := (X.sep.at_ 5 rfl).cell 2
  go_wp2_with fail
  refine (HS.out 0 0 0 0 Ayy Abx nyy cyy nbx cbx l l _ ((X.sep.own_ 3 rfl).rd) hsz ((X.sep.own_ 4 rfl).rd) hsz).mono ?_
  rintro e w134 ⟨rfl, b1⟩
  rw [(show sameBook ⟨0, 0, l⟩ ⟨0, 0, l⟩ = true from (sameBook_iff _ _).2 rfl)]
  replace X := X.keep b1
  clear b1 f9 f10 f11 f12 f13 f14
  have f15 : w134.cell? ⟨pzz, 0, none⟩ = some (.int .i64 0) := (X.sep.at_ 0 rfl).cell 0
  have f16 : w134.cell? ⟨pzz, 1, none⟩ = some (.int .i64 0) := (X.sep.at_ 0 rfl).cell 1
  have f17 : w134.cell? ⟨pzz, 2, none⟩ = some (.slice Azz nzz czz) := (X.sep.at_ 0 rfl).cell 2
  have f18 : w134.cell? ⟨rx, 0, none⟩ = some (.int .i64 0) := (X.sep.at_ 7 rfl).cell 0
  have f19 : w134.cell? ⟨rx, 1, none⟩ = some (.int .i64 0) := (X.sep.at_ 7 rfl).cell 1
  have f20 : w134.cell? ⟨rx, 2, none⟩ = some (.slice Axx nxx cxx) := (X.sep.at_ 7 rfl).cell 2
  go_wp2_with fail
  refine (HS.out 0 0 0 0 Azz Axx nzz czz nxx cxx (l.take k) (l.take k) _ ((X.sep.own_ 1 rfl).rd) hszk ((X.sep.own_ 6 rfl).rd) hszk).mono ?_
  rintro e w135 ⟨rfl, b1⟩
  rw [(show sameBook ⟨0, 0, l.take k⟩ ⟨0, 0, l.take k⟩ = true from (sameBook_iff _ _).2 rfl)]
  replace X := X.keep b1
  clear b1 f15 f16 f17 f18 f19 f20
  have C := Lib.hid (B1.out.trans (grown_below X.grown B1.out.size (fun k hk => by injection hk with hk; omega)))
  clear X
  go_wp2
  go_ret
  exact ⟨rfl, C.out⟩

end Go.Proofs.Ytjbhldfkkmkilaa
