/-
  The law FnBookParts, over the contracts of the program's functions: it answers true at every slice of bytes, and writes nothing that was there (by program, wip/gen/genbookp.py).
-/
import Derived.Test.YtjbhldfkkmkilaaBookC
import Derived.Test.YtjbhldfkkmkilaaBookU
import Derived.Test.YtjbhldfkkmkilaaBookV
import Derived.Test.YtjbhldfkkmkilaaBookW
import Derived.Test.YtjbhldfkkmkilaaCls
import Derived.RegionTactic
import Derived.BigQuiet
import Derived.Deep.DeepCutAuto
namespace Go.Proofs.Ytjbhldfkkmkilaa
set_option maxRecDepth 100000
open Go.RowKit

theorem rd_none (w : World) (B : Nat) : Rd w B [entD []] [.slice none 0 0] := Rd.of_lst (us := []) entC_len rfl (Nat.le_refl _) (Nat.zero_le _) (fun h => absurd h (by omega)) (by simpa using Rd.nil)
set_option maxHeartbeats 12800000 in
theorem lawBookParts (hG : CGrown 20) (hS : CSameBook 21) (hT0 : CLastOf 22) (hK : CBookOk 23) (hT : CTimeOf 24) (hE : CEntryAt 25) (hP : CPartOf 27)
    (A : Option Addr) (n c0 : Nat) (w : World) (h : BRow w w.heap.size A n) (hm : n ≤ maxLen) :
    Calls Try.prog 3 #[.slice A n c0] w fun e w' => e = .returned (.bool true) ∧ Below w.heap.size w w' := by
  have HG := Lib.hid hG
  have HS := Lib.hid hS
  have HT0 := Lib.hid hT0
  have HK := Lib.hid hK
  have HT := Lib.hid hT
  have HE := Lib.hid hE
  have HP := Lib.hid hP
  clear hG hS hT0 hK hT hE hP
  unfold maxLen at hm
  by_cases hn : 4096 < n
  · clear h
    go_enter Try.func3, Try.ntmps3
    go_wp2_with fail
    refine (lbig_any A n c0 _).mono ?_
    rintro e w' ⟨rfl, rfl⟩
    rw [decide_eq_true hn]
    go_wp2
    go_ret
    exact ⟨rfl, Below.refl _ _⟩
  go_enter Try.func3, Try.ntmps3
  go_wp2_with fail
  refine (lbig_any A n c0 _).mono ?_
  rintro e w' ⟨rfl, rfl⟩
  rw [decide_eq_false hn]
  go_wp2_with fail
  refine (roll_any A n c0 _ h (by omega) _).mono ?_
  rintro e w1 ⟨rfl, cu, b1⟩
  have X := DrL.start cu
  have B1 := Lib.hid b1
  clear b1 cu h
  replace X := X.boxAt (w1.heap.size) rfl #[] 40
  go_wp2_with fail
  generalize w1.alloc (.cells #[] 40) = w2 at *
  refine (lbelow_any _ _ _ X.cur 16 (by decide)).mono ?_
  rintro e w3 ⟨z, hz, rfl, cu, gr⟩
  replace X := X.draw cu gr
  clear cu gr
  obtain ⟨m, rfl⟩ : ∃ m : Nat, z = (m : Int) := ⟨z.toNat, by omega⟩
  have hm : m ≤ 15 := by omega
  clear hz
  go_wp2_with fail
  refine (w9list_any _ _ m (by omega) _ _ _ X.cur).mono ?_
  rintro e w4 ⟨l, A, n, c, hl, hrun, rfl, cu, gr, o⟩
  obtain ⟨fp_l, X'⟩ := X.drawHas cu gr o
  clear X; have X := X'; clear X' cu gr o
  replace X := X.with_ (X.sep.sub (.cons_cons _ (List.nil_sublist _)))
  obtain ⟨_, _, _, e, hln, hnc, hcm, _⟩ := ((X.sep.own_ 0 rfl).rd).ents
  injection e with e1 e2 e3
  subst e1 e2 e3
  obtain rfl : n = m := by omega
  have HL := Lib.hid hl
  have HR := Lib.hid hrun
  have hl20 : l.length ≤ 20 := by omega
  have HB := Lib.hid (hrun.book hl20)
  have hsz : entSz l ≤ 1048577 := by unfold entSz; omega
  clear hl hln hrun
  have hw1 : IntKind.i64.wrap ((n : Int) + 1) = (n : Int) + 1 := by rw [IntKind.wrap_i64]; omega
  go_wp2_with fail
  refine (lbelow_any _ _ _ X.cur ((n : Int) + 1) (by omega)).mono ?_
  rintro e w5 ⟨z, hz, rfl, cu, gr⟩
  replace X := X.draw cu gr
  clear cu gr
  obtain ⟨k, rfl⟩ : ∃ k : Nat, z = (k : Int) := ⟨z.toNat, by omega⟩
  have hk : k ≤ n := by omega
  clear hz
  have HG0 := Lib.hid (HR.out.grow0 hl20)
  have HGK := Lib.hid ((HR.out.take k).grow0 (by rw [List.length_take]; omega))
  have HGD := Lib.hid (HR.out.grow hl20 k)
  go_wp2_with fail
  refine (HG.out 0 0 none 0 0 [] A n c l _ (rd_none _ _) (by decide) ((X.sep.own_ 0 rfl).rd) hsz).mono ?_
  rintro e w6 ⟨y0, y1, Abx, nbx, cbx, rfl, o', b9⟩
  have e9 := HG0.out
  have o2 : Has w6 _ (BookM.cells (growM book0 l).1) _ := o'
  rw [e9] at o2
  obtain ⟨z0, z1, o⟩ := has_split o2
  have hfl : (growM book0 l).2 = true := congrArg Prod.snd e9
  first | rw [hfl] | (simp only [show (growM ⟨0, 0, []⟩ l).2 = true from hfl])
  have z2 : 0 = y0 := z0.symm
  have z3 : 0 = y1 := z1.symm
  clear e9 hfl o' o2 z0 z1
  subst z2 z3
  obtain ⟨fp_bx, X'⟩ := X.has b9 o
  clear X; have X := X'; clear X' b9 o
  replace X := X.boxAt (w6.heap.size) rfl #[.int .i64 0, .int .i64 0, .slice Abx nbx cbx] 31
  have hs1 := slice_front (l := l) (X.sep.own_ 2 rfl) hk
  go_wp2_with fail
  generalize w6.alloc (.cells #[.int .i64 0, .int .i64 0, .slice Abx nbx cbx] 31) = w7 at *
  generalize w6.heap.size = rx at *
  clear hs1
  refine (HG.out 0 0 none 0 0 [] A k c (l.take k) _ (rd_none _ _) (by decide) (Rd.front entC_len (by decide) ((X.sep.own_ 2 rfl).rd) hk (by omega) hcm) (by unfold entSz; rw [List.length_take]; omega)).mono ?_
  rintro e w8 ⟨y0, y1, Aby, nby, cby, rfl, o', b9⟩
  have e9 := HGK.out
  have o2 : Has w8 _ (BookM.cells (growM book0 (l.take k)).1) _ := o'
  rw [e9] at o2
  obtain ⟨z0, z1, o⟩ := has_split o2
  have hfl : (growM book0 (l.take k)).2 = true := congrArg Prod.snd e9
  first | rw [hfl] | (simp only [show (growM ⟨0, 0, []⟩ (l.take k)).2 = true from hfl])
  have z2 : 0 = y0 := z0.symm
  have z3 : 0 = y1 := z1.symm
  clear e9 hfl o' o2 z0 z1
  subst z2 z3
  obtain ⟨fp_by, X'⟩ := X.has b9 o
  clear X; have X := X'; clear X' b9 o
  replace X := X.boxAt (w8.heap.size) rfl #[.int .i64 0, .int .i64 0, .slice Aby nby cby] 31
  go_wp2_with fail
  generalize w8.alloc (.cells #[.int .i64 0, .int .i64 0, .slice Aby nby cby] 31) = w9 at *
  generalize w8.heap.size = ry at *
  obtain ⟨A2, hs2, hb2⟩ := slice_back (l := l) (X.sep.own_ 4 rfl) hk
  refine wp_region_L (fun v => v.cell? ⟨ry, 0, none⟩ = some (.int .i64 0) ∧ v.cell? ⟨ry, 1, none⟩ = some (.int .i64 0) ∧ v.cell? ⟨ry, 2, none⟩ = some (.slice Aby nby cby)) 8 (by kernel_rfl) ?_
  replace X := X.drew
  generalize w9.drew = w10 at *
  have HF : w10.cell? ⟨ry, 0, none⟩ = some (.int .i64 0) ∧ w10.cell? ⟨ry, 1, none⟩ = some (.int .i64 0) ∧ w10.cell? ⟨ry, 2, none⟩ = some (.slice Aby nby cby) := ⟨(X.sep.at_ 0 rfl).cell 0, (X.sep.at_ 0 rfl).cell 1, (X.sep.at_ 0 rfl).cell 2⟩
  refine wpAnyL_take (i := 0) (v := ?_) rfl rfl (by kernel_rfl) (by kernel_rfl) (by kernel_rfl) (by kernel_rfl) (by kernel_rfl) (fun _ _ _ h => h) HF (Or.inl ⟨by rfl, ?_⟩) ?_
  rotate_left 1
  · (rintro v ⟨a0, a1, a2⟩; go_simp; try with_reducible rfl)
  try simp only [Act.put]
  refine wpAnyL_take (i := 1) (v := ?_) rfl rfl (by kernel_rfl) (by kernel_rfl) (by kernel_rfl) (by kernel_rfl) (by kernel_rfl) (fun _ _ _ h => h) HF (Or.inl ⟨by rfl, ?_⟩) ?_
  rotate_left 1
  · (rintro v ⟨a0, a1, a2⟩; go_simp; try with_reducible rfl)
  try simp only [Act.put]
  refine wpAnyL_take (i := 2) (v := ?_) rfl rfl (by kernel_rfl) (by kernel_rfl) (by kernel_rfl) (by kernel_rfl) (by kernel_rfl) (fun _ _ _ h => h) HF (Or.inl ⟨by rfl, ?_⟩) ?_
  rotate_left 1
  · (rintro v ⟨a0, a1, a2⟩; go_simp; try with_reducible rfl)
  try simp only [Act.put]
  refine wpAnyL_take (i := 3) (v := ?_) rfl rfl (by kernel_rfl) (by kernel_rfl) (by kernel_rfl) (by kernel_rfl) (by kernel_rfl) (fun _ _ _ h => h) HF (Or.inl ⟨by rfl, ?_⟩) ?_
  rotate_left 1
  · (rintro v ⟨a0, a1, a2⟩; go_simp; try with_reducible rfl)
  try simp only [Act.put]
  clear hs2
  refine wpAnyL_step (i := 4) (by kernel_rfl) rfl rfl ?_
  intro K hK
  go_simp
  refine (HG.out 0 0 Aby nby cby (l.take k) A2 (n - k) (c - k) (l.drop k) _ ((X.sep.own_ 1 rfl).rd) (by unfold entSz; rw [List.length_take]; omega) (hb2 ((X.sep.own_ 4 rfl).rd)) (by unfold entSz; rw [List.length_drop]; omega)).mono ?_
  rintro e w11 ⟨y0, y1, Abz, nbz, cbz, rfl, o', b9⟩
  have e9 := HGD.out
  have o2 : Has w11 _ (BookM.cells (growM ⟨0, 0, l.take k⟩ (l.drop k)).1) _ := o'
  rw [e9] at o2
  obtain ⟨z0, z1, o⟩ := has_split o2
  have hfl : (growM ⟨0, 0, l.take k⟩ (l.drop k)).2 = true := congrArg Prod.snd e9
  first | rw [hfl] | (simp only [show (growM ⟨0, 0, l.take k⟩ (l.drop k)).2 = true from hfl])
  have z2 : 0 = y0 := z0.symm
  have z3 : 0 = y1 := z1.symm
  clear e9 hfl o' o2 z0 z1
  subst z2 z3
  obtain ⟨fp_bz, X'⟩ := X.has b9 o
  clear X; have X := X'; clear X' b9 o
  clear HF
  have HF : w11.cell? ⟨ry, 0, none⟩ = some (.int .i64 0) ∧ w11.cell? ⟨ry, 1, none⟩ = some (.int .i64 0) ∧ w11.cell? ⟨ry, 2, none⟩ = some (.slice Aby nby cby) := ⟨(X.sep.at_ 1 rfl).cell 0, (X.sep.at_ 1 rfl).cell 1, (X.sep.at_ 1 rfl).cell 2⟩
  refine hK _ _ (fun _ => HF) ?_
  clear hK K
  try simp only [Act.put]
  refine wpAnyL_pure (i := 5) (v := ?_) rfl rfl (by kernel_rfl) (by kernel_rfl) (by kernel_rfl) (fun _ _ _ h => h) HF (Or.inl ⟨by rfl, ?_⟩) ?_
  rotate_left 1
  · (intro v _; go_simp; try with_reducible rfl)
  try simp only [Act.put]
  refine wpAnyL_pure (i := 6) (v := ?_) rfl rfl (by kernel_rfl) (by kernel_rfl) (by kernel_rfl) (fun _ _ _ h => h) HF (Or.inl ⟨by rfl, ?_⟩) ?_
  rotate_left 1
  · (intro v _; go_simp; try with_reducible rfl)
  try simp only [Act.put]
  refine wpAnyL_pure (i := 7) (v := ?_) rfl rfl (by kernel_rfl) (by kernel_rfl) (by kernel_rfl) (fun _ _ _ h => h) HF (Or.inl ⟨by rfl, ?_⟩) ?_
  rotate_left 1
  · (intro v _; go_simp; try with_reducible rfl)
  try simp only [Act.put]
  have f0 : w11.cell? ⟨ry, 0, none⟩ = some (.int .i64 0) := (X.sep.at_ 1 rfl).cell 0
  have f1 := (X.sep.at_ 1 rfl).free 0
  have f2 : w11.cell? ⟨ry, 1, none⟩ = some (.int .i64 0) := (X.sep.at_ 1 rfl).cell 1
  have f3 := (X.sep.at_ 1 rfl).free 1
  have f4 : w11.cell? ⟨ry, 2, none⟩ = some (.slice Aby nby cby) := (X.sep.at_ 1 rfl).cell 2
  have f5 := (X.sep.at_ 1 rfl).free 2
  refine wpAnyL_step (i := 8) (by kernel_rfl) rfl rfl ?_
  intro K hK
  go_simp
  refine hK _ _ (fun h => nomatch (show true = false from h)) ?_
  clear hK K
  try simp only [Act.put]
  replace X := X.put 1 rfl 0 (.int .i64 0)
  replace X := X.put 1 rfl 1 (.int .i64 0)
  replace X := X.put 1 rfl 2 (.slice Abz nbz cbz)
  replace X : DrL w1 _ _ _ [_, .blk (ry) #[.int .i64 0, .int .i64 0, .slice Abz nbz cbz] 31, _, .blk (rx) #[.int .i64 0, .int .i64 0, .slice Abx nbx cbx] 31, _, _] := X
  generalize ((w11.setCell ⟨ry, 0, none⟩ (.int .i64 0)).setCell ⟨ry, 1, none⟩ (.int .i64 0)).setCell ⟨ry, 2, none⟩ (.slice Abz nbz cbz) = w12 at *
  clear HF f0 f1 f2 f3 f4 f5
  refine wpAnyL_step (i := 9) (by kernel_rfl) rfl rfl ?_
  intro K hK
  go_simp
  refine hK _ _ (fun h => nomatch (show true = false from h)) ?_
  clear hK K
  try simp only [Act.put]
  refine wpAnyL_done (by kernel_rfl) ?_ _
  clear hb2
  have f6 : w12.cell? ⟨rx, 0, none⟩ = some (.int .i64 0) := (X.sep.at_ 3 rfl).cell 0
  have f7 : w12.cell? ⟨rx, 1, none⟩ = some (.int .i64 0) := (X.sep.at_ 3 rfl).cell 1
  have f8 : w12.cell? ⟨rx, 2, none⟩ = some (.slice Abx nbx cbx) := (X.sep.at_ 3 rfl).cell 2
  have f9 : w12.cell? ⟨ry, 0, none⟩ = some (.int .i64 0) := (X.sep.at_ 1 rfl).cell 0
  have f10 : w12.cell? ⟨ry, 1, none⟩ = some (.int .i64 0) := (X.sep.at_ 1 rfl).cell 1
  have f11 : w12.cell? ⟨ry, 2, none⟩ = some (.slice Abz nbz cbz) := (X.sep.at_ 1 rfl).cell 2
  go_wp2_with fail
  refine (HS.out 0 0 0 0 Abx Abz nbx cbx nbz cbz l l _ ((X.sep.own_ 4 rfl).rd) hsz ((X.sep.own_ 0 rfl).rd) hsz).mono ?_
  rintro e w13 ⟨rfl, b1⟩
  rw [(show sameBook ⟨0, 0, l⟩ ⟨0, 0, l⟩ = true from (sameBook_iff _ _).2 rfl)]
  replace X := X.keep b1
  clear b1 f6 f7 f8 f9 f10 f11
  replace X := X.with_ (X.sep.sub (.cons _ (.cons _ (.cons _ (.cons_cons _ (.cons_cons _ (.cons_cons _ (List.nil_sublist _))))))))
  replace X := X.with_ (X.sep.pick 1 rfl)
  have f12 : w13.cell? ⟨rx, 0, none⟩ = some (.int .i64 0) := (X.sep.at_ 1 rfl).cell 0
  have f13 : w13.cell? ⟨rx, 1, none⟩ = some (.int .i64 0) := (X.sep.at_ 1 rfl).cell 1
  have f14 : w13.cell? ⟨rx, 2, none⟩ = some (.slice Abx nbx cbx) := (X.sep.at_ 1 rfl).cell 2
  go_wp2_with fail
  refine (HT0.out 0 0 Abx nbx cbx l _ ((X.sep.own_ 0 rfl).rd) hsz).mono ?_
  rintro e w14 ⟨rfl, b1⟩
  rw [HR.out.last hl20, HL.out]
  replace X := X.keep b1
  clear b1 f12 f13 f14
  have hnn : ((n : Int) != (n : Int)) = false := by simp
  have f15 : w14.cell? ⟨rx, 0, none⟩ = some (.int .i64 0) := (X.sep.at_ 1 rfl).cell 0
  have f16 : w14.cell? ⟨rx, 1, none⟩ = some (.int .i64 0) := (X.sep.at_ 1 rfl).cell 1
  have f17 : w14.cell? ⟨rx, 2, none⟩ = some (.slice Abx nbx cbx) := (X.sep.at_ 1 rfl).cell 2
  go_wp2_with fail
  refine (HK.out 0 0 Abx nbx cbx l _ ((X.sep.own_ 0 rfl).rd) hsz).mono ?_
  rintro e w15 ⟨rfl, b1⟩
  rw [HB.out]
  replace X := X.keep b1
  clear b1 f15 f16 f17
  have XH := Lib.hid X
  have f18 : w15.cell? ⟨rx, 0, none⟩ = some (.int .i64 0) := (X.sep.at_ 1 rfl).cell 0
  have f19 : w15.cell? ⟨rx, 1, none⟩ = some (.int .i64 0) := (X.sep.at_ 1 rfl).cell 1
  have f20 : w15.cell? ⟨rx, 2, none⟩ = some (.slice Abx nbx cbx) := (X.sep.at_ 1 rfl).cell 2
  have hrd := ((X.sep.own_ 0 rfl).rd)
  clear X
  go_wp2_with fail
  go_cut [94] (fun tv wc => tv = .bool false ∧ DrL w1 wc w.heap.size w.heap.size [.own [entD l] [.slice Abx nbx cbx] fp_bx, .blk rx #[.int .i64 0, .int .i64 0, .slice Abx nbx cbx] 31, .own [entD l] [.slice A n c] fp_l])
  case first =>
    by_cases hn0 : n = 0
    case pos =>
      have d0 : decide ((n : Int) > 0) = false := decide_eq_false (by omega)
      have d1 : decide ((0 : Int) < (n : Int)) = false := decide_eq_false (by omega)
      have d2 : decide (0 < n) = false := decide_eq_false (by omega)
      clear hn0
      refine wp_region_cls (fun v => v.cell? ⟨rx, 0, none⟩ = some (.int .i64 0) ∧ v.cell? ⟨rx, 1, none⟩ = some (.int .i64 0) ∧ v.cell? ⟨rx, 2, none⟩ = some (.slice Abx nbx cbx) ∧ Rd v w15.heap.size [entD l] [.slice Abx nbx cbx] ∧ w15.heap.size ≤ v.heap.size) (by kernel_rfl) (by kernel_rfl) (fun v hv => ⟨(hv.cell (p := ⟨rx, 0, none⟩) (lt_of_cell f18)).trans f18, (hv.cell (p := ⟨rx, 1, none⟩) (lt_of_cell f19)).trans f19, (hv.cell (p := ⟨rx, 2, none⟩) (lt_of_cell f20)).trans f20, hrd.keep hv, hv.size⟩) ?_
      intro CL HF HC
      repeat
        (first
           | go_big_quiet_skip
           | (go_big_quiet_want
              go_big_quiet_op
              first
                | go_big_quiet_on
                | (apply Exists.intro
                   refine ⟨fun v hv => ?_, ?_⟩
                   · obtain ⟨a0, a1, a2, a3, a4⟩ := HF v hv
                     first
                       | exact rfl
                       | (go_simp; exact rfl)
                       | (go_simp; exact ⟨rfl, hv⟩)
                   go_big_quiet_on)))
      refine wpQuiet_nil ?_
      intro w9 b9
      have X := XH.out.keep b9
      clear XH b9 hrd f18 f19 f20
      go_wp2
      go_meet
      exact ⟨rfl, X⟩
    case neg =>
      obtain ⟨j, rfl⟩ : ∃ j, n = j + 1 := ⟨n - 1, by omega⟩
      have hjl : j < l.length := by have := HL.out; omega
      obtain ⟨_, _, _, e, _, _, _, hel⟩ := ((XH.out.sep.own_ 2 rfl).rd).ents
      injection e with e1 e2 e3
      subst e1 e2 e3
      obtain ⟨lb, lo, rfl, _, hc⟩ := hel (by omega)
      obtain ⟨_, hc1, _⟩ := hc j hjl
      obtain ⟨tj, htj⟩ : ∃ q, q = l[j].tm := ⟨_, rfl⟩
      rw [← htj] at hc1
      have HTM := Lib.hid (show timeM ⟨0, 0, l⟩ = tj by rw [HR.out.time hl20 (by omega), htj]; congr 2; have := HL.out; omega)
      have d0 : decide (((j + 1 : Nat) : Int) > 0) = true := decide_eq_true (by omega)
      have d1 : decide ((0 : Int) < ((j + 1 : Nat) : Int)) = true := decide_eq_true (by omega)
      have d3 : decide ((j : Int) + 1 > 0) = true := decide_eq_true (by omega)
      have d4 : decide ((0 : Int) < (j : Int) + 1) = true := decide_eq_true (by omega)
      have ep : IntKind.i64.wrap (j : Int) = (j : Int) := by rw [IntKind.wrap_i64]; omega
      have j0 : (0 : Int) ≤ (j : Int) := by omega
      have j1 : (j : Int) < ((j + 1 : Nat) : Int) := by omega
      have j2 : (j : Int) < (j : Int) + 1 := by omega
      have hne : (tj != tj) = false := by simp
      clear hel hc htj hn0
      refine wp_region_cls (fun v => v.cell? ⟨rx, 0, none⟩ = some (.int .i64 0) ∧ v.cell? ⟨rx, 1, none⟩ = some (.int .i64 0) ∧ v.cell? ⟨rx, 2, none⟩ = some (.slice Abx nbx cbx) ∧ Rd v w15.heap.size [entD l] [.slice Abx nbx cbx] ∧ w15.heap.size ≤ v.heap.size ∧ v.cell? ⟨lb, lo + j * 9 + 1, none⟩ = some (.int .i64 tj)) (by kernel_rfl) (by kernel_rfl) (fun v hv => ⟨(hv.cell (p := ⟨rx, 0, none⟩) (lt_of_cell f18)).trans f18, (hv.cell (p := ⟨rx, 1, none⟩) (lt_of_cell f19)).trans f19, (hv.cell (p := ⟨rx, 2, none⟩) (lt_of_cell f20)).trans f20, hrd.keep hv, hv.size, (hv.cell (p := ⟨lb, lo + j * 9 + 1, none⟩) (lt_of_cell hc1)).trans hc1⟩) ?_
      intro CL HF HC
      repeat
        (first
           | go_big_quiet_skip
           | (go_big_quiet_want
              go_big_quiet_op
              first
                | go_big_quiet_on
                | (apply Exists.intro
                   refine ⟨fun v hv => ?_, ?_⟩
                   · obtain ⟨a0, a1, a2, a3, a4, a5⟩ := HF v hv
                     first
                       | (go_at_call 24; exact Calls.cls HC hv (HT.out 0 0 Abx nbx cbx l v (a3.up a4) hsz) (congrArg (Value.int .i64) HTM.out))
                       | exact rfl
                       | (go_simp; exact rfl)
                       | (go_simp; exact ⟨rfl, hv⟩)
                   go_big_quiet_on)))
      refine wpQuiet_nil ?_
      intro w9 b9
      have X := XH.out.keep b9
      clear XH b9 hrd hc1 f18 f19 f20
      go_wp2
      go_meet
      exact ⟨rfl, X⟩
  obtain ⟨rfl, X⟩ := hcut
  clear XH hrd f18 f19 f20
  have X0 := Lib.hid X
  clear X
  go_wp2_with fail
  go_loopw [12] (fun kv wr => ∃ (i : Nat), kv = .int .i64 (i : Int) ∧ i ≤ n + 2 ∧ DrL w1 wr w.heap.size w.heap.size [.own [entD l] [.slice Abx nbx cbx] fp_bx, .blk rx #[.int .i64 0, .int .i64 0, .slice Abx nbx cbx] 31, .own [entD l] [.slice A n c] fp_l]) (fun kv _ => n + 2 - (intOf kv).toNat)
  case atStart => exact ⟨0, rfl, by omega, X0.out⟩
  case round =>
    obtain ⟨i, rfl, hi, X⟩ := hrel
    clear X0
    have hw1 : IntKind.i64.wrap ((n : Int) + 1) = (n : Int) + 1 := by rw [IntKind.wrap_i64]; omega
    by_cases hlt : i < n + 2
    · have c1 : decide ((i : Int) ≤ (n : Int) + 1) = true := decide_eq_true (by omega)
      have c2 : (i : Int) ≤ (n : Int) + 1 := by omega
      have HLT := Lib.hid hlt
      by_cases hin : 1 ≤ i ∧ i ≤ n
      · obtain ⟨j, rfl⟩ : ∃ j, i = j + 1 := ⟨i - 1, by omega⟩
        have hjl : j < l.length := by have := HL.out; omega
        have hat := HR.out.at_yes hl20 hjl
        obtain ⟨_, _, _, e, _, _, _, hel⟩ := ((X.sep.own_ 2 rfl).rd).ents
        injection e with e1 e2 e3
        subst e1 e2 e3
        obtain ⟨lb, lo, rfl, _, hc⟩ := hel (by omega)
        obtain ⟨hc0, hc1, hc2, hc3, hc4, hc5, hc6, hc7, hc8⟩ := hc j hjl
        obtain ⟨x0, hx0⟩ : ∃ q, q = l[j].idx := ⟨_, rfl⟩
        rw [← hx0] at hc0
        obtain ⟨x1, hx1⟩ : ∃ q, q = l[j].tm := ⟨_, rfl⟩
        rw [← hx1] at hc1
        obtain ⟨x2, hx2⟩ : ∃ q, q = l[j].cl := ⟨_, rfl⟩
        rw [← hx2] at hc2
        obtain ⟨x3, hx3⟩ : ∃ q, q = l[j].sq := ⟨_, rfl⟩
        rw [← hx3] at hc3
        obtain ⟨x4, hx4⟩ : ∃ q, q = l[j].kd := ⟨_, rfl⟩
        rw [← hx4] at hc4
        obtain ⟨x5, hx5⟩ : ∃ q, q = l[j].oa := ⟨_, rfl⟩
        rw [← hx5] at hc5
        obtain ⟨x6, hx6⟩ : ∃ q, q = l[j].ob := ⟨_, rfl⟩
        rw [← hx6] at hc6
        obtain ⟨x7, hx7⟩ : ∃ q, q = l[j].oc := ⟨_, rfl⟩
        rw [← hx7] at hc7
        obtain ⟨x8, hx8⟩ : ∃ q, q = l[j].od := ⟨_, rfl⟩
        rw [← hx8] at hc8
        rw [show l[j] = ⟨x0, x1, x2, x3, x4, x5, x6, x7, x8⟩ by rw [hx0, hx1, hx2, hx3, hx4, hx5, hx6, hx7, hx8]] at hat
        have HAT := Lib.hid hat
        have j0 : (0 : Int) ≤ (j : Int) := by omega
        have j1 : (j : Int) < (n : Int) := by omega
        have ep : IntKind.i64.wrap (j : Int) = (j : Int) := by rw [IntKind.wrap_i64]; omega
        have d1 : decide ((j : Int) + 1 ≥ 1) = true := decide_eq_true (by omega)
        have d2 : decide ((1 : Int) ≤ (j : Int) + 1) = true := decide_eq_true (by omega)
        have d3 : decide ((j : Int) + 1 ≤ (n : Int)) = true := decide_eq_true (by omega)
        have d4 : decide (0 ≤ j) = true := decide_eq_true (Nat.zero_le _)
        have d5 : decide ((0 : Int) ≤ (j : Int)) = true := decide_eq_true (by omega)
        have d6 : decide (j + 1 ≤ n) = true := decide_eq_true (by omega)
        have d7 : decide (j < n) = true := decide_eq_true (by omega)
        have hi1 : ((j + 1 : Nat) : Int) = (j : Int) + 1 := by omega
        clear hel hc hat hin hlt hx0 hx1 hx2 hx3 hx4 hx5 hx6 hx7 hx8
        rw [hi1] at *
        have f21 : wr.cell? ⟨rx, 0, none⟩ = some (.int .i64 0) := (X.sep.at_ 1 rfl).cell 0
        have f22 : wr.cell? ⟨rx, 1, none⟩ = some (.int .i64 0) := (X.sep.at_ 1 rfl).cell 1
        have f23 : wr.cell? ⟨rx, 2, none⟩ = some (.slice Abx nbx cbx) := (X.sep.at_ 1 rfl).cell 2
        go_wp2_with fail
        refine (HE.out 0 0 Abx nbx cbx l ((j : Int) + 1) _ ((X.sep.own_ 0 rfl).rd) hsz).mono ?_
        rintro e w16 ⟨rfl, b1⟩
        rw [HAT.out]
        replace X := X.keep b1
        clear b1 f21 f22 f23
        replace X := X.boxAt (w16.heap.size) rfl #[.int .i64 x0, .int .i64 x1, .int .i64 x2, .int .i64 x3, .int .i64 x4, .int .i64 x5, .int .i64 x6, .int .i64 x7, .int .i64 x8] 40
        have f24 : (w16.alloc (.cells #[.int .i64 x0, .int .i64 x1, .int .i64 x2, .int .i64 x3, .int .i64 x4, .int .i64 x5, .int .i64 x6, .int .i64 x7, .int .i64 x8] 40)).cell? ⟨w16.heap.size, 0, none⟩ = some (.int .i64 x0) := (X.sep.at_ 0 rfl).cell 0
        have f25 : (w16.alloc (.cells #[.int .i64 x0, .int .i64 x1, .int .i64 x2, .int .i64 x3, .int .i64 x4, .int .i64 x5, .int .i64 x6, .int .i64 x7, .int .i64 x8] 40)).cell? ⟨w16.heap.size, 1, none⟩ = some (.int .i64 x1) := (X.sep.at_ 0 rfl).cell 1
        have f26 : (w16.alloc (.cells #[.int .i64 x0, .int .i64 x1, .int .i64 x2, .int .i64 x3, .int .i64 x4, .int .i64 x5, .int .i64 x6, .int .i64 x7, .int .i64 x8] 40)).cell? ⟨w16.heap.size, 2, none⟩ = some (.int .i64 x2) := (X.sep.at_ 0 rfl).cell 2
        have f27 : (w16.alloc (.cells #[.int .i64 x0, .int .i64 x1, .int .i64 x2, .int .i64 x3, .int .i64 x4, .int .i64 x5, .int .i64 x6, .int .i64 x7, .int .i64 x8] 40)).cell? ⟨w16.heap.size, 3, none⟩ = some (.int .i64 x3) := (X.sep.at_ 0 rfl).cell 3
        have f28 : (w16.alloc (.cells #[.int .i64 x0, .int .i64 x1, .int .i64 x2, .int .i64 x3, .int .i64 x4, .int .i64 x5, .int .i64 x6, .int .i64 x7, .int .i64 x8] 40)).cell? ⟨w16.heap.size, 4, none⟩ = some (.int .i64 x4) := (X.sep.at_ 0 rfl).cell 4
        have f29 : (w16.alloc (.cells #[.int .i64 x0, .int .i64 x1, .int .i64 x2, .int .i64 x3, .int .i64 x4, .int .i64 x5, .int .i64 x6, .int .i64 x7, .int .i64 x8] 40)).cell? ⟨w16.heap.size, 5, none⟩ = some (.int .i64 x5) := (X.sep.at_ 0 rfl).cell 5
        have f30 : (w16.alloc (.cells #[.int .i64 x0, .int .i64 x1, .int .i64 x2, .int .i64 x3, .int .i64 x4, .int .i64 x5, .int .i64 x6, .int .i64 x7, .int .i64 x8] 40)).cell? ⟨w16.heap.size, 6, none⟩ = some (.int .i64 x6) := (X.sep.at_ 0 rfl).cell 6
        have f31 : (w16.alloc (.cells #[.int .i64 x0, .int .i64 x1, .int .i64 x2, .int .i64 x3, .int .i64 x4, .int .i64 x5, .int .i64 x6, .int .i64 x7, .int .i64 x8] 40)).cell? ⟨w16.heap.size, 7, none⟩ = some (.int .i64 x7) := (X.sep.at_ 0 rfl).cell 7
        have f32 : (w16.alloc (.cells #[.int .i64 x0, .int .i64 x1, .int .i64 x2, .int .i64 x3, .int .i64 x4, .int .i64 x5, .int .i64 x6, .int .i64 x7, .int .i64 x8] 40)).cell? ⟨w16.heap.size, 8, none⟩ = some (.int .i64 x8) := (X.sep.at_ 0 rfl).cell 8
        go_wp2_with fail
        generalize w16.alloc (.cells #[.int .i64 x0, .int .i64 x1, .int .i64 x2, .int .i64 x3, .int .i64 x4, .int .i64 x5, .int .i64 x6, .int .i64 x7, .int .i64 x8] 40) = w17 at *
        generalize w16.heap.size = re at *
        obtain ⟨_, _, _, e, _, _, _, hel⟩ := ((X.sep.own_ 3 rfl).rd).ents
        injection e with e1 e2 e3
        subst e1 e2 e3
        obtain ⟨lb2, lo2, e, _, hc⟩ := hel (by omega)
        injection e with e
        injection e with e4 e5
        subst e4 e5
        obtain ⟨k0, k1, k2, k3, k4, k5, k6, k7, k8⟩ := hc j (by have := HL.out; omega)
        have hx := congrArg Prod.fst HAT.out
        rw [HR.out.at_yes hl20 (show j < l.length by have := HL.out; omega)] at hx
        have hx2 : l[j]'(by have := HL.out; omega) = ⟨x0, x1, x2, x3, x4, x5, x6, x7, x8⟩ := hx
        rw [hx2] at k0 k1 k2 k3 k4 k5 k6 k7 k8
        clear hel hc hx hx2 hc0 hc1 hc2 hc3 hc4 hc5 hc6 hc7 hc8
        have XH := Lib.hid X
        clear X
        go_wp2_with fail
        go_quiet (fail)
        have X := XH.out.keep (below_drewN (Below.refl w17.heap.size w17) nq)
        clear XH f24 f25 f26 f27 f28 f29 f30 f31 f32 k0 k1 k2 k3 k4 k5 k6 k7 k8
        generalize w17.drewN nq = w9 at *
        replace X := X.with_ (X.sep.sub (.cons _ (.cons_cons _ (.cons_cons _ (.cons_cons _ (List.nil_sublist _))))))
        have X1 := Lib.hid X
        clear X
        go_wp2
        go_roundw
        case rel => exact ⟨j + 1 + 1, by go_num, by have := HLT.out; omega, X1.out⟩
        case measure => have := HLT.out; simp [intOf] <;> omega
      · have HAT := Lib.hid (HR.out.at_no hl20 (i := (i : Int)) (by have := HL.out; omega))
        have f21 : wr.cell? ⟨rx, 0, none⟩ = some (.int .i64 0) := (X.sep.at_ 1 rfl).cell 0
        have f22 : wr.cell? ⟨rx, 1, none⟩ = some (.int .i64 0) := (X.sep.at_ 1 rfl).cell 1
        have f23 : wr.cell? ⟨rx, 2, none⟩ = some (.slice Abx nbx cbx) := (X.sep.at_ 1 rfl).cell 2
        go_wp2_with fail
        refine (HE.out 0 0 Abx nbx cbx l (i : Int) _ ((X.sep.own_ 0 rfl).rd) hsz).mono ?_
        rintro e w16 ⟨rfl, b1⟩
        rw [HAT.out]
        simp only [ent0]
        replace X := X.keep b1
        clear b1 f21 f22 f23
        replace X := X.boxAt (w16.heap.size) rfl #[.int .i64 0, .int .i64 0, .int .i64 0, .int .i64 0, .int .i64 0, .int .i64 0, .int .i64 0, .int .i64 0, .int .i64 0] 40
        have f24 : (w16.alloc (.cells #[.int .i64 0, .int .i64 0, .int .i64 0, .int .i64 0, .int .i64 0, .int .i64 0, .int .i64 0, .int .i64 0, .int .i64 0] 40)).cell? ⟨w16.heap.size, 0, none⟩ = some (.int .i64 0) := (X.sep.at_ 0 rfl).cell 0
        have f25 : (w16.alloc (.cells #[.int .i64 0, .int .i64 0, .int .i64 0, .int .i64 0, .int .i64 0, .int .i64 0, .int .i64 0, .int .i64 0, .int .i64 0] 40)).cell? ⟨w16.heap.size, 1, none⟩ = some (.int .i64 0) := (X.sep.at_ 0 rfl).cell 1
        have f26 : (w16.alloc (.cells #[.int .i64 0, .int .i64 0, .int .i64 0, .int .i64 0, .int .i64 0, .int .i64 0, .int .i64 0, .int .i64 0, .int .i64 0] 40)).cell? ⟨w16.heap.size, 2, none⟩ = some (.int .i64 0) := (X.sep.at_ 0 rfl).cell 2
        have f27 : (w16.alloc (.cells #[.int .i64 0, .int .i64 0, .int .i64 0, .int .i64 0, .int .i64 0, .int .i64 0, .int .i64 0, .int .i64 0, .int .i64 0] 40)).cell? ⟨w16.heap.size, 3, none⟩ = some (.int .i64 0) := (X.sep.at_ 0 rfl).cell 3
        have f28 : (w16.alloc (.cells #[.int .i64 0, .int .i64 0, .int .i64 0, .int .i64 0, .int .i64 0, .int .i64 0, .int .i64 0, .int .i64 0, .int .i64 0] 40)).cell? ⟨w16.heap.size, 4, none⟩ = some (.int .i64 0) := (X.sep.at_ 0 rfl).cell 4
        have f29 : (w16.alloc (.cells #[.int .i64 0, .int .i64 0, .int .i64 0, .int .i64 0, .int .i64 0, .int .i64 0, .int .i64 0, .int .i64 0, .int .i64 0] 40)).cell? ⟨w16.heap.size, 5, none⟩ = some (.int .i64 0) := (X.sep.at_ 0 rfl).cell 5
        have f30 : (w16.alloc (.cells #[.int .i64 0, .int .i64 0, .int .i64 0, .int .i64 0, .int .i64 0, .int .i64 0, .int .i64 0, .int .i64 0, .int .i64 0] 40)).cell? ⟨w16.heap.size, 6, none⟩ = some (.int .i64 0) := (X.sep.at_ 0 rfl).cell 6
        have f31 : (w16.alloc (.cells #[.int .i64 0, .int .i64 0, .int .i64 0, .int .i64 0, .int .i64 0, .int .i64 0, .int .i64 0, .int .i64 0, .int .i64 0] 40)).cell? ⟨w16.heap.size, 7, none⟩ = some (.int .i64 0) := (X.sep.at_ 0 rfl).cell 7
        have f32 : (w16.alloc (.cells #[.int .i64 0, .int .i64 0, .int .i64 0, .int .i64 0, .int .i64 0, .int .i64 0, .int .i64 0, .int .i64 0, .int .i64 0] 40)).cell? ⟨w16.heap.size, 8, none⟩ = some (.int .i64 0) := (X.sep.at_ 0 rfl).cell 8
        go_wp2_with fail
        generalize w16.alloc (.cells #[.int .i64 0, .int .i64 0, .int .i64 0, .int .i64 0, .int .i64 0, .int .i64 0, .int .i64 0, .int .i64 0, .int .i64 0] 40) = w17 at *
        generalize w16.heap.size = re at *
        have d9 : ((decide ((i : Int) ≥ 1)) && decide ((i : Int) ≤ (n : Int))) = false := by rw [Bool.eq_false_iff]; intro h9; simp only [Bool.and_eq_true, decide_eq_true_eq] at h9; omega
        rcases Nat.eq_zero_or_pos i with hi0 | hi0
        · subst hi0
          have e1 : decide (((0 : Nat) : Int) ≥ 1) = false := rfl
          have e2 : decide ((1 : Int) ≤ 0) = false := rfl
          have XH := Lib.hid X
          clear X
          go_wp2_with fail
          go_quiet (fail)
          have X := XH.out.keep (below_drewN (Below.refl w17.heap.size w17) nq)
          clear XH f24 f25 f26 f27 f28 f29 f30 f31 f32 
          generalize w17.drewN nq = w9 at *
          replace X := X.with_ (X.sep.sub (.cons _ (.cons_cons _ (.cons_cons _ (.cons_cons _ (List.nil_sublist _))))))
          have X1 := Lib.hid X
          clear X
          go_wp2
          go_roundw
          case rel => exact ⟨0 + 1, by go_num, by have := HLT.out; omega, X1.out⟩
          case measure => have := HLT.out; simp [intOf] <;> omega
        · have e1 : decide ((i : Int) ≥ 1) = true := decide_eq_true (by omega)
          have e2 : decide ((1 : Int) ≤ (i : Int)) = true := decide_eq_true (by omega)
          have e3 : decide ((i : Int) ≤ (n : Int)) = false := decide_eq_false (by omega)
          have e4 : decide (1 ≤ i) = true := decide_eq_true (by omega)
          have e5 : decide (i ≤ n) = false := decide_eq_false (by omega)
          have XH := Lib.hid X
          clear X
          go_wp2_with fail
          go_quiet (fail)
          have X := XH.out.keep (below_drewN (Below.refl w17.heap.size w17) nq)
          clear XH f24 f25 f26 f27 f28 f29 f30 f31 f32 
          generalize w17.drewN nq = w9 at *
          replace X := X.with_ (X.sep.sub (.cons _ (.cons_cons _ (.cons_cons _ (.cons_cons _ (List.nil_sublist _))))))
          have X1 := Lib.hid X
          clear X
          go_wp2
          go_roundw
          case rel => exact ⟨i + 1, by go_num, by have := HLT.out; omega, X1.out⟩
          case measure => have := HLT.out; simp [intOf] <;> omega
    · obtain rfl : i = n + 2 := by omega
      have c1 : decide (((n + 2 : Nat) : Int) ≤ (n : Int) + 1) = false := decide_eq_false (by omega)
      have c2 : ¬ (((n + 2 : Nat) : Int) ≤ (n : Int) + 1) := by omega
      clear hi hlt
      go_wp2_with fail
      refine (lbelow_any _ _ _ X.cur ((n : Int) + 1) (by omega)).mono ?_
      rintro e w16 ⟨z, hz, rfl, cu, gr⟩
      replace X := X.draw cu gr
      clear cu gr
      obtain ⟨f, rfl⟩ : ∃ f : Nat, z = (f : Int) := ⟨z.toNat, by omega⟩
      have hf : f ≤ n := by omega
      clear hz
      obtain ⟨F, hF⟩ : ∃ F : Nat, 1 + (f : Int) = (F : Int) := ⟨1 + f, by omega⟩
      have hw2 : IntKind.i64.wrap (1 + (f : Int)) = (F : Int) := by rw [IntKind.wrap_i64]; omega
      go_wp2_with fail
      refine (lbelow_any _ _ _ X.cur 6 (by decide)).mono ?_
      rintro e w17 ⟨z, hz, rfl, cu, gr⟩
      replace X := X.draw cu gr
      clear cu gr
      obtain ⟨s, rfl⟩ : ∃ s : Nat, z = (s : Int) := ⟨z.toNat, by omega⟩
      have hs : s ≤ 5 := by omega
      clear hz
      have hw3 : IntKind.i64.wrap ((F : Int) - 1) = (f : Int) := by rw [IntKind.wrap_i64]; omega
      have hw5 : IntKind.i64.wrap ((F : Int) - 1 + (s : Int)) = (f : Int) + (s : Int) := by rw [IntKind.wrap_i64]; omega
      have hw4 : IntKind.i64.wrap ((f : Int) + (s : Int)) = (f : Int) + (s : Int) := by rw [IntKind.wrap_i64]; omega
      have HP9 := Lib.hid (HR.out.part hl20 (1 + f) s (by omega))
      by_cases hto : (n : Int) < (f : Int) + (s : Int)
      · have t1 : decide ((f : Int) + (s : Int) > (n : Int)) = true := decide_eq_true hto
        have t2 : decide ((n : Int) < (f : Int) + (s : Int)) = true := decide_eq_true hto
        obtain ⟨A3, hs3, hb3⟩ := slice_mid (l := l) (j := f) (k := n) (X.sep.own_ 2 rfl) (by omega) (by omega)
        have HEQ := Lib.hid (show partM ⟨0, 0, l⟩ (F : Int) (s : Int) = (l.drop f).take (n - f) by
          have h9 := HP9.out
          rw [show ((1 + f : Nat) : Int) = (F : Int) by omega, show 1 + f - 1 = f by omega] at h9
          rw [h9]
          rw [List.take_of_length_le (by rw [List.length_drop]; have := HL.out; omega), List.take_of_length_le (by rw [List.length_drop]; have := HL.out; omega)])
        clear hF hto
        have f21 : w17.cell? ⟨rx, 0, none⟩ = some (.int .i64 0) := (X.sep.at_ 1 rfl).cell 0
        have f22 : w17.cell? ⟨rx, 1, none⟩ = some (.int .i64 0) := (X.sep.at_ 1 rfl).cell 1
        have f23 : w17.cell? ⟨rx, 2, none⟩ = some (.slice Abx nbx cbx) := (X.sep.at_ 1 rfl).cell 2
        go_wp2_with fail
        refine wp_region_L (fun v => v.cell? ⟨rx, 0, none⟩ = some (.int .i64 0) ∧ v.cell? ⟨rx, 1, none⟩ = some (.int .i64 0) ∧ v.cell? ⟨rx, 2, none⟩ = some (.slice Abx nbx cbx)) 10 (by kernel_rfl) ?_
        clear f21 f22 f23
        replace X := X.drew
        generalize w17.drew = w18 at *
        have HF : w18.cell? ⟨rx, 0, none⟩ = some (.int .i64 0) ∧ w18.cell? ⟨rx, 1, none⟩ = some (.int .i64 0) ∧ w18.cell? ⟨rx, 2, none⟩ = some (.slice Abx nbx cbx) := ⟨(X.sep.at_ 1 rfl).cell 0, (X.sep.at_ 1 rfl).cell 1, (X.sep.at_ 1 rfl).cell 2⟩
        refine wpAnyL_take (i := 0) (v := ?_) rfl rfl (by kernel_rfl) (by kernel_rfl) (by kernel_rfl) (by kernel_rfl) (by kernel_rfl) (fun _ _ _ h => h) HF (Or.inl ⟨by rfl, ?_⟩) ?_
        rotate_left 1
        · (rintro v ⟨a0, a1, a2⟩; go_simp; try with_reducible rfl)
        try simp only [Act.put]
        refine wpAnyL_take (i := 1) (v := ?_) rfl rfl (by kernel_rfl) (by kernel_rfl) (by kernel_rfl) (by kernel_rfl) (by kernel_rfl) (fun _ _ _ h => h) HF (Or.inl ⟨by rfl, ?_⟩) ?_
        rotate_left 1
        · (rintro v ⟨a0, a1, a2⟩; go_simp; try with_reducible rfl)
        try simp only [Act.put]
        refine wpAnyL_take (i := 2) (v := ?_) rfl rfl (by kernel_rfl) (by kernel_rfl) (by kernel_rfl) (by kernel_rfl) (by kernel_rfl) (fun _ _ _ h => h) HF (Or.inl ⟨by rfl, ?_⟩) ?_
        rotate_left 1
        · (rintro v ⟨a0, a1, a2⟩; go_simp; try with_reducible rfl)
        try simp only [Act.put]
        refine wpAnyL_take (i := 4) (v := ?_) rfl rfl (by kernel_rfl) (by kernel_rfl) (by kernel_rfl) (by kernel_rfl) (by kernel_rfl) (fun _ _ _ h => h) HF (Or.inl ⟨by rfl, ?_⟩) ?_
        rotate_left 1
        · (rintro v ⟨a0, a1, a2⟩; go_simp; try with_reducible rfl)
        try simp only [Act.put]
        refine wpAnyL_take (i := 5) (v := ?_) rfl rfl (by kernel_rfl) (by kernel_rfl) (by kernel_rfl) (by kernel_rfl) (by kernel_rfl) (fun _ _ _ h => h) HF (Or.inl ⟨by rfl, ?_⟩) ?_
        rotate_left 1
        · (rintro v ⟨a0, a1, a2⟩; go_simp; try with_reducible rfl)
        try simp only [Act.put]
        refine wpAnyL_take (i := 6) (v := ?_) rfl rfl (by kernel_rfl) (by kernel_rfl) (by kernel_rfl) (by kernel_rfl) (by kernel_rfl) (fun _ _ _ h => h) HF (Or.inl ⟨by rfl, ?_⟩) ?_
        rotate_left 1
        · (rintro v ⟨a0, a1, a2⟩; go_simp; try with_reducible rfl)
        try simp only [Act.put]
        refine wpAnyL_take (i := 7) (v := ?_) rfl rfl (by kernel_rfl) (by kernel_rfl) (by kernel_rfl) (by kernel_rfl) (by kernel_rfl) (fun _ _ _ h => h) HF (Or.inl ⟨by rfl, ?_⟩) ?_
        rotate_left 1
        · (rintro v ⟨a0, a1, a2⟩; go_simp; try with_reducible rfl)
        try simp only [Act.put]
        refine wpAnyL_take (i := 8) (v := ?_) rfl rfl (by kernel_rfl) (by kernel_rfl) (by kernel_rfl) (by kernel_rfl) (by kernel_rfl) (fun _ _ _ h => h) HF (Or.inl ⟨by rfl, ?_⟩) ?_
        rotate_left 1
        · (rintro v ⟨a0, a1, a2⟩; go_simp; try with_reducible rfl)
        try simp only [Act.put]
        clear hs3
        refine wpAnyL_step (i := 3) (by kernel_rfl) rfl rfl ?_
        intro K hK
        go_simp
        refine (HP.out 0 0 Abx nbx cbx l (F : Int) (s : Int) _ ((X.sep.own_ 0 rfl).rd) hsz).mono ?_
        rintro e w19 ⟨Ap, np, cp, rfl, o, b1⟩
        rw [HEQ.out] at o
        obtain ⟨fp_p, X'⟩ := X.has b1 o
        clear X; have X := X'; clear X' b1 o
        clear HF
        have HF : w19.cell? ⟨rx, 0, none⟩ = some (.int .i64 0) ∧ w19.cell? ⟨rx, 1, none⟩ = some (.int .i64 0) ∧ w19.cell? ⟨rx, 2, none⟩ = some (.slice Abx nbx cbx) := ⟨(X.sep.at_ 2 rfl).cell 0, (X.sep.at_ 2 rfl).cell 1, (X.sep.at_ 2 rfl).cell 2⟩
        refine hK _ _ (fun _ => HF) ?_
        clear hK K
        try simp only [Act.put]
        refine wpAnyL_step (i := 9) (by kernel_rfl) rfl rfl ?_
        intro K hK
        go_simp
        refine (w9Same_any Ap A3 np cp (n - f) (c - f) _ _ _ _ _ ((X.sep.own_ 0 rfl).rd) (hb3 ((X.sep.own_ 3 rfl).rd)) (Nat.le_refl _) (Nat.le_refl _) (by unfold entSz; rw [List.length_take, List.length_drop]; omega) (by unfold entSz; rw [List.length_take, List.length_drop]; omega)).mono ?_
        rintro e w20 ⟨rfl, b1⟩
        rw [sameEs_refl]
        replace X := X.keep b1
        clear b1
        clear HF
        have HF : w20.cell? ⟨rx, 0, none⟩ = some (.int .i64 0) ∧ w20.cell? ⟨rx, 1, none⟩ = some (.int .i64 0) ∧ w20.cell? ⟨rx, 2, none⟩ = some (.slice Abx nbx cbx) := ⟨(X.sep.at_ 2 rfl).cell 0, (X.sep.at_ 2 rfl).cell 1, (X.sep.at_ 2 rfl).cell 2⟩
        refine hK _ _ (fun _ => HF) ?_
        clear hK K
        try simp only [Act.put]
        refine wpAnyL_step (i := 10) (by kernel_rfl) rfl rfl ?_
        intro K hK
        go_simp
        refine hK _ _ (fun h => nomatch (show true = false from h)) ?_
        clear hK K
        try simp only [Act.put]
        refine wpAnyL_done (by kernel_rfl) ?_ _
        clear HF
        have C := Lib.hid (B1.out.trans (grown_below X.grown B1.out.size (fun k hk => by injection hk with hk; omega)))
        clear X
        go_wp2
        go_ret
        exact ⟨rfl, C.out⟩
      · have t1 : decide ((f : Int) + (s : Int) > (n : Int)) = false := decide_eq_false hto
        have t2 : decide ((n : Int) < (f : Int) + (s : Int)) = false := decide_eq_false hto
        obtain ⟨A3, hs3, hb3⟩ := slice_mid (l := l) (j := f) (k := (f + s)) (X.sep.own_ 2 rfl) (by omega) (by omega)
        have hcs : ((f + s : Nat) : Int) = (f : Int) + (s : Int) := by omega
        rw [hcs] at hs3
        simp only [Nat.add_sub_cancel_left] at hs3 hb3
        have HEQ := Lib.hid (show partM ⟨0, 0, l⟩ (F : Int) (s : Int) = (l.drop f).take s by
          have h9 := HP9.out
          rw [show ((1 + f : Nat) : Int) = (F : Int) by omega, show 1 + f - 1 = f by omega] at h9
          rw [h9])
        clear hF hto
        have f21 : w17.cell? ⟨rx, 0, none⟩ = some (.int .i64 0) := (X.sep.at_ 1 rfl).cell 0
        have f22 : w17.cell? ⟨rx, 1, none⟩ = some (.int .i64 0) := (X.sep.at_ 1 rfl).cell 1
        have f23 : w17.cell? ⟨rx, 2, none⟩ = some (.slice Abx nbx cbx) := (X.sep.at_ 1 rfl).cell 2
        go_wp2_with fail
        refine wp_region_L (fun v => v.cell? ⟨rx, 0, none⟩ = some (.int .i64 0) ∧ v.cell? ⟨rx, 1, none⟩ = some (.int .i64 0) ∧ v.cell? ⟨rx, 2, none⟩ = some (.slice Abx nbx cbx)) 10 (by kernel_rfl) ?_
        clear f21 f22 f23
        replace X := X.drew
        generalize w17.drew = w18 at *
        have HF : w18.cell? ⟨rx, 0, none⟩ = some (.int .i64 0) ∧ w18.cell? ⟨rx, 1, none⟩ = some (.int .i64 0) ∧ w18.cell? ⟨rx, 2, none⟩ = some (.slice Abx nbx cbx) := ⟨(X.sep.at_ 1 rfl).cell 0, (X.sep.at_ 1 rfl).cell 1, (X.sep.at_ 1 rfl).cell 2⟩
        refine wpAnyL_take (i := 0) (v := ?_) rfl rfl (by kernel_rfl) (by kernel_rfl) (by kernel_rfl) (by kernel_rfl) (by kernel_rfl) (fun _ _ _ h => h) HF (Or.inl ⟨by rfl, ?_⟩) ?_
        rotate_left 1
        · (rintro v ⟨a0, a1, a2⟩; go_simp; try with_reducible rfl)
        try simp only [Act.put]
        refine wpAnyL_take (i := 1) (v := ?_) rfl rfl (by kernel_rfl) (by kernel_rfl) (by kernel_rfl) (by kernel_rfl) (by kernel_rfl) (fun _ _ _ h => h) HF (Or.inl ⟨by rfl, ?_⟩) ?_
        rotate_left 1
        · (rintro v ⟨a0, a1, a2⟩; go_simp; try with_reducible rfl)
        try simp only [Act.put]
        refine wpAnyL_take (i := 2) (v := ?_) rfl rfl (by kernel_rfl) (by kernel_rfl) (by kernel_rfl) (by kernel_rfl) (by kernel_rfl) (fun _ _ _ h => h) HF (Or.inl ⟨by rfl, ?_⟩) ?_
        rotate_left 1
        · (rintro v ⟨a0, a1, a2⟩; go_simp; try with_reducible rfl)
        try simp only [Act.put]
        refine wpAnyL_take (i := 4) (v := ?_) rfl rfl (by kernel_rfl) (by kernel_rfl) (by kernel_rfl) (by kernel_rfl) (by kernel_rfl) (fun _ _ _ h => h) HF (Or.inl ⟨by rfl, ?_⟩) ?_
        rotate_left 1
        · (rintro v ⟨a0, a1, a2⟩; go_simp; try with_reducible rfl)
        try simp only [Act.put]
        refine wpAnyL_take (i := 5) (v := ?_) rfl rfl (by kernel_rfl) (by kernel_rfl) (by kernel_rfl) (by kernel_rfl) (by kernel_rfl) (fun _ _ _ h => h) HF (Or.inl ⟨by rfl, ?_⟩) ?_
        rotate_left 1
        · (rintro v ⟨a0, a1, a2⟩; go_simp; try with_reducible rfl)
        try simp only [Act.put]
        refine wpAnyL_take (i := 6) (v := ?_) rfl rfl (by kernel_rfl) (by kernel_rfl) (by kernel_rfl) (by kernel_rfl) (by kernel_rfl) (fun _ _ _ h => h) HF (Or.inl ⟨by rfl, ?_⟩) ?_
        rotate_left 1
        · (rintro v ⟨a0, a1, a2⟩; go_simp; try with_reducible rfl)
        try simp only [Act.put]
        refine wpAnyL_take (i := 7) (v := ?_) rfl rfl (by kernel_rfl) (by kernel_rfl) (by kernel_rfl) (by kernel_rfl) (by kernel_rfl) (fun _ _ _ h => h) HF (Or.inl ⟨by rfl, ?_⟩) ?_
        rotate_left 1
        · (rintro v ⟨a0, a1, a2⟩; go_simp; try with_reducible rfl)
        try simp only [Act.put]
        refine wpAnyL_take (i := 8) (v := ?_) rfl rfl (by kernel_rfl) (by kernel_rfl) (by kernel_rfl) (by kernel_rfl) (by kernel_rfl) (fun _ _ _ h => h) HF (Or.inl ⟨by rfl, ?_⟩) ?_
        rotate_left 1
        · (rintro v ⟨a0, a1, a2⟩; go_simp; try with_reducible rfl)
        try simp only [Act.put]
        clear hs3
        refine wpAnyL_step (i := 3) (by kernel_rfl) rfl rfl ?_
        intro K hK
        go_simp
        refine (HP.out 0 0 Abx nbx cbx l (F : Int) (s : Int) _ ((X.sep.own_ 0 rfl).rd) hsz).mono ?_
        rintro e w19 ⟨Ap, np, cp, rfl, o, b1⟩
        rw [HEQ.out] at o
        obtain ⟨fp_p, X'⟩ := X.has b1 o
        clear X; have X := X'; clear X' b1 o
        clear HF
        have HF : w19.cell? ⟨rx, 0, none⟩ = some (.int .i64 0) ∧ w19.cell? ⟨rx, 1, none⟩ = some (.int .i64 0) ∧ w19.cell? ⟨rx, 2, none⟩ = some (.slice Abx nbx cbx) := ⟨(X.sep.at_ 2 rfl).cell 0, (X.sep.at_ 2 rfl).cell 1, (X.sep.at_ 2 rfl).cell 2⟩
        refine hK _ _ (fun _ => HF) ?_
        clear hK K
        try simp only [Act.put]
        refine wpAnyL_step (i := 9) (by kernel_rfl) rfl rfl ?_
        intro K hK
        go_simp
        refine (w9Same_any Ap A3 np cp s (c - f) _ _ _ _ _ ((X.sep.own_ 0 rfl).rd) (hb3 ((X.sep.own_ 3 rfl).rd)) (Nat.le_refl _) (Nat.le_refl _) (by unfold entSz; rw [List.length_take, List.length_drop]; omega) (by unfold entSz; rw [List.length_take, List.length_drop]; omega)).mono ?_
        rintro e w20 ⟨rfl, b1⟩
        rw [sameEs_refl]
        replace X := X.keep b1
        clear b1
        clear HF
        have HF : w20.cell? ⟨rx, 0, none⟩ = some (.int .i64 0) ∧ w20.cell? ⟨rx, 1, none⟩ = some (.int .i64 0) ∧ w20.cell? ⟨rx, 2, none⟩ = some (.slice Abx nbx cbx) := ⟨(X.sep.at_ 2 rfl).cell 0, (X.sep.at_ 2 rfl).cell 1, (X.sep.at_ 2 rfl).cell 2⟩
        refine hK _ _ (fun _ => HF) ?_
        clear hK K
        try simp only [Act.put]
        refine wpAnyL_step (i := 10) (by kernel_rfl) rfl rfl ?_
        intro K hK
        go_simp
        refine hK _ _ (fun h => nomatch (show true = false from h)) ?_
        clear hK K
        try simp only [Act.put]
        refine wpAnyL_done (by kernel_rfl) ?_ _
        clear HF
        have C := Lib.hid (B1.out.trans (grown_below X.grown B1.out.size (fun k hk => by injection hk with hk; omega)))
        clear X
        go_wp2
        go_ret
        exact ⟨rfl, C.out⟩

end Go.Proofs.Ytjbhldfkkmkilaa
