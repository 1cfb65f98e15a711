/-
  The law FnMirror answers true at every slice of bytes, and writes nothing that was there.
-/
import Derived.Test.YtejcpoidoekleaaTwoN
namespace Go.Proofs.Ytejcpoidoekleaa
set_option maxRecDepth 100000
open Go.RowKit

set_option maxHeartbeats 12800000 in
theorem lawMirror (A : Option Addr) (n c0 : Nat) (w : World) (h : BRow w w.heap.size A n) (hm : n ≤ maxLen) :
    Calls Try.prog 3 #[.slice A n c0] w fun e w' => e = .returned (.bool true) ∧ Below w.heap.size w w' := by
  unfold maxLen at hm
  by_cases hn : 4096 < n
  · clear h
    go_enter Try.func3, Try.ntmps3
    go_wp2_with fail
    refine (bigt_any A n c0 _).mono ?_
    rintro e w' ⟨rfl, rfl⟩
    rw [decide_eq_true hn]
    go_wp2
    go_ret
    exact ⟨rfl, Below.refl _ _⟩
  go_enter Try.func3, Try.ntmps3
  go_wp2_with fail
  refine (bigt_any A n c0 _).mono ?_
  rintro e w' ⟨rfl, rfl⟩
  rw [decide_eq_false hn]
  go_wp2_with fail
  refine (roll_any A n c0 _ h (by omega) _).mono ?_
  rintro e w1 ⟨rfl, cu, b1⟩
  have X := DrL.start cu
  have B1 := Lib.hid b1
  clear b1 cu h
  go_wp2_with fail
  refine (iNewTwo_any 4 _).mono ?_
  rintro e w2 ⟨Aa0, na0, ca0, Aa1, na1, ca1, Aa2, na2, ca2, Aa3, na3, ca3, rfl, o, b⟩
  rw [new_four] at o
  obtain ⟨fp_ta, X'⟩ := X.has b o
  clear X; have X := X'; clear X' b o
  replace X := X.boxAt (w2.heap.size) rfl #[.slice Aa0 na0 ca0, .slice Aa1 na1 ca1, .slice Aa2 na2 ca2, .slice Aa3 na3 ca3] 32
  go_wp2_with fail
  generalize w2.alloc (.cells #[.slice Aa0 na0 ca0, .slice Aa1 na1 ca1, .slice Aa2 na2 ca2, .slice Aa3 na3 ca3] 32) = w3 at *
  generalize w2.heap.size = rt at *
  refine (lbelow_any _ _ _ X.cur 1000 (by decide)).mono ?_
  rintro e w4 ⟨x0, hx0, rfl, cu, gr⟩
  replace X := X.draw cu gr
  clear cu gr
  go_wp2_with fail
  refine (lbelow_any _ _ _ X.cur 1000 (by decide)).mono ?_
  rintro e w5 ⟨x1, hx1, rfl, cu, gr⟩
  replace X := X.draw cu gr
  clear cu gr
  go_wp2_with fail
  refine (lbelow_any _ _ _ X.cur 1000 (by decide)).mono ?_
  rintro e w6 ⟨x2, hx2, rfl, cu, gr⟩
  replace X := X.draw cu gr
  clear cu gr
  have hr := row3_ok hx0 hx1 hx2
  obtain ⟨sok, sln⟩ := ws_ok hr rfl
  have HR := Lib.hid hr
  have HS := Lib.hid sok
  have HN := Lib.hid sln
  clear hr sok sln hx0 hx1 hx2
  replace X := X.boxAt (w6.heap.size) rfl #[.int .i64 x0, .int .i64 x1, .int .i64 x2] 2
  have f0 : (w6.alloc (.cells #[.int .i64 x0, .int .i64 x1, .int .i64 x2] 2)).cell? ⟨rt, 0, none⟩ = some (.slice Aa0 na0 ca0) := (X.sep.at_ 1 rfl).cell 0
  have f1 : (w6.alloc (.cells #[.int .i64 x0, .int .i64 x1, .int .i64 x2] 2)).cell? ⟨rt, 1, none⟩ = some (.slice Aa1 na1 ca1) := (X.sep.at_ 1 rfl).cell 1
  have f2 : (w6.alloc (.cells #[.int .i64 x0, .int .i64 x1, .int .i64 x2] 2)).cell? ⟨rt, 2, none⟩ = some (.slice Aa2 na2 ca2) := (X.sep.at_ 1 rfl).cell 2
  have f3 : (w6.alloc (.cells #[.int .i64 x0, .int .i64 x1, .int .i64 x2] 2)).cell? ⟨rt, 3, none⟩ = some (.slice Aa3 na3 ca3) := (X.sep.at_ 1 rfl).cell 3
  go_wp2_with fail
  generalize w6.alloc (.cells #[.int .i64 x0, .int .i64 x1, .int .i64 x2] 2) = w7 at *
  generalize w6.heap.size = rl at *
  refine (iBothWrote_any _ _ _ _ _ _ _ _ _ _ _ _ (pairOf [] []) 2 _ _ _ [x0, x1, x2] _ (X.sep.own_ 2 rfl).rd (by have := ok_two_sz (pairOf_ok nil_okS nil_okS); omega) (row3_rd (X.sep.at_ 0 rfl)) (by simp)).mono ?_
  rintro e w8 ⟨Ab0, nb0, cb0, Ab1, nb1, cb1, Ab2, nb2, cb2, Ab3, nb3, cb3, rfl, o, b⟩
  have E := both_pair nil_okS nil_okS HR.out (by simp)
  rw [show (bothWrote (pairOf [] []) 2 [x0, x1, x2]).1 = pairW [] [] (withSum [x0, x1, x2]) by rw [E]] at o
  rw [show (bothWrote (pairOf [] []) 2 [x0, x1, x2]).2 = true by rw [E]]
  clear E
  obtain ⟨fp_tb, X'⟩ := X.has b o
  clear X; have X := X'; clear X' b o f0 f1 f2 f3
  have f4 : w8.cell? ⟨rt, 0, none⟩ = some (.slice Aa0 na0 ca0) := (X.sep.at_ 2 rfl).cell 0
  have f5 := (X.sep.at_ 2 rfl).free 0
  have f6 : w8.cell? ⟨rt, 1, none⟩ = some (.slice Aa1 na1 ca1) := (X.sep.at_ 2 rfl).cell 1
  have f7 := (X.sep.at_ 2 rfl).free 1
  have f8 : w8.cell? ⟨rt, 2, none⟩ = some (.slice Aa2 na2 ca2) := (X.sep.at_ 2 rfl).cell 2
  have f9 := (X.sep.at_ 2 rfl).free 2
  have f10 : w8.cell? ⟨rt, 3, none⟩ = some (.slice Aa3 na3 ca3) := (X.sep.at_ 2 rfl).cell 3
  have f11 := (X.sep.at_ 2 rfl).free 3
  replace X := X.put 2 rfl 0 (.slice Ab0 nb0 cb0)
  replace X := X.put 2 rfl 1 (.slice Ab1 nb1 cb1)
  replace X := X.put 2 rfl 2 (.slice Ab2 nb2 cb2)
  replace X := X.put 2 rfl 3 (.slice Ab3 nb3 cb3)
  replace X : DrL w1 _ _ _ [_, .blk (rl) #[.int .i64 x0, .int .i64 x1, .int .i64 x2] 2, .blk (rt) #[.slice Ab0 nb0 cb0, .slice Ab1 nb1 cb1, .slice Ab2 nb2 cb2, .slice Ab3 nb3 cb3] 32, _] := X
  have f12 : ((((w8.setCell ⟨rt, 0, none⟩ (.slice Ab0 nb0 cb0)).setCell ⟨rt, 1, none⟩ (.slice Ab1 nb1 cb1)).setCell ⟨rt, 2, none⟩ (.slice Ab2 nb2 cb2)).setCell ⟨rt, 3, none⟩ (.slice Ab3 nb3 cb3)).cell? ⟨rt, 0, none⟩ = some (.slice Ab0 nb0 cb0) := (X.sep.at_ 2 rfl).cell 0
  have f13 : ((((w8.setCell ⟨rt, 0, none⟩ (.slice Ab0 nb0 cb0)).setCell ⟨rt, 1, none⟩ (.slice Ab1 nb1 cb1)).setCell ⟨rt, 2, none⟩ (.slice Ab2 nb2 cb2)).setCell ⟨rt, 3, none⟩ (.slice Ab3 nb3 cb3)).cell? ⟨rt, 1, none⟩ = some (.slice Ab1 nb1 cb1) := (X.sep.at_ 2 rfl).cell 1
  have f14 : ((((w8.setCell ⟨rt, 0, none⟩ (.slice Ab0 nb0 cb0)).setCell ⟨rt, 1, none⟩ (.slice Ab1 nb1 cb1)).setCell ⟨rt, 2, none⟩ (.slice Ab2 nb2 cb2)).setCell ⟨rt, 3, none⟩ (.slice Ab3 nb3 cb3)).cell? ⟨rt, 2, none⟩ = some (.slice Ab2 nb2 cb2) := (X.sep.at_ 2 rfl).cell 2
  have f15 : ((((w8.setCell ⟨rt, 0, none⟩ (.slice Ab0 nb0 cb0)).setCell ⟨rt, 1, none⟩ (.slice Ab1 nb1 cb1)).setCell ⟨rt, 2, none⟩ (.slice Ab2 nb2 cb2)).setCell ⟨rt, 3, none⟩ (.slice Ab3 nb3 cb3)).cell? ⟨rt, 3, none⟩ = some (.slice Ab3 nb3 cb3) := (X.sep.at_ 2 rfl).cell 3
  go_wp2_with fail
  generalize (((w8.setCell ⟨rt, 0, none⟩ (.slice Ab0 nb0 cb0)).setCell ⟨rt, 1, none⟩ (.slice Ab1 nb1 cb1)).setCell ⟨rt, 2, none⟩ (.slice Ab2 nb2 cb2)).setCell ⟨rt, 3, none⟩ (.slice Ab3 nb3 cb3) = w9 at *
  refine (iBothSynced_any _ _ _ _ _ _ _ _ _ _ _ _ (pairW [] [] (withSum [x0, x1, x2])) _ (X.sep.own_ 0 rfl).rd (by have := ok_two_sz (pairW_ok nil_okS nil_okS HS.out); omega)).mono ?_
  rintro e w10 ⟨Ac0, nc0, cc0, Ac1, nc1, cc1, Ac2, nc2, cc2, Ac3, nc3, cc3, rfl, o, b⟩
  rw [bothSynced_pair nil_okS nil_okS HS.out] at o
  obtain ⟨fp_tc, X'⟩ := X.has b o
  clear X; have X := X'; clear X' b o f4 f5 f6 f7 f8 f9 f10 f11 f12 f13 f14 f15
  have f16 : w10.cell? ⟨rt, 0, none⟩ = some (.slice Ab0 nb0 cb0) := (X.sep.at_ 3 rfl).cell 0
  have f17 := (X.sep.at_ 3 rfl).free 0
  have f18 : w10.cell? ⟨rt, 1, none⟩ = some (.slice Ab1 nb1 cb1) := (X.sep.at_ 3 rfl).cell 1
  have f19 := (X.sep.at_ 3 rfl).free 1
  have f20 : w10.cell? ⟨rt, 2, none⟩ = some (.slice Ab2 nb2 cb2) := (X.sep.at_ 3 rfl).cell 2
  have f21 := (X.sep.at_ 3 rfl).free 2
  have f22 : w10.cell? ⟨rt, 3, none⟩ = some (.slice Ab3 nb3 cb3) := (X.sep.at_ 3 rfl).cell 3
  have f23 := (X.sep.at_ 3 rfl).free 3
  replace X := X.put 3 rfl 0 (.slice Ac0 nc0 cc0)
  replace X := X.put 3 rfl 1 (.slice Ac1 nc1 cc1)
  replace X := X.put 3 rfl 2 (.slice Ac2 nc2 cc2)
  replace X := X.put 3 rfl 3 (.slice Ac3 nc3 cc3)
  replace X : DrL w1 _ _ _ [_, _, .blk (rl) #[.int .i64 x0, .int .i64 x1, .int .i64 x2] 2, .blk (rt) #[.slice Ac0 nc0 cc0, .slice Ac1 nc1 cc1, .slice Ac2 nc2 cc2, .slice Ac3 nc3 cc3] 32, _] := X
  have f24 : ((((w10.setCell ⟨rt, 0, none⟩ (.slice Ac0 nc0 cc0)).setCell ⟨rt, 1, none⟩ (.slice Ac1 nc1 cc1)).setCell ⟨rt, 2, none⟩ (.slice Ac2 nc2 cc2)).setCell ⟨rt, 3, none⟩ (.slice Ac3 nc3 cc3)).cell? ⟨rt, 0, none⟩ = some (.slice Ac0 nc0 cc0) := (X.sep.at_ 3 rfl).cell 0
  have f25 : ((((w10.setCell ⟨rt, 0, none⟩ (.slice Ac0 nc0 cc0)).setCell ⟨rt, 1, none⟩ (.slice Ac1 nc1 cc1)).setCell ⟨rt, 2, none⟩ (.slice Ac2 nc2 cc2)).setCell ⟨rt, 3, none⟩ (.slice Ac3 nc3 cc3)).cell? ⟨rt, 1, none⟩ = some (.slice Ac1 nc1 cc1) := (X.sep.at_ 3 rfl).cell 1
  have f26 : ((((w10.setCell ⟨rt, 0, none⟩ (.slice Ac0 nc0 cc0)).setCell ⟨rt, 1, none⟩ (.slice Ac1 nc1 cc1)).setCell ⟨rt, 2, none⟩ (.slice Ac2 nc2 cc2)).setCell ⟨rt, 3, none⟩ (.slice Ac3 nc3 cc3)).cell? ⟨rt, 2, none⟩ = some (.slice Ac2 nc2 cc2) := (X.sep.at_ 3 rfl).cell 2
  have f27 : ((((w10.setCell ⟨rt, 0, none⟩ (.slice Ac0 nc0 cc0)).setCell ⟨rt, 1, none⟩ (.slice Ac1 nc1 cc1)).setCell ⟨rt, 2, none⟩ (.slice Ac2 nc2 cc2)).setCell ⟨rt, 3, none⟩ (.slice Ac3 nc3 cc3)).cell? ⟨rt, 3, none⟩ = some (.slice Ac3 nc3 cc3) := (X.sep.at_ 3 rfl).cell 3
  go_wp2_with fail
  generalize (((w10.setCell ⟨rt, 0, none⟩ (.slice Ac0 nc0 cc0)).setCell ⟨rt, 1, none⟩ (.slice Ac1 nc1 cc1)).setCell ⟨rt, 2, none⟩ (.slice Ac2 nc2 cc2)).setCell ⟨rt, 3, none⟩ (.slice Ac3 nc3 cc3) = w11 at *
  refine (iEqualIn_any _ _ _ _ _ _ _ _ _ _ _ _ (pairOf (withSum [x0, x1, x2]) (withSum [x0, x1, x2])) _ (X.sep.own_ 0 rfl).rd (by have := ok_two_sz (pairOf_ok HS.out HS.out); omega)).mono ?_
  rintro e w12 ⟨rfl, b⟩
  rw [equal_same HS.out]
  replace X := X.keep b
  clear b f16 f17 f18 f19 f20 f21 f22 f23 f24 f25 f26 f27
  obtain ⟨kb, ko, rb, ro, rc, hnc, hac, TC⟩ := third_cells ((X.sep.own_ 0 rfl).rd.halves.2) HN.out X.cur
  subst hnc
  subst hac
  obtain ⟨k2, k3⟩ := TC _ (World.grownBy.refl _ _)
  have f28 : w12.cell? ⟨rt, 2, none⟩ = some (.slice (some ⟨kb, ko, none⟩) 4 cc2) := (X.sep.at_ 3 rfl).cell 2
  go_wp2_with fail
  have TC8 := Lib.hid TC
  clear TC
  refine (lbelow_any _ _ _ X.cur 4 (by decide)).mono ?_
  rintro e w13 ⟨i, hi, rfl, cu, gr⟩
  have TC := Lib.hid (fun w' g => TC8.out w' (gr.trans g))
  clear TC8
  replace X := X.draw cu gr
  clear cu gr f28 k2 k3
  obtain ⟨I, rfl⟩ : ∃ I : Nat, i = (I : Int) := ⟨i.toNat, by omega⟩
  have hI : I < 4 := by omega
  have i0 : (0 : Int) ≤ (I : Int) := by omega
  have i1 : (I : Int) < 4 := by omega
  clear hi
  have HV := Lib.hid (getD_okM HS.out I)
  obtain ⟨v0, v1⟩ := HV.out
  obtain ⟨k2, k3⟩ := TC.out _ (World.grownBy.refl _ _)
  replace k3 := k3 I hI
  generalize hv : (withSum [x0, x1, x2]).getD I 0 = vv at *
  have HVE := Lib.hid hv
  clear hv
  have f29 : w13.cell? ⟨rt, 2, none⟩ = some (.slice (some ⟨kb, ko, none⟩) 4 cc2) := (X.sep.at_ 3 rfl).cell 2
  go_wp2_with fail
  refine wp_region_L (fun v => v.cell? ⟨rt, 2, none⟩ = some (.slice (some ⟨kb, ko, none⟩) 4 cc2) ∧ v.cell? ⟨kb, ko + 2, none⟩ = some (.slice (some ⟨rb, ro, none⟩) 4 rc) ∧ v.cell? ⟨rb, ro + I, none⟩ = some (.int .i64 vv)) 12 (by kernel_rfl) ?_
  clear f29 k2 k3
  replace X := X.drew
  generalize hdr : w13.drew = w14 at *
  have TR := Lib.hid (fun w' (g : World.grownBy w14 w' _) => TC.out w' ((show World.grownBy w13 w14 _ by rw [← hdr]; exact (grownBy_of_below ((Below.refl _ _).drew) _)).trans g))
  clear TC hdr
  have HF : w14.cell? ⟨rt, 2, none⟩ = some (.slice (some ⟨kb, ko, none⟩) 4 cc2) ∧ w14.cell? ⟨kb, ko + 2, none⟩ = some (.slice (some ⟨rb, ro, none⟩) 4 rc) ∧ w14.cell? ⟨rb, ro + I, none⟩ = some (.int .i64 vv) := ⟨(X.sep.at_ 3 rfl).cell 2, (TR.out _ (World.grownBy.refl _ _)).1, by rw [← HVE.out]; exact (TR.out _ (World.grownBy.refl _ _)).2 I hI⟩
  refine wpAnyL_take (i := 0) (v := ?_) rfl rfl (by kernel_rfl) (by kernel_rfl) (by kernel_rfl) (by kernel_rfl) (by kernel_rfl) (fun _ _ _ h => h) HF (Or.inl ⟨by rfl, ?_⟩) ?_
  rotate_left 1
  · (rintro v ⟨a0, a1, a2⟩; go_simp; try with_reducible rfl)
  try simp only [Act.put]
  refine wpAnyL_take (i := 1) (v := ?_) rfl rfl (by kernel_rfl) (by kernel_rfl) (by kernel_rfl) (by kernel_rfl) (by kernel_rfl) (fun _ _ _ h => h) HF (Or.inl ⟨by rfl, ?_⟩) ?_
  rotate_left 1
  · (rintro v ⟨a0, a1, a2⟩; go_simp; try with_reducible rfl)
  try simp only [Act.put]
  refine wpAnyL_take (i := 2) (v := ?_) rfl rfl (by kernel_rfl) (by kernel_rfl) (by kernel_rfl) (by kernel_rfl) (by kernel_rfl) (fun _ _ _ h => h) HF (Or.inl ⟨by rfl, ?_⟩) ?_
  rotate_left 1
  · (rintro v ⟨a0, a1, a2⟩; go_simp; try with_reducible rfl)
  try simp only [Act.put]
  refine wpAnyL_take (i := 3) (v := ?_) rfl rfl (by kernel_rfl) (by kernel_rfl) (by kernel_rfl) (by kernel_rfl) (by kernel_rfl) (fun _ _ _ h => h) HF (Or.inl ⟨by rfl, ?_⟩) ?_
  rotate_left 1
  · (rintro v ⟨a0, a1, a2⟩; go_simp; try with_reducible rfl)
  try simp only [Act.put]
  refine wpAnyL_take (i := 4) (v := ?_) rfl rfl (by kernel_rfl) (by kernel_rfl) (by kernel_rfl) (by kernel_rfl) (by kernel_rfl) (fun _ _ _ h => h) HF (Or.inl ⟨by rfl, ?_⟩) ?_
  rotate_left 1
  · (rintro v ⟨a0, a1, a2⟩; go_simp; try with_reducible rfl)
  try simp only [Act.put]
  refine wpAnyL_take (i := 5) (v := ?_) rfl rfl (by kernel_rfl) (by kernel_rfl) (by kernel_rfl) (by kernel_rfl) (by kernel_rfl) (fun _ _ _ h => h) HF (Or.inl ⟨by rfl, ?_⟩) ?_
  rotate_left 1
  · (rintro v ⟨a0, a1, a2⟩; go_simp; try with_reducible rfl)
  try simp only [Act.put]
  refine wpAnyL_take (i := 6) (v := ?_) rfl rfl (by kernel_rfl) (by kernel_rfl) (by kernel_rfl) (by kernel_rfl) (by kernel_rfl) (fun _ _ _ h => h) HF (Or.inl ⟨by rfl, ?_⟩) ?_
  rotate_left 1
  · (rintro v ⟨a0, a1, a2⟩; go_simp; try with_reducible rfl)
  try simp only [Act.put]
  refine wpAnyL_take (i := 7) (v := ?_) rfl rfl (by kernel_rfl) (by kernel_rfl) (by kernel_rfl) (by kernel_rfl) (by kernel_rfl) (fun _ _ _ h => h) HF (Or.inl ⟨by rfl, ?_⟩) ?_
  rotate_left 1
  · (rintro v ⟨a0, a1, a2⟩; go_simp; try with_reducible rfl)
  try simp only [Act.put]
  refine wpAnyL_take (i := 8) (v := ?_) rfl rfl (by kernel_rfl) (by kernel_rfl) (by kernel_rfl) (by kernel_rfl) (by kernel_rfl) (fun _ _ _ h => h) HF (Or.inl ⟨by rfl, ?_⟩) ?_
  rotate_left 1
  · (rintro v ⟨a0, a1, a2⟩; go_simp; try with_reducible rfl)
  try simp only [Act.put]
  refine wpAnyL_take (i := 9) (v := ?_) rfl rfl (by kernel_rfl) (by kernel_rfl) (by kernel_rfl) (by kernel_rfl) (by kernel_rfl) (fun _ _ _ h => h) HF (Or.inl ⟨by rfl, ?_⟩) ?_
  rotate_left 1
  · (rintro v ⟨a0, a1, a2⟩; go_simp; try with_reducible rfl)
  try simp only [Act.put]
  refine wpAnyL_step (i := 10) (by kernel_rfl) rfl rfl ?_
  intro K hK
  go_simp
  refine (lbelow_any _ _ _ X.cur 1000 (by decide)).mono ?_
  rintro e w15 ⟨y, hy, rfl, cu, gr⟩
  have TC := Lib.hid (fun w' g => TR.out w' (gr.trans g))
  clear TR
  have TR := TC
  clear TC
  replace X := X.draw cu gr
  clear cu gr
  clear HF
  have HF : w15.cell? ⟨rt, 2, none⟩ = some (.slice (some ⟨kb, ko, none⟩) 4 cc2) ∧ w15.cell? ⟨kb, ko + 2, none⟩ = some (.slice (some ⟨rb, ro, none⟩) 4 rc) ∧ w15.cell? ⟨rb, ro + I, none⟩ = some (.int .i64 vv) := ⟨(X.sep.at_ 3 rfl).cell 2, (TR.out _ (World.grownBy.refl _ _)).1, by rw [← HVE.out]; exact (TR.out _ (World.grownBy.refl _ _)).2 I hI⟩
  refine hK _ _ (fun _ => HF) ?_
  clear hK K
  try simp only [Act.put]
  obtain ⟨y0, y1⟩ := hy
  refine wpAnyL_step (i := 11) (by kernel_rfl) rfl rfl ?_
  intro K hK
  go_simp
  refine hK _ _ (fun _ => HF) ?_
  clear hK K
  try simp only [Act.put]
  refine wpAnyL_step (i := 12) (by kernel_rfl) rfl rfl ?_
  intro K hK
  go_simp
  refine hK _ _ (fun h => nomatch (show true = false from h)) ?_
  clear hK K
  try simp only [Act.put]
  refine wpAnyL_done (by kernel_rfl) ?_ _
  clear HF
  obtain ⟨k2, k3⟩ := TR.out _ (World.grownBy.refl _ _)
  replace k3 := k3 I hI
  rw [HVE.out] at k3
  clear TR
  by_cases hmx : vv + 1 + y > 1000000000
  · have f30 : w15.cell? ⟨rt, 2, none⟩ = some (.slice (some ⟨kb, ko, none⟩) 4 cc2) := (X.sep.at_ 3 rfl).cell 2
    have HY := Lib.hid (show 0 ≤ (vv - 1) ∧ (vv - 1) ≤ 1000000000 ∧ vv ≠ (vv - 1) ∧ vv - (vv - 1) ≤ 999999 ∧ (vv - 1) - vv ≤ 999999 by omega)
    have f31 : w15.cell? ⟨rt, 2, none⟩ = some (.slice (some ⟨kb, ko, none⟩) 4 cc2) := (X.sep.at_ 3 rfl).cell 2
    have f32 : w15.cell? ⟨rt, 3, none⟩ = some (.slice Ac3 nc3 cc3) := (X.sep.at_ 3 rfl).cell 3
    go_wp2_with fail
    clear k2 k3
    refine (iRotted_any _ _ _ _ _ _ ⟨kk (withSum [x0, x1, x2]), []⟩ 2 (I : Int) (vv - 1) _ (X.sep.own_ 0 rfl).rd.halves.2 (ok_sz (kk_ok HS.out))).mono ?_
    rintro e w16 ⟨Ad0, nd0, cd0, Ad1, nd1, cd1, rfl, o, b⟩
    have E := rotted_pairN HS.out (by rw [HN.out]; exact hI) HY.out.1 HY.out.2.1
    rw [show (rotted ⟨kk (withSum [x0, x1, x2]), []⟩ 2 (I : Int) (vv - 1)).1 = ⟨kk ((withSum [x0, x1, x2]).set I (vv - 1)), []⟩ by rw [E]] at o
    rw [show (rotted ⟨kk (withSum [x0, x1, x2]), []⟩ 2 (I : Int) (vv - 1)).2 = true by rw [E]]
    clear E
    obtain ⟨fp_td, X'⟩ := X.has b o
    clear X; have X := X'; clear X' b o f30 f31 f32
    replace X := X.boxAt (w16.heap.size) rfl #[.slice Ad0 nd0 cd0, .slice Ad1 nd1 cd1] 30
    have f33 : (w16.alloc (.cells #[.slice Ad0 nd0 cd0, .slice Ad1 nd1 cd1] 30)).cell? ⟨rt, 2, none⟩ = some (.slice (some ⟨kb, ko, none⟩) 4 cc2) := (X.sep.at_ 5 rfl).cell 2
    have f34 := (X.sep.at_ 5 rfl).free 2
    have f35 : (w16.alloc (.cells #[.slice Ad0 nd0 cd0, .slice Ad1 nd1 cd1] 30)).cell? ⟨rt, 3, none⟩ = some (.slice Ac3 nc3 cc3) := (X.sep.at_ 5 rfl).cell 3
    have f36 := (X.sep.at_ 5 rfl).free 3
    have f37 : (w16.alloc (.cells #[.slice Ad0 nd0 cd0, .slice Ad1 nd1 cd1] 30)).cell? ⟨w16.heap.size, 0, none⟩ = some (.slice Ad0 nd0 cd0) := (X.sep.at_ 0 rfl).cell 0
    have f38 : (w16.alloc (.cells #[.slice Ad0 nd0 cd0, .slice Ad1 nd1 cd1] 30)).cell? ⟨w16.heap.size, 1, none⟩ = some (.slice Ad1 nd1 cd1) := (X.sep.at_ 0 rfl).cell 1
    replace X := X.put 5 rfl 2 (.slice Ad0 nd0 cd0)
    replace X := X.put 5 rfl 3 (.slice Ad1 nd1 cd1)
    replace X : DrL w1 _ _ _ [.blk (w16.heap.size) #[.slice Ad0 nd0 cd0, .slice Ad1 nd1 cd1] 30, _, _, _, .blk (rl) #[.int .i64 x0, .int .i64 x1, .int .i64 x2] 2, .blk (rt) #[.slice Ac0 nc0 cc0, .slice Ac1 nc1 cc1, .slice Ad0 nd0 cd0, .slice Ad1 nd1 cd1] 32, _] := X
    have f39 : (((w16.alloc (.cells #[.slice Ad0 nd0 cd0, .slice Ad1 nd1 cd1] 30)).setCell ⟨rt, 2, none⟩ (.slice Ad0 nd0 cd0)).setCell ⟨rt, 3, none⟩ (.slice Ad1 nd1 cd1)).cell? ⟨rt, 0, none⟩ = some (.slice Ac0 nc0 cc0) := (X.sep.at_ 5 rfl).cell 0
    have f40 : (((w16.alloc (.cells #[.slice Ad0 nd0 cd0, .slice Ad1 nd1 cd1] 30)).setCell ⟨rt, 2, none⟩ (.slice Ad0 nd0 cd0)).setCell ⟨rt, 3, none⟩ (.slice Ad1 nd1 cd1)).cell? ⟨rt, 1, none⟩ = some (.slice Ac1 nc1 cc1) := (X.sep.at_ 5 rfl).cell 1
    have f41 : (((w16.alloc (.cells #[.slice Ad0 nd0 cd0, .slice Ad1 nd1 cd1] 30)).setCell ⟨rt, 2, none⟩ (.slice Ad0 nd0 cd0)).setCell ⟨rt, 3, none⟩ (.slice Ad1 nd1 cd1)).cell? ⟨rt, 2, none⟩ = some (.slice Ad0 nd0 cd0) := (X.sep.at_ 5 rfl).cell 2
    have f42 : (((w16.alloc (.cells #[.slice Ad0 nd0 cd0, .slice Ad1 nd1 cd1] 30)).setCell ⟨rt, 2, none⟩ (.slice Ad0 nd0 cd0)).setCell ⟨rt, 3, none⟩ (.slice Ad1 nd1 cd1)).cell? ⟨rt, 3, none⟩ = some (.slice Ad1 nd1 cd1) := (X.sep.at_ 5 rfl).cell 3
    go_wp2_with fail
    generalize ((w16.alloc (.cells #[.slice Ad0 nd0 cd0, .slice Ad1 nd1 cd1] 30)).setCell ⟨rt, 2, none⟩ (.slice Ad0 nd0 cd0)).setCell ⟨rt, 3, none⟩ (.slice Ad1 nd1 cd1) = w17 at *
    generalize w16.heap.size = rd at *
    refine (iRightAt_any _ _ _ _ _ _ _ _ _ _ _ _ (pairOf (withSum [x0, x1, x2]) ((withSum [x0, x1, x2]).set I (vv - 1))) 2 _ (Rd.pairT (t := pairOf (withSum [x0, x1, x2]) ((withSum [x0, x1, x2]).set I (vv - 1))) ((X.sep.own_ 2 rfl).rd.halves.1) ((X.sep.own_ 1 rfl).rd)) (by have := ok_two_sz (pairOf_ok HS.out (set_ok (i := I) HS.out HY.out.1 HY.out.2.1)); omega)).mono ?_
    rintro e w18 ⟨Ar0, nr0, cr0, rfl, o, b⟩
    rw [right_bent HR.out rfl hI (by rw [HVE.out]; exact HY.out.2.2.1) (by rw [HVE.out]; exact HY.out.2.2.2.1) (by rw [HVE.out]; exact HY.out.2.2.2.2) HY.out.1 HY.out.2.1] at o
    obtain ⟨fp_r, X'⟩ := X.has b o
    clear X; have X := X'; clear X' b o f33 f34 f35 f36 f37 f38 f39 f40 f41 f42
    have f43 : w18.cell? ⟨rt, 0, none⟩ = some (.slice Ac0 nc0 cc0) := (X.sep.at_ 6 rfl).cell 0
    have f44 : w18.cell? ⟨rt, 1, none⟩ = some (.slice Ac1 nc1 cc1) := (X.sep.at_ 6 rfl).cell 1
    have f45 : w18.cell? ⟨rt, 2, none⟩ = some (.slice Ad0 nd0 cd0) := (X.sep.at_ 6 rfl).cell 2
    have f46 : w18.cell? ⟨rt, 3, none⟩ = some (.slice Ad1 nd1 cd1) := (X.sep.at_ 6 rfl).cell 3
    go_wp2_with fail
    refine (iEqualIn_any _ _ _ _ _ _ _ _ _ _ _ _ (pairOf (withSum [x0, x1, x2]) ((withSum [x0, x1, x2]).set I (vv - 1))) _ (Rd.pairT (t := pairOf (withSum [x0, x1, x2]) ((withSum [x0, x1, x2]).set I (vv - 1))) ((X.sep.own_ 3 rfl).rd.halves.1) ((X.sep.own_ 2 rfl).rd)) (by have := ok_two_sz (pairOf_ok HS.out (set_ok (i := I) HS.out HY.out.1 HY.out.2.1)); omega)).mono ?_
    rintro e w19 ⟨rfl, b⟩
    rw [equal_other HS.out (by rw [HN.out]; exact hI) (by rw [HVE.out]; exact HY.out.2.2.1) HY.out.1 HY.out.2.1]
    replace X := X.keep b
    clear b f43 f44 f45 f46
    obtain ⟨qb, qo, Aq, cq, hnr, hqb, har, q2, q3⟩ := first_row (X.sep.own_ 0 rfl).rd
    subst hnr
    subst har
    have q20 : w19.cell? ⟨qb, qo + 0, none⟩ = some (.slice Aq 3 cq) := q2
    have Q3 := Lib.hid q3
    have Q2 := Lib.hid q2
    clear q3
    go_wp2_with fail
    refine (like_yes _ _ 3 _ _ _ _ [x0, x1, x2] _ (rdI Q3.out).1 (rdI (row3_rd (X.sep.at_ 5 rfl))).1 (by decide)).mono ?_
    rintro e w20 ⟨rfl, dd⟩
    have b : Below w19.heap.size w19 w20 := dd.below _
    replace Q3 := Lib.hid (Q3.out.onT b)
    replace Q2 := Lib.hid ((dd.cell _).trans Q2.out)
    replace hqb := Nat.lt_of_lt_of_le hqb b.size
    clear q2 dd
    replace X := X.keep b
    clear b q20
    have q2 := Q2.out
    have f47 : w20.cell? ⟨rt, 0, none⟩ = some (.slice Ac0 nc0 cc0) := (X.sep.at_ 6 rfl).cell 0
    have f48 : w20.cell? ⟨rt, 1, none⟩ = some (.slice Ac1 nc1 cc1) := (X.sep.at_ 6 rfl).cell 1
    have f49 : w20.cell? ⟨rt, 2, none⟩ = some (.slice Ad0 nd0 cd0) := (X.sep.at_ 6 rfl).cell 2
    have f50 : w20.cell? ⟨rt, 3, none⟩ = some (.slice Ad1 nd1 cd1) := (X.sep.at_ 6 rfl).cell 3
    go_wp2_with fail
    refine wp_region_L (fun v => v.cell? ⟨rt, 0, none⟩ = some (.slice Ac0 nc0 cc0) ∧ v.cell? ⟨rt, 1, none⟩ = some (.slice Ac1 nc1 cc1) ∧ v.cell? ⟨rt, 2, none⟩ = some (.slice Ad0 nd0 cd0) ∧ v.cell? ⟨rt, 3, none⟩ = some (.slice Ad1 nd1 cd1) ∧ v.cell? ⟨qb, qo, none⟩ = some (.slice Aq 3 cq)) 6 (by kernel_rfl) ?_
    clear f47 f48 f49 f50
    replace X := X.drew
    replace Q3 := Lib.hid (Q3.out.onT ((Below.refl _ _).drew))
    replace q2 : w20.drew.cell? ⟨qb, qo, none⟩ = some (.slice Aq 3 cq) := Q2.out
    replace hqb : qb < w20.drew.heap.size := hqb
    clear Q2
    generalize w20.drew = w21 at *
    have HF : w21.cell? ⟨rt, 0, none⟩ = some (.slice Ac0 nc0 cc0) ∧ w21.cell? ⟨rt, 1, none⟩ = some (.slice Ac1 nc1 cc1) ∧ w21.cell? ⟨rt, 2, none⟩ = some (.slice Ad0 nd0 cd0) ∧ w21.cell? ⟨rt, 3, none⟩ = some (.slice Ad1 nd1 cd1) ∧ w21.cell? ⟨qb, qo, none⟩ = some (.slice Aq 3 cq) := ⟨(X.sep.at_ 6 rfl).cell 0, (X.sep.at_ 6 rfl).cell 1, (X.sep.at_ 6 rfl).cell 2, (X.sep.at_ 6 rfl).cell 3, q2⟩
    refine wpAnyL_take (i := 0) (v := ?_) rfl rfl (by kernel_rfl) (by kernel_rfl) (by kernel_rfl) (by kernel_rfl) (by kernel_rfl) (fun _ _ _ h => h) HF (Or.inl ⟨by rfl, ?_⟩) ?_
    rotate_left 1
    · (rintro v ⟨a0, a1, a2, a3, a4⟩; go_simp; try with_reducible rfl)
    try simp only [Act.put]
    refine wpAnyL_take (i := 1) (v := ?_) rfl rfl (by kernel_rfl) (by kernel_rfl) (by kernel_rfl) (by kernel_rfl) (by kernel_rfl) (fun _ _ _ h => h) HF (Or.inl ⟨by rfl, ?_⟩) ?_
    rotate_left 1
    · (rintro v ⟨a0, a1, a2, a3, a4⟩; go_simp; try with_reducible rfl)
    try simp only [Act.put]
    refine wpAnyL_take (i := 2) (v := ?_) rfl rfl (by kernel_rfl) (by kernel_rfl) (by kernel_rfl) (by kernel_rfl) (by kernel_rfl) (fun _ _ _ h => h) HF (Or.inl ⟨by rfl, ?_⟩) ?_
    rotate_left 1
    · (rintro v ⟨a0, a1, a2, a3, a4⟩; go_simp; try with_reducible rfl)
    try simp only [Act.put]
    refine wpAnyL_take (i := 3) (v := ?_) rfl rfl (by kernel_rfl) (by kernel_rfl) (by kernel_rfl) (by kernel_rfl) (by kernel_rfl) (fun _ _ _ h => h) HF (Or.inl ⟨by rfl, ?_⟩) ?_
    rotate_left 1
    · (rintro v ⟨a0, a1, a2, a3, a4⟩; go_simp; try with_reducible rfl)
    try simp only [Act.put]
    refine wpAnyL_two (i := 4) (k := 5) (by kernel_rfl) rfl rfl rfl rfl ?_ ?_
    · intro K hK
      go_simp
      refine (iMendedAt_any _ _ _ _ _ _ _ _ _ _ _ _ (pairOf (withSum [x0, x1, x2]) ((withSum [x0, x1, x2]).set I (vv - 1))) 2 _ _ _ [x0, x1, x2] _ (Rd.pairT (t := pairOf (withSum [x0, x1, x2]) ((withSum [x0, x1, x2]).set I (vv - 1))) ((X.sep.own_ 3 rfl).rd.halves.1) ((X.sep.own_ 2 rfl).rd)) (by have := ok_two_sz (pairOf_ok HS.out (set_ok (i := I) HS.out HY.out.1 HY.out.2.1)); omega) Q3.out (by simp)).mono ?_
      rintro e w22 ⟨Am0, nm0, cm0, Am1, nm1, cm1, Am2, nm2, cm2, Am3, nm3, cm3, rfl, o, b⟩
      rw [mended_pair HS.out (set_ok HS.out HY.out.1 HY.out.2.1) HR.out rfl] at o
      replace q2 := (b.cell (p := ⟨qb, qo, none⟩) hqb).trans q2
      replace hqb := Nat.lt_of_lt_of_le hqb b.size
      obtain ⟨fp_tm, X'⟩ := X.has b o
      clear X; have X := X'; clear X' b o
      clear HF
      have HF : w22.cell? ⟨rt, 0, none⟩ = some (.slice Ac0 nc0 cc0) ∧ w22.cell? ⟨rt, 1, none⟩ = some (.slice Ac1 nc1 cc1) ∧ w22.cell? ⟨rt, 2, none⟩ = some (.slice Ad0 nd0 cd0) ∧ w22.cell? ⟨rt, 3, none⟩ = some (.slice Ad1 nd1 cd1) ∧ w22.cell? ⟨qb, qo, none⟩ = some (.slice Aq 3 cq) := ⟨(X.sep.at_ 7 rfl).cell 0, (X.sep.at_ 7 rfl).cell 1, (X.sep.at_ 7 rfl).cell 2, (X.sep.at_ 7 rfl).cell 3, q2⟩
      refine hK _ _ (fun _ => HF) ?_
      clear hK K
      try simp only [Act.put]
      have HA : ∀ o, (w22.alloc o).cell? ⟨rt, 0, none⟩ = some (.slice Ac0 nc0 cc0) ∧ (w22.alloc o).cell? ⟨rt, 1, none⟩ = some (.slice Ac1 nc1 cc1) ∧ (w22.alloc o).cell? ⟨rt, 2, none⟩ = some (.slice Ad0 nd0 cd0) ∧ (w22.alloc o).cell? ⟨rt, 3, none⟩ = some (.slice Ad1 nd1 cd1) ∧ (w22.alloc o).cell? ⟨qb, qo, none⟩ = some (.slice Aq 3 cq) := fun o => ⟨((X.sep.at_ 7 rfl).alloc o).cell 0, ((X.sep.at_ 7 rfl).alloc o).cell 1, ((X.sep.at_ 7 rfl).alloc o).cell 2, ((X.sep.at_ 7 rfl).alloc o).cell 3, (((Below.refl _ _).alloc (Nat.le_refl _) o).cell (p := ⟨qb, qo, none⟩) hqb).trans q2⟩
      clear HF q2 Q3
      replace X := X.with_ (X.sep.sub (.cons_cons _ (List.nil_sublist _)))
      replace X := X.boxAt (w22.heap.size) rfl #[.slice Am0 nm0 cm0, .slice Am1 nm1 cm1, .slice Am2 nm2 cm2, .slice Am3 nm3 cm3] 32
      have f51 : (w22.alloc (.cells #[.slice Am0 nm0 cm0, .slice Am1 nm1 cm1, .slice Am2 nm2 cm2, .slice Am3 nm3 cm3] 32)).cell? ⟨w22.heap.size, 0, none⟩ = some (.slice Am0 nm0 cm0) := (X.sep.at_ 0 rfl).cell 0
      have f52 : (w22.alloc (.cells #[.slice Am0 nm0 cm0, .slice Am1 nm1 cm1, .slice Am2 nm2 cm2, .slice Am3 nm3 cm3] 32)).cell? ⟨w22.heap.size, 1, none⟩ = some (.slice Am1 nm1 cm1) := (X.sep.at_ 0 rfl).cell 1
      have f53 : (w22.alloc (.cells #[.slice Am0 nm0 cm0, .slice Am1 nm1 cm1, .slice Am2 nm2 cm2, .slice Am3 nm3 cm3] 32)).cell? ⟨w22.heap.size, 2, none⟩ = some (.slice Am2 nm2 cm2) := (X.sep.at_ 0 rfl).cell 2
      have f54 : (w22.alloc (.cells #[.slice Am0 nm0 cm0, .slice Am1 nm1 cm1, .slice Am2 nm2 cm2, .slice Am3 nm3 cm3] 32)).cell? ⟨w22.heap.size, 3, none⟩ = some (.slice Am3 nm3 cm3) := (X.sep.at_ 0 rfl).cell 3
      refine wpAnyL_step (i := 5) (by kernel_rfl) rfl rfl ?_
      intro K hK
      go_simp
      refine hK _ _ (fun _ => HA _) ?_
      clear hK K HA
      try simp only [Act.put]
      refine wpAnyL_step (i := 6) (by kernel_rfl) rfl rfl ?_
      intro K hK
      go_simp
      refine hK _ _ (fun h => nomatch (show true = false from h)) ?_
      clear hK K
      try simp only [Act.put]
      refine wpAnyL_done (by kernel_rfl) ?_ _
      go_wp2_with fail
      generalize w22.alloc (.cells #[.slice Am0 nm0 cm0, .slice Am1 nm1 cm1, .slice Am2 nm2 cm2, .slice Am3 nm3 cm3] 32) = w23 at *
      generalize w22.heap.size = rm at *
      refine (iEqualIn_any _ _ _ _ _ _ _ _ _ _ _ _ (pairOf (withSum [x0, x1, x2]) (withSum [x0, x1, x2])) _ (X.sep.own_ 1 rfl).rd (by have := ok_two_sz (pairOf_ok HS.out HS.out); omega)).mono ?_
      rintro e w24 ⟨rfl, b⟩
      rw [equal_same HS.out]
      replace X := X.keep b
      clear b f51 f52 f53 f54
      have f55 : w24.cell? ⟨rm, 0, none⟩ = some (.slice Am0 nm0 cm0) := (X.sep.at_ 0 rfl).cell 0
      have f56 : w24.cell? ⟨rm, 1, none⟩ = some (.slice Am1 nm1 cm1) := (X.sep.at_ 0 rfl).cell 1
      have f57 : w24.cell? ⟨rm, 2, none⟩ = some (.slice Am2 nm2 cm2) := (X.sep.at_ 0 rfl).cell 2
      have f58 : w24.cell? ⟨rm, 3, none⟩ = some (.slice Am3 nm3 cm3) := (X.sep.at_ 0 rfl).cell 3
      go_wp2_with fail
      refine (iRightAt_any _ _ _ _ _ _ _ _ _ _ _ _ (pairOf (withSum [x0, x1, x2]) (withSum [x0, x1, x2])) 2 _ (X.sep.own_ 1 rfl).rd (by have := ok_two_sz (pairOf_ok HS.out HS.out); omega)).mono ?_
      rintro e w25 ⟨Ae0, ne0, ce0, rfl, o, b⟩
      rw [right_same HR.out rfl] at o
      obtain rfl : 1 = ne0 := hasKept_len o
      obtain ⟨fp_e, X'⟩ := X.has b o
      clear X; have X := X'; clear X' b o f55 f56 f57 f58
      have C := Lib.hid (B1.out.trans (grown_below X.grown B1.out.size (fun k hk => by injection hk with hk; omega)))
      clear X
      go_wp2
      go_ret
      exact ⟨rfl, C.out⟩
    · intro K hK
      have HA : ∀ o, (w21.alloc o).cell? ⟨rt, 0, none⟩ = some (.slice Ac0 nc0 cc0) ∧ (w21.alloc o).cell? ⟨rt, 1, none⟩ = some (.slice Ac1 nc1 cc1) ∧ (w21.alloc o).cell? ⟨rt, 2, none⟩ = some (.slice Ad0 nd0 cd0) ∧ (w21.alloc o).cell? ⟨rt, 3, none⟩ = some (.slice Ad1 nd1 cd1) ∧ (w21.alloc o).cell? ⟨qb, qo, none⟩ = some (.slice Aq 3 cq) := fun o => ⟨((X.sep.at_ 6 rfl).alloc o).cell 0, ((X.sep.at_ 6 rfl).alloc o).cell 1, ((X.sep.at_ 6 rfl).alloc o).cell 2, ((X.sep.at_ 6 rfl).alloc o).cell 3, (((Below.refl _ _).alloc (Nat.le_refl _) o).cell (p := ⟨qb, qo, none⟩) hqb).trans q2⟩
      go_simp
      refine hK _ _ (fun _ => HA _) ?_
      clear hK K HA HF
      try simp only [Act.put]
      have b := (Below.refl w21.heap.size w21).alloc (Nat.le_refl _) (.cells #[.slice none 0 0, .slice none 0 0, .slice none 0 0, .slice none 0 0] 32)
      replace Q3 := Lib.hid (Q3.out.onT b)
      replace q2 := (b.cell (p := ⟨qb, qo, none⟩) hqb).trans q2
      replace hqb := Nat.lt_of_lt_of_le hqb b.size
      clear b
      replace X := X.boxAt (w21.heap.size) rfl #[.slice none 0 0, .slice none 0 0, .slice none 0 0, .slice none 0 0] 32
      generalize w21.alloc (.cells #[.slice none 0 0, .slice none 0 0, .slice none 0 0, .slice none 0 0] 32) = w22 at *
      generalize w21.heap.size = rm at *
      have HF := q2
      clear HF
      have HF : w22.cell? ⟨rt, 0, none⟩ = some (.slice Ac0 nc0 cc0) ∧ w22.cell? ⟨rt, 1, none⟩ = some (.slice Ac1 nc1 cc1) ∧ w22.cell? ⟨rt, 2, none⟩ = some (.slice Ad0 nd0 cd0) ∧ w22.cell? ⟨rt, 3, none⟩ = some (.slice Ad1 nd1 cd1) ∧ w22.cell? ⟨qb, qo, none⟩ = some (.slice Aq 3 cq) := ⟨(X.sep.at_ 7 rfl).cell 0, (X.sep.at_ 7 rfl).cell 1, (X.sep.at_ 7 rfl).cell 2, (X.sep.at_ 7 rfl).cell 3, q2⟩
      refine wpAnyL_step (i := 4) (by kernel_rfl) rfl rfl ?_
      intro K hK
      go_simp
      refine (iMendedAt_any _ _ _ _ _ _ _ _ _ _ _ _ (pairOf (withSum [x0, x1, x2]) ((withSum [x0, x1, x2]).set I (vv - 1))) 2 _ _ _ [x0, x1, x2] _ (Rd.pairT (t := pairOf (withSum [x0, x1, x2]) ((withSum [x0, x1, x2]).set I (vv - 1))) ((X.sep.own_ 4 rfl).rd.halves.1) ((X.sep.own_ 3 rfl).rd)) (by have := ok_two_sz (pairOf_ok HS.out (set_ok (i := I) HS.out HY.out.1 HY.out.2.1)); omega) Q3.out (by simp)).mono ?_
      rintro e w23 ⟨Am0, nm0, cm0, Am1, nm1, cm1, Am2, nm2, cm2, Am3, nm3, cm3, rfl, o, b⟩
      rw [mended_pair HS.out (set_ok HS.out HY.out.1 HY.out.2.1) HR.out rfl] at o
      replace q2 := (b.cell (p := ⟨qb, qo, none⟩) hqb).trans q2
      replace hqb := Nat.lt_of_lt_of_le hqb b.size
      obtain ⟨fp_tm, X'⟩ := X.has b o
      clear X; have X := X'; clear X' b o
      clear HF
      have HF : w23.cell? ⟨rt, 0, none⟩ = some (.slice Ac0 nc0 cc0) ∧ w23.cell? ⟨rt, 1, none⟩ = some (.slice Ac1 nc1 cc1) ∧ w23.cell? ⟨rt, 2, none⟩ = some (.slice Ad0 nd0 cd0) ∧ w23.cell? ⟨rt, 3, none⟩ = some (.slice Ad1 nd1 cd1) ∧ w23.cell? ⟨qb, qo, none⟩ = some (.slice Aq 3 cq) := ⟨(X.sep.at_ 8 rfl).cell 0, (X.sep.at_ 8 rfl).cell 1, (X.sep.at_ 8 rfl).cell 2, (X.sep.at_ 8 rfl).cell 3, q2⟩
      refine hK _ _ (fun _ => HF) ?_
      clear hK K
      try simp only [Act.put]
      clear HF q2 Q3
      have f51 : w23.cell? ⟨rm, 0, none⟩ = some (.slice none 0 0) := (X.sep.at_ 1 rfl).cell 0
      have f52 := (X.sep.at_ 1 rfl).free 0
      have f53 : w23.cell? ⟨rm, 1, none⟩ = some (.slice none 0 0) := (X.sep.at_ 1 rfl).cell 1
      have f54 := (X.sep.at_ 1 rfl).free 1
      have f55 : w23.cell? ⟨rm, 2, none⟩ = some (.slice none 0 0) := (X.sep.at_ 1 rfl).cell 2
      have f56 := (X.sep.at_ 1 rfl).free 2
      have f57 : w23.cell? ⟨rm, 3, none⟩ = some (.slice none 0 0) := (X.sep.at_ 1 rfl).cell 3
      have f58 := (X.sep.at_ 1 rfl).free 3
      replace X := X.put 1 rfl 0 (.slice Am0 nm0 cm0)
      replace X := X.put 1 rfl 1 (.slice Am1 nm1 cm1)
      replace X := X.put 1 rfl 2 (.slice Am2 nm2 cm2)
      replace X := X.put 1 rfl 3 (.slice Am3 nm3 cm3)
      replace X : DrL w1 _ _ _ [_, .blk (rm) #[.slice Am0 nm0 cm0, .slice Am1 nm1 cm1, .slice Am2 nm2 cm2, .slice Am3 nm3 cm3] 32, _, .blk (rd) #[.slice Ad0 nd0 cd0, .slice Ad1 nd1 cd1] 30, _, _, _, .blk (rl) #[.int .i64 x0, .int .i64 x1, .int .i64 x2] 2, .blk (rt) #[.slice Ac0 nc0 cc0, .slice Ac1 nc1 cc1, .slice Ad0 nd0 cd0, .slice Ad1 nd1 cd1] 32, _] := X
      have f59 : ((((w23.setCell ⟨rm, 0, none⟩ (.slice Am0 nm0 cm0)).setCell ⟨rm, 1, none⟩ (.slice Am1 nm1 cm1)).setCell ⟨rm, 2, none⟩ (.slice Am2 nm2 cm2)).setCell ⟨rm, 3, none⟩ (.slice Am3 nm3 cm3)).cell? ⟨rm, 0, none⟩ = some (.slice Am0 nm0 cm0) := (X.sep.at_ 1 rfl).cell 0
      have f60 : ((((w23.setCell ⟨rm, 0, none⟩ (.slice Am0 nm0 cm0)).setCell ⟨rm, 1, none⟩ (.slice Am1 nm1 cm1)).setCell ⟨rm, 2, none⟩ (.slice Am2 nm2 cm2)).setCell ⟨rm, 3, none⟩ (.slice Am3 nm3 cm3)).cell? ⟨rm, 1, none⟩ = some (.slice Am1 nm1 cm1) := (X.sep.at_ 1 rfl).cell 1
      have f61 : ((((w23.setCell ⟨rm, 0, none⟩ (.slice Am0 nm0 cm0)).setCell ⟨rm, 1, none⟩ (.slice Am1 nm1 cm1)).setCell ⟨rm, 2, none⟩ (.slice Am2 nm2 cm2)).setCell ⟨rm, 3, none⟩ (.slice Am3 nm3 cm3)).cell? ⟨rm, 2, none⟩ = some (.slice Am2 nm2 cm2) := (X.sep.at_ 1 rfl).cell 2
      have f62 : ((((w23.setCell ⟨rm, 0, none⟩ (.slice Am0 nm0 cm0)).setCell ⟨rm, 1, none⟩ (.slice Am1 nm1 cm1)).setCell ⟨rm, 2, none⟩ (.slice Am2 nm2 cm2)).setCell ⟨rm, 3, none⟩ (.slice Am3 nm3 cm3)).cell? ⟨rm, 3, none⟩ = some (.slice Am3 nm3 cm3) := (X.sep.at_ 1 rfl).cell 3
      refine wpAnyL_step (i := 6) (by kernel_rfl) rfl rfl ?_
      intro K hK
      go_simp
      refine hK _ _ (fun h => nomatch (show true = false from h)) ?_
      clear hK K
      try simp only [Act.put]
      refine wpAnyL_done (by kernel_rfl) ?_ _
      go_wp2_with fail
      generalize (((w23.setCell ⟨rm, 0, none⟩ (.slice Am0 nm0 cm0)).setCell ⟨rm, 1, none⟩ (.slice Am1 nm1 cm1)).setCell ⟨rm, 2, none⟩ (.slice Am2 nm2 cm2)).setCell ⟨rm, 3, none⟩ (.slice Am3 nm3 cm3) = w24 at *
      refine (iEqualIn_any _ _ _ _ _ _ _ _ _ _ _ _ (pairOf (withSum [x0, x1, x2]) (withSum [x0, x1, x2])) _ (X.sep.own_ 0 rfl).rd (by have := ok_two_sz (pairOf_ok HS.out HS.out); omega)).mono ?_
      rintro e w25 ⟨rfl, b⟩
      rw [equal_same HS.out]
      replace X := X.keep b
      clear b f51 f52 f53 f54 f55 f56 f57 f58 f59 f60 f61 f62
      have f63 : w25.cell? ⟨rm, 0, none⟩ = some (.slice Am0 nm0 cm0) := (X.sep.at_ 1 rfl).cell 0
      have f64 : w25.cell? ⟨rm, 1, none⟩ = some (.slice Am1 nm1 cm1) := (X.sep.at_ 1 rfl).cell 1
      have f65 : w25.cell? ⟨rm, 2, none⟩ = some (.slice Am2 nm2 cm2) := (X.sep.at_ 1 rfl).cell 2
      have f66 : w25.cell? ⟨rm, 3, none⟩ = some (.slice Am3 nm3 cm3) := (X.sep.at_ 1 rfl).cell 3
      go_wp2_with fail
      refine (iRightAt_any _ _ _ _ _ _ _ _ _ _ _ _ (pairOf (withSum [x0, x1, x2]) (withSum [x0, x1, x2])) 2 _ (X.sep.own_ 0 rfl).rd (by have := ok_two_sz (pairOf_ok HS.out HS.out); omega)).mono ?_
      rintro e w26 ⟨Ae0, ne0, ce0, rfl, o, b⟩
      rw [right_same HR.out rfl] at o
      obtain rfl : 1 = ne0 := hasKept_len o
      obtain ⟨fp_e, X'⟩ := X.has b o
      clear X; have X := X'; clear X' b o f63 f64 f65 f66
      have C := Lib.hid (B1.out.trans (grown_below X.grown B1.out.size (fun k hk => by injection hk with hk; omega)))
      clear X
      go_wp2
      go_ret
      exact ⟨rfl, C.out⟩
  · have HY := Lib.hid (show 0 ≤ (vv + 1 + y) ∧ (vv + 1 + y) ≤ 1000000000 ∧ vv ≠ (vv + 1 + y) ∧ vv - (vv + 1 + y) ≤ 999999 ∧ (vv + 1 + y) - vv ≤ 999999 by omega)
    have f30 : w15.cell? ⟨rt, 2, none⟩ = some (.slice (some ⟨kb, ko, none⟩) 4 cc2) := (X.sep.at_ 3 rfl).cell 2
    have f31 : w15.cell? ⟨rt, 3, none⟩ = some (.slice Ac3 nc3 cc3) := (X.sep.at_ 3 rfl).cell 3
    go_wp2_with fail
    clear k2 k3
    refine (iRotted_any _ _ _ _ _ _ ⟨kk (withSum [x0, x1, x2]), []⟩ 2 (I : Int) (vv + 1 + y) _ (X.sep.own_ 0 rfl).rd.halves.2 (ok_sz (kk_ok HS.out))).mono ?_
    rintro e w16 ⟨Ad0, nd0, cd0, Ad1, nd1, cd1, rfl, o, b⟩
    have E := rotted_pairN HS.out (by rw [HN.out]; exact hI) HY.out.1 HY.out.2.1
    rw [show (rotted ⟨kk (withSum [x0, x1, x2]), []⟩ 2 (I : Int) (vv + 1 + y)).1 = ⟨kk ((withSum [x0, x1, x2]).set I (vv + 1 + y)), []⟩ by rw [E]] at o
    rw [show (rotted ⟨kk (withSum [x0, x1, x2]), []⟩ 2 (I : Int) (vv + 1 + y)).2 = true by rw [E]]
    clear E
    obtain ⟨fp_td, X'⟩ := X.has b o
    clear X; have X := X'; clear X' b o f30 f31
    replace X := X.boxAt (w16.heap.size) rfl #[.slice Ad0 nd0 cd0, .slice Ad1 nd1 cd1] 30
    have f32 : (w16.alloc (.cells #[.slice Ad0 nd0 cd0, .slice Ad1 nd1 cd1] 30)).cell? ⟨rt, 2, none⟩ = some (.slice (some ⟨kb, ko, none⟩) 4 cc2) := (X.sep.at_ 5 rfl).cell 2
    have f33 := (X.sep.at_ 5 rfl).free 2
    have f34 : (w16.alloc (.cells #[.slice Ad0 nd0 cd0, .slice Ad1 nd1 cd1] 30)).cell? ⟨rt, 3, none⟩ = some (.slice Ac3 nc3 cc3) := (X.sep.at_ 5 rfl).cell 3
    have f35 := (X.sep.at_ 5 rfl).free 3
    have f36 : (w16.alloc (.cells #[.slice Ad0 nd0 cd0, .slice Ad1 nd1 cd1] 30)).cell? ⟨w16.heap.size, 0, none⟩ = some (.slice Ad0 nd0 cd0) := (X.sep.at_ 0 rfl).cell 0
    have f37 : (w16.alloc (.cells #[.slice Ad0 nd0 cd0, .slice Ad1 nd1 cd1] 30)).cell? ⟨w16.heap.size, 1, none⟩ = some (.slice Ad1 nd1 cd1) := (X.sep.at_ 0 rfl).cell 1
    replace X := X.put 5 rfl 2 (.slice Ad0 nd0 cd0)
    replace X := X.put 5 rfl 3 (.slice Ad1 nd1 cd1)
    replace X : DrL w1 _ _ _ [.blk (w16.heap.size) #[.slice Ad0 nd0 cd0, .slice Ad1 nd1 cd1] 30, _, _, _, .blk (rl) #[.int .i64 x0, .int .i64 x1, .int .i64 x2] 2, .blk (rt) #[.slice Ac0 nc0 cc0, .slice Ac1 nc1 cc1, .slice Ad0 nd0 cd0, .slice Ad1 nd1 cd1] 32, _] := X
    have f38 : (((w16.alloc (.cells #[.slice Ad0 nd0 cd0, .slice Ad1 nd1 cd1] 30)).setCell ⟨rt, 2, none⟩ (.slice Ad0 nd0 cd0)).setCell ⟨rt, 3, none⟩ (.slice Ad1 nd1 cd1)).cell? ⟨rt, 0, none⟩ = some (.slice Ac0 nc0 cc0) := (X.sep.at_ 5 rfl).cell 0
    have f39 : (((w16.alloc (.cells #[.slice Ad0 nd0 cd0, .slice Ad1 nd1 cd1] 30)).setCell ⟨rt, 2, none⟩ (.slice Ad0 nd0 cd0)).setCell ⟨rt, 3, none⟩ (.slice Ad1 nd1 cd1)).cell? ⟨rt, 1, none⟩ = some (.slice Ac1 nc1 cc1) := (X.sep.at_ 5 rfl).cell 1
    have f40 : (((w16.alloc (.cells #[.slice Ad0 nd0 cd0, .slice Ad1 nd1 cd1] 30)).setCell ⟨rt, 2, none⟩ (.slice Ad0 nd0 cd0)).setCell ⟨rt, 3, none⟩ (.slice Ad1 nd1 cd1)).cell? ⟨rt, 2, none⟩ = some (.slice Ad0 nd0 cd0) := (X.sep.at_ 5 rfl).cell 2
    have f41 : (((w16.alloc (.cells #[.slice Ad0 nd0 cd0, .slice Ad1 nd1 cd1] 30)).setCell ⟨rt, 2, none⟩ (.slice Ad0 nd0 cd0)).setCell ⟨rt, 3, none⟩ (.slice Ad1 nd1 cd1)).cell? ⟨rt, 3, none⟩ = some (.slice Ad1 nd1 cd1) := (X.sep.at_ 5 rfl).cell 3
    go_wp2_with fail
    generalize ((w16.alloc (.cells #[.slice Ad0 nd0 cd0, .slice Ad1 nd1 cd1] 30)).setCell ⟨rt, 2, none⟩ (.slice Ad0 nd0 cd0)).setCell ⟨rt, 3, none⟩ (.slice Ad1 nd1 cd1) = w17 at *
    generalize w16.heap.size = rd at *
    refine (iRightAt_any _ _ _ _ _ _ _ _ _ _ _ _ (pairOf (withSum [x0, x1, x2]) ((withSum [x0, x1, x2]).set I (vv + 1 + y))) 2 _ (Rd.pairT (t := pairOf (withSum [x0, x1, x2]) ((withSum [x0, x1, x2]).set I (vv + 1 + y))) ((X.sep.own_ 2 rfl).rd.halves.1) ((X.sep.own_ 1 rfl).rd)) (by have := ok_two_sz (pairOf_ok HS.out (set_ok (i := I) HS.out HY.out.1 HY.out.2.1)); omega)).mono ?_
    rintro e w18 ⟨Ar0, nr0, cr0, rfl, o, b⟩
    rw [right_bent HR.out rfl hI (by rw [HVE.out]; exact HY.out.2.2.1) (by rw [HVE.out]; exact HY.out.2.2.2.1) (by rw [HVE.out]; exact HY.out.2.2.2.2) HY.out.1 HY.out.2.1] at o
    obtain ⟨fp_r, X'⟩ := X.has b o
    clear X; have X := X'; clear X' b o f32 f33 f34 f35 f36 f37 f38 f39 f40 f41
    have f42 : w18.cell? ⟨rt, 0, none⟩ = some (.slice Ac0 nc0 cc0) := (X.sep.at_ 6 rfl).cell 0
    have f43 : w18.cell? ⟨rt, 1, none⟩ = some (.slice Ac1 nc1 cc1) := (X.sep.at_ 6 rfl).cell 1
    have f44 : w18.cell? ⟨rt, 2, none⟩ = some (.slice Ad0 nd0 cd0) := (X.sep.at_ 6 rfl).cell 2
    have f45 : w18.cell? ⟨rt, 3, none⟩ = some (.slice Ad1 nd1 cd1) := (X.sep.at_ 6 rfl).cell 3
    go_wp2_with fail
    refine (iEqualIn_any _ _ _ _ _ _ _ _ _ _ _ _ (pairOf (withSum [x0, x1, x2]) ((withSum [x0, x1, x2]).set I (vv + 1 + y))) _ (Rd.pairT (t := pairOf (withSum [x0, x1, x2]) ((withSum [x0, x1, x2]).set I (vv + 1 + y))) ((X.sep.own_ 3 rfl).rd.halves.1) ((X.sep.own_ 2 rfl).rd)) (by have := ok_two_sz (pairOf_ok HS.out (set_ok (i := I) HS.out HY.out.1 HY.out.2.1)); omega)).mono ?_
    rintro e w19 ⟨rfl, b⟩
    rw [equal_other HS.out (by rw [HN.out]; exact hI) (by rw [HVE.out]; exact HY.out.2.2.1) HY.out.1 HY.out.2.1]
    replace X := X.keep b
    clear b f42 f43 f44 f45
    obtain ⟨qb, qo, Aq, cq, hnr, hqb, har, q2, q3⟩ := first_row (X.sep.own_ 0 rfl).rd
    subst hnr
    subst har
    have q20 : w19.cell? ⟨qb, qo + 0, none⟩ = some (.slice Aq 3 cq) := q2
    have Q3 := Lib.hid q3
    have Q2 := Lib.hid q2
    clear q3
    go_wp2_with fail
    refine (like_yes _ _ 3 _ _ _ _ [x0, x1, x2] _ (rdI Q3.out).1 (rdI (row3_rd (X.sep.at_ 5 rfl))).1 (by decide)).mono ?_
    rintro e w20 ⟨rfl, dd⟩
    have b : Below w19.heap.size w19 w20 := dd.below _
    replace Q3 := Lib.hid (Q3.out.onT b)
    replace Q2 := Lib.hid ((dd.cell _).trans Q2.out)
    replace hqb := Nat.lt_of_lt_of_le hqb b.size
    clear q2 dd
    replace X := X.keep b
    clear b q20
    have q2 := Q2.out
    have f46 : w20.cell? ⟨rt, 0, none⟩ = some (.slice Ac0 nc0 cc0) := (X.sep.at_ 6 rfl).cell 0
    have f47 : w20.cell? ⟨rt, 1, none⟩ = some (.slice Ac1 nc1 cc1) := (X.sep.at_ 6 rfl).cell 1
    have f48 : w20.cell? ⟨rt, 2, none⟩ = some (.slice Ad0 nd0 cd0) := (X.sep.at_ 6 rfl).cell 2
    have f49 : w20.cell? ⟨rt, 3, none⟩ = some (.slice Ad1 nd1 cd1) := (X.sep.at_ 6 rfl).cell 3
    go_wp2_with fail
    refine wp_region_L (fun v => v.cell? ⟨rt, 0, none⟩ = some (.slice Ac0 nc0 cc0) ∧ v.cell? ⟨rt, 1, none⟩ = some (.slice Ac1 nc1 cc1) ∧ v.cell? ⟨rt, 2, none⟩ = some (.slice Ad0 nd0 cd0) ∧ v.cell? ⟨rt, 3, none⟩ = some (.slice Ad1 nd1 cd1) ∧ v.cell? ⟨qb, qo, none⟩ = some (.slice Aq 3 cq)) 6 (by kernel_rfl) ?_
    clear f46 f47 f48 f49
    replace X := X.drew
    replace Q3 := Lib.hid (Q3.out.onT ((Below.refl _ _).drew))
    replace q2 : w20.drew.cell? ⟨qb, qo, none⟩ = some (.slice Aq 3 cq) := Q2.out
    replace hqb : qb < w20.drew.heap.size := hqb
    clear Q2
    generalize w20.drew = w21 at *
    have HF : w21.cell? ⟨rt, 0, none⟩ = some (.slice Ac0 nc0 cc0) ∧ w21.cell? ⟨rt, 1, none⟩ = some (.slice Ac1 nc1 cc1) ∧ w21.cell? ⟨rt, 2, none⟩ = some (.slice Ad0 nd0 cd0) ∧ w21.cell? ⟨rt, 3, none⟩ = some (.slice Ad1 nd1 cd1) ∧ w21.cell? ⟨qb, qo, none⟩ = some (.slice Aq 3 cq) := ⟨(X.sep.at_ 6 rfl).cell 0, (X.sep.at_ 6 rfl).cell 1, (X.sep.at_ 6 rfl).cell 2, (X.sep.at_ 6 rfl).cell 3, q2⟩
    refine wpAnyL_take (i := 0) (v := ?_) rfl rfl (by kernel_rfl) (by kernel_rfl) (by kernel_rfl) (by kernel_rfl) (by kernel_rfl) (fun _ _ _ h => h) HF (Or.inl ⟨by rfl, ?_⟩) ?_
    rotate_left 1
    · (rintro v ⟨a0, a1, a2, a3, a4⟩; go_simp; try with_reducible rfl)
    try simp only [Act.put]
    refine wpAnyL_take (i := 1) (v := ?_) rfl rfl (by kernel_rfl) (by kernel_rfl) (by kernel_rfl) (by kernel_rfl) (by kernel_rfl) (fun _ _ _ h => h) HF (Or.inl ⟨by rfl, ?_⟩) ?_
    rotate_left 1
    · (rintro v ⟨a0, a1, a2, a3, a4⟩; go_simp; try with_reducible rfl)
    try simp only [Act.put]
    refine wpAnyL_take (i := 2) (v := ?_) rfl rfl (by kernel_rfl) (by kernel_rfl) (by kernel_rfl) (by kernel_rfl) (by kernel_rfl) (fun _ _ _ h => h) HF (Or.inl ⟨by rfl, ?_⟩) ?_
    rotate_left 1
    · (rintro v ⟨a0, a1, a2, a3, a4⟩; go_simp; try with_reducible rfl)
    try simp only [Act.put]
    refine wpAnyL_take (i := 3) (v := ?_) rfl rfl (by kernel_rfl) (by kernel_rfl) (by kernel_rfl) (by kernel_rfl) (by kernel_rfl) (fun _ _ _ h => h) HF (Or.inl ⟨by rfl, ?_⟩) ?_
    rotate_left 1
    · (rintro v ⟨a0, a1, a2, a3, a4⟩; go_simp; try with_reducible rfl)
    try simp only [Act.put]
    refine wpAnyL_two (i := 4) (k := 5) (by kernel_rfl) rfl rfl rfl rfl ?_ ?_
    · intro K hK
      go_simp
      refine (iMendedAt_any _ _ _ _ _ _ _ _ _ _ _ _ (pairOf (withSum [x0, x1, x2]) ((withSum [x0, x1, x2]).set I (vv + 1 + y))) 2 _ _ _ [x0, x1, x2] _ (Rd.pairT (t := pairOf (withSum [x0, x1, x2]) ((withSum [x0, x1, x2]).set I (vv + 1 + y))) ((X.sep.own_ 3 rfl).rd.halves.1) ((X.sep.own_ 2 rfl).rd)) (by have := ok_two_sz (pairOf_ok HS.out (set_ok (i := I) HS.out HY.out.1 HY.out.2.1)); omega) Q3.out (by simp)).mono ?_
      rintro e w22 ⟨Am0, nm0, cm0, Am1, nm1, cm1, Am2, nm2, cm2, Am3, nm3, cm3, rfl, o, b⟩
      rw [mended_pair HS.out (set_ok HS.out HY.out.1 HY.out.2.1) HR.out rfl] at o
      replace q2 := (b.cell (p := ⟨qb, qo, none⟩) hqb).trans q2
      replace hqb := Nat.lt_of_lt_of_le hqb b.size
      obtain ⟨fp_tm, X'⟩ := X.has b o
      clear X; have X := X'; clear X' b o
      clear HF
      have HF : w22.cell? ⟨rt, 0, none⟩ = some (.slice Ac0 nc0 cc0) ∧ w22.cell? ⟨rt, 1, none⟩ = some (.slice Ac1 nc1 cc1) ∧ w22.cell? ⟨rt, 2, none⟩ = some (.slice Ad0 nd0 cd0) ∧ w22.cell? ⟨rt, 3, none⟩ = some (.slice Ad1 nd1 cd1) ∧ w22.cell? ⟨qb, qo, none⟩ = some (.slice Aq 3 cq) := ⟨(X.sep.at_ 7 rfl).cell 0, (X.sep.at_ 7 rfl).cell 1, (X.sep.at_ 7 rfl).cell 2, (X.sep.at_ 7 rfl).cell 3, q2⟩
      refine hK _ _ (fun _ => HF) ?_
      clear hK K
      try simp only [Act.put]
      have HA : ∀ o, (w22.alloc o).cell? ⟨rt, 0, none⟩ = some (.slice Ac0 nc0 cc0) ∧ (w22.alloc o).cell? ⟨rt, 1, none⟩ = some (.slice Ac1 nc1 cc1) ∧ (w22.alloc o).cell? ⟨rt, 2, none⟩ = some (.slice Ad0 nd0 cd0) ∧ (w22.alloc o).cell? ⟨rt, 3, none⟩ = some (.slice Ad1 nd1 cd1) ∧ (w22.alloc o).cell? ⟨qb, qo, none⟩ = some (.slice Aq 3 cq) := fun o => ⟨((X.sep.at_ 7 rfl).alloc o).cell 0, ((X.sep.at_ 7 rfl).alloc o).cell 1, ((X.sep.at_ 7 rfl).alloc o).cell 2, ((X.sep.at_ 7 rfl).alloc o).cell 3, (((Below.refl _ _).alloc (Nat.le_refl _) o).cell (p := ⟨qb, qo, none⟩) hqb).trans q2⟩
      clear HF q2 Q3
      replace X := X.with_ (X.sep.sub (.cons_cons _ (List.nil_sublist _)))
      replace X := X.boxAt (w22.heap.size) rfl #[.slice Am0 nm0 cm0, .slice Am1 nm1 cm1, .slice Am2 nm2 cm2, .slice Am3 nm3 cm3] 32
      have f50 : (w22.alloc (.cells #[.slice Am0 nm0 cm0, .slice Am1 nm1 cm1, .slice Am2 nm2 cm2, .slice Am3 nm3 cm3] 32)).cell? ⟨w22.heap.size, 0, none⟩ = some (.slice Am0 nm0 cm0) := (X.sep.at_ 0 rfl).cell 0
      have f51 : (w22.alloc (.cells #[.slice Am0 nm0 cm0, .slice Am1 nm1 cm1, .slice Am2 nm2 cm2, .slice Am3 nm3 cm3] 32)).cell? ⟨w22.heap.size, 1, none⟩ = some (.slice Am1 nm1 cm1) := (X.sep.at_ 0 rfl).cell 1
      have f52 : (w22.alloc (.cells #[.slice Am0 nm0 cm0, .slice Am1 nm1 cm1, .slice Am2 nm2 cm2, .slice Am3 nm3 cm3] 32)).cell? ⟨w22.heap.size, 2, none⟩ = some (.slice Am2 nm2 cm2) := (X.sep.at_ 0 rfl).cell 2
      have f53 : (w22.alloc (.cells #[.slice Am0 nm0 cm0, .slice Am1 nm1 cm1, .slice Am2 nm2 cm2, .slice Am3 nm3 cm3] 32)).cell? ⟨w22.heap.size, 3, none⟩ = some (.slice Am3 nm3 cm3) := (X.sep.at_ 0 rfl).cell 3
      refine wpAnyL_step (i := 5) (by kernel_rfl) rfl rfl ?_
      intro K hK
      go_simp
      refine hK _ _ (fun _ => HA _) ?_
      clear hK K HA
      try simp only [Act.put]
      refine wpAnyL_step (i := 6) (by kernel_rfl) rfl rfl ?_
      intro K hK
      go_simp
      refine hK _ _ (fun h => nomatch (show true = false from h)) ?_
      clear hK K
      try simp only [Act.put]
      refine wpAnyL_done (by kernel_rfl) ?_ _
      go_wp2_with fail
      generalize w22.alloc (.cells #[.slice Am0 nm0 cm0, .slice Am1 nm1 cm1, .slice Am2 nm2 cm2, .slice Am3 nm3 cm3] 32) = w23 at *
      generalize w22.heap.size = rm at *
      refine (iEqualIn_any _ _ _ _ _ _ _ _ _ _ _ _ (pairOf (withSum [x0, x1, x2]) (withSum [x0, x1, x2])) _ (X.sep.own_ 1 rfl).rd (by have := ok_two_sz (pairOf_ok HS.out HS.out); omega)).mono ?_
      rintro e w24 ⟨rfl, b⟩
      rw [equal_same HS.out]
      replace X := X.keep b
      clear b f50 f51 f52 f53
      have f54 : w24.cell? ⟨rm, 0, none⟩ = some (.slice Am0 nm0 cm0) := (X.sep.at_ 0 rfl).cell 0
      have f55 : w24.cell? ⟨rm, 1, none⟩ = some (.slice Am1 nm1 cm1) := (X.sep.at_ 0 rfl).cell 1
      have f56 : w24.cell? ⟨rm, 2, none⟩ = some (.slice Am2 nm2 cm2) := (X.sep.at_ 0 rfl).cell 2
      have f57 : w24.cell? ⟨rm, 3, none⟩ = some (.slice Am3 nm3 cm3) := (X.sep.at_ 0 rfl).cell 3
      go_wp2_with fail
      refine (iRightAt_any _ _ _ _ _ _ _ _ _ _ _ _ (pairOf (withSum [x0, x1, x2]) (withSum [x0, x1, x2])) 2 _ (X.sep.own_ 1 rfl).rd (by have := ok_two_sz (pairOf_ok HS.out HS.out); omega)).mono ?_
      rintro e w25 ⟨Ae0, ne0, ce0, rfl, o, b⟩
      rw [right_same HR.out rfl] at o
      obtain rfl : 1 = ne0 := hasKept_len o
      obtain ⟨fp_e, X'⟩ := X.has b o
      clear X; have X := X'; clear X' b o f54 f55 f56 f57
      have C := Lib.hid (B1.out.trans (grown_below X.grown B1.out.size (fun k hk => by injection hk with hk; omega)))
      clear X
      go_wp2
      go_ret
      exact ⟨rfl, C.out⟩
    · intro K hK
      have HA : ∀ o, (w21.alloc o).cell? ⟨rt, 0, none⟩ = some (.slice Ac0 nc0 cc0) ∧ (w21.alloc o).cell? ⟨rt, 1, none⟩ = some (.slice Ac1 nc1 cc1) ∧ (w21.alloc o).cell? ⟨rt, 2, none⟩ = some (.slice Ad0 nd0 cd0) ∧ (w21.alloc o).cell? ⟨rt, 3, none⟩ = some (.slice Ad1 nd1 cd1) ∧ (w21.alloc o).cell? ⟨qb, qo, none⟩ = some (.slice Aq 3 cq) := fun o => ⟨((X.sep.at_ 6 rfl).alloc o).cell 0, ((X.sep.at_ 6 rfl).alloc o).cell 1, ((X.sep.at_ 6 rfl).alloc o).cell 2, ((X.sep.at_ 6 rfl).alloc o).cell 3, (((Below.refl _ _).alloc (Nat.le_refl _) o).cell (p := ⟨qb, qo, none⟩) hqb).trans q2⟩
      go_simp
      refine hK _ _ (fun _ => HA _) ?_
      clear hK K HA HF
      try simp only [Act.put]
      have b := (Below.refl w21.heap.size w21).alloc (Nat.le_refl _) (.cells #[.slice none 0 0, .slice none 0 0, .slice none 0 0, .slice none 0 0] 32)
      replace Q3 := Lib.hid (Q3.out.onT b)
      replace q2 := (b.cell (p := ⟨qb, qo, none⟩) hqb).trans q2
      replace hqb := Nat.lt_of_lt_of_le hqb b.size
      clear b
      replace X := X.boxAt (w21.heap.size) rfl #[.slice none 0 0, .slice none 0 0, .slice none 0 0, .slice none 0 0] 32
      generalize w21.alloc (.cells #[.slice none 0 0, .slice none 0 0, .slice none 0 0, .slice none 0 0] 32) = w22 at *
      generalize w21.heap.size = rm at *
      have HF := q2
      clear HF
      have HF : w22.cell? ⟨rt, 0, none⟩ = some (.slice Ac0 nc0 cc0) ∧ w22.cell? ⟨rt, 1, none⟩ = some (.slice Ac1 nc1 cc1) ∧ w22.cell? ⟨rt, 2, none⟩ = some (.slice Ad0 nd0 cd0) ∧ w22.cell? ⟨rt, 3, none⟩ = some (.slice Ad1 nd1 cd1) ∧ w22.cell? ⟨qb, qo, none⟩ = some (.slice Aq 3 cq) := ⟨(X.sep.at_ 7 rfl).cell 0, (X.sep.at_ 7 rfl).cell 1, (X.sep.at_ 7 rfl).cell 2, (X.sep.at_ 7 rfl).cell 3, q2⟩
      refine wpAnyL_step (i := 4) (by kernel_rfl) rfl rfl ?_
      intro K hK
      go_simp
      refine (iMendedAt_any _ _ _ _ _ _ _ _ _ _ _ _ (pairOf (withSum [x0, x1, x2]) ((withSum [x0, x1, x2]).set I (vv + 1 + y))) 2 _ _ _ [x0, x1, x2] _ (Rd.pairT (t := pairOf (withSum [x0, x1, x2]) ((withSum [x0, x1, x2]).set I (vv + 1 + y))) ((X.sep.own_ 4 rfl).rd.halves.1) ((X.sep.own_ 3 rfl).rd)) (by have := ok_two_sz (pairOf_ok HS.out (set_ok (i := I) HS.out HY.out.1 HY.out.2.1)); omega) Q3.out (by simp)).mono ?_
      rintro e w23 ⟨Am0, nm0, cm0, Am1, nm1, cm1, Am2, nm2, cm2, Am3, nm3, cm3, rfl, o, b⟩
      rw [mended_pair HS.out (set_ok HS.out HY.out.1 HY.out.2.1) HR.out rfl] at o
      replace q2 := (b.cell (p := ⟨qb, qo, none⟩) hqb).trans q2
      replace hqb := Nat.lt_of_lt_of_le hqb b.size
      obtain ⟨fp_tm, X'⟩ := X.has b o
      clear X; have X := X'; clear X' b o
      clear HF
      have HF : w23.cell? ⟨rt, 0, none⟩ = some (.slice Ac0 nc0 cc0) ∧ w23.cell? ⟨rt, 1, none⟩ = some (.slice Ac1 nc1 cc1) ∧ w23.cell? ⟨rt, 2, none⟩ = some (.slice Ad0 nd0 cd0) ∧ w23.cell? ⟨rt, 3, none⟩ = some (.slice Ad1 nd1 cd1) ∧ w23.cell? ⟨qb, qo, none⟩ = some (.slice Aq 3 cq) := ⟨(X.sep.at_ 8 rfl).cell 0, (X.sep.at_ 8 rfl).cell 1, (X.sep.at_ 8 rfl).cell 2, (X.sep.at_ 8 rfl).cell 3, q2⟩
      refine hK _ _ (fun _ => HF) ?_
      clear hK K
      try simp only [Act.put]
      clear HF q2 Q3
      have f50 : w23.cell? ⟨rm, 0, none⟩ = some (.slice none 0 0) := (X.sep.at_ 1 rfl).cell 0
      have f51 := (X.sep.at_ 1 rfl).free 0
      have f52 : w23.cell? ⟨rm, 1, none⟩ = some (.slice none 0 0) := (X.sep.at_ 1 rfl).cell 1
      have f53 := (X.sep.at_ 1 rfl).free 1
      have f54 : w23.cell? ⟨rm, 2, none⟩ = some (.slice none 0 0) := (X.sep.at_ 1 rfl).cell 2
      have f55 := (X.sep.at_ 1 rfl).free 2
      have f56 : w23.cell? ⟨rm, 3, none⟩ = some (.slice none 0 0) := (X.sep.at_ 1 rfl).cell 3
      have f57 := (X.sep.at_ 1 rfl).free 3
      replace X := X.put 1 rfl 0 (.slice Am0 nm0 cm0)
      replace X := X.put 1 rfl 1 (.slice Am1 nm1 cm1)
      replace X := X.put 1 rfl 2 (.slice Am2 nm2 cm2)
      replace X := X.put 1 rfl 3 (.slice Am3 nm3 cm3)
      replace X : DrL w1 _ _ _ [_, .blk (rm) #[.slice Am0 nm0 cm0, .slice Am1 nm1 cm1, .slice Am2 nm2 cm2, .slice Am3 nm3 cm3] 32, _, .blk (rd) #[.slice Ad0 nd0 cd0, .slice Ad1 nd1 cd1] 30, _, _, _, .blk (rl) #[.int .i64 x0, .int .i64 x1, .int .i64 x2] 2, .blk (rt) #[.slice Ac0 nc0 cc0, .slice Ac1 nc1 cc1, .slice Ad0 nd0 cd0, .slice Ad1 nd1 cd1] 32, _] := X
      have f58 : ((((w23.setCell ⟨rm, 0, none⟩ (.slice Am0 nm0 cm0)).setCell ⟨rm, 1, none⟩ (.slice Am1 nm1 cm1)).setCell ⟨rm, 2, none⟩ (.slice Am2 nm2 cm2)).setCell ⟨rm, 3, none⟩ (.slice Am3 nm3 cm3)).cell? ⟨rm, 0, none⟩ = some (.slice Am0 nm0 cm0) := (X.sep.at_ 1 rfl).cell 0
      have f59 : ((((w23.setCell ⟨rm, 0, none⟩ (.slice Am0 nm0 cm0)).setCell ⟨rm, 1, none⟩ (.slice Am1 nm1 cm1)).setCell ⟨rm, 2, none⟩ (.slice Am2 nm2 cm2)).setCell ⟨rm, 3, none⟩ (.slice Am3 nm3 cm3)).cell? ⟨rm, 1, none⟩ = some (.slice Am1 nm1 cm1) := (X.sep.at_ 1 rfl).cell 1
      have f60 : ((((w23.setCell ⟨rm, 0, none⟩ (.slice Am0 nm0 cm0)).setCell ⟨rm, 1, none⟩ (.slice Am1 nm1 cm1)).setCell ⟨rm, 2, none⟩ (.slice Am2 nm2 cm2)).setCell ⟨rm, 3, none⟩ (.slice Am3 nm3 cm3)).cell? ⟨rm, 2, none⟩ = some (.slice Am2 nm2 cm2) := (X.sep.at_ 1 rfl).cell 2
      have f61 : ((((w23.setCell ⟨rm, 0, none⟩ (.slice Am0 nm0 cm0)).setCell ⟨rm, 1, none⟩ (.slice Am1 nm1 cm1)).setCell ⟨rm, 2, none⟩ (.slice Am2 nm2 cm2)).setCell ⟨rm, 3, none⟩ (.slice Am3 nm3 cm3)).cell? ⟨rm, 3, none⟩ = some (.slice Am3 nm3 cm3) := (X.sep.at_ 1 rfl).cell 3
      refine wpAnyL_step (i := 6) (by kernel_rfl) rfl rfl ?_
      intro K hK
      go_simp
      refine hK _ _ (fun h => nomatch (show true = false from h)) ?_
      clear hK K
      try simp only [Act.put]
      refine wpAnyL_done (by kernel_rfl) ?_ _
      go_wp2_with fail
      generalize (((w23.setCell ⟨rm, 0, none⟩ (.slice Am0 nm0 cm0)).setCell ⟨rm, 1, none⟩ (.slice Am1 nm1 cm1)).setCell ⟨rm, 2, none⟩ (.slice Am2 nm2 cm2)).setCell ⟨rm, 3, none⟩ (.slice Am3 nm3 cm3) = w24 at *
      refine (iEqualIn_any _ _ _ _ _ _ _ _ _ _ _ _ (pairOf (withSum [x0, x1, x2]) (withSum [x0, x1, x2])) _ (X.sep.own_ 0 rfl).rd (by have := ok_two_sz (pairOf_ok HS.out HS.out); omega)).mono ?_
      rintro e w25 ⟨rfl, b⟩
      rw [equal_same HS.out]
      replace X := X.keep b
      clear b f50 f51 f52 f53 f54 f55 f56 f57 f58 f59 f60 f61
      have f62 : w25.cell? ⟨rm, 0, none⟩ = some (.slice Am0 nm0 cm0) := (X.sep.at_ 1 rfl).cell 0
      have f63 : w25.cell? ⟨rm, 1, none⟩ = some (.slice Am1 nm1 cm1) := (X.sep.at_ 1 rfl).cell 1
      have f64 : w25.cell? ⟨rm, 2, none⟩ = some (.slice Am2 nm2 cm2) := (X.sep.at_ 1 rfl).cell 2
      have f65 : w25.cell? ⟨rm, 3, none⟩ = some (.slice Am3 nm3 cm3) := (X.sep.at_ 1 rfl).cell 3
      go_wp2_with fail
      refine (iRightAt_any _ _ _ _ _ _ _ _ _ _ _ _ (pairOf (withSum [x0, x1, x2]) (withSum [x0, x1, x2])) 2 _ (X.sep.own_ 0 rfl).rd (by have := ok_two_sz (pairOf_ok HS.out HS.out); omega)).mono ?_
      rintro e w26 ⟨Ae0, ne0, ce0, rfl, o, b⟩
      rw [right_same HR.out rfl] at o
      obtain rfl : 1 = ne0 := hasKept_len o
      obtain ⟨fp_e, X'⟩ := X.has b o
      clear X; have X := X'; clear X' b o f62 f63 f64 f65
      have C := Lib.hid (B1.out.trans (grown_below X.grown B1.out.size (fun k hk => by injection hk with hk; omega)))
      clear X
      go_wp2
      go_ret
      exact ⟨rfl, C.out⟩

end Go.Proofs.Ytejcpoidoekleaa
