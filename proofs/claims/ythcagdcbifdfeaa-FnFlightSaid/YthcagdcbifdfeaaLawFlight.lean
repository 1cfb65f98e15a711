/-
  The law FnFlight answers true at every slice of bytes, and writes nothing that was there (by program, wip/gen/genflt.py).
-/
import Derived.Test.YthcagdcbifdfeaaNetQ2
import Derived.Test.YthcagdcbifdfeaaCls
import Derived.RegionTactic
import Derived.BigQuiet
import Derived.Deep.DeepCutAuto
namespace Go.Proofs.Ythcagdcbifdfeaa
set_option maxRecDepth 100000
open Go.RowKit

set_option maxHeartbeats 25600000 in
theorem lawFlight (A : Option Addr) (n c0 : Nat) (w : World) (h : BRow w w.heap.size A n) (hm : n ≤ maxLen) :
    Calls Try.prog 3 #[.slice A n c0] w fun e w' => e = .returned (.bool true) ∧ Below w.heap.size w w' := by
  unfold maxLen at hm
  by_cases hn : 4096 < n
  · clear h
    go_enter Try.func3, Try.ntmps3
    go_wp2_with fail
    refine (lbig_any A n c0 _).mono ?_
    rintro e w' ⟨rfl, rfl⟩
    rw [decide_eq_true hn]
    go_wp2
    go_ret
    exact ⟨rfl, Below.refl _ _⟩
  go_enter Try.func3, Try.ntmps3
  go_wp2_with fail
  refine (lbig_any A n c0 _).mono ?_
  rintro e w' ⟨rfl, rfl⟩
  rw [decide_eq_false hn]
  go_wp2_with fail
  refine (roll_any A n c0 _ h (by omega) _).mono ?_
  rintro e w1 ⟨rfl, cu, b1⟩
  have X := DrL.start cu
  have B1 := Lib.hid b1
  clear b1 cu h
  go_wp2_with fail
  refine (iNewNet_any _).mono ?_
  rintro e w2 ⟨rfl, b1⟩
  replace X := X.keep b1
  clear b1
  replace X := X.with_ (X.sep.own0 (ow_zeroN _))
  replace X := X.boxAt (w2.heap.size) rfl #[.slice none 0 0, .slice none 0 0] 30
  go_wp2_with fail
  generalize w2.alloc (.cells #[.slice none 0 0, .slice none 0 0] 30) = w3 at *
  generalize w2.heap.size = rn at *
  refine (lbelow_any _ _ _ X.cur 6 (by decide)).mono ?_
  rintro e w4 ⟨a, ha, rfl, cu, gr⟩
  replace X := X.draw cu gr
  clear cu gr
  have hw1 : IntKind.i64.wrap (a + 1) = a + 1 := by rw [IntKind.wrap_i64]; omega
  go_wp2_with fail
  refine (lbelow_any _ _ _ X.cur 5 (by decide)).mono ?_
  rintro e w5 ⟨y, hy, rfl, cu, gr⟩
  replace X := X.draw cu gr
  clear cu gr
  obtain ⟨hb1, hb2, hab⟩ := six_in ha hy
  have hw2 : IntKind.i64.wrap (a + 1 + y) = a + 1 + y := by rw [IntKind.wrap_i64]; omega
  obtain ⟨b, hbq⟩ : ∃ b, (a + 1 + y).tmod 6 = b := ⟨_, rfl⟩
  rw [hbq] at hb1 hb2 hab
  have HAB := Lib.hid (show 0 ≤ a ∧ a ≤ 5 ∧ 0 ≤ b ∧ b ≤ 5 ∧ a ≠ b by omega)
  clear ha hy hb1 hb2 hab
  have f0 : w5.cell? ⟨rn, 0, none⟩ = some (.slice none 0 0) := (X.sep.at_ 0 rfl).cell 0
  have f1 : w5.cell? ⟨rn, 1, none⟩ = some (.slice none 0 0) := (X.sep.at_ 0 rfl).cell 1
  go_wp2_with fail
  refine (law_cut (X.sep.own_ 1 rfl).rd (by decide) (cut_first (a := a) (b := b) (by have := HAB.out; omega) (by have := HAB.out; omega) HAB.out.2.2.2.2).1).mono ?_
  rintro e w6 ⟨C0, nC0, cC0, C1, nC1, cC1, rfl, o, b1⟩
  clear hw1 hw2 hbq
  obtain ⟨fp_tc, X'⟩ := X.has b1 o
  clear X; have X := X'; clear X' b1 o f0 f1
  have f2 : w6.cell? ⟨rn, 0, none⟩ = some (.slice none 0 0) := (X.sep.at_ 1 rfl).cell 0
  have f3 := (X.sep.at_ 1 rfl).free 0
  have f4 : w6.cell? ⟨rn, 1, none⟩ = some (.slice none 0 0) := (X.sep.at_ 1 rfl).cell 1
  have f5 := (X.sep.at_ 1 rfl).free 1
  replace X := X.put 1 rfl 0 (.slice C0 nC0 cC0)
  replace X := X.put 1 rfl 1 (.slice C1 nC1 cC1)
  replace X : DrL w1 _ _ _ [_, .blk (rn) #[.slice C0 nC0 cC0, .slice C1 nC1 cC1] 30, _] := X
  go_upto_region 8 with fail
  generalize (w6.setCell ⟨rn, 0, none⟩ (.slice C0 nC0 cC0)).setCell ⟨rn, 1, none⟩ (.slice C1 nC1 cC1) = w7 at *
  clear f2 f3 f4 f5
  replace X := X.with_ (X.sep.pick 1 rfl)
  replace X := X.with_ (X.sep.pick 1 rfl)
  replace X := X.with_ (X.sep.sub (.cons_cons _ (.cons_cons _ (List.nil_sublist _))))
  replace X := X.with_ (X.sep.own0 (show Ow _ [] [] [] from .nil))
  replace X := X.boxAt (w7.heap.size) rfl #[] 37
  have R0 := Lib.hid Raw.zero
  replace X := X.with_ (X.sep.pick 1 rfl)
  replace X := X.with_ (X.sep.pick 1 rfl)
  replace X := X.with_ (X.sep.pick 3 rfl)
  replace X := X.with_ (X.sep.pick 3 rfl)
  have X0 := Lib.hid X
  have N0 := Lib.hid (cut_first (a := a) (b := b) (by have := HAB.out; omega) (by have := HAB.out; omega) HAB.out.2.2.2.2).2
  clear X
  go_wp2_with fail
  go_loopw [7, 8] (fun ov kv wr => ∃ (k : Nat) (L Q : List (MsgM × Value)) (A0 : Option Addr) (nA0 cA0 : Nat) (A1 : Option Addr) (nA1 cA1 : Nat) (fp : List Nat) (gb no co : Nat) (cur : Array Value) (fq : List Nat), ov = .slice (some ⟨gb, 0, none⟩) no co ∧ kv = .int .i64 (k : Int) ∧ k ≤ 18 ∧ no ≤ k ∧ Raw cur no co (L.flatMap pV) ∧ (∀ q ∈ L, q ∈ Q) ∧ netOk (⟨ltr L, [linkOf a b]⟩ : NetM) = true ∧ DrL w1 wr w.heap.size w.heap.size [.own (⟨ltr L, [linkOf a b]⟩ : NetM).cells [.slice A0 nA0 cA0, .slice A1 nA1 cA1] fp, .blk rn #[.slice A0 nA0 cA0, .slice A1 nA1 cA1] 30, .blk gb cur 37, .own (Q.flatMap pC) (Q.flatMap pV) fq]) (fun _ kv _ => 18 - (intOf kv).toNat)
  case atStart => exact ⟨0, [], [], _, _, _, _, _, _, _, _, 0, 0, _, _, rfl, rfl, by omega, by omega, R0.out, fun q hq => absurd hq (by simp), N0.out, X0.out⟩
  case round =>
    obtain ⟨k, L, Q, A0, nA0, cA0, A1, nA1, cA1, fp, gb, no, co, cur, fq, rfl, rfl, hk, hno, hraw, hsub, hok, X⟩ := hrel
    clear X0 N0 R0
    have hLn : L.length = no := by have := hraw.len; rw [pV_len] at this; omega
    have hsz : (⟨ltr L, [linkOf a b]⟩ : NetM).sz ≤ 1048576 := Nat.le_trans (netOk_sz hok) (by decide)
    have HR := Lib.hid hraw
    have HS := Lib.hid hsub
    have HOK := Lib.hid hok
    have HSZ := Lib.hid hsz
    have HLN := Lib.hid hLn
    have HONE := Lib.hid (fun (w9 : World) (B9 : Nat) (h : Rd w9 B9 (Q.flatMap pC) (Q.flatMap pV)) => pV_one (rd_sub h L hsub))
    have hone := HONE.out _ _ (X.sep.own_ 3 rfl).rd
    have HO := Lib.hid hone
    clear hone HONE hraw hsub hok hsz hLn
    by_cases hlt : k < 18
    · have HK := Lib.hid hlt
      have hno18 : no ≤ 17 := by omega
      have hw : IntKind.i64.wrap ((no : Int) + 1) = (no : Int) + 1 := by rw [IntKind.wrap_i64]; omega
      clear hk
      go_wp2_with fail
      refine (lbelow_any _ _ _ X.cur ((no : Int) + 1) (by omega)).mono ?_
      rintro e w8 ⟨z, hz, rfl, cu, gr⟩
      replace X := X.draw cu gr
      clear cu gr
      obtain ⟨i, rfl⟩ : ∃ i : Nat, z = (i : Int) := ⟨z.toNat, by omega⟩
      have hi : i ≤ no := by omega
      clear hz hw
      by_cases hat : i < no
      · have d0 : decide ((i : Int) < (no : Int)) = true := decide_eq_true (by omega)
        have d1 : decide (i < no) = true := decide_eq_true hat
        go_wp2_with fail
        refine (lbelow_any _ _ _ X.cur 5 (by decide)).mono ?_
        rintro e w9 ⟨q, hq, rfl, cu, gr⟩
        replace X := X.draw cu gr
        clear cu gr
        have hq4 : q = 0 ∨ q = 1 ∨ q = 2 ∨ 3 ≤ q := by omega
        clear hq
        rcases hq4 with rfl | rfl | rfl | hq3
        · have hiL : i < L.length := by have := HLN.out; omega
          obtain ⟨x0, x1, xr, hm⟩ : ∃ x0 x1 xr, (L[i]'hiL).1 = ⟨x0, x1, xr⟩ := ⟨_, _, _, rfl⟩
          have HM := Lib.hid hm
          have HMR := Lib.hid (show xr.length ≤ 1048577 by
            have h9 : (L[i]'hiL).1.row.length ≤ 48 := by
              have h7 := msgOk_row (netOk_msgAt HOK.out (show i < (ltr L).length by rw [ltr_len]; have := HLN.out; omega))
              rw [ltr_at hiL] at h7
              exact h7
            rw [hm] at h9
            simp only at h9
            omega)
          have HIL := Lib.hid hiL
          clear hm
          have hab := HAB.out.2.2.2.2
          by_cases p0 : x0 = a
          · subst p0
            by_cases p1 : x1 = b
            · subst p1
              clear hab
              have f6 : w9.cell? ⟨rn, 0, none⟩ = some (.slice A0 nA0 cA0) := (X.sep.at_ 1 rfl).cell 0
              have f7 : w9.cell? ⟨rn, 1, none⟩ = some (.slice A1 nA1 cA1) := (X.sep.at_ 1 rfl).cell 1
              go_wp2_with fail
              refine (law_handed' (x0 := 0) (x1 := 0) (xs := []) (X.sep.own_ 0 rfl).rd HSZ.out (handed_shut HOK.out HIL.out HM.out HAB.out.2.2.2.2 (.inl ⟨rfl, rfl⟩))).mono ?_
              rintro e w10 ⟨E0, nE0, cE0, E1, nE1, cE1, A2, n2, c2, rfl, o, b1⟩
              obtain ⟨fp_txm, X'⟩ := X.has b1 o
              clear X; have X := X'; clear X' b1 o f6 f7
              obtain ⟨fx, fy, S'⟩ := X.sep.cut (ds := (⟨(ltr L).eraseIdx i, [linkOf x0 x1]⟩ : NetM).cells) (ds' := msgC ⟨0, 0, []⟩) (vs := [.slice E0 nE0 cE0, .slice E1 nE1 cE1]) (vs' := [.int .i64 0, .int .i64 0, .slice A2 n2 c2]) rfl
              replace X := X.with_ S'
              clear S'
              have hir := (msg_open (d := ⟨0, 0, []⟩) (X.sep.own_ 0 rfl).rd).2
              obtain rfl : n2 = 0 := hir.1.symm
              clear hir
              replace X := X.boxAt (w10.heap.size) rfl #[.slice E0 nE0 cE0, .slice E1 nE1 cE1] 30
              replace X := X.boxAt (w10.heap.size + 1) (by simp) #[.int .i64 0, .int .i64 0, .slice A2 0 c2] 37
              go_upto_region 23 with fail
              generalize (w10.alloc (.cells #[.slice E0 nE0 cE0, .slice E1 nE1 cE1] 30)).alloc (.cells #[.int .i64 0, .int .i64 0, .slice A2 0 c2] 37) = w11 at *
              obtain ⟨rx, hrx⟩ : ∃ rx, rx = w10.heap.size := ⟨_, rfl⟩
              rw [← hrx] at X ⊢
              clear hrx
              obtain ⟨k0, k1, k2⟩ := raw_at HR.out (X.sep.at_ 6 rfl) HIL.out
              rw [HM.out] at k0 k1
              replace k0 : w11.cell? ⟨gb, i * 3, none⟩ = some (.int .i64 x0) := k0
              replace k1 : w11.cell? ⟨gb, i * 3 + 1, none⟩ = some (.int .i64 x1) := k1
              have i0 : (0 : Int) ≤ (i : Int) := by omega
              have i1 : (i : Int) < (no : Int) := by omega
              have f8 : w11.cell? ⟨rx + 1, 2, none⟩ = some (.slice A2 0 c2) := (X.sep.at_ 0 rfl).cell 2
              go_wp2_with fail
              have SH := Lib.hid X
              clear X
              go_quiet (fail)
              have X := SH.out.keep (below_drewN (Below.refl w11.heap.size w11) nq)
              generalize w11.drewN nq = w12 at *
              clear SH f8 k0 k1 k2
              go_upto_region 26 with fail
              have f9 : w12.cell? ⟨rx, 0, none⟩ = some (.slice E0 nE0 cE0) := (X.sep.at_ 1 rfl).cell 0
              have f10 : w12.cell? ⟨rx, 1, none⟩ = some (.slice E1 nE1 cE1) := (X.sep.at_ 1 rfl).cell 1
              have f11 : w12.cell? ⟨rn, 0, none⟩ = some (.slice A0 nA0 cA0) := (X.sep.at_ 5 rfl).cell 0
              have f12 := (X.sep.at_ 5 rfl).free 0
              have f13 : w12.cell? ⟨rn, 1, none⟩ = some (.slice A1 nA1 cA1) := (X.sep.at_ 5 rfl).cell 1
              have f14 := (X.sep.at_ 5 rfl).free 1
              replace X := X.put 5 rfl 0 (.slice E0 nE0 cE0)
              replace X := X.put 5 rfl 1 (.slice E1 nE1 cE1)
              replace X : DrL w1 _ _ _ [.blk (rx + 1) #[.int .i64 0, .int .i64 0, .slice A2 0 c2] 37, .blk (rx) #[.slice E0 nE0 cE0, .slice E1 nE1 cE1] 30, _, _, _, .blk (rn) #[.slice E0 nE0 cE0, .slice E1 nE1 cE1] 30, .blk gb cur 37, _] := X
              go_wp2_with fail
              generalize (w12.setCell ⟨rn, 0, none⟩ (.slice E0 nE0 cE0)).setCell ⟨rn, 1, none⟩ (.slice E1 nE1 cE1) = w13 at *
              clear f9 f10 f11 f12 f13 f14
              have i0 : (0 : Int) ≤ (i : Int) := by omega
              have i1 : (i : Int) ≤ (co : Int) := by have := HR.out.le; omega
              have i2 : (0 : Int) ≤ (i : Int) + 1 := by omega
              have i3 : (i : Int) + 1 ≤ (no : Int) := by omega
              have i4 : i ≤ co := by omega
              have i5 : i + 1 ≤ no := by omega
              have ep : IntKind.i64.wrap ((i : Int) + 1) = (i : Int) + 1 := by rw [IntKind.wrap_i64]; omega
              have en : ((i : Int) + 1).toNat = i + 1 := by omega
              have HLC := Lib.hid HR.out.le
              refine wp_region_L (fun v => v.cell? ⟨rn, 0, none⟩ = some (.slice E0 nE0 cE0)) 10 (by kernel_rfl) ?_
              replace X := X.drew
              generalize w13.drew = w14 at *
              have HF : w14.cell? ⟨rn, 0, none⟩ = some (.slice E0 nE0 cE0) := (X.sep.at_ 5 rfl).cell 0
              refine wpAnyL_take (i := 1) (v := ?_) rfl rfl (by kernel_rfl) (by kernel_rfl) (by kernel_rfl) (by kernel_rfl) (by kernel_rfl) (fun _ _ _ h => h) HF (Or.inl ⟨by rfl, ?_⟩) ?_
              rotate_left 1
              · (rintro v a0; go_simp; try with_reducible rfl)
              try simp only [Act.put]
              refine wpAnyL_take (i := 2) (v := ?_) rfl rfl (by kernel_rfl) (by kernel_rfl) (by kernel_rfl) (by kernel_rfl) (by kernel_rfl) (fun _ _ _ h => h) HF (Or.inl ⟨by rfl, ?_⟩) ?_
              rotate_left 1
              · (rintro v a0; go_simp; try with_reducible rfl)
              try simp only [Act.put]
              refine wpAnyL_pure (i := 3) (v := ?_) rfl rfl (by kernel_rfl) (by kernel_rfl) (by kernel_rfl) (fun _ _ _ h => h) HF (Or.inl ⟨by rfl, ?_⟩) ?_
              rotate_left 1
              · (intro v _; go_simp; try with_reducible rfl)
              try simp only [Act.put]
              refine wpAnyL_take (i := 5) (v := ?_) rfl rfl (by kernel_rfl) (by kernel_rfl) (by kernel_rfl) (by kernel_rfl) (by kernel_rfl) (fun _ _ _ h => h) HF (Or.inl ⟨by rfl, ?_⟩) ?_
              rotate_left 1
              · (rintro v a0; go_simp; try with_reducible rfl)
              try simp only [Act.put]
              refine wpAnyL_take (i := 6) (v := ?_) rfl rfl (by kernel_rfl) (by kernel_rfl) (by kernel_rfl) (by kernel_rfl) (by kernel_rfl) (fun _ _ _ h => h) HF (Or.inl ⟨by rfl, ?_⟩) ?_
              rotate_left 1
              · (rintro v a0; go_simp; try with_reducible rfl)
              try simp only [Act.put]
              refine wpAnyL_pure (i := 7) (v := ?_) rfl rfl (by kernel_rfl) (by kernel_rfl) (by kernel_rfl) (fun _ _ _ h => h) HF (Or.inl ⟨by rfl, ?_⟩) ?_
              rotate_left 1
              · (intro v _; go_simp; try with_reducible rfl)
              try simp only [Act.put]
              refine wpAnyL_pure (i := 8) (v := ?_) rfl rfl (by kernel_rfl) (by kernel_rfl) (by kernel_rfl) (fun _ _ _ h => h) HF (Or.inl ⟨by rfl, ?_⟩) ?_
              rotate_left 1
              · (intro v _; go_simp; try with_reducible rfl)
              try simp only [Act.put]
              refine wpAnyL_step (i := 0) (by kernel_rfl) rfl rfl ?_
              intro K hK
              go_simp
              replace X := X.boxAt (w14.heap.size) rfl #[] 37
              clear HF
              have HF : (w14.alloc (.cells #[] 37)).cell? ⟨rn, 0, none⟩ = some (.slice E0 nE0 cE0) := (X.sep.at_ 6 rfl).cell 0
              refine hK _ _ (fun _ => HF) ?_
              clear hK K
              try simp only [Act.put]
              generalize hw : w14.alloc (.cells #[] 37) = w15 at *
              clear hw
              replace X := X.with_ (X.sep.pick 0 rfl)
              refine wpAnyL_step (i := 4) (by kernel_rfl) rfl rfl ?_
              intro K hK
              refine wp_raw (n := 0) (c := 0) (cur := #[]) (us := []) (news := (L.take i).flatMap pV) (m := i) _ _ (by rfl) (by rfl) Raw.zero (X.sep.at_ 0 rfl) (by rfl) (by rw [pV_len, List.length_take]; have := HLN.out; omega) (src_front HR.out (X.sep.at_ 7 rfl) (by omega)) (fun u hu => HO.out u (by rw [flat_take L i (by have := HLN.out; omega)] at hu; exact List.mem_of_mem_take hu)) (by omega) ?_
              intro g3 c3 cur3 w16 hb3 hr3 hg3 ht3
              replace X := X.reblk hb3 hg3 ht3
              rw [Nat.zero_add] at hr3 ⊢
              rw [List.nil_append] at hr3
              clear hb3 hg3 ht3
              clear HF
              have HF : w16.cell? ⟨rn, 0, none⟩ = some (.slice E0 nE0 cE0) := (X.sep.at_ 6 rfl).cell 0
              refine hK _ _ (fun _ => HF) ?_
              clear hK K
              try simp only [Act.put]
              refine wpAnyL_step (i := 9) (by kernel_rfl) rfl rfl ?_
              intro K hK
              refine wp_raw (n := i) (c := c3) (cur := cur3) (us := (L.take i).flatMap pV) (news := (L.drop (i + 1)).flatMap pV) (m := no - (i + 1)) _ _ (by rfl) (by rfl) hr3 (X.sep.at_ 0 rfl) (by rfl) (by rw [pV_len, List.length_drop, HLN.out]) (src_back' HR.out (X.sep.at_ 7 rfl) i5) (fun u hu => HO.out u (by rw [flat_drop L (i + 1) (by have := HLN.out; omega)] at hu; exact List.mem_of_mem_drop hu)) (by omega) ?_
              intro g4 c4 cur4 w17 hb4 hr4 hg4 ht4
              replace X := X.reblk hb4 hg4 ht4
              rw [flat_erase] at hr4
              clear hb4 hg4 ht4 hr3
              clear HF
              have HF : w17.cell? ⟨rn, 0, none⟩ = some (.slice E0 nE0 cE0) := (X.sep.at_ 6 rfl).cell 0
              refine hK _ _ (fun _ => HF) ?_
              clear hK K
              try simp only [Act.put]
              refine wpAnyL_step (i := 10) (by kernel_rfl) rfl rfl ?_
              intro K hK
              go_simp
              refine hK _ _ (fun h => nomatch (show true = false from h)) ?_
              clear hK K
              try simp only [Act.put]
              refine wpAnyL_done (by kernel_rfl) ?_ _
              clear HF
              as_aux_lemma =>
                replace X := X.with_ (X.sep.pick 8 rfl)
                replace X := X.with_ (X.sep.pick 1 rfl)
                replace X := X.with_ (X.sep.pick 7 rfl)
                replace X := X.with_ (X.sep.pick 6 rfl)
                replace X := X.with_ (X.sep.sub (.cons_cons _ (.cons_cons _ (.cons_cons _ (.cons_cons _ (List.nil_sublist _))))))
                rw [← ltr_erase] at X
                have X1 := Lib.hid X
                have HRW := Lib.hid (show Raw cur4 (i + (no - (i + 1))) c4 ((L.eraseIdx i).flatMap pV) from hr4)
                have HSB := Lib.hid (show ∀ q ∈ (L.eraseIdx i), q ∈ Q from fun q hq => HS.out q ((List.eraseIdx_sublist ..).subset hq))
                have HOK2 := Lib.hid (show netOk ⟨ltr (L.eraseIdx i), [linkOf x0 x1]⟩ = true from by rw [ltr_erase]; exact netOk_erase HOK.out i)
                clear X
                go_wp2
                go_roundw
                case rel =>
                  first
                    | exact ⟨k + 1, (L.eraseIdx i), Q, _, _, _, _, _, _, _, _, i + (no - (i + 1)), _, _, _, rfl, by go_num, by have := HK.out; omega, by omega, HRW.out, HSB.out, HOK2.out, X1.out⟩
                    | (repeat apply Exists.intro
                       refine ⟨⟨k + 1, (L.eraseIdx i), Q, _, _, _, _, _, _, _, _, i + (no - (i + 1)), _, _, _, ?_, ?_, by have := HK.out; omega, by omega, HRW.out, HSB.out, HOK2.out, X1.out⟩, ?_⟩
                       rotate_left 2
                       · first | rfl | (trace_state; done)
                       · rfl
                       · go_num)
                case measure => have := HK.out; simp [intOf]; omega
            · have HN1 := Lib.hid p1
              have e1 : (x1 == b) = false := by simp; omega
              have e2 : (x0 == b) = false := by simp; omega
              have e3 : decide (x1 = b) = false := decide_eq_false (by omega)
              have e4 : decide (x0 = b) = false := decide_eq_false (by omega)
              clear hab p1
              have f6 : w9.cell? ⟨rn, 0, none⟩ = some (.slice A0 nA0 cA0) := (X.sep.at_ 1 rfl).cell 0
              have f7 : w9.cell? ⟨rn, 1, none⟩ = some (.slice A1 nA1 cA1) := (X.sep.at_ 1 rfl).cell 1
              go_wp2_with fail
              refine (law_handed' (x0 := x0) (x1 := x1) (xs := xr) (X.sep.own_ 0 rfl).rd HSZ.out (handed_open HOK.out HIL.out HM.out HAB.out.2.2.2.2 (by have h1 := HN1.out; have h2 := HAB.out; omega))).mono ?_
              rintro e w10 ⟨E0, nE0, cE0, E1, nE1, cE1, A2, n2, c2, rfl, o, b1⟩
              obtain ⟨fp_txm, X'⟩ := X.has b1 o
              clear X; have X := X'; clear X' b1 o f6 f7
              obtain ⟨fx, fy, S'⟩ := X.sep.cut (ds := (⟨(ltr L).eraseIdx i, [linkOf x0 b]⟩ : NetM).cells) (ds' := msgC ⟨x0, x1, xr⟩) (vs := [.slice E0 nE0 cE0, .slice E1 nE1 cE1]) (vs' := [.int .i64 x0, .int .i64 x1, .slice A2 n2 c2]) rfl
              replace X := X.with_ S'
              clear S'
              have hir := (msg_open (d := ⟨x0, x1, xr⟩) (X.sep.own_ 0 rfl).rd).2
              have hn2 : xr.length = n2 := hir.1
              have HN2 := Lib.hid hn2
              clear hn2 hir
              replace X := X.boxAt (w10.heap.size) rfl #[.slice E0 nE0 cE0, .slice E1 nE1 cE1] 30
              replace X := X.boxAt (w10.heap.size + 1) (by simp) #[.int .i64 x0, .int .i64 x1, .slice A2 n2 c2] 37
              go_upto_region 23 with fail
              generalize (w10.alloc (.cells #[.slice E0 nE0 cE0, .slice E1 nE1 cE1] 30)).alloc (.cells #[.int .i64 x0, .int .i64 x1, .slice A2 n2 c2] 37) = w11 at *
              obtain ⟨rx, hrx⟩ : ∃ rx, rx = w10.heap.size := ⟨_, rfl⟩
              rw [← hrx] at X ⊢
              clear hrx
              obtain ⟨k0, k1, k2⟩ := raw_at HR.out (X.sep.at_ 6 rfl) HIL.out
              rw [HM.out] at k0 k1
              replace k0 : w11.cell? ⟨gb, i * 3, none⟩ = some (.int .i64 x0) := k0
              replace k1 : w11.cell? ⟨gb, i * 3 + 1, none⟩ = some (.int .i64 x1) := k1
              have i0 : (0 : Int) ≤ (i : Int) := by omega
              have i1 : (i : Int) < (no : Int) := by omega
              obtain ⟨Ae, me, ce, he2, hre⟩ := rd_row (rd_pick Q (X.sep.own_ 7 rfl).rd _ (HS.out _ (List.getElem_mem HIL.out)))
              rw [he2] at k2
              rw [HM.out] at hre
              replace hre : IRow _ _ Ae me xr := hre
              obtain rfl : n2 = me := by have := hre.1; have := HN2.out; omega
              have hrm := (msg_open (d := ⟨x0, x1, xr⟩) (X.sep.own_ 2 rfl).rd).2
              replace hrm : IRow _ _ A2 n2 xr := hrm
              have hme : n2 ≤ 1048577 := by have := HMR.out; have := HN2.out; omega
              have f8 : w11.cell? ⟨rx + 1, 0, none⟩ = some (.int .i64 x0) := (X.sep.at_ 0 rfl).cell 0
              have f9 : w11.cell? ⟨rx + 1, 1, none⟩ = some (.int .i64 x1) := (X.sep.at_ 0 rfl).cell 1
              have f10 : w11.cell? ⟨rx + 1, 2, none⟩ = some (.slice A2 n2 c2) := (X.sep.at_ 0 rfl).cell 2
              go_wp2_with fail
              have SH := Lib.hid X
              clear X
              refine wp_region_cls (fun v => v.cell? ⟨rx + 1, 0, none⟩ = some (.int .i64 x0) ∧ v.cell? ⟨rx + 1, 1, none⟩ = some (.int .i64 x1) ∧ v.cell? ⟨rx + 1, 2, none⟩ = some (.slice A2 n2 c2) ∧ v.cell? ⟨gb, i * 3, none⟩ = some (.int .i64 x0) ∧ v.cell? ⟨gb, i * 3 + 1, none⟩ = some (.int .i64 x1) ∧ v.cell? ⟨gb, i * 3 + 2, none⟩ = some (.slice Ae n2 ce) ∧ IRow v w11.heap.size A2 n2 xr ∧ IRow v w11.heap.size Ae n2 xr ∧ w11.heap.size ≤ v.heap.size) (by kernel_rfl) (by kernel_rfl) (fun v hv => ⟨(hv.cell (p := ⟨rx + 1, 0, none⟩) (lt_of_cell f8)).trans f8, (hv.cell (p := ⟨rx + 1, 1, none⟩) (lt_of_cell f9)).trans f9, (hv.cell (p := ⟨rx + 1, 2, none⟩) (lt_of_cell f10)).trans f10, (hv.cell (p := ⟨gb, i * 3, none⟩) (lt_of_cell k0)).trans k0, (hv.cell (p := ⟨gb, i * 3 + 1, none⟩) (lt_of_cell k1)).trans k1, (hv.cell (p := ⟨gb, i * 3 + 2, none⟩) (lt_of_cell k2)).trans k2, hrm.below hv, hre.below hv, hv.size⟩) ?_
              intro CL HF HC
              repeat
                (first
                   | go_big_quiet_skip
                   | (go_big_quiet_want
                      go_big_quiet_op
                      first
                        | go_big_quiet_on
                        | (apply Exists.intro
                           refine ⟨fun v hv => ?_, ?_⟩
                           · obtain ⟨a0, a1, a2, a3, a4, a5, a6, a7, a8⟩ := HF v hv
                             first
                               | (go_at_call 23; exact Calls.cls HC hv (wLetter_yes x0 x1 A2 Ae n2 c2 ce w11.heap.size w11.heap.size xr v a6 a7 a8 a8 hme) rfl)
                               | exact rfl
                               | (go_simp; exact rfl)
                               | (go_simp; exact ⟨rfl, hv⟩)
                           go_big_quiet_on)))
              refine wpQuiet_nil ?_
              intro w12 b9
              have X := SH.out.keep b9
              clear SH b9 k0 k1 k2 hre hrm f8 f9 f10
              go_upto_region 26 with fail
              have f11 : w12.cell? ⟨rx, 0, none⟩ = some (.slice E0 nE0 cE0) := (X.sep.at_ 1 rfl).cell 0
              have f12 : w12.cell? ⟨rx, 1, none⟩ = some (.slice E1 nE1 cE1) := (X.sep.at_ 1 rfl).cell 1
              have f13 : w12.cell? ⟨rn, 0, none⟩ = some (.slice A0 nA0 cA0) := (X.sep.at_ 5 rfl).cell 0
              have f14 := (X.sep.at_ 5 rfl).free 0
              have f15 : w12.cell? ⟨rn, 1, none⟩ = some (.slice A1 nA1 cA1) := (X.sep.at_ 5 rfl).cell 1
              have f16 := (X.sep.at_ 5 rfl).free 1
              replace X := X.put 5 rfl 0 (.slice E0 nE0 cE0)
              replace X := X.put 5 rfl 1 (.slice E1 nE1 cE1)
              replace X : DrL w1 _ _ _ [.blk (rx + 1) #[.int .i64 x0, .int .i64 x1, .slice A2 n2 c2] 37, .blk (rx) #[.slice E0 nE0 cE0, .slice E1 nE1 cE1] 30, _, _, _, .blk (rn) #[.slice E0 nE0 cE0, .slice E1 nE1 cE1] 30, .blk gb cur 37, _] := X
              go_wp2_with fail
              generalize (w12.setCell ⟨rn, 0, none⟩ (.slice E0 nE0 cE0)).setCell ⟨rn, 1, none⟩ (.slice E1 nE1 cE1) = w13 at *
              clear f11 f12 f13 f14 f15 f16
              have i0 : (0 : Int) ≤ (i : Int) := by omega
              have i1 : (i : Int) ≤ (co : Int) := by have := HR.out.le; omega
              have i2 : (0 : Int) ≤ (i : Int) + 1 := by omega
              have i3 : (i : Int) + 1 ≤ (no : Int) := by omega
              have i4 : i ≤ co := by omega
              have i5 : i + 1 ≤ no := by omega
              have ep : IntKind.i64.wrap ((i : Int) + 1) = (i : Int) + 1 := by rw [IntKind.wrap_i64]; omega
              have en : ((i : Int) + 1).toNat = i + 1 := by omega
              have HLC := Lib.hid HR.out.le
              refine wp_region_L (fun v => v.cell? ⟨rn, 0, none⟩ = some (.slice E0 nE0 cE0)) 10 (by kernel_rfl) ?_
              replace X := X.drew
              generalize w13.drew = w14 at *
              have HF : w14.cell? ⟨rn, 0, none⟩ = some (.slice E0 nE0 cE0) := (X.sep.at_ 5 rfl).cell 0
              refine wpAnyL_take (i := 1) (v := ?_) rfl rfl (by kernel_rfl) (by kernel_rfl) (by kernel_rfl) (by kernel_rfl) (by kernel_rfl) (fun _ _ _ h => h) HF (Or.inl ⟨by rfl, ?_⟩) ?_
              rotate_left 1
              · (rintro v a0; go_simp; try with_reducible rfl)
              try simp only [Act.put]
              refine wpAnyL_take (i := 2) (v := ?_) rfl rfl (by kernel_rfl) (by kernel_rfl) (by kernel_rfl) (by kernel_rfl) (by kernel_rfl) (fun _ _ _ h => h) HF (Or.inl ⟨by rfl, ?_⟩) ?_
              rotate_left 1
              · (rintro v a0; go_simp; try with_reducible rfl)
              try simp only [Act.put]
              refine wpAnyL_pure (i := 3) (v := ?_) rfl rfl (by kernel_rfl) (by kernel_rfl) (by kernel_rfl) (fun _ _ _ h => h) HF (Or.inl ⟨by rfl, ?_⟩) ?_
              rotate_left 1
              · (intro v _; go_simp; try with_reducible rfl)
              try simp only [Act.put]
              refine wpAnyL_take (i := 5) (v := ?_) rfl rfl (by kernel_rfl) (by kernel_rfl) (by kernel_rfl) (by kernel_rfl) (by kernel_rfl) (fun _ _ _ h => h) HF (Or.inl ⟨by rfl, ?_⟩) ?_
              rotate_left 1
              · (rintro v a0; go_simp; try with_reducible rfl)
              try simp only [Act.put]
              refine wpAnyL_take (i := 6) (v := ?_) rfl rfl (by kernel_rfl) (by kernel_rfl) (by kernel_rfl) (by kernel_rfl) (by kernel_rfl) (fun _ _ _ h => h) HF (Or.inl ⟨by rfl, ?_⟩) ?_
              rotate_left 1
              · (rintro v a0; go_simp; try with_reducible rfl)
              try simp only [Act.put]
              refine wpAnyL_pure (i := 7) (v := ?_) rfl rfl (by kernel_rfl) (by kernel_rfl) (by kernel_rfl) (fun _ _ _ h => h) HF (Or.inl ⟨by rfl, ?_⟩) ?_
              rotate_left 1
              · (intro v _; go_simp; try with_reducible rfl)
              try simp only [Act.put]
              refine wpAnyL_pure (i := 8) (v := ?_) rfl rfl (by kernel_rfl) (by kernel_rfl) (by kernel_rfl) (fun _ _ _ h => h) HF (Or.inl ⟨by rfl, ?_⟩) ?_
              rotate_left 1
              · (intro v _; go_simp; try with_reducible rfl)
              try simp only [Act.put]
              refine wpAnyL_step (i := 0) (by kernel_rfl) rfl rfl ?_
              intro K hK
              go_simp
              replace X := X.boxAt (w14.heap.size) rfl #[] 37
              clear HF
              have HF : (w14.alloc (.cells #[] 37)).cell? ⟨rn, 0, none⟩ = some (.slice E0 nE0 cE0) := (X.sep.at_ 6 rfl).cell 0
              refine hK _ _ (fun _ => HF) ?_
              clear hK K
              try simp only [Act.put]
              generalize hw : w14.alloc (.cells #[] 37) = w15 at *
              clear hw
              replace X := X.with_ (X.sep.pick 0 rfl)
              refine wpAnyL_step (i := 4) (by kernel_rfl) rfl rfl ?_
              intro K hK
              refine wp_raw (n := 0) (c := 0) (cur := #[]) (us := []) (news := (L.take i).flatMap pV) (m := i) _ _ (by rfl) (by rfl) Raw.zero (X.sep.at_ 0 rfl) (by rfl) (by rw [pV_len, List.length_take]; have := HLN.out; omega) (src_front HR.out (X.sep.at_ 7 rfl) (by omega)) (fun u hu => HO.out u (by rw [flat_take L i (by have := HLN.out; omega)] at hu; exact List.mem_of_mem_take hu)) (by omega) ?_
              intro g3 c3 cur3 w16 hb3 hr3 hg3 ht3
              replace X := X.reblk hb3 hg3 ht3
              rw [Nat.zero_add] at hr3 ⊢
              rw [List.nil_append] at hr3
              clear hb3 hg3 ht3
              clear HF
              have HF : w16.cell? ⟨rn, 0, none⟩ = some (.slice E0 nE0 cE0) := (X.sep.at_ 6 rfl).cell 0
              refine hK _ _ (fun _ => HF) ?_
              clear hK K
              try simp only [Act.put]
              refine wpAnyL_step (i := 9) (by kernel_rfl) rfl rfl ?_
              intro K hK
              refine wp_raw (n := i) (c := c3) (cur := cur3) (us := (L.take i).flatMap pV) (news := (L.drop (i + 1)).flatMap pV) (m := no - (i + 1)) _ _ (by rfl) (by rfl) hr3 (X.sep.at_ 0 rfl) (by rfl) (by rw [pV_len, List.length_drop, HLN.out]) (src_back' HR.out (X.sep.at_ 7 rfl) i5) (fun u hu => HO.out u (by rw [flat_drop L (i + 1) (by have := HLN.out; omega)] at hu; exact List.mem_of_mem_drop hu)) (by omega) ?_
              intro g4 c4 cur4 w17 hb4 hr4 hg4 ht4
              replace X := X.reblk hb4 hg4 ht4
              rw [flat_erase] at hr4
              clear hb4 hg4 ht4 hr3
              clear HF
              have HF : w17.cell? ⟨rn, 0, none⟩ = some (.slice E0 nE0 cE0) := (X.sep.at_ 6 rfl).cell 0
              refine hK _ _ (fun _ => HF) ?_
              clear hK K
              try simp only [Act.put]
              refine wpAnyL_step (i := 10) (by kernel_rfl) rfl rfl ?_
              intro K hK
              go_simp
              refine hK _ _ (fun h => nomatch (show true = false from h)) ?_
              clear hK K
              try simp only [Act.put]
              refine wpAnyL_done (by kernel_rfl) ?_ _
              clear HF
              as_aux_lemma =>
                replace X := X.with_ (X.sep.pick 8 rfl)
                replace X := X.with_ (X.sep.pick 1 rfl)
                replace X := X.with_ (X.sep.pick 7 rfl)
                replace X := X.with_ (X.sep.pick 6 rfl)
                replace X := X.with_ (X.sep.sub (.cons_cons _ (.cons_cons _ (.cons_cons _ (.cons_cons _ (List.nil_sublist _))))))
                rw [← ltr_erase] at X
                have X1 := Lib.hid X
                have HRW := Lib.hid (show Raw cur4 (i + (no - (i + 1))) c4 ((L.eraseIdx i).flatMap pV) from hr4)
                have HSB := Lib.hid (show ∀ q ∈ (L.eraseIdx i), q ∈ Q from fun q hq => HS.out q ((List.eraseIdx_sublist ..).subset hq))
                have HOK2 := Lib.hid (show netOk ⟨ltr (L.eraseIdx i), [linkOf x0 b]⟩ = true from by rw [ltr_erase]; exact netOk_erase HOK.out i)
                clear X
                go_wp2
                go_roundw
                case rel =>
                  first
                    | exact ⟨k + 1, (L.eraseIdx i), Q, _, _, _, _, _, _, _, _, i + (no - (i + 1)), _, _, _, rfl, by go_num, by have := HK.out; omega, by omega, HRW.out, HSB.out, HOK2.out, X1.out⟩
                    | (repeat apply Exists.intro
                       refine ⟨⟨k + 1, (L.eraseIdx i), Q, _, _, _, _, _, _, _, _, i + (no - (i + 1)), _, _, _, ?_, ?_, by have := HK.out; omega, by omega, HRW.out, HSB.out, HOK2.out, X1.out⟩, ?_⟩
                       rotate_left 2
                       · first | rfl | (trace_state; done)
                       · rfl
                       · go_num)
                case measure => have := HK.out; simp [intOf]; omega
          · have e0 : (x0 == a) = false := by simp; omega
            have e5 : decide (x0 = a) = false := decide_eq_false (by omega)
            by_cases p1 : x0 = b
            · subst p1
              by_cases p2 : x1 = a
              · subst p2
                clear hab p0
                have f6 : w9.cell? ⟨rn, 0, none⟩ = some (.slice A0 nA0 cA0) := (X.sep.at_ 1 rfl).cell 0
                have f7 : w9.cell? ⟨rn, 1, none⟩ = some (.slice A1 nA1 cA1) := (X.sep.at_ 1 rfl).cell 1
                go_wp2_with fail
                refine (law_handed' (x0 := 0) (x1 := 0) (xs := []) (X.sep.own_ 0 rfl).rd HSZ.out (handed_shut HOK.out HIL.out HM.out HAB.out.2.2.2.2 (.inr ⟨rfl, rfl⟩))).mono ?_
                rintro e w10 ⟨E0, nE0, cE0, E1, nE1, cE1, A2, n2, c2, rfl, o, b1⟩
                obtain ⟨fp_txm, X'⟩ := X.has b1 o
                clear X; have X := X'; clear X' b1 o f6 f7
                obtain ⟨fx, fy, S'⟩ := X.sep.cut (ds := (⟨(ltr L).eraseIdx i, [linkOf x1 x0]⟩ : NetM).cells) (ds' := msgC ⟨0, 0, []⟩) (vs := [.slice E0 nE0 cE0, .slice E1 nE1 cE1]) (vs' := [.int .i64 0, .int .i64 0, .slice A2 n2 c2]) rfl
                replace X := X.with_ S'
                clear S'
                have hir := (msg_open (d := ⟨0, 0, []⟩) (X.sep.own_ 0 rfl).rd).2
                obtain rfl : n2 = 0 := hir.1.symm
                clear hir
                replace X := X.boxAt (w10.heap.size) rfl #[.slice E0 nE0 cE0, .slice E1 nE1 cE1] 30
                replace X := X.boxAt (w10.heap.size + 1) (by simp) #[.int .i64 0, .int .i64 0, .slice A2 0 c2] 37
                go_upto_region 23 with fail
                generalize (w10.alloc (.cells #[.slice E0 nE0 cE0, .slice E1 nE1 cE1] 30)).alloc (.cells #[.int .i64 0, .int .i64 0, .slice A2 0 c2] 37) = w11 at *
                obtain ⟨rx, hrx⟩ : ∃ rx, rx = w10.heap.size := ⟨_, rfl⟩
                rw [← hrx] at X ⊢
                clear hrx
                obtain ⟨k0, k1, k2⟩ := raw_at HR.out (X.sep.at_ 6 rfl) HIL.out
                rw [HM.out] at k0 k1
                replace k0 : w11.cell? ⟨gb, i * 3, none⟩ = some (.int .i64 x0) := k0
                replace k1 : w11.cell? ⟨gb, i * 3 + 1, none⟩ = some (.int .i64 x1) := k1
                have i0 : (0 : Int) ≤ (i : Int) := by omega
                have i1 : (i : Int) < (no : Int) := by omega
                have f8 : w11.cell? ⟨rx + 1, 2, none⟩ = some (.slice A2 0 c2) := (X.sep.at_ 0 rfl).cell 2
                go_wp2_with fail
                have SH := Lib.hid X
                clear X
                go_quiet (fail)
                have X := SH.out.keep (below_drewN (Below.refl w11.heap.size w11) nq)
                generalize w11.drewN nq = w12 at *
                clear SH f8 k0 k1 k2
                go_upto_region 26 with fail
                have f9 : w12.cell? ⟨rx, 0, none⟩ = some (.slice E0 nE0 cE0) := (X.sep.at_ 1 rfl).cell 0
                have f10 : w12.cell? ⟨rx, 1, none⟩ = some (.slice E1 nE1 cE1) := (X.sep.at_ 1 rfl).cell 1
                have f11 : w12.cell? ⟨rn, 0, none⟩ = some (.slice A0 nA0 cA0) := (X.sep.at_ 5 rfl).cell 0
                have f12 := (X.sep.at_ 5 rfl).free 0
                have f13 : w12.cell? ⟨rn, 1, none⟩ = some (.slice A1 nA1 cA1) := (X.sep.at_ 5 rfl).cell 1
                have f14 := (X.sep.at_ 5 rfl).free 1
                replace X := X.put 5 rfl 0 (.slice E0 nE0 cE0)
                replace X := X.put 5 rfl 1 (.slice E1 nE1 cE1)
                replace X : DrL w1 _ _ _ [.blk (rx + 1) #[.int .i64 0, .int .i64 0, .slice A2 0 c2] 37, .blk (rx) #[.slice E0 nE0 cE0, .slice E1 nE1 cE1] 30, _, _, _, .blk (rn) #[.slice E0 nE0 cE0, .slice E1 nE1 cE1] 30, .blk gb cur 37, _] := X
                go_wp2_with fail
                generalize (w12.setCell ⟨rn, 0, none⟩ (.slice E0 nE0 cE0)).setCell ⟨rn, 1, none⟩ (.slice E1 nE1 cE1) = w13 at *
                clear f9 f10 f11 f12 f13 f14
                have i0 : (0 : Int) ≤ (i : Int) := by omega
                have i1 : (i : Int) ≤ (co : Int) := by have := HR.out.le; omega
                have i2 : (0 : Int) ≤ (i : Int) + 1 := by omega
                have i3 : (i : Int) + 1 ≤ (no : Int) := by omega
                have i4 : i ≤ co := by omega
                have i5 : i + 1 ≤ no := by omega
                have ep : IntKind.i64.wrap ((i : Int) + 1) = (i : Int) + 1 := by rw [IntKind.wrap_i64]; omega
                have en : ((i : Int) + 1).toNat = i + 1 := by omega
                have HLC := Lib.hid HR.out.le
                refine wp_region_L (fun v => v.cell? ⟨rn, 0, none⟩ = some (.slice E0 nE0 cE0)) 10 (by kernel_rfl) ?_
                replace X := X.drew
                generalize w13.drew = w14 at *
                have HF : w14.cell? ⟨rn, 0, none⟩ = some (.slice E0 nE0 cE0) := (X.sep.at_ 5 rfl).cell 0
                refine wpAnyL_take (i := 1) (v := ?_) rfl rfl (by kernel_rfl) (by kernel_rfl) (by kernel_rfl) (by kernel_rfl) (by kernel_rfl) (fun _ _ _ h => h) HF (Or.inl ⟨by rfl, ?_⟩) ?_
                rotate_left 1
                · (rintro v a0; go_simp; try with_reducible rfl)
                try simp only [Act.put]
                refine wpAnyL_take (i := 2) (v := ?_) rfl rfl (by kernel_rfl) (by kernel_rfl) (by kernel_rfl) (by kernel_rfl) (by kernel_rfl) (fun _ _ _ h => h) HF (Or.inl ⟨by rfl, ?_⟩) ?_
                rotate_left 1
                · (rintro v a0; go_simp; try with_reducible rfl)
                try simp only [Act.put]
                refine wpAnyL_pure (i := 3) (v := ?_) rfl rfl (by kernel_rfl) (by kernel_rfl) (by kernel_rfl) (fun _ _ _ h => h) HF (Or.inl ⟨by rfl, ?_⟩) ?_
                rotate_left 1
                · (intro v _; go_simp; try with_reducible rfl)
                try simp only [Act.put]
                refine wpAnyL_take (i := 5) (v := ?_) rfl rfl (by kernel_rfl) (by kernel_rfl) (by kernel_rfl) (by kernel_rfl) (by kernel_rfl) (fun _ _ _ h => h) HF (Or.inl ⟨by rfl, ?_⟩) ?_
                rotate_left 1
                · (rintro v a0; go_simp; try with_reducible rfl)
                try simp only [Act.put]
                refine wpAnyL_take (i := 6) (v := ?_) rfl rfl (by kernel_rfl) (by kernel_rfl) (by kernel_rfl) (by kernel_rfl) (by kernel_rfl) (fun _ _ _ h => h) HF (Or.inl ⟨by rfl, ?_⟩) ?_
                rotate_left 1
                · (rintro v a0; go_simp; try with_reducible rfl)
                try simp only [Act.put]
                refine wpAnyL_pure (i := 7) (v := ?_) rfl rfl (by kernel_rfl) (by kernel_rfl) (by kernel_rfl) (fun _ _ _ h => h) HF (Or.inl ⟨by rfl, ?_⟩) ?_
                rotate_left 1
                · (intro v _; go_simp; try with_reducible rfl)
                try simp only [Act.put]
                refine wpAnyL_pure (i := 8) (v := ?_) rfl rfl (by kernel_rfl) (by kernel_rfl) (by kernel_rfl) (fun _ _ _ h => h) HF (Or.inl ⟨by rfl, ?_⟩) ?_
                rotate_left 1
                · (intro v _; go_simp; try with_reducible rfl)
                try simp only [Act.put]
                refine wpAnyL_step (i := 0) (by kernel_rfl) rfl rfl ?_
                intro K hK
                go_simp
                replace X := X.boxAt (w14.heap.size) rfl #[] 37
                clear HF
                have HF : (w14.alloc (.cells #[] 37)).cell? ⟨rn, 0, none⟩ = some (.slice E0 nE0 cE0) := (X.sep.at_ 6 rfl).cell 0
                refine hK _ _ (fun _ => HF) ?_
                clear hK K
                try simp only [Act.put]
                generalize hw : w14.alloc (.cells #[] 37) = w15 at *
                clear hw
                replace X := X.with_ (X.sep.pick 0 rfl)
                refine wpAnyL_step (i := 4) (by kernel_rfl) rfl rfl ?_
                intro K hK
                refine wp_raw (n := 0) (c := 0) (cur := #[]) (us := []) (news := (L.take i).flatMap pV) (m := i) _ _ (by rfl) (by rfl) Raw.zero (X.sep.at_ 0 rfl) (by rfl) (by rw [pV_len, List.length_take]; have := HLN.out; omega) (src_front HR.out (X.sep.at_ 7 rfl) (by omega)) (fun u hu => HO.out u (by rw [flat_take L i (by have := HLN.out; omega)] at hu; exact List.mem_of_mem_take hu)) (by omega) ?_
                intro g3 c3 cur3 w16 hb3 hr3 hg3 ht3
                replace X := X.reblk hb3 hg3 ht3
                rw [Nat.zero_add] at hr3 ⊢
                rw [List.nil_append] at hr3
                clear hb3 hg3 ht3
                clear HF
                have HF : w16.cell? ⟨rn, 0, none⟩ = some (.slice E0 nE0 cE0) := (X.sep.at_ 6 rfl).cell 0
                refine hK _ _ (fun _ => HF) ?_
                clear hK K
                try simp only [Act.put]
                refine wpAnyL_step (i := 9) (by kernel_rfl) rfl rfl ?_
                intro K hK
                refine wp_raw (n := i) (c := c3) (cur := cur3) (us := (L.take i).flatMap pV) (news := (L.drop (i + 1)).flatMap pV) (m := no - (i + 1)) _ _ (by rfl) (by rfl) hr3 (X.sep.at_ 0 rfl) (by rfl) (by rw [pV_len, List.length_drop, HLN.out]) (src_back' HR.out (X.sep.at_ 7 rfl) i5) (fun u hu => HO.out u (by rw [flat_drop L (i + 1) (by have := HLN.out; omega)] at hu; exact List.mem_of_mem_drop hu)) (by omega) ?_
                intro g4 c4 cur4 w17 hb4 hr4 hg4 ht4
                replace X := X.reblk hb4 hg4 ht4
                rw [flat_erase] at hr4
                clear hb4 hg4 ht4 hr3
                clear HF
                have HF : w17.cell? ⟨rn, 0, none⟩ = some (.slice E0 nE0 cE0) := (X.sep.at_ 6 rfl).cell 0
                refine hK _ _ (fun _ => HF) ?_
                clear hK K
                try simp only [Act.put]
                refine wpAnyL_step (i := 10) (by kernel_rfl) rfl rfl ?_
                intro K hK
                go_simp
                refine hK _ _ (fun h => nomatch (show true = false from h)) ?_
                clear hK K
                try simp only [Act.put]
                refine wpAnyL_done (by kernel_rfl) ?_ _
                clear HF
                as_aux_lemma =>
                  replace X := X.with_ (X.sep.pick 8 rfl)
                  replace X := X.with_ (X.sep.pick 1 rfl)
                  replace X := X.with_ (X.sep.pick 7 rfl)
                  replace X := X.with_ (X.sep.pick 6 rfl)
                  replace X := X.with_ (X.sep.sub (.cons_cons _ (.cons_cons _ (.cons_cons _ (.cons_cons _ (List.nil_sublist _))))))
                  rw [← ltr_erase] at X
                  have X1 := Lib.hid X
                  have HRW := Lib.hid (show Raw cur4 (i + (no - (i + 1))) c4 ((L.eraseIdx i).flatMap pV) from hr4)
                  have HSB := Lib.hid (show ∀ q ∈ (L.eraseIdx i), q ∈ Q from fun q hq => HS.out q ((List.eraseIdx_sublist ..).subset hq))
                  have HOK2 := Lib.hid (show netOk ⟨ltr (L.eraseIdx i), [linkOf x1 x0]⟩ = true from by rw [ltr_erase]; exact netOk_erase HOK.out i)
                  clear X
                  go_wp2
                  go_roundw
                  case rel =>
                    first
                      | exact ⟨k + 1, (L.eraseIdx i), Q, _, _, _, _, _, _, _, _, i + (no - (i + 1)), _, _, _, rfl, by go_num, by have := HK.out; omega, by omega, HRW.out, HSB.out, HOK2.out, X1.out⟩
                      | (repeat apply Exists.intro
                         refine ⟨⟨k + 1, (L.eraseIdx i), Q, _, _, _, _, _, _, _, _, i + (no - (i + 1)), _, _, _, ?_, ?_, by have := HK.out; omega, by omega, HRW.out, HSB.out, HOK2.out, X1.out⟩, ?_⟩
                         rotate_left 2
                         · first | rfl | (trace_state; done)
                         · rfl
                         · go_num)
                  case measure => have := HK.out; simp [intOf]; omega
              · have HN1 := Lib.hid p2
                have e1 : (x1 == a) = false := by simp; omega
                have e3 : decide (x1 = a) = false := decide_eq_false (by omega)
                clear hab p0 p2
                have f6 : w9.cell? ⟨rn, 0, none⟩ = some (.slice A0 nA0 cA0) := (X.sep.at_ 1 rfl).cell 0
                have f7 : w9.cell? ⟨rn, 1, none⟩ = some (.slice A1 nA1 cA1) := (X.sep.at_ 1 rfl).cell 1
                go_wp2_with fail
                refine (law_handed' (x0 := x0) (x1 := x1) (xs := xr) (X.sep.own_ 0 rfl).rd HSZ.out (handed_open HOK.out HIL.out HM.out HAB.out.2.2.2.2 (by have h1 := HN1.out; have h2 := HAB.out; omega))).mono ?_
                rintro e w10 ⟨E0, nE0, cE0, E1, nE1, cE1, A2, n2, c2, rfl, o, b1⟩
                obtain ⟨fp_txm, X'⟩ := X.has b1 o
                clear X; have X := X'; clear X' b1 o f6 f7
                obtain ⟨fx, fy, S'⟩ := X.sep.cut (ds := (⟨(ltr L).eraseIdx i, [linkOf a x0]⟩ : NetM).cells) (ds' := msgC ⟨x0, x1, xr⟩) (vs := [.slice E0 nE0 cE0, .slice E1 nE1 cE1]) (vs' := [.int .i64 x0, .int .i64 x1, .slice A2 n2 c2]) rfl
                replace X := X.with_ S'
                clear S'
                have hir := (msg_open (d := ⟨x0, x1, xr⟩) (X.sep.own_ 0 rfl).rd).2
                have hn2 : xr.length = n2 := hir.1
                have HN2 := Lib.hid hn2
                clear hn2 hir
                replace X := X.boxAt (w10.heap.size) rfl #[.slice E0 nE0 cE0, .slice E1 nE1 cE1] 30
                replace X := X.boxAt (w10.heap.size + 1) (by simp) #[.int .i64 x0, .int .i64 x1, .slice A2 n2 c2] 37
                go_upto_region 23 with fail
                generalize (w10.alloc (.cells #[.slice E0 nE0 cE0, .slice E1 nE1 cE1] 30)).alloc (.cells #[.int .i64 x0, .int .i64 x1, .slice A2 n2 c2] 37) = w11 at *
                obtain ⟨rx, hrx⟩ : ∃ rx, rx = w10.heap.size := ⟨_, rfl⟩
                rw [← hrx] at X ⊢
                clear hrx
                obtain ⟨k0, k1, k2⟩ := raw_at HR.out (X.sep.at_ 6 rfl) HIL.out
                rw [HM.out] at k0 k1
                replace k0 : w11.cell? ⟨gb, i * 3, none⟩ = some (.int .i64 x0) := k0
                replace k1 : w11.cell? ⟨gb, i * 3 + 1, none⟩ = some (.int .i64 x1) := k1
                have i0 : (0 : Int) ≤ (i : Int) := by omega
                have i1 : (i : Int) < (no : Int) := by omega
                obtain ⟨Ae, me, ce, he2, hre⟩ := rd_row (rd_pick Q (X.sep.own_ 7 rfl).rd _ (HS.out _ (List.getElem_mem HIL.out)))
                rw [he2] at k2
                rw [HM.out] at hre
                replace hre : IRow _ _ Ae me xr := hre
                obtain rfl : n2 = me := by have := hre.1; have := HN2.out; omega
                have hrm := (msg_open (d := ⟨x0, x1, xr⟩) (X.sep.own_ 2 rfl).rd).2
                replace hrm : IRow _ _ A2 n2 xr := hrm
                have hme : n2 ≤ 1048577 := by have := HMR.out; have := HN2.out; omega
                have f8 : w11.cell? ⟨rx + 1, 0, none⟩ = some (.int .i64 x0) := (X.sep.at_ 0 rfl).cell 0
                have f9 : w11.cell? ⟨rx + 1, 1, none⟩ = some (.int .i64 x1) := (X.sep.at_ 0 rfl).cell 1
                have f10 : w11.cell? ⟨rx + 1, 2, none⟩ = some (.slice A2 n2 c2) := (X.sep.at_ 0 rfl).cell 2
                go_wp2_with fail
                have SH := Lib.hid X
                clear X
                refine wp_region_cls (fun v => v.cell? ⟨rx + 1, 0, none⟩ = some (.int .i64 x0) ∧ v.cell? ⟨rx + 1, 1, none⟩ = some (.int .i64 x1) ∧ v.cell? ⟨rx + 1, 2, none⟩ = some (.slice A2 n2 c2) ∧ v.cell? ⟨gb, i * 3, none⟩ = some (.int .i64 x0) ∧ v.cell? ⟨gb, i * 3 + 1, none⟩ = some (.int .i64 x1) ∧ v.cell? ⟨gb, i * 3 + 2, none⟩ = some (.slice Ae n2 ce) ∧ IRow v w11.heap.size A2 n2 xr ∧ IRow v w11.heap.size Ae n2 xr ∧ w11.heap.size ≤ v.heap.size) (by kernel_rfl) (by kernel_rfl) (fun v hv => ⟨(hv.cell (p := ⟨rx + 1, 0, none⟩) (lt_of_cell f8)).trans f8, (hv.cell (p := ⟨rx + 1, 1, none⟩) (lt_of_cell f9)).trans f9, (hv.cell (p := ⟨rx + 1, 2, none⟩) (lt_of_cell f10)).trans f10, (hv.cell (p := ⟨gb, i * 3, none⟩) (lt_of_cell k0)).trans k0, (hv.cell (p := ⟨gb, i * 3 + 1, none⟩) (lt_of_cell k1)).trans k1, (hv.cell (p := ⟨gb, i * 3 + 2, none⟩) (lt_of_cell k2)).trans k2, hrm.below hv, hre.below hv, hv.size⟩) ?_
                intro CL HF HC
                repeat
                  (first
                     | go_big_quiet_skip
                     | (go_big_quiet_want
                        go_big_quiet_op
                        first
                          | go_big_quiet_on
                          | (apply Exists.intro
                             refine ⟨fun v hv => ?_, ?_⟩
                             · obtain ⟨a0, a1, a2, a3, a4, a5, a6, a7, a8⟩ := HF v hv
                               first
                                 | (go_at_call 23; exact Calls.cls HC hv (wLetter_yes x0 x1 A2 Ae n2 c2 ce w11.heap.size w11.heap.size xr v a6 a7 a8 a8 hme) rfl)
                                 | exact rfl
                                 | (go_simp; exact rfl)
                                 | (go_simp; exact ⟨rfl, hv⟩)
                             go_big_quiet_on)))
                refine wpQuiet_nil ?_
                intro w12 b9
                have X := SH.out.keep b9
                clear SH b9 k0 k1 k2 hre hrm f8 f9 f10
                go_upto_region 26 with fail
                have f11 : w12.cell? ⟨rx, 0, none⟩ = some (.slice E0 nE0 cE0) := (X.sep.at_ 1 rfl).cell 0
                have f12 : w12.cell? ⟨rx, 1, none⟩ = some (.slice E1 nE1 cE1) := (X.sep.at_ 1 rfl).cell 1
                have f13 : w12.cell? ⟨rn, 0, none⟩ = some (.slice A0 nA0 cA0) := (X.sep.at_ 5 rfl).cell 0
                have f14 := (X.sep.at_ 5 rfl).free 0
                have f15 : w12.cell? ⟨rn, 1, none⟩ = some (.slice A1 nA1 cA1) := (X.sep.at_ 5 rfl).cell 1
                have f16 := (X.sep.at_ 5 rfl).free 1
                replace X := X.put 5 rfl 0 (.slice E0 nE0 cE0)
                replace X := X.put 5 rfl 1 (.slice E1 nE1 cE1)
                replace X : DrL w1 _ _ _ [.blk (rx + 1) #[.int .i64 x0, .int .i64 x1, .slice A2 n2 c2] 37, .blk (rx) #[.slice E0 nE0 cE0, .slice E1 nE1 cE1] 30, _, _, _, .blk (rn) #[.slice E0 nE0 cE0, .slice E1 nE1 cE1] 30, .blk gb cur 37, _] := X
                go_wp2_with fail
                generalize (w12.setCell ⟨rn, 0, none⟩ (.slice E0 nE0 cE0)).setCell ⟨rn, 1, none⟩ (.slice E1 nE1 cE1) = w13 at *
                clear f11 f12 f13 f14 f15 f16
                have i0 : (0 : Int) ≤ (i : Int) := by omega
                have i1 : (i : Int) ≤ (co : Int) := by have := HR.out.le; omega
                have i2 : (0 : Int) ≤ (i : Int) + 1 := by omega
                have i3 : (i : Int) + 1 ≤ (no : Int) := by omega
                have i4 : i ≤ co := by omega
                have i5 : i + 1 ≤ no := by omega
                have ep : IntKind.i64.wrap ((i : Int) + 1) = (i : Int) + 1 := by rw [IntKind.wrap_i64]; omega
                have en : ((i : Int) + 1).toNat = i + 1 := by omega
                have HLC := Lib.hid HR.out.le
                refine wp_region_L (fun v => v.cell? ⟨rn, 0, none⟩ = some (.slice E0 nE0 cE0)) 10 (by kernel_rfl) ?_
                replace X := X.drew
                generalize w13.drew = w14 at *
                have HF : w14.cell? ⟨rn, 0, none⟩ = some (.slice E0 nE0 cE0) := (X.sep.at_ 5 rfl).cell 0
                refine wpAnyL_take (i := 1) (v := ?_) rfl rfl (by kernel_rfl) (by kernel_rfl) (by kernel_rfl) (by kernel_rfl) (by kernel_rfl) (fun _ _ _ h => h) HF (Or.inl ⟨by rfl, ?_⟩) ?_
                rotate_left 1
                · (rintro v a0; go_simp; try with_reducible rfl)
                try simp only [Act.put]
                refine wpAnyL_take (i := 2) (v := ?_) rfl rfl (by kernel_rfl) (by kernel_rfl) (by kernel_rfl) (by kernel_rfl) (by kernel_rfl) (fun _ _ _ h => h) HF (Or.inl ⟨by rfl, ?_⟩) ?_
                rotate_left 1
                · (rintro v a0; go_simp; try with_reducible rfl)
                try simp only [Act.put]
                refine wpAnyL_pure (i := 3) (v := ?_) rfl rfl (by kernel_rfl) (by kernel_rfl) (by kernel_rfl) (fun _ _ _ h => h) HF (Or.inl ⟨by rfl, ?_⟩) ?_
                rotate_left 1
                · (intro v _; go_simp; try with_reducible rfl)
                try simp only [Act.put]
                refine wpAnyL_take (i := 5) (v := ?_) rfl rfl (by kernel_rfl) (by kernel_rfl) (by kernel_rfl) (by kernel_rfl) (by kernel_rfl) (fun _ _ _ h => h) HF (Or.inl ⟨by rfl, ?_⟩) ?_
                rotate_left 1
                · (rintro v a0; go_simp; try with_reducible rfl)
                try simp only [Act.put]
                refine wpAnyL_take (i := 6) (v := ?_) rfl rfl (by kernel_rfl) (by kernel_rfl) (by kernel_rfl) (by kernel_rfl) (by kernel_rfl) (fun _ _ _ h => h) HF (Or.inl ⟨by rfl, ?_⟩) ?_
                rotate_left 1
                · (rintro v a0; go_simp; try with_reducible rfl)
                try simp only [Act.put]
                refine wpAnyL_pure (i := 7) (v := ?_) rfl rfl (by kernel_rfl) (by kernel_rfl) (by kernel_rfl) (fun _ _ _ h => h) HF (Or.inl ⟨by rfl, ?_⟩) ?_
                rotate_left 1
                · (intro v _; go_simp; try with_reducible rfl)
                try simp only [Act.put]
                refine wpAnyL_pure (i := 8) (v := ?_) rfl rfl (by kernel_rfl) (by kernel_rfl) (by kernel_rfl) (fun _ _ _ h => h) HF (Or.inl ⟨by rfl, ?_⟩) ?_
                rotate_left 1
                · (intro v _; go_simp; try with_reducible rfl)
                try simp only [Act.put]
                refine wpAnyL_step (i := 0) (by kernel_rfl) rfl rfl ?_
                intro K hK
                go_simp
                replace X := X.boxAt (w14.heap.size) rfl #[] 37
                clear HF
                have HF : (w14.alloc (.cells #[] 37)).cell? ⟨rn, 0, none⟩ = some (.slice E0 nE0 cE0) := (X.sep.at_ 6 rfl).cell 0
                refine hK _ _ (fun _ => HF) ?_
                clear hK K
                try simp only [Act.put]
                generalize hw : w14.alloc (.cells #[] 37) = w15 at *
                clear hw
                replace X := X.with_ (X.sep.pick 0 rfl)
                refine wpAnyL_step (i := 4) (by kernel_rfl) rfl rfl ?_
                intro K hK
                refine wp_raw (n := 0) (c := 0) (cur := #[]) (us := []) (news := (L.take i).flatMap pV) (m := i) _ _ (by rfl) (by rfl) Raw.zero (X.sep.at_ 0 rfl) (by rfl) (by rw [pV_len, List.length_take]; have := HLN.out; omega) (src_front HR.out (X.sep.at_ 7 rfl) (by omega)) (fun u hu => HO.out u (by rw [flat_take L i (by have := HLN.out; omega)] at hu; exact List.mem_of_mem_take hu)) (by omega) ?_
                intro g3 c3 cur3 w16 hb3 hr3 hg3 ht3
                replace X := X.reblk hb3 hg3 ht3
                rw [Nat.zero_add] at hr3 ⊢
                rw [List.nil_append] at hr3
                clear hb3 hg3 ht3
                clear HF
                have HF : w16.cell? ⟨rn, 0, none⟩ = some (.slice E0 nE0 cE0) := (X.sep.at_ 6 rfl).cell 0
                refine hK _ _ (fun _ => HF) ?_
                clear hK K
                try simp only [Act.put]
                refine wpAnyL_step (i := 9) (by kernel_rfl) rfl rfl ?_
                intro K hK
                refine wp_raw (n := i) (c := c3) (cur := cur3) (us := (L.take i).flatMap pV) (news := (L.drop (i + 1)).flatMap pV) (m := no - (i + 1)) _ _ (by rfl) (by rfl) hr3 (X.sep.at_ 0 rfl) (by rfl) (by rw [pV_len, List.length_drop, HLN.out]) (src_back' HR.out (X.sep.at_ 7 rfl) i5) (fun u hu => HO.out u (by rw [flat_drop L (i + 1) (by have := HLN.out; omega)] at hu; exact List.mem_of_mem_drop hu)) (by omega) ?_
                intro g4 c4 cur4 w17 hb4 hr4 hg4 ht4
                replace X := X.reblk hb4 hg4 ht4
                rw [flat_erase] at hr4
                clear hb4 hg4 ht4 hr3
                clear HF
                have HF : w17.cell? ⟨rn, 0, none⟩ = some (.slice E0 nE0 cE0) := (X.sep.at_ 6 rfl).cell 0
                refine hK _ _ (fun _ => HF) ?_
                clear hK K
                try simp only [Act.put]
                refine wpAnyL_step (i := 10) (by kernel_rfl) rfl rfl ?_
                intro K hK
                go_simp
                refine hK _ _ (fun h => nomatch (show true = false from h)) ?_
                clear hK K
                try simp only [Act.put]
                refine wpAnyL_done (by kernel_rfl) ?_ _
                clear HF
                as_aux_lemma =>
                  replace X := X.with_ (X.sep.pick 8 rfl)
                  replace X := X.with_ (X.sep.pick 1 rfl)
                  replace X := X.with_ (X.sep.pick 7 rfl)
                  replace X := X.with_ (X.sep.pick 6 rfl)
                  replace X := X.with_ (X.sep.sub (.cons_cons _ (.cons_cons _ (.cons_cons _ (.cons_cons _ (List.nil_sublist _))))))
                  rw [← ltr_erase] at X
                  have X1 := Lib.hid X
                  have HRW := Lib.hid (show Raw cur4 (i + (no - (i + 1))) c4 ((L.eraseIdx i).flatMap pV) from hr4)
                  have HSB := Lib.hid (show ∀ q ∈ (L.eraseIdx i), q ∈ Q from fun q hq => HS.out q ((List.eraseIdx_sublist ..).subset hq))
                  have HOK2 := Lib.hid (show netOk ⟨ltr (L.eraseIdx i), [linkOf a x0]⟩ = true from by rw [ltr_erase]; exact netOk_erase HOK.out i)
                  clear X
                  go_wp2
                  go_roundw
                  case rel =>
                    first
                      | exact ⟨k + 1, (L.eraseIdx i), Q, _, _, _, _, _, _, _, _, i + (no - (i + 1)), _, _, _, rfl, by go_num, by have := HK.out; omega, by omega, HRW.out, HSB.out, HOK2.out, X1.out⟩
                      | (repeat apply Exists.intro
                         refine ⟨⟨k + 1, (L.eraseIdx i), Q, _, _, _, _, _, _, _, _, i + (no - (i + 1)), _, _, _, ?_, ?_, by have := HK.out; omega, by omega, HRW.out, HSB.out, HOK2.out, X1.out⟩, ?_⟩
                         rotate_left 2
                         · first | rfl | (trace_state; done)
                         · rfl
                         · go_num)
                  case measure => have := HK.out; simp [intOf]; omega
            · have HN1 := Lib.hid (And.intro p0 p1)
              have e1 : (x0 == b) = false := by simp; omega
              have e3 : decide (x0 = b) = false := decide_eq_false (by omega)
              clear hab p0 p1
              have f6 : w9.cell? ⟨rn, 0, none⟩ = some (.slice A0 nA0 cA0) := (X.sep.at_ 1 rfl).cell 0
              have f7 : w9.cell? ⟨rn, 1, none⟩ = some (.slice A1 nA1 cA1) := (X.sep.at_ 1 rfl).cell 1
              go_wp2_with fail
              refine (law_handed' (x0 := x0) (x1 := x1) (xs := xr) (X.sep.own_ 0 rfl).rd HSZ.out (handed_open HOK.out HIL.out HM.out HAB.out.2.2.2.2 (by have h1 := HN1.out; have h2 := HAB.out; omega))).mono ?_
              rintro e w10 ⟨E0, nE0, cE0, E1, nE1, cE1, A2, n2, c2, rfl, o, b1⟩
              obtain ⟨fp_txm, X'⟩ := X.has b1 o
              clear X; have X := X'; clear X' b1 o f6 f7
              obtain ⟨fx, fy, S'⟩ := X.sep.cut (ds := (⟨(ltr L).eraseIdx i, [linkOf a b]⟩ : NetM).cells) (ds' := msgC ⟨x0, x1, xr⟩) (vs := [.slice E0 nE0 cE0, .slice E1 nE1 cE1]) (vs' := [.int .i64 x0, .int .i64 x1, .slice A2 n2 c2]) rfl
              replace X := X.with_ S'
              clear S'
              have hir := (msg_open (d := ⟨x0, x1, xr⟩) (X.sep.own_ 0 rfl).rd).2
              have hn2 : xr.length = n2 := hir.1
              have HN2 := Lib.hid hn2
              clear hn2 hir
              replace X := X.boxAt (w10.heap.size) rfl #[.slice E0 nE0 cE0, .slice E1 nE1 cE1] 30
              replace X := X.boxAt (w10.heap.size + 1) (by simp) #[.int .i64 x0, .int .i64 x1, .slice A2 n2 c2] 37
              go_upto_region 23 with fail
              generalize (w10.alloc (.cells #[.slice E0 nE0 cE0, .slice E1 nE1 cE1] 30)).alloc (.cells #[.int .i64 x0, .int .i64 x1, .slice A2 n2 c2] 37) = w11 at *
              obtain ⟨rx, hrx⟩ : ∃ rx, rx = w10.heap.size := ⟨_, rfl⟩
              rw [← hrx] at X ⊢
              clear hrx
              obtain ⟨k0, k1, k2⟩ := raw_at HR.out (X.sep.at_ 6 rfl) HIL.out
              rw [HM.out] at k0 k1
              replace k0 : w11.cell? ⟨gb, i * 3, none⟩ = some (.int .i64 x0) := k0
              replace k1 : w11.cell? ⟨gb, i * 3 + 1, none⟩ = some (.int .i64 x1) := k1
              have i0 : (0 : Int) ≤ (i : Int) := by omega
              have i1 : (i : Int) < (no : Int) := by omega
              obtain ⟨Ae, me, ce, he2, hre⟩ := rd_row (rd_pick Q (X.sep.own_ 7 rfl).rd _ (HS.out _ (List.getElem_mem HIL.out)))
              rw [he2] at k2
              rw [HM.out] at hre
              replace hre : IRow _ _ Ae me xr := hre
              obtain rfl : n2 = me := by have := hre.1; have := HN2.out; omega
              have hrm := (msg_open (d := ⟨x0, x1, xr⟩) (X.sep.own_ 2 rfl).rd).2
              replace hrm : IRow _ _ A2 n2 xr := hrm
              have hme : n2 ≤ 1048577 := by have := HMR.out; have := HN2.out; omega
              have f8 : w11.cell? ⟨rx + 1, 0, none⟩ = some (.int .i64 x0) := (X.sep.at_ 0 rfl).cell 0
              have f9 : w11.cell? ⟨rx + 1, 1, none⟩ = some (.int .i64 x1) := (X.sep.at_ 0 rfl).cell 1
              have f10 : w11.cell? ⟨rx + 1, 2, none⟩ = some (.slice A2 n2 c2) := (X.sep.at_ 0 rfl).cell 2
              go_wp2_with fail
              have SH := Lib.hid X
              clear X
              refine wp_region_cls (fun v => v.cell? ⟨rx + 1, 0, none⟩ = some (.int .i64 x0) ∧ v.cell? ⟨rx + 1, 1, none⟩ = some (.int .i64 x1) ∧ v.cell? ⟨rx + 1, 2, none⟩ = some (.slice A2 n2 c2) ∧ v.cell? ⟨gb, i * 3, none⟩ = some (.int .i64 x0) ∧ v.cell? ⟨gb, i * 3 + 1, none⟩ = some (.int .i64 x1) ∧ v.cell? ⟨gb, i * 3 + 2, none⟩ = some (.slice Ae n2 ce) ∧ IRow v w11.heap.size A2 n2 xr ∧ IRow v w11.heap.size Ae n2 xr ∧ w11.heap.size ≤ v.heap.size) (by kernel_rfl) (by kernel_rfl) (fun v hv => ⟨(hv.cell (p := ⟨rx + 1, 0, none⟩) (lt_of_cell f8)).trans f8, (hv.cell (p := ⟨rx + 1, 1, none⟩) (lt_of_cell f9)).trans f9, (hv.cell (p := ⟨rx + 1, 2, none⟩) (lt_of_cell f10)).trans f10, (hv.cell (p := ⟨gb, i * 3, none⟩) (lt_of_cell k0)).trans k0, (hv.cell (p := ⟨gb, i * 3 + 1, none⟩) (lt_of_cell k1)).trans k1, (hv.cell (p := ⟨gb, i * 3 + 2, none⟩) (lt_of_cell k2)).trans k2, hrm.below hv, hre.below hv, hv.size⟩) ?_
              intro CL HF HC
              repeat
                (first
                   | go_big_quiet_skip
                   | (go_big_quiet_want
                      go_big_quiet_op
                      first
                        | go_big_quiet_on
                        | (apply Exists.intro
                           refine ⟨fun v hv => ?_, ?_⟩
                           · obtain ⟨a0, a1, a2, a3, a4, a5, a6, a7, a8⟩ := HF v hv
                             first
                               | (go_at_call 23; exact Calls.cls HC hv (wLetter_yes x0 x1 A2 Ae n2 c2 ce w11.heap.size w11.heap.size xr v a6 a7 a8 a8 hme) rfl)
                               | exact rfl
                               | (go_simp; exact rfl)
                               | (go_simp; exact ⟨rfl, hv⟩)
                           go_big_quiet_on)))
              refine wpQuiet_nil ?_
              intro w12 b9
              have X := SH.out.keep b9
              clear SH b9 k0 k1 k2 hre hrm f8 f9 f10
              go_upto_region 26 with fail
              have f11 : w12.cell? ⟨rx, 0, none⟩ = some (.slice E0 nE0 cE0) := (X.sep.at_ 1 rfl).cell 0
              have f12 : w12.cell? ⟨rx, 1, none⟩ = some (.slice E1 nE1 cE1) := (X.sep.at_ 1 rfl).cell 1
              have f13 : w12.cell? ⟨rn, 0, none⟩ = some (.slice A0 nA0 cA0) := (X.sep.at_ 5 rfl).cell 0
              have f14 := (X.sep.at_ 5 rfl).free 0
              have f15 : w12.cell? ⟨rn, 1, none⟩ = some (.slice A1 nA1 cA1) := (X.sep.at_ 5 rfl).cell 1
              have f16 := (X.sep.at_ 5 rfl).free 1
              replace X := X.put 5 rfl 0 (.slice E0 nE0 cE0)
              replace X := X.put 5 rfl 1 (.slice E1 nE1 cE1)
              replace X : DrL w1 _ _ _ [.blk (rx + 1) #[.int .i64 x0, .int .i64 x1, .slice A2 n2 c2] 37, .blk (rx) #[.slice E0 nE0 cE0, .slice E1 nE1 cE1] 30, _, _, _, .blk (rn) #[.slice E0 nE0 cE0, .slice E1 nE1 cE1] 30, .blk gb cur 37, _] := X
              go_wp2_with fail
              generalize (w12.setCell ⟨rn, 0, none⟩ (.slice E0 nE0 cE0)).setCell ⟨rn, 1, none⟩ (.slice E1 nE1 cE1) = w13 at *
              clear f11 f12 f13 f14 f15 f16
              have i0 : (0 : Int) ≤ (i : Int) := by omega
              have i1 : (i : Int) ≤ (co : Int) := by have := HR.out.le; omega
              have i2 : (0 : Int) ≤ (i : Int) + 1 := by omega
              have i3 : (i : Int) + 1 ≤ (no : Int) := by omega
              have i4 : i ≤ co := by omega
              have i5 : i + 1 ≤ no := by omega
              have ep : IntKind.i64.wrap ((i : Int) + 1) = (i : Int) + 1 := by rw [IntKind.wrap_i64]; omega
              have en : ((i : Int) + 1).toNat = i + 1 := by omega
              have HLC := Lib.hid HR.out.le
              refine wp_region_L (fun v => v.cell? ⟨rn, 0, none⟩ = some (.slice E0 nE0 cE0)) 10 (by kernel_rfl) ?_
              replace X := X.drew
              generalize w13.drew = w14 at *
              have HF : w14.cell? ⟨rn, 0, none⟩ = some (.slice E0 nE0 cE0) := (X.sep.at_ 5 rfl).cell 0
              refine wpAnyL_take (i := 1) (v := ?_) rfl rfl (by kernel_rfl) (by kernel_rfl) (by kernel_rfl) (by kernel_rfl) (by kernel_rfl) (fun _ _ _ h => h) HF (Or.inl ⟨by rfl, ?_⟩) ?_
              rotate_left 1
              · (rintro v a0; go_simp; try with_reducible rfl)
              try simp only [Act.put]
              refine wpAnyL_take (i := 2) (v := ?_) rfl rfl (by kernel_rfl) (by kernel_rfl) (by kernel_rfl) (by kernel_rfl) (by kernel_rfl) (fun _ _ _ h => h) HF (Or.inl ⟨by rfl, ?_⟩) ?_
              rotate_left 1
              · (rintro v a0; go_simp; try with_reducible rfl)
              try simp only [Act.put]
              refine wpAnyL_pure (i := 3) (v := ?_) rfl rfl (by kernel_rfl) (by kernel_rfl) (by kernel_rfl) (fun _ _ _ h => h) HF (Or.inl ⟨by rfl, ?_⟩) ?_
              rotate_left 1
              · (intro v _; go_simp; try with_reducible rfl)
              try simp only [Act.put]
              refine wpAnyL_take (i := 5) (v := ?_) rfl rfl (by kernel_rfl) (by kernel_rfl) (by kernel_rfl) (by kernel_rfl) (by kernel_rfl) (fun _ _ _ h => h) HF (Or.inl ⟨by rfl, ?_⟩) ?_
              rotate_left 1
              · (rintro v a0; go_simp; try with_reducible rfl)
              try simp only [Act.put]
              refine wpAnyL_take (i := 6) (v := ?_) rfl rfl (by kernel_rfl) (by kernel_rfl) (by kernel_rfl) (by kernel_rfl) (by kernel_rfl) (fun _ _ _ h => h) HF (Or.inl ⟨by rfl, ?_⟩) ?_
              rotate_left 1
              · (rintro v a0; go_simp; try with_reducible rfl)
              try simp only [Act.put]
              refine wpAnyL_pure (i := 7) (v := ?_) rfl rfl (by kernel_rfl) (by kernel_rfl) (by kernel_rfl) (fun _ _ _ h => h) HF (Or.inl ⟨by rfl, ?_⟩) ?_
              rotate_left 1
              · (intro v _; go_simp; try with_reducible rfl)
              try simp only [Act.put]
              refine wpAnyL_pure (i := 8) (v := ?_) rfl rfl (by kernel_rfl) (by kernel_rfl) (by kernel_rfl) (fun _ _ _ h => h) HF (Or.inl ⟨by rfl, ?_⟩) ?_
              rotate_left 1
              · (intro v _; go_simp; try with_reducible rfl)
              try simp only [Act.put]
              refine wpAnyL_step (i := 0) (by kernel_rfl) rfl rfl ?_
              intro K hK
              go_simp
              replace X := X.boxAt (w14.heap.size) rfl #[] 37
              clear HF
              have HF : (w14.alloc (.cells #[] 37)).cell? ⟨rn, 0, none⟩ = some (.slice E0 nE0 cE0) := (X.sep.at_ 6 rfl).cell 0
              refine hK _ _ (fun _ => HF) ?_
              clear hK K
              try simp only [Act.put]
              generalize hw : w14.alloc (.cells #[] 37) = w15 at *
              clear hw
              replace X := X.with_ (X.sep.pick 0 rfl)
              refine wpAnyL_step (i := 4) (by kernel_rfl) rfl rfl ?_
              intro K hK
              refine wp_raw (n := 0) (c := 0) (cur := #[]) (us := []) (news := (L.take i).flatMap pV) (m := i) _ _ (by rfl) (by rfl) Raw.zero (X.sep.at_ 0 rfl) (by rfl) (by rw [pV_len, List.length_take]; have := HLN.out; omega) (src_front HR.out (X.sep.at_ 7 rfl) (by omega)) (fun u hu => HO.out u (by rw [flat_take L i (by have := HLN.out; omega)] at hu; exact List.mem_of_mem_take hu)) (by omega) ?_
              intro g3 c3 cur3 w16 hb3 hr3 hg3 ht3
              replace X := X.reblk hb3 hg3 ht3
              rw [Nat.zero_add] at hr3 ⊢
              rw [List.nil_append] at hr3
              clear hb3 hg3 ht3
              clear HF
              have HF : w16.cell? ⟨rn, 0, none⟩ = some (.slice E0 nE0 cE0) := (X.sep.at_ 6 rfl).cell 0
              refine hK _ _ (fun _ => HF) ?_
              clear hK K
              try simp only [Act.put]
              refine wpAnyL_step (i := 9) (by kernel_rfl) rfl rfl ?_
              intro K hK
              refine wp_raw (n := i) (c := c3) (cur := cur3) (us := (L.take i).flatMap pV) (news := (L.drop (i + 1)).flatMap pV) (m := no - (i + 1)) _ _ (by rfl) (by rfl) hr3 (X.sep.at_ 0 rfl) (by rfl) (by rw [pV_len, List.length_drop, HLN.out]) (src_back' HR.out (X.sep.at_ 7 rfl) i5) (fun u hu => HO.out u (by rw [flat_drop L (i + 1) (by have := HLN.out; omega)] at hu; exact List.mem_of_mem_drop hu)) (by omega) ?_
              intro g4 c4 cur4 w17 hb4 hr4 hg4 ht4
              replace X := X.reblk hb4 hg4 ht4
              rw [flat_erase] at hr4
              clear hb4 hg4 ht4 hr3
              clear HF
              have HF : w17.cell? ⟨rn, 0, none⟩ = some (.slice E0 nE0 cE0) := (X.sep.at_ 6 rfl).cell 0
              refine hK _ _ (fun _ => HF) ?_
              clear hK K
              try simp only [Act.put]
              refine wpAnyL_step (i := 10) (by kernel_rfl) rfl rfl ?_
              intro K hK
              go_simp
              refine hK _ _ (fun h => nomatch (show true = false from h)) ?_
              clear hK K
              try simp only [Act.put]
              refine wpAnyL_done (by kernel_rfl) ?_ _
              clear HF
              as_aux_lemma =>
                replace X := X.with_ (X.sep.pick 8 rfl)
                replace X := X.with_ (X.sep.pick 1 rfl)
                replace X := X.with_ (X.sep.pick 7 rfl)
                replace X := X.with_ (X.sep.pick 6 rfl)
                replace X := X.with_ (X.sep.sub (.cons_cons _ (.cons_cons _ (.cons_cons _ (.cons_cons _ (List.nil_sublist _))))))
                rw [← ltr_erase] at X
                have X1 := Lib.hid X
                have HRW := Lib.hid (show Raw cur4 (i + (no - (i + 1))) c4 ((L.eraseIdx i).flatMap pV) from hr4)
                have HSB := Lib.hid (show ∀ q ∈ (L.eraseIdx i), q ∈ Q from fun q hq => HS.out q ((List.eraseIdx_sublist ..).subset hq))
                have HOK2 := Lib.hid (show netOk ⟨ltr (L.eraseIdx i), [linkOf a b]⟩ = true from by rw [ltr_erase]; exact netOk_erase HOK.out i)
                clear X
                go_wp2
                go_roundw
                case rel =>
                  first
                    | exact ⟨k + 1, (L.eraseIdx i), Q, _, _, _, _, _, _, _, _, i + (no - (i + 1)), _, _, _, rfl, by go_num, by have := HK.out; omega, by omega, HRW.out, HSB.out, HOK2.out, X1.out⟩
                    | (repeat apply Exists.intro
                       refine ⟨⟨k + 1, (L.eraseIdx i), Q, _, _, _, _, _, _, _, _, i + (no - (i + 1)), _, _, _, ?_, ?_, by have := HK.out; omega, by omega, HRW.out, HSB.out, HOK2.out, X1.out⟩, ?_⟩
                       rotate_left 2
                       · first | rfl | (trace_state; done)
                       · rfl
                       · go_num)
                case measure => have := HK.out; simp [intOf]; omega
        · have f6 : w9.cell? ⟨rn, 0, none⟩ = some (.slice A0 nA0 cA0) := (X.sep.at_ 1 rfl).cell 0
          have f7 : w9.cell? ⟨rn, 1, none⟩ = some (.slice A1 nA1 cA1) := (X.sep.at_ 1 rfl).cell 1
          go_wp2_with fail
          refine (law_lost (X.sep.own_ 0 rfl).rd HSZ.out (lost_in HOK.out (show i < (ltr L).length by rw [ltr_len]; have := HLN.out; omega))).mono ?_
          rintro e w10 ⟨E0, nE0, cE0, E1, nE1, cE1, rfl, o, b1⟩
          obtain ⟨fp_tx, X'⟩ := X.has b1 o
          clear X; have X := X'; clear X' b1 o f6 f7
          replace X := X.boxAt (w10.heap.size) rfl #[.slice E0 nE0 cE0, .slice E1 nE1 cE1] 30
          have f8 : (w10.alloc (.cells #[.slice E0 nE0 cE0, .slice E1 nE1 cE1] 30)).cell? ⟨w10.heap.size, 0, none⟩ = some (.slice E0 nE0 cE0) := (X.sep.at_ 0 rfl).cell 0
          have f9 : (w10.alloc (.cells #[.slice E0 nE0 cE0, .slice E1 nE1 cE1] 30)).cell? ⟨w10.heap.size, 1, none⟩ = some (.slice E1 nE1 cE1) := (X.sep.at_ 0 rfl).cell 1
          have f10 : (w10.alloc (.cells #[.slice E0 nE0 cE0, .slice E1 nE1 cE1] 30)).cell? ⟨rn, 0, none⟩ = some (.slice A0 nA0 cA0) := (X.sep.at_ 3 rfl).cell 0
          have f11 := (X.sep.at_ 3 rfl).free 0
          have f12 : (w10.alloc (.cells #[.slice E0 nE0 cE0, .slice E1 nE1 cE1] 30)).cell? ⟨rn, 1, none⟩ = some (.slice A1 nA1 cA1) := (X.sep.at_ 3 rfl).cell 1
          have f13 := (X.sep.at_ 3 rfl).free 1
          go_upto_region 33 with fail
          generalize w10.alloc (.cells #[.slice E0 nE0 cE0, .slice E1 nE1 cE1] 30) = w11 at *
          generalize w10.heap.size = rx at *
          have f14 : w11.cell? ⟨rx, 0, none⟩ = some (.slice E0 nE0 cE0) := (X.sep.at_ 0 rfl).cell 0
          have f15 : w11.cell? ⟨rx, 1, none⟩ = some (.slice E1 nE1 cE1) := (X.sep.at_ 0 rfl).cell 1
          have f16 : w11.cell? ⟨rn, 0, none⟩ = some (.slice A0 nA0 cA0) := (X.sep.at_ 3 rfl).cell 0
          have f17 := (X.sep.at_ 3 rfl).free 0
          have f18 : w11.cell? ⟨rn, 1, none⟩ = some (.slice A1 nA1 cA1) := (X.sep.at_ 3 rfl).cell 1
          have f19 := (X.sep.at_ 3 rfl).free 1
          replace X := X.put 3 rfl 0 (.slice E0 nE0 cE0)
          replace X := X.put 3 rfl 1 (.slice E1 nE1 cE1)
          replace X : DrL w1 _ _ _ [.blk (rx) #[.slice E0 nE0 cE0, .slice E1 nE1 cE1] 30, _, _, .blk (rn) #[.slice E0 nE0 cE0, .slice E1 nE1 cE1] 30, .blk gb cur 37, _] := X
          go_wp2_with fail
          generalize (w11.setCell ⟨rn, 0, none⟩ (.slice E0 nE0 cE0)).setCell ⟨rn, 1, none⟩ (.slice E1 nE1 cE1) = w12 at *
          clear f14 f15 f16 f17 f18 f19
          have i0 : (0 : Int) ≤ (i : Int) := by omega
          have i1 : (i : Int) ≤ (co : Int) := by have := HR.out.le; omega
          have i2 : (0 : Int) ≤ (i : Int) + 1 := by omega
          have i3 : (i : Int) + 1 ≤ (no : Int) := by omega
          have i4 : i ≤ co := by omega
          have i5 : i + 1 ≤ no := by omega
          have ep : IntKind.i64.wrap ((i : Int) + 1) = (i : Int) + 1 := by rw [IntKind.wrap_i64]; omega
          have en : ((i : Int) + 1).toNat = i + 1 := by omega
          have HLC := Lib.hid HR.out.le
          refine wp_region_L (fun v => v.cell? ⟨rn, 0, none⟩ = some (.slice E0 nE0 cE0)) 10 (by kernel_rfl) ?_
          replace X := X.drew
          generalize w12.drew = w13 at *
          have HF : w13.cell? ⟨rn, 0, none⟩ = some (.slice E0 nE0 cE0) := (X.sep.at_ 3 rfl).cell 0
          refine wpAnyL_take (i := 1) (v := ?_) rfl rfl (by kernel_rfl) (by kernel_rfl) (by kernel_rfl) (by kernel_rfl) (by kernel_rfl) (fun _ _ _ h => h) HF (Or.inl ⟨by rfl, ?_⟩) ?_
          rotate_left 1
          · (rintro v a0; go_simp; try with_reducible rfl)
          try simp only [Act.put]
          refine wpAnyL_take (i := 2) (v := ?_) rfl rfl (by kernel_rfl) (by kernel_rfl) (by kernel_rfl) (by kernel_rfl) (by kernel_rfl) (fun _ _ _ h => h) HF (Or.inl ⟨by rfl, ?_⟩) ?_
          rotate_left 1
          · (rintro v a0; go_simp; try with_reducible rfl)
          try simp only [Act.put]
          refine wpAnyL_pure (i := 3) (v := ?_) rfl rfl (by kernel_rfl) (by kernel_rfl) (by kernel_rfl) (fun _ _ _ h => h) HF (Or.inl ⟨by rfl, ?_⟩) ?_
          rotate_left 1
          · (intro v _; go_simp; try with_reducible rfl)
          try simp only [Act.put]
          refine wpAnyL_take (i := 5) (v := ?_) rfl rfl (by kernel_rfl) (by kernel_rfl) (by kernel_rfl) (by kernel_rfl) (by kernel_rfl) (fun _ _ _ h => h) HF (Or.inl ⟨by rfl, ?_⟩) ?_
          rotate_left 1
          · (rintro v a0; go_simp; try with_reducible rfl)
          try simp only [Act.put]
          refine wpAnyL_take (i := 6) (v := ?_) rfl rfl (by kernel_rfl) (by kernel_rfl) (by kernel_rfl) (by kernel_rfl) (by kernel_rfl) (fun _ _ _ h => h) HF (Or.inl ⟨by rfl, ?_⟩) ?_
          rotate_left 1
          · (rintro v a0; go_simp; try with_reducible rfl)
          try simp only [Act.put]
          refine wpAnyL_pure (i := 7) (v := ?_) rfl rfl (by kernel_rfl) (by kernel_rfl) (by kernel_rfl) (fun _ _ _ h => h) HF (Or.inl ⟨by rfl, ?_⟩) ?_
          rotate_left 1
          · (intro v _; go_simp; try with_reducible rfl)
          try simp only [Act.put]
          refine wpAnyL_pure (i := 8) (v := ?_) rfl rfl (by kernel_rfl) (by kernel_rfl) (by kernel_rfl) (fun _ _ _ h => h) HF (Or.inl ⟨by rfl, ?_⟩) ?_
          rotate_left 1
          · (intro v _; go_simp; try with_reducible rfl)
          try simp only [Act.put]
          refine wpAnyL_step (i := 0) (by kernel_rfl) rfl rfl ?_
          intro K hK
          go_simp
          replace X := X.boxAt (w13.heap.size) rfl #[] 37
          clear HF
          have HF : (w13.alloc (.cells #[] 37)).cell? ⟨rn, 0, none⟩ = some (.slice E0 nE0 cE0) := (X.sep.at_ 4 rfl).cell 0
          refine hK _ _ (fun _ => HF) ?_
          clear hK K
          try simp only [Act.put]
          generalize hw : w13.alloc (.cells #[] 37) = w14 at *
          clear hw
          replace X := X.with_ (X.sep.pick 0 rfl)
          refine wpAnyL_step (i := 4) (by kernel_rfl) rfl rfl ?_
          intro K hK
          refine wp_raw (n := 0) (c := 0) (cur := #[]) (us := []) (news := (L.take i).flatMap pV) (m := i) _ _ (by rfl) (by rfl) Raw.zero (X.sep.at_ 0 rfl) (by rfl) (by rw [pV_len, List.length_take]; have := HLN.out; omega) (src_front HR.out (X.sep.at_ 5 rfl) (by omega)) (fun u hu => HO.out u (by rw [flat_take L i (by have := HLN.out; omega)] at hu; exact List.mem_of_mem_take hu)) (by omega) ?_
          intro g3 c3 cur3 w15 hb3 hr3 hg3 ht3
          replace X := X.reblk hb3 hg3 ht3
          rw [Nat.zero_add] at hr3 ⊢
          rw [List.nil_append] at hr3
          clear hb3 hg3 ht3
          clear HF
          have HF : w15.cell? ⟨rn, 0, none⟩ = some (.slice E0 nE0 cE0) := (X.sep.at_ 4 rfl).cell 0
          refine hK _ _ (fun _ => HF) ?_
          clear hK K
          try simp only [Act.put]
          refine wpAnyL_step (i := 9) (by kernel_rfl) rfl rfl ?_
          intro K hK
          refine wp_raw (n := i) (c := c3) (cur := cur3) (us := (L.take i).flatMap pV) (news := (L.drop (i + 1)).flatMap pV) (m := no - (i + 1)) _ _ (by rfl) (by rfl) hr3 (X.sep.at_ 0 rfl) (by rfl) (by rw [pV_len, List.length_drop, HLN.out]) (src_back' HR.out (X.sep.at_ 5 rfl) i5) (fun u hu => HO.out u (by rw [flat_drop L (i + 1) (by have := HLN.out; omega)] at hu; exact List.mem_of_mem_drop hu)) (by omega) ?_
          intro g4 c4 cur4 w16 hb4 hr4 hg4 ht4
          replace X := X.reblk hb4 hg4 ht4
          rw [flat_erase] at hr4
          clear hb4 hg4 ht4 hr3
          clear HF
          have HF : w16.cell? ⟨rn, 0, none⟩ = some (.slice E0 nE0 cE0) := (X.sep.at_ 4 rfl).cell 0
          refine hK _ _ (fun _ => HF) ?_
          clear hK K
          try simp only [Act.put]
          refine wpAnyL_step (i := 10) (by kernel_rfl) rfl rfl ?_
          intro K hK
          go_simp
          refine hK _ _ (fun h => nomatch (show true = false from h)) ?_
          clear hK K
          try simp only [Act.put]
          refine wpAnyL_done (by kernel_rfl) ?_ _
          clear HF
          as_aux_lemma =>
            replace X := X.with_ (X.sep.pick 6 rfl)
            replace X := X.with_ (X.sep.pick 1 rfl)
            replace X := X.with_ (X.sep.pick 5 rfl)
            replace X := X.with_ (X.sep.pick 4 rfl)
            replace X := X.with_ (X.sep.sub (.cons_cons _ (.cons_cons _ (.cons_cons _ (.cons_cons _ (List.nil_sublist _))))))
            rw [← ltr_erase] at X
            have X1 := Lib.hid X
            have HRW := Lib.hid (show Raw cur4 (i + (no - (i + 1))) c4 ((L.eraseIdx i).flatMap pV) from hr4)
            have HSB := Lib.hid (show ∀ q ∈ (L.eraseIdx i), q ∈ Q from fun q hq => HS.out q ((List.eraseIdx_sublist ..).subset hq))
            have HOK2 := Lib.hid (show netOk ⟨ltr (L.eraseIdx i), [linkOf a b]⟩ = true from by rw [ltr_erase]; exact netOk_erase HOK.out i)
            clear X
            go_wp2
            go_roundw
            case rel =>
              first
                | exact ⟨k + 1, (L.eraseIdx i), Q, _, _, _, _, _, _, _, _, i + (no - (i + 1)), _, _, _, rfl, by go_num, by have := HK.out; omega, by omega, HRW.out, HSB.out, HOK2.out, X1.out⟩
                | (repeat apply Exists.intro
                   refine ⟨⟨k + 1, (L.eraseIdx i), Q, _, _, _, _, _, _, _, _, i + (no - (i + 1)), _, _, _, ?_, ?_, by have := HK.out; omega, by omega, HRW.out, HSB.out, HOK2.out, X1.out⟩, ?_⟩
                   rotate_left 2
                   · first | rfl | (trace_state; done)
                   · rfl
                   · go_num)
            case measure => have := HK.out; simp [intOf]; omega
        · as_aux_lemma =>
            have f6 : w9.cell? ⟨rn, 0, none⟩ = some (.slice A0 nA0 cA0) := (X.sep.at_ 1 rfl).cell 0
            have f7 : w9.cell? ⟨rn, 1, none⟩ = some (.slice A1 nA1 cA1) := (X.sep.at_ 1 rfl).cell 1
            go_wp2_with fail
            refine (law_doubled (X.sep.own_ 0 rfl).rd HSZ.out (doubled_in HOK.out (by rw [ltr_len]; have := HLN.out; omega) (show i < (ltr L).length by rw [ltr_len]; have := HLN.out; omega))).mono ?_
            rintro e w10 ⟨E0, nE0, cE0, E1, nE1, cE1, rfl, o, b1⟩
            obtain ⟨fp_tx, X'⟩ := X.has b1 o
            clear X; have X := X'; clear X' b1 o f6 f7
            replace X := X.boxAt (w10.heap.size) rfl #[.slice E0 nE0 cE0, .slice E1 nE1 cE1] 30
            have f8 : (w10.alloc (.cells #[.slice E0 nE0 cE0, .slice E1 nE1 cE1] 30)).cell? ⟨w10.heap.size, 0, none⟩ = some (.slice E0 nE0 cE0) := (X.sep.at_ 0 rfl).cell 0
            have f9 : (w10.alloc (.cells #[.slice E0 nE0 cE0, .slice E1 nE1 cE1] 30)).cell? ⟨w10.heap.size, 1, none⟩ = some (.slice E1 nE1 cE1) := (X.sep.at_ 0 rfl).cell 1
            have f10 : (w10.alloc (.cells #[.slice E0 nE0 cE0, .slice E1 nE1 cE1] 30)).cell? ⟨rn, 0, none⟩ = some (.slice A0 nA0 cA0) := (X.sep.at_ 3 rfl).cell 0
            have f11 := (X.sep.at_ 3 rfl).free 0
            have f12 : (w10.alloc (.cells #[.slice E0 nE0 cE0, .slice E1 nE1 cE1] 30)).cell? ⟨rn, 1, none⟩ = some (.slice A1 nA1 cA1) := (X.sep.at_ 3 rfl).cell 1
            have f13 := (X.sep.at_ 3 rfl).free 1
            go_upto_region 40 with fail
            generalize w10.alloc (.cells #[.slice E0 nE0 cE0, .slice E1 nE1 cE1] 30) = w11 at *
            generalize w10.heap.size = rx at *
            have f14 : w11.cell? ⟨rx, 0, none⟩ = some (.slice E0 nE0 cE0) := (X.sep.at_ 0 rfl).cell 0
            have f15 : w11.cell? ⟨rx, 1, none⟩ = some (.slice E1 nE1 cE1) := (X.sep.at_ 0 rfl).cell 1
            have f16 : w11.cell? ⟨rn, 0, none⟩ = some (.slice A0 nA0 cA0) := (X.sep.at_ 3 rfl).cell 0
            have f17 := (X.sep.at_ 3 rfl).free 0
            have f18 : w11.cell? ⟨rn, 1, none⟩ = some (.slice A1 nA1 cA1) := (X.sep.at_ 3 rfl).cell 1
            have f19 := (X.sep.at_ 3 rfl).free 1
            replace X := X.put 3 rfl 0 (.slice E0 nE0 cE0)
            replace X := X.put 3 rfl 1 (.slice E1 nE1 cE1)
            replace X : DrL w1 _ _ _ [.blk (rx) #[.slice E0 nE0 cE0, .slice E1 nE1 cE1] 30, _, _, .blk (rn) #[.slice E0 nE0 cE0, .slice E1 nE1 cE1] 30, .blk gb cur 37, _] := X
            go_upto_region 42 with fail
            generalize (w11.setCell ⟨rn, 0, none⟩ (.slice E0 nE0 cE0)).setCell ⟨rn, 1, none⟩ (.slice E1 nE1 cE1) = w12 at *
            clear f14 f15 f16 f17 f18 f19
            have hiL : i < L.length := by have := HLN.out; omega
            obtain ⟨k0, k1, k2⟩ := raw_at HR.out (X.sep.at_ 4 rfl) hiL
            obtain ⟨e, he⟩ : ∃ e, e = L[i] := ⟨_, rfl⟩
            have hem : e ∈ L := he ▸ List.getElem_mem hiL
            rw [ltr_at hiL] at X
            rw [← he] at k0 k1 k2 X
            have HE := Lib.hid he
            have HEM := Lib.hid hem
            have HIL := Lib.hid hiL
            clear he hem
            obtain ⟨u2, hu2⟩ : ∃ u, u = e.2 := ⟨_, rfl⟩
            obtain ⟨u0, hu0⟩ : ∃ u, u = e.1.frm := ⟨_, rfl⟩
            obtain ⟨u1, hu1⟩ : ∃ u, u = e.1.dest := ⟨_, rfl⟩
            rw [← hu0] at k0
            rw [← hu1] at k1
            rw [← hu2] at k2
            have HU := Lib.hid (show pV e = [.int .i64 u0, .int .i64 u1, u2] by unfold pV; rw [hu0, hu1, hu2])
            clear hu0 hu1 hu2
            have i0 : (0 : Int) ≤ (i : Int) := by omega
            have i1 : (i : Int) < (no : Int) := by omega
            replace X := X.boxAt (w12.heap.size) rfl #[.int .i64 u0, .int .i64 u1, u2] 37
            go_wp2_with (first
              | (at_builtin
                 refine wpList_raw (g := gb) (n := no) (c := co) (cur := cur) (us := L.flatMap pV) (news := pV e) (m := 1) rfl (.tmp 196) (.tmp 201) (by rfl) (by rfl) HR.out (X.sep.at_ 5 rfl) (by rfl) rfl (by rw [HU.out]; exact src_one (X.sep.at_ 0 rfl)) (fun u hu => HO.out u (List.mem_flatMap.2 ⟨e, HEM.out, hu⟩)) (by omega) ?_
                 intro g4 c4 cur4 w13 hb4 hr4 hg4 ht4))
            replace X := X.with_ (X.sep.pick 5 rfl)
            replace X := X.reblk hb4 hg4 ht4
            rw [flat_snocV] at hr4
            clear hb4 hg4 ht4
            clear k0 k1 k2
            replace X := X.with_ (X.sep.pick 6 rfl)
            replace X := X.with_ (X.sep.pick 1 rfl)
            replace X := X.with_ (X.sep.pick 6 rfl)
            replace X := X.with_ (X.sep.pick 5 rfl)
            replace X := X.with_ (X.sep.sub (.cons_cons _ (.cons_cons _ (.cons_cons _ (.cons_cons _ (List.nil_sublist _))))))
            rw [← ltr_snoc] at X
            have X1 := Lib.hid X
            have HRW := Lib.hid (show Raw cur4 (no + 1) c4 ((L ++ [e]).flatMap pV) from hr4)
            have HSB := Lib.hid (show ∀ q ∈ (L ++ [e]), q ∈ Q from fun q hq => by
                rcases List.mem_append.1 hq with h9 | h9
                · exact HS.out q h9
                · rw [List.mem_singleton.1 h9]; exact HS.out e HEM.out)
            have HOK2 := Lib.hid (show netOk ⟨ltr (L ++ [e]), [linkOf a b]⟩ = true from by rw [ltr_snoc]; exact netOk_snoc HOK.out (by rw [ltr_len]; have := HLN.out; omega) (by rw [HE.out, ← ltr_at HIL.out]; exact netOk_msgAt HOK.out _))
            clear X
            go_wp2
            go_roundw
            case rel =>
              first
                | exact ⟨k + 1, (L ++ [e]), Q, _, _, _, _, _, _, _, _, no + 1, _, _, _, rfl, by go_num, by have := HK.out; omega, by omega, HRW.out, HSB.out, HOK2.out, X1.out⟩
                | (repeat apply Exists.intro
                   refine ⟨⟨k + 1, (L ++ [e]), Q, _, _, _, _, _, _, _, _, no + 1, _, _, _, ?_, ?_, by have := HK.out; omega, by omega, HRW.out, HSB.out, HOK2.out, X1.out⟩, ?_⟩
                   rotate_left 2
                   · first | rfl | (trace_state; done)
                   · rfl
                   · go_num)
            case measure => have := HK.out; simp [intOf]; omega
        · as_aux_lemma =>
            have q0 : (q == 0) = false := by simp; omega
            have q1 : (q == 1) = false := by simp; omega
            have q2 : (q == 2) = false := by simp; omega
            have q3 : decide (q = 0) = false := decide_eq_false (by omega)
            have q4 : decide (q = 1) = false := decide_eq_false (by omega)
            have q5 : decide (q = 2) = false := decide_eq_false (by omega)
            clear hq3
            go_wp2_with fail
            refine (letter_any _ _ _ X.cur).mono ?_
            rintro e w10 ⟨x0, x1, xs, Am, nm, cm, hmo, rfl, cu, gr, o⟩
            obtain ⟨fp_tm, X'⟩ := X.drawHas cu gr o
            clear X; have X := X'; clear X' cu gr o
            have hln : xs.length = nm := (msg_open (d := ⟨x0, x1, xs⟩) (X.sep.own_ 0 rfl).rd).2.1
            have hms : (⟨x0, x1, xs⟩ : MsgM).sz ≤ 1048576 := by have := msgOk_row hmo; simp only at this; unfold MsgM.sz; simp only; omega
            have HMO := Lib.hid hmo
            have HMS := Lib.hid hms
            clear hmo hms hln
            replace X := X.boxAt (w10.heap.size) rfl #[.int .i64 x0, .int .i64 x1, .slice Am nm cm] 37
            have f6 : (w10.alloc (.cells #[.int .i64 x0, .int .i64 x1, .slice Am nm cm] 37)).cell? ⟨rn, 0, none⟩ = some (.slice A0 nA0 cA0) := (X.sep.at_ 3 rfl).cell 0
            have f7 : (w10.alloc (.cells #[.int .i64 x0, .int .i64 x1, .slice Am nm cm] 37)).cell? ⟨rn, 1, none⟩ = some (.slice A1 nA1 cA1) := (X.sep.at_ 3 rfl).cell 1
            have f8 : (w10.alloc (.cells #[.int .i64 x0, .int .i64 x1, .slice Am nm cm] 37)).cell? ⟨w10.heap.size, 0, none⟩ = some (.int .i64 x0) := (X.sep.at_ 0 rfl).cell 0
            have f9 : (w10.alloc (.cells #[.int .i64 x0, .int .i64 x1, .slice Am nm cm] 37)).cell? ⟨w10.heap.size, 1, none⟩ = some (.int .i64 x1) := (X.sep.at_ 0 rfl).cell 1
            have f10 : (w10.alloc (.cells #[.int .i64 x0, .int .i64 x1, .slice Am nm cm] 37)).cell? ⟨w10.heap.size, 2, none⟩ = some (.slice Am nm cm) := (X.sep.at_ 0 rfl).cell 2
            go_upto_region 16 with fail
            generalize w10.alloc (.cells #[.int .i64 x0, .int .i64 x1, .slice Am nm cm] 37) = w11 at *
            generalize w10.heap.size = rm at *
            have f11 : w11.cell? ⟨rn, 0, none⟩ = some (.slice A0 nA0 cA0) := (X.sep.at_ 3 rfl).cell 0
            have f12 : w11.cell? ⟨rn, 1, none⟩ = some (.slice A1 nA1 cA1) := (X.sep.at_ 3 rfl).cell 1
            have f13 : w11.cell? ⟨rm, 0, none⟩ = some (.int .i64 x0) := (X.sep.at_ 0 rfl).cell 0
            have f14 : w11.cell? ⟨rm, 1, none⟩ = some (.int .i64 x1) := (X.sep.at_ 0 rfl).cell 1
            have f15 : w11.cell? ⟨rm, 2, none⟩ = some (.slice Am nm cm) := (X.sep.at_ 0 rfl).cell 2
            go_wp2_with fail
            refine (law_sent (X.sep.own_ 2 rfl).rd HSZ.out (m := ⟨x0, x1, xs⟩) (X.sep.own_ 1 rfl).rd HMS.out (sent_in HOK.out (by rw [ltr_len]; have := HLN.out; omega) HMO.out)).mono ?_
            rintro e w12 ⟨E0, nE0, cE0, E1, nE1, cE1, rfl, o, b1⟩
            obtain ⟨fp_tx, X'⟩ := X.has b1 o
            clear X; have X := X'; clear X' b1 o f11 f12 f13 f14 f15
            replace X := X.boxAt (w12.heap.size) rfl #[.slice E0 nE0 cE0, .slice E1 nE1 cE1] 30
            go_upto_region 19 with fail
            generalize w12.alloc (.cells #[.slice E0 nE0 cE0, .slice E1 nE1 cE1] 30) = w13 at *
            generalize w12.heap.size = rx at *
            have f16 : w13.cell? ⟨rx, 0, none⟩ = some (.slice E0 nE0 cE0) := (X.sep.at_ 0 rfl).cell 0
            have f17 : w13.cell? ⟨rx, 1, none⟩ = some (.slice E1 nE1 cE1) := (X.sep.at_ 0 rfl).cell 1
            have f18 : w13.cell? ⟨rn, 0, none⟩ = some (.slice A0 nA0 cA0) := (X.sep.at_ 5 rfl).cell 0
            have f19 := (X.sep.at_ 5 rfl).free 0
            have f20 : w13.cell? ⟨rn, 1, none⟩ = some (.slice A1 nA1 cA1) := (X.sep.at_ 5 rfl).cell 1
            have f21 := (X.sep.at_ 5 rfl).free 1
            replace X := X.put 5 rfl 0 (.slice E0 nE0 cE0)
            replace X := X.put 5 rfl 1 (.slice E1 nE1 cE1)
            replace X : DrL w1 _ _ _ [.blk (rx) #[.slice E0 nE0 cE0, .slice E1 nE1 cE1] 30, _, .blk (rm) #[.int .i64 x0, .int .i64 x1, .slice Am nm cm] 37, _, _, .blk (rn) #[.slice E0 nE0 cE0, .slice E1 nE1 cE1] 30, .blk gb cur 37, _] := X
            go_upto_region 20 with fail
            generalize (w13.setCell ⟨rn, 0, none⟩ (.slice E0 nE0 cE0)).setCell ⟨rn, 1, none⟩ (.slice E1 nE1 cE1) = w14 at *
            clear f16 f17 f18 f19 f20 f21
            have f22 : w14.cell? ⟨rm, 0, none⟩ = some (.int .i64 x0) := (X.sep.at_ 2 rfl).cell 0
            have f23 : w14.cell? ⟨rm, 1, none⟩ = some (.int .i64 x1) := (X.sep.at_ 2 rfl).cell 1
            have f24 : w14.cell? ⟨rm, 2, none⟩ = some (.slice Am nm cm) := (X.sep.at_ 2 rfl).cell 2
            replace X := X.boxAt (w14.heap.size) rfl #[.int .i64 x0, .int .i64 x1, .slice Am nm cm] 37
            have f25 : (w14.alloc (.cells #[.int .i64 x0, .int .i64 x1, .slice Am nm cm] 37)).cell? ⟨rm, 0, none⟩ = some (.int .i64 x0) := (X.sep.at_ 3 rfl).cell 0
            have f26 : (w14.alloc (.cells #[.int .i64 x0, .int .i64 x1, .slice Am nm cm] 37)).cell? ⟨rm, 1, none⟩ = some (.int .i64 x1) := (X.sep.at_ 3 rfl).cell 1
            have f27 : (w14.alloc (.cells #[.int .i64 x0, .int .i64 x1, .slice Am nm cm] 37)).cell? ⟨rm, 2, none⟩ = some (.slice Am nm cm) := (X.sep.at_ 3 rfl).cell 2
            go_wp2_with (first
              | (at_builtin
                 refine wpList_raw (g := gb) (n := no) (c := co) (cur := cur) (us := L.flatMap pV) (news := pV ((⟨x0, x1, xs⟩ : MsgM), Value.slice Am nm cm)) (m := 1) rfl (.tmp 69) (.tmp 71) (by rfl) (by rfl) HR.out (X.sep.at_ 7 rfl) (by rfl) rfl (src_one (X.sep.at_ 0 rfl)) (by intro u hu; simp [pV] at hu; rcases hu with rfl | rfl | rfl <;> rfl) (by omega) ?_
                 intro g4 c4 cur4 w15 hb4 hr4 hg4 ht4))
            replace X := X.with_ (X.sep.pick 7 rfl)
            replace X := X.reblk hb4 hg4 ht4
            rw [flat_snocV] at hr4
            clear hb4 hg4 ht4
            clear f22 f23 f24 f25 f26 f27
            replace X := X.with_ (X.sep.pick 0 rfl)
            replace X := X.with_ (X.sep.pick 7 rfl)
            replace X := X.with_ (X.sep.pick 4 rfl)
            replace X := X.with_ (X.sep.pick 8 rfl)
            replace X := X.with_ (X.sep.pick 7 rfl)
            replace X := X.with_ (X.sep.sub (.cons_cons _ (.cons_cons _ (.cons_cons _ (.cons_cons _ (.cons_cons _ (List.nil_sublist _)))))))
            replace X := X.with_ X.sep.join
            have hQC : Q.flatMap pC ++ msgC ⟨x0, x1, xs⟩ = (Q ++ [((⟨x0, x1, xs⟩ : MsgM), Value.slice Am nm cm)]).flatMap pC := flat_snocC Q ((⟨x0, x1, xs⟩ : MsgM), Value.slice Am nm cm)
            have hQV : Q.flatMap pV ++ [.int .i64 x0, .int .i64 x1, .slice Am nm cm] = (Q ++ [((⟨x0, x1, xs⟩ : MsgM), Value.slice Am nm cm)]).flatMap pV := flat_snocV Q ((⟨x0, x1, xs⟩ : MsgM), Value.slice Am nm cm)
            rw [hQC, hQV] at X
            clear hQC hQV
            replace X := X.with_ (X.sep.pick 0 rfl)
            replace X := X.with_ (X.sep.pick 3 rfl)
            replace X := X.with_ (X.sep.pick 3 rfl)
            replace X := X.with_ (X.sep.pick 3 rfl)
            rw [show ltr L ++ [(⟨x0, x1, xs⟩ : MsgM)] = ltr (L ++ [((⟨x0, x1, xs⟩ : MsgM), Value.slice Am nm cm)]) from (ltr_snoc L ((⟨x0, x1, xs⟩ : MsgM), Value.slice Am nm cm)).symm] at X
            have X1 := Lib.hid X
            have HRW := Lib.hid (show Raw cur4 (no + 1) c4 ((L ++ [((⟨x0, x1, xs⟩ : MsgM), Value.slice Am nm cm)]).flatMap pV) from hr4)
            have HSB := Lib.hid (show ∀ q ∈ (L ++ [((⟨x0, x1, xs⟩ : MsgM), Value.slice Am nm cm)]), q ∈ (Q ++ [((⟨x0, x1, xs⟩ : MsgM), Value.slice Am nm cm)]) from fun q hq => by
                rcases List.mem_append.1 hq with h9 | h9
                · exact List.mem_append_left _ (HS.out q h9)
                · exact List.mem_append_right _ h9)
            have HOK2 := Lib.hid (show netOk ⟨ltr (L ++ [((⟨x0, x1, xs⟩ : MsgM), Value.slice Am nm cm)]), [linkOf a b]⟩ = true from by rw [ltr_snoc]; exact netOk_snoc HOK.out (by rw [ltr_len]; have := HLN.out; omega) HMO.out)
            clear X
            go_wp2
            go_roundw
            case rel =>
              first
                | exact ⟨k + 1, (L ++ [((⟨x0, x1, xs⟩ : MsgM), Value.slice Am nm cm)]), (Q ++ [((⟨x0, x1, xs⟩ : MsgM), Value.slice Am nm cm)]), _, _, _, _, _, _, _, _, no + 1, _, _, _, rfl, by go_num, by have := HK.out; omega, by omega, HRW.out, HSB.out, HOK2.out, X1.out⟩
                | (repeat apply Exists.intro
                   refine ⟨⟨k + 1, (L ++ [((⟨x0, x1, xs⟩ : MsgM), Value.slice Am nm cm)]), (Q ++ [((⟨x0, x1, xs⟩ : MsgM), Value.slice Am nm cm)]), _, _, _, _, _, _, _, _, no + 1, _, _, _, ?_, ?_, by have := HK.out; omega, by omega, HRW.out, HSB.out, HOK2.out, X1.out⟩, ?_⟩
                   rotate_left 2
                   · first | rfl | (trace_state; done)
                   · rfl
                   · go_num)
            case measure => have := HK.out; simp [intOf]; omega
      · have d0 : decide ((i : Int) < (no : Int)) = false := decide_eq_false (by omega)
        have d1 : decide (i < no) = false := decide_eq_false hat
        go_wp2_with fail
        refine (lbelow_any _ _ _ X.cur 5 (by decide)).mono ?_
        rintro e w9 ⟨q, hq, rfl, cu, gr⟩
        replace X := X.draw cu gr
        clear cu gr
        have hq4 : q = 0 ∨ q = 1 ∨ q = 2 ∨ 3 ≤ q := by omega
        clear hq
        rcases hq4 with rfl | rfl | rfl | hq3
        · as_aux_lemma =>
            have f6 : w9.cell? ⟨rn, 0, none⟩ = some (.slice A0 nA0 cA0) := (X.sep.at_ 1 rfl).cell 0
            have f7 : w9.cell? ⟨rn, 1, none⟩ = some (.slice A1 nA1 cA1) := (X.sep.at_ 1 rfl).cell 1
            go_wp2_with fail
            refine (law_handed' (x0 := 0) (x1 := 0) (xs := []) (X.sep.own_ 0 rfl).rd HSZ.out ((handed_out HOK.out (by omega) (show ((ltr L).length : Int) ≤ (i : Int) by rw [ltr_len]; have := HLN.out; omega) : handedM (⟨ltr L, [linkOf a b]⟩ : NetM) (i : Int) = (⟨ltr L, [linkOf a b]⟩, ⟨0, 0, []⟩, false)))).mono ?_
            rintro e w10 ⟨E0, nE0, cE0, E1, nE1, cE1, A2, n2, c2, rfl, o, b1⟩
            obtain ⟨fp_txm, X'⟩ := X.has b1 o
            clear X; have X := X'; clear X' b1 o f6 f7
            obtain ⟨fx, fy, S'⟩ := X.sep.cut (ds := (⟨ltr L, [linkOf a b]⟩ : NetM).cells) (ds' := msgC ⟨0, 0, []⟩) (vs := [.slice E0 nE0 cE0, .slice E1 nE1 cE1]) (vs' := [.int .i64 0, .int .i64 0, .slice A2 n2 c2]) rfl
            replace X := X.with_ S'
            clear S'
            have hir := (msg_open (d := ⟨0, 0, []⟩) (X.sep.own_ 0 rfl).rd).2
            obtain rfl : n2 = 0 := hir.1.symm
            clear hir
            replace X := X.boxAt (w10.heap.size) rfl #[.slice E0 nE0 cE0, .slice E1 nE1 cE1] 30
            replace X := X.boxAt (w10.heap.size + 1) (by simp) #[.int .i64 0, .int .i64 0, .slice A2 0 c2] 37
            go_upto_region 23 with fail
            generalize (w10.alloc (.cells #[.slice E0 nE0 cE0, .slice E1 nE1 cE1] 30)).alloc (.cells #[.int .i64 0, .int .i64 0, .slice A2 0 c2] 37) = w11 at *
            obtain ⟨rx, hrx⟩ : ∃ rx, rx = w10.heap.size := ⟨_, rfl⟩
            rw [← hrx] at X ⊢
            clear hrx
            have f8 : w11.cell? ⟨rx + 1, 2, none⟩ = some (.slice A2 0 c2) := (X.sep.at_ 0 rfl).cell 2
            go_wp2_with fail
            have SH := Lib.hid X
            clear X
            go_quiet (fail)
            have X := SH.out.keep (below_drewN (Below.refl w11.heap.size w11) nq)
            generalize w11.drewN nq = w12 at *
            clear SH f8
            go_upto_region 26 with fail
            have f9 : w12.cell? ⟨rx, 0, none⟩ = some (.slice E0 nE0 cE0) := (X.sep.at_ 1 rfl).cell 0
            have f10 : w12.cell? ⟨rx, 1, none⟩ = some (.slice E1 nE1 cE1) := (X.sep.at_ 1 rfl).cell 1
            have f11 : w12.cell? ⟨rn, 0, none⟩ = some (.slice A0 nA0 cA0) := (X.sep.at_ 5 rfl).cell 0
            have f12 := (X.sep.at_ 5 rfl).free 0
            have f13 : w12.cell? ⟨rn, 1, none⟩ = some (.slice A1 nA1 cA1) := (X.sep.at_ 5 rfl).cell 1
            have f14 := (X.sep.at_ 5 rfl).free 1
            replace X := X.put 5 rfl 0 (.slice E0 nE0 cE0)
            replace X := X.put 5 rfl 1 (.slice E1 nE1 cE1)
            replace X : DrL w1 _ _ _ [.blk (rx + 1) #[.int .i64 0, .int .i64 0, .slice A2 0 c2] 37, .blk (rx) #[.slice E0 nE0 cE0, .slice E1 nE1 cE1] 30, _, _, _, .blk (rn) #[.slice E0 nE0 cE0, .slice E1 nE1 cE1] 30, .blk gb cur 37, _] := X
            replace X := X.with_ (X.sep.pick 7 rfl)
            replace X := X.with_ (X.sep.pick 7 rfl)
            replace X := X.with_ (X.sep.pick 7 rfl)
            replace X := X.with_ (X.sep.pick 6 rfl)
            replace X := X.with_ (X.sep.sub (.cons_cons _ (.cons_cons _ (.cons_cons _ (.cons_cons _ (List.nil_sublist _))))))
            have X1 := Lib.hid X
            have HRW := Lib.hid (show Raw cur (no) co (L.flatMap pV) from HR.out)
            have HSB := Lib.hid (show ∀ q ∈ L, q ∈ Q from HS.out)
            have HOK2 := Lib.hid (show netOk ⟨ltr L, [linkOf a b]⟩ = true from HOK.out)
            clear X
            go_wp2
            go_roundw
            case rel =>
              first
                | exact ⟨k + 1, L, Q, _, _, _, _, _, _, _, _, no, _, _, _, rfl, by go_num, by have := HK.out; omega, by omega, HRW.out, HSB.out, HOK2.out, X1.out⟩
                | (repeat apply Exists.intro
                   refine ⟨⟨k + 1, L, Q, _, _, _, _, _, _, _, _, no, _, _, _, ?_, ?_, by have := HK.out; omega, by omega, HRW.out, HSB.out, HOK2.out, X1.out⟩, ?_⟩
                   rotate_left 2
                   · first | rfl | (trace_state; done)
                   · rfl
                   · go_num)
            case measure => have := HK.out; simp [intOf]; omega
        · as_aux_lemma =>
            have f6 : w9.cell? ⟨rn, 0, none⟩ = some (.slice A0 nA0 cA0) := (X.sep.at_ 1 rfl).cell 0
            have f7 : w9.cell? ⟨rn, 1, none⟩ = some (.slice A1 nA1 cA1) := (X.sep.at_ 1 rfl).cell 1
            go_wp2_with fail
            refine (law_lost (X.sep.own_ 0 rfl).rd HSZ.out (lost_out HOK.out (by omega) (show ((ltr L).length : Int) ≤ (i : Int) by rw [ltr_len]; have := HLN.out; omega))).mono ?_
            rintro e w10 ⟨E0, nE0, cE0, E1, nE1, cE1, rfl, o, b1⟩
            obtain ⟨fp_tx, X'⟩ := X.has b1 o
            clear X; have X := X'; clear X' b1 o f6 f7
            replace X := X.boxAt (w10.heap.size) rfl #[.slice E0 nE0 cE0, .slice E1 nE1 cE1] 30
            have f8 : (w10.alloc (.cells #[.slice E0 nE0 cE0, .slice E1 nE1 cE1] 30)).cell? ⟨w10.heap.size, 0, none⟩ = some (.slice E0 nE0 cE0) := (X.sep.at_ 0 rfl).cell 0
            have f9 : (w10.alloc (.cells #[.slice E0 nE0 cE0, .slice E1 nE1 cE1] 30)).cell? ⟨w10.heap.size, 1, none⟩ = some (.slice E1 nE1 cE1) := (X.sep.at_ 0 rfl).cell 1
            have f10 : (w10.alloc (.cells #[.slice E0 nE0 cE0, .slice E1 nE1 cE1] 30)).cell? ⟨rn, 0, none⟩ = some (.slice A0 nA0 cA0) := (X.sep.at_ 3 rfl).cell 0
            have f11 := (X.sep.at_ 3 rfl).free 0
            have f12 : (w10.alloc (.cells #[.slice E0 nE0 cE0, .slice E1 nE1 cE1] 30)).cell? ⟨rn, 1, none⟩ = some (.slice A1 nA1 cA1) := (X.sep.at_ 3 rfl).cell 1
            have f13 := (X.sep.at_ 3 rfl).free 1
            go_upto_region 33 with fail
            generalize w10.alloc (.cells #[.slice E0 nE0 cE0, .slice E1 nE1 cE1] 30) = w11 at *
            generalize w10.heap.size = rx at *
            have f14 : w11.cell? ⟨rx, 0, none⟩ = some (.slice E0 nE0 cE0) := (X.sep.at_ 0 rfl).cell 0
            have f15 : w11.cell? ⟨rx, 1, none⟩ = some (.slice E1 nE1 cE1) := (X.sep.at_ 0 rfl).cell 1
            have f16 : w11.cell? ⟨rn, 0, none⟩ = some (.slice A0 nA0 cA0) := (X.sep.at_ 3 rfl).cell 0
            have f17 := (X.sep.at_ 3 rfl).free 0
            have f18 : w11.cell? ⟨rn, 1, none⟩ = some (.slice A1 nA1 cA1) := (X.sep.at_ 3 rfl).cell 1
            have f19 := (X.sep.at_ 3 rfl).free 1
            replace X := X.put 3 rfl 0 (.slice E0 nE0 cE0)
            replace X := X.put 3 rfl 1 (.slice E1 nE1 cE1)
            replace X : DrL w1 _ _ _ [.blk (rx) #[.slice E0 nE0 cE0, .slice E1 nE1 cE1] 30, _, _, .blk (rn) #[.slice E0 nE0 cE0, .slice E1 nE1 cE1] 30, .blk gb cur 37, _] := X
            replace X := X.with_ (X.sep.pick 5 rfl)
            replace X := X.with_ (X.sep.pick 5 rfl)
            replace X := X.with_ (X.sep.pick 5 rfl)
            replace X := X.with_ (X.sep.pick 4 rfl)
            replace X := X.with_ (X.sep.sub (.cons_cons _ (.cons_cons _ (.cons_cons _ (.cons_cons _ (List.nil_sublist _))))))
            have X1 := Lib.hid X
            have HRW := Lib.hid (show Raw cur (no) co (L.flatMap pV) from HR.out)
            have HSB := Lib.hid (show ∀ q ∈ L, q ∈ Q from HS.out)
            have HOK2 := Lib.hid (show netOk ⟨ltr L, [linkOf a b]⟩ = true from HOK.out)
            clear X
            go_wp2
            go_roundw
            case rel =>
              first
                | exact ⟨k + 1, L, Q, _, _, _, _, _, _, _, _, no, _, _, _, rfl, by go_num, by have := HK.out; omega, by omega, HRW.out, HSB.out, HOK2.out, X1.out⟩
                | (repeat apply Exists.intro
                   refine ⟨⟨k + 1, L, Q, _, _, _, _, _, _, _, _, no, _, _, _, ?_, ?_, by have := HK.out; omega, by omega, HRW.out, HSB.out, HOK2.out, X1.out⟩, ?_⟩
                   rotate_left 2
                   · first | rfl | (trace_state; done)
                   · rfl
                   · go_num)
            case measure => have := HK.out; simp [intOf]; omega
        · as_aux_lemma =>
            have f6 : w9.cell? ⟨rn, 0, none⟩ = some (.slice A0 nA0 cA0) := (X.sep.at_ 1 rfl).cell 0
            have f7 : w9.cell? ⟨rn, 1, none⟩ = some (.slice A1 nA1 cA1) := (X.sep.at_ 1 rfl).cell 1
            go_wp2_with fail
            refine (law_doubled (X.sep.own_ 0 rfl).rd HSZ.out (doubled_out HOK.out (by omega) (show ((ltr L).length : Int) ≤ (i : Int) by rw [ltr_len]; have := HLN.out; omega))).mono ?_
            rintro e w10 ⟨E0, nE0, cE0, E1, nE1, cE1, rfl, o, b1⟩
            obtain ⟨fp_tx, X'⟩ := X.has b1 o
            clear X; have X := X'; clear X' b1 o f6 f7
            replace X := X.boxAt (w10.heap.size) rfl #[.slice E0 nE0 cE0, .slice E1 nE1 cE1] 30
            have f8 : (w10.alloc (.cells #[.slice E0 nE0 cE0, .slice E1 nE1 cE1] 30)).cell? ⟨w10.heap.size, 0, none⟩ = some (.slice E0 nE0 cE0) := (X.sep.at_ 0 rfl).cell 0
            have f9 : (w10.alloc (.cells #[.slice E0 nE0 cE0, .slice E1 nE1 cE1] 30)).cell? ⟨w10.heap.size, 1, none⟩ = some (.slice E1 nE1 cE1) := (X.sep.at_ 0 rfl).cell 1
            have f10 : (w10.alloc (.cells #[.slice E0 nE0 cE0, .slice E1 nE1 cE1] 30)).cell? ⟨rn, 0, none⟩ = some (.slice A0 nA0 cA0) := (X.sep.at_ 3 rfl).cell 0
            have f11 := (X.sep.at_ 3 rfl).free 0
            have f12 : (w10.alloc (.cells #[.slice E0 nE0 cE0, .slice E1 nE1 cE1] 30)).cell? ⟨rn, 1, none⟩ = some (.slice A1 nA1 cA1) := (X.sep.at_ 3 rfl).cell 1
            have f13 := (X.sep.at_ 3 rfl).free 1
            go_upto_region 40 with fail
            generalize w10.alloc (.cells #[.slice E0 nE0 cE0, .slice E1 nE1 cE1] 30) = w11 at *
            generalize w10.heap.size = rx at *
            have f14 : w11.cell? ⟨rx, 0, none⟩ = some (.slice E0 nE0 cE0) := (X.sep.at_ 0 rfl).cell 0
            have f15 : w11.cell? ⟨rx, 1, none⟩ = some (.slice E1 nE1 cE1) := (X.sep.at_ 0 rfl).cell 1
            have f16 : w11.cell? ⟨rn, 0, none⟩ = some (.slice A0 nA0 cA0) := (X.sep.at_ 3 rfl).cell 0
            have f17 := (X.sep.at_ 3 rfl).free 0
            have f18 : w11.cell? ⟨rn, 1, none⟩ = some (.slice A1 nA1 cA1) := (X.sep.at_ 3 rfl).cell 1
            have f19 := (X.sep.at_ 3 rfl).free 1
            replace X := X.put 3 rfl 0 (.slice E0 nE0 cE0)
            replace X := X.put 3 rfl 1 (.slice E1 nE1 cE1)
            replace X : DrL w1 _ _ _ [.blk (rx) #[.slice E0 nE0 cE0, .slice E1 nE1 cE1] 30, _, _, .blk (rn) #[.slice E0 nE0 cE0, .slice E1 nE1 cE1] 30, .blk gb cur 37, _] := X
            replace X := X.with_ (X.sep.pick 5 rfl)
            replace X := X.with_ (X.sep.pick 5 rfl)
            replace X := X.with_ (X.sep.pick 5 rfl)
            replace X := X.with_ (X.sep.pick 4 rfl)
            replace X := X.with_ (X.sep.sub (.cons_cons _ (.cons_cons _ (.cons_cons _ (.cons_cons _ (List.nil_sublist _))))))
            have X1 := Lib.hid X
            have HRW := Lib.hid (show Raw cur (no) co (L.flatMap pV) from HR.out)
            have HSB := Lib.hid (show ∀ q ∈ L, q ∈ Q from HS.out)
            have HOK2 := Lib.hid (show netOk ⟨ltr L, [linkOf a b]⟩ = true from HOK.out)
            clear X
            go_wp2
            go_roundw
            case rel =>
              first
                | exact ⟨k + 1, L, Q, _, _, _, _, _, _, _, _, no, _, _, _, rfl, by go_num, by have := HK.out; omega, by omega, HRW.out, HSB.out, HOK2.out, X1.out⟩
                | (repeat apply Exists.intro
                   refine ⟨⟨k + 1, L, Q, _, _, _, _, _, _, _, _, no, _, _, _, ?_, ?_, by have := HK.out; omega, by omega, HRW.out, HSB.out, HOK2.out, X1.out⟩, ?_⟩
                   rotate_left 2
                   · first | rfl | (trace_state; done)
                   · rfl
                   · go_num)
            case measure => have := HK.out; simp [intOf]; omega
        · as_aux_lemma =>
            have q0 : (q == 0) = false := by simp; omega
            have q1 : (q == 1) = false := by simp; omega
            have q2 : (q == 2) = false := by simp; omega
            have q3 : decide (q = 0) = false := decide_eq_false (by omega)
            have q4 : decide (q = 1) = false := decide_eq_false (by omega)
            have q5 : decide (q = 2) = false := decide_eq_false (by omega)
            clear hq3
            go_wp2_with fail
            refine (letter_any _ _ _ X.cur).mono ?_
            rintro e w10 ⟨x0, x1, xs, Am, nm, cm, hmo, rfl, cu, gr, o⟩
            obtain ⟨fp_tm, X'⟩ := X.drawHas cu gr o
            clear X; have X := X'; clear X' cu gr o
            have hln : xs.length = nm := (msg_open (d := ⟨x0, x1, xs⟩) (X.sep.own_ 0 rfl).rd).2.1
            have hms : (⟨x0, x1, xs⟩ : MsgM).sz ≤ 1048576 := by have := msgOk_row hmo; simp only at this; unfold MsgM.sz; simp only; omega
            have HMO := Lib.hid hmo
            have HMS := Lib.hid hms
            clear hmo hms hln
            replace X := X.boxAt (w10.heap.size) rfl #[.int .i64 x0, .int .i64 x1, .slice Am nm cm] 37
            have f6 : (w10.alloc (.cells #[.int .i64 x0, .int .i64 x1, .slice Am nm cm] 37)).cell? ⟨rn, 0, none⟩ = some (.slice A0 nA0 cA0) := (X.sep.at_ 3 rfl).cell 0
            have f7 : (w10.alloc (.cells #[.int .i64 x0, .int .i64 x1, .slice Am nm cm] 37)).cell? ⟨rn, 1, none⟩ = some (.slice A1 nA1 cA1) := (X.sep.at_ 3 rfl).cell 1
            have f8 : (w10.alloc (.cells #[.int .i64 x0, .int .i64 x1, .slice Am nm cm] 37)).cell? ⟨w10.heap.size, 0, none⟩ = some (.int .i64 x0) := (X.sep.at_ 0 rfl).cell 0
            have f9 : (w10.alloc (.cells #[.int .i64 x0, .int .i64 x1, .slice Am nm cm] 37)).cell? ⟨w10.heap.size, 1, none⟩ = some (.int .i64 x1) := (X.sep.at_ 0 rfl).cell 1
            have f10 : (w10.alloc (.cells #[.int .i64 x0, .int .i64 x1, .slice Am nm cm] 37)).cell? ⟨w10.heap.size, 2, none⟩ = some (.slice Am nm cm) := (X.sep.at_ 0 rfl).cell 2
            go_upto_region 16 with fail
            generalize w10.alloc (.cells #[.int .i64 x0, .int .i64 x1, .slice Am nm cm] 37) = w11 at *
            generalize w10.heap.size = rm at *
            have f11 : w11.cell? ⟨rn, 0, none⟩ = some (.slice A0 nA0 cA0) := (X.sep.at_ 3 rfl).cell 0
            have f12 : w11.cell? ⟨rn, 1, none⟩ = some (.slice A1 nA1 cA1) := (X.sep.at_ 3 rfl).cell 1
            have f13 : w11.cell? ⟨rm, 0, none⟩ = some (.int .i64 x0) := (X.sep.at_ 0 rfl).cell 0
            have f14 : w11.cell? ⟨rm, 1, none⟩ = some (.int .i64 x1) := (X.sep.at_ 0 rfl).cell 1
            have f15 : w11.cell? ⟨rm, 2, none⟩ = some (.slice Am nm cm) := (X.sep.at_ 0 rfl).cell 2
            go_wp2_with fail
            refine (law_sent (X.sep.own_ 2 rfl).rd HSZ.out (m := ⟨x0, x1, xs⟩) (X.sep.own_ 1 rfl).rd HMS.out (sent_in HOK.out (by rw [ltr_len]; have := HLN.out; omega) HMO.out)).mono ?_
            rintro e w12 ⟨E0, nE0, cE0, E1, nE1, cE1, rfl, o, b1⟩
            obtain ⟨fp_tx, X'⟩ := X.has b1 o
            clear X; have X := X'; clear X' b1 o f11 f12 f13 f14 f15
            replace X := X.boxAt (w12.heap.size) rfl #[.slice E0 nE0 cE0, .slice E1 nE1 cE1] 30
            go_upto_region 19 with fail
            generalize w12.alloc (.cells #[.slice E0 nE0 cE0, .slice E1 nE1 cE1] 30) = w13 at *
            generalize w12.heap.size = rx at *
            have f16 : w13.cell? ⟨rx, 0, none⟩ = some (.slice E0 nE0 cE0) := (X.sep.at_ 0 rfl).cell 0
            have f17 : w13.cell? ⟨rx, 1, none⟩ = some (.slice E1 nE1 cE1) := (X.sep.at_ 0 rfl).cell 1
            have f18 : w13.cell? ⟨rn, 0, none⟩ = some (.slice A0 nA0 cA0) := (X.sep.at_ 5 rfl).cell 0
            have f19 := (X.sep.at_ 5 rfl).free 0
            have f20 : w13.cell? ⟨rn, 1, none⟩ = some (.slice A1 nA1 cA1) := (X.sep.at_ 5 rfl).cell 1
            have f21 := (X.sep.at_ 5 rfl).free 1
            replace X := X.put 5 rfl 0 (.slice E0 nE0 cE0)
            replace X := X.put 5 rfl 1 (.slice E1 nE1 cE1)
            replace X : DrL w1 _ _ _ [.blk (rx) #[.slice E0 nE0 cE0, .slice E1 nE1 cE1] 30, _, .blk (rm) #[.int .i64 x0, .int .i64 x1, .slice Am nm cm] 37, _, _, .blk (rn) #[.slice E0 nE0 cE0, .slice E1 nE1 cE1] 30, .blk gb cur 37, _] := X
            go_upto_region 20 with fail
            generalize (w13.setCell ⟨rn, 0, none⟩ (.slice E0 nE0 cE0)).setCell ⟨rn, 1, none⟩ (.slice E1 nE1 cE1) = w14 at *
            clear f16 f17 f18 f19 f20 f21
            have f22 : w14.cell? ⟨rm, 0, none⟩ = some (.int .i64 x0) := (X.sep.at_ 2 rfl).cell 0
            have f23 : w14.cell? ⟨rm, 1, none⟩ = some (.int .i64 x1) := (X.sep.at_ 2 rfl).cell 1
            have f24 : w14.cell? ⟨rm, 2, none⟩ = some (.slice Am nm cm) := (X.sep.at_ 2 rfl).cell 2
            replace X := X.boxAt (w14.heap.size) rfl #[.int .i64 x0, .int .i64 x1, .slice Am nm cm] 37
            have f25 : (w14.alloc (.cells #[.int .i64 x0, .int .i64 x1, .slice Am nm cm] 37)).cell? ⟨rm, 0, none⟩ = some (.int .i64 x0) := (X.sep.at_ 3 rfl).cell 0
            have f26 : (w14.alloc (.cells #[.int .i64 x0, .int .i64 x1, .slice Am nm cm] 37)).cell? ⟨rm, 1, none⟩ = some (.int .i64 x1) := (X.sep.at_ 3 rfl).cell 1
            have f27 : (w14.alloc (.cells #[.int .i64 x0, .int .i64 x1, .slice Am nm cm] 37)).cell? ⟨rm, 2, none⟩ = some (.slice Am nm cm) := (X.sep.at_ 3 rfl).cell 2
            go_wp2_with (first
              | (at_builtin
                 refine wpList_raw (g := gb) (n := no) (c := co) (cur := cur) (us := L.flatMap pV) (news := pV ((⟨x0, x1, xs⟩ : MsgM), Value.slice Am nm cm)) (m := 1) rfl (.tmp 69) (.tmp 71) (by rfl) (by rfl) HR.out (X.sep.at_ 7 rfl) (by rfl) rfl (src_one (X.sep.at_ 0 rfl)) (by intro u hu; simp [pV] at hu; rcases hu with rfl | rfl | rfl <;> rfl) (by omega) ?_
                 intro g4 c4 cur4 w15 hb4 hr4 hg4 ht4))
            replace X := X.with_ (X.sep.pick 7 rfl)
            replace X := X.reblk hb4 hg4 ht4
            rw [flat_snocV] at hr4
            clear hb4 hg4 ht4
            clear f22 f23 f24 f25 f26 f27
            replace X := X.with_ (X.sep.pick 0 rfl)
            replace X := X.with_ (X.sep.pick 7 rfl)
            replace X := X.with_ (X.sep.pick 4 rfl)
            replace X := X.with_ (X.sep.pick 8 rfl)
            replace X := X.with_ (X.sep.pick 7 rfl)
            replace X := X.with_ (X.sep.sub (.cons_cons _ (.cons_cons _ (.cons_cons _ (.cons_cons _ (.cons_cons _ (List.nil_sublist _)))))))
            replace X := X.with_ X.sep.join
            have hQC : Q.flatMap pC ++ msgC ⟨x0, x1, xs⟩ = (Q ++ [((⟨x0, x1, xs⟩ : MsgM), Value.slice Am nm cm)]).flatMap pC := flat_snocC Q ((⟨x0, x1, xs⟩ : MsgM), Value.slice Am nm cm)
            have hQV : Q.flatMap pV ++ [.int .i64 x0, .int .i64 x1, .slice Am nm cm] = (Q ++ [((⟨x0, x1, xs⟩ : MsgM), Value.slice Am nm cm)]).flatMap pV := flat_snocV Q ((⟨x0, x1, xs⟩ : MsgM), Value.slice Am nm cm)
            rw [hQC, hQV] at X
            clear hQC hQV
            replace X := X.with_ (X.sep.pick 0 rfl)
            replace X := X.with_ (X.sep.pick 3 rfl)
            replace X := X.with_ (X.sep.pick 3 rfl)
            replace X := X.with_ (X.sep.pick 3 rfl)
            rw [show ltr L ++ [(⟨x0, x1, xs⟩ : MsgM)] = ltr (L ++ [((⟨x0, x1, xs⟩ : MsgM), Value.slice Am nm cm)]) from (ltr_snoc L ((⟨x0, x1, xs⟩ : MsgM), Value.slice Am nm cm)).symm] at X
            have X1 := Lib.hid X
            have HRW := Lib.hid (show Raw cur4 (no + 1) c4 ((L ++ [((⟨x0, x1, xs⟩ : MsgM), Value.slice Am nm cm)]).flatMap pV) from hr4)
            have HSB := Lib.hid (show ∀ q ∈ (L ++ [((⟨x0, x1, xs⟩ : MsgM), Value.slice Am nm cm)]), q ∈ (Q ++ [((⟨x0, x1, xs⟩ : MsgM), Value.slice Am nm cm)]) from fun q hq => by
                rcases List.mem_append.1 hq with h9 | h9
                · exact List.mem_append_left _ (HS.out q h9)
                · exact List.mem_append_right _ h9)
            have HOK2 := Lib.hid (show netOk ⟨ltr (L ++ [((⟨x0, x1, xs⟩ : MsgM), Value.slice Am nm cm)]), [linkOf a b]⟩ = true from by rw [ltr_snoc]; exact netOk_snoc HOK.out (by rw [ltr_len]; have := HLN.out; omega) HMO.out)
            clear X
            go_wp2
            go_roundw
            case rel =>
              first
                | exact ⟨k + 1, (L ++ [((⟨x0, x1, xs⟩ : MsgM), Value.slice Am nm cm)]), (Q ++ [((⟨x0, x1, xs⟩ : MsgM), Value.slice Am nm cm)]), _, _, _, _, _, _, _, _, no + 1, _, _, _, rfl, by go_num, by have := HK.out; omega, by omega, HRW.out, HSB.out, HOK2.out, X1.out⟩
                | (repeat apply Exists.intro
                   refine ⟨⟨k + 1, (L ++ [((⟨x0, x1, xs⟩ : MsgM), Value.slice Am nm cm)]), (Q ++ [((⟨x0, x1, xs⟩ : MsgM), Value.slice Am nm cm)]), _, _, _, _, _, _, _, _, no + 1, _, _, _, ?_, ?_, by have := HK.out; omega, by omega, HRW.out, HSB.out, HOK2.out, X1.out⟩, ?_⟩
                   rotate_left 2
                   · first | rfl | (trace_state; done)
                   · rfl
                   · go_num)
            case measure => have := HK.out; simp [intOf]; omega
    · as_aux_lemma =>
        have hnet := netOk_sz HOK.out
        have hms : msgSz (ltr L) ≤ 1048577 := by have h9 : (⟨ltr L, [linkOf a b]⟩ : NetM).sz = msgSz (ltr L) + linkSz [linkOf a b] := rfl; omega
        obtain ⟨_, _, _, _, _, _, e0, _, hr0, _⟩ := (X.sep.own_ 0 rfl).rd.netT
        injection e0 with e1 e2 e3
        subst e1 e2 e3
        have hro := raw_rd HR.out (X.sep.at_ 2 rfl) (X.sep.at_ 2 rfl).lt (X.sep.own_ 3 rfl).rd HS.out
        have f6 : wr.cell? ⟨rn, 0, none⟩ = some (.slice A0 nA0 cA0) := (X.sep.at_ 1 rfl).cell 0
        have f7 : wr.cell? ⟨rn, 1, none⟩ = some (.slice A1 nA1 cA1) := (X.sep.at_ 1 rfl).cell 1
        go_wp2_with fail
        refine (wLetters_yes _ _ _ _ _ _ (ltr L) _ _ _ hr0 hro (Nat.le_refl _) (Nat.le_refl _) hms).mono ?_
        rintro e w8 ⟨rfl, b1⟩
        replace X := X.keep b1
        clear b1 f6 f7
        clear hr0 hro
        have f8 : w8.cell? ⟨rn, 0, none⟩ = some (.slice A0 nA0 cA0) := (X.sep.at_ 1 rfl).cell 0
        have f9 : w8.cell? ⟨rn, 1, none⟩ = some (.slice A1 nA1 cA1) := (X.sep.at_ 1 rfl).cell 1
        go_wp2_with fail
        refine (iNetOk_any _ _ (⟨ltr L, [linkOf a b]⟩ : NetM) _ _ (X.sep.own_ 0 rfl).rd (Nat.le_refl _) (by omega)).mono ?_
        rintro e w9 ⟨rfl, b1⟩
        rw [HOK.out]
        replace X := X.keep b1
        clear b1 f8 f9
        have C := Lib.hid (B1.out.trans (grown_below X.grown B1.out.size (fun k hk => by injection hk with hk; omega)))
        clear X
        go_wp2
        go_ret
        exact ⟨rfl, C.out⟩

end Go.Proofs.Ythcagdcbifdfeaa
