/-
  The law FnLinks answers true at every slice of bytes, and writes nothing that was there (by program, wip/gen/gennetu.py).
-/
import Derived.Test.YtdcdcccdihhhcaaNetL0
import Derived.Test.YtdcdcccdihhhcaaNetH4
import Derived.RegionTactic
import Derived.BigQuiet
import Derived.Deep.DeepCutAuto
namespace Go.Proofs.Ytdcdcccdihhhcaa
set_option maxRecDepth 100000
open Go.RowKit

theorem infoBool : (Try.prog.info? 4).map (fun i => (i.zero, i.size, i.bytes)) = some (some (.bool false), 1, 1) := by kernel_rfl
set_option maxHeartbeats 12800000 in
theorem lawLinks (A : Option Addr) (n c0 : Nat) (w : World) (h : BRow w w.heap.size A n) (hm : n ≤ maxLen) :
    Calls Try.prog 3 #[.slice A n c0] w fun e w' => e = .returned (.bool true) ∧ Below w.heap.size w w' := by
  unfold maxLen at hm
  by_cases hn : 4096 < n
  · clear h
    go_enter Try.func3, Try.ntmps3
    go_wp2_with fail
    refine (lbig_any A n c0 _).mono ?_
    rintro e w' ⟨rfl, rfl⟩
    rw [decide_eq_true hn]
    go_wp2
    go_ret
    exact ⟨rfl, Below.refl _ _⟩
  go_enter Try.func3, Try.ntmps3
  go_wp2_with fail
  refine (lbig_any A n c0 _).mono ?_
  rintro e w' ⟨rfl, rfl⟩
  rw [decide_eq_false hn]
  go_wp2_with fail
  refine (roll_any A n c0 _ h (by omega) _).mono ?_
  rintro e w1 ⟨rfl, cu, b1⟩
  have X := DrL.start cu
  have B1 := Lib.hid b1
  clear b1 cu h
  go_wp2_with fail
  refine (iNewNet_any _).mono ?_
  rintro e w2 ⟨rfl, b⟩
  replace X := X.keep b
  clear b
  replace X := X.with_ (X.sep.own0 (ow_zeroN _))
  have hmk : ∀ w9 : World, (Instr.makeSlice 32 (.int .i64 36) (.int .i64 36)).run Try.prog w9 = .ok (.slice (some ⟨w9.heap.size, 0, none⟩) 36 36) (w9.alloc (.cells (bsA bs0) 4)) := fun w9 => by
    have h := run_make_k (P := Try.prog) 32 4 (.bool false) #[.bool false] 1 1 Try.underlying32 infoBool rfl .i64 .i64 36 (by decide) (by decide) w9
    rw [bs0_cells] at h
    exact h
  replace X := X.boxAt (w2.heap.size) rfl #[.slice none 0 0, .slice none 0 0] 30
  go_upto_region 5 with fail
  generalize w2.alloc (.cells #[.slice none 0 0, .slice none 0 0] 30) = w3 at *
  generalize w2.heap.size = rn at *
  have XT := Lib.hid (X.boxAt (w3.heap.size) rfl (bsA bs0) 4)
  clear X
  go_upto_region 6 with fail
  have X := XT.out
  clear XT
  generalize w3.alloc (.cells (bsA bs0) 4) = w4 at *
  generalize w3.heap.size = rc at *
  replace X := X.with_ (X.sep.pick 1 rfl)
  replace X := X.with_ (X.sep.pick 2 rfl)
  replace X : DrL w1 _ _ _ [_, .blk rn #[.slice none 0 0, .slice none 0 0] 30, .blk rc (bsA bs0) 4] := X
  have X0 := Lib.hid X
  clear X hmk
  go_wp2_with fail
  go_loopw [6] (fun kv wr => ∃ (k : Nat) (t : NetM) (bs : List Bool) (A0 : Option Addr) (nA0 cA0 : Nat) (A1 : Option Addr) (nA1 cA1 : Nat) (fp : List Nat), kv = .int .i64 (k : Int) ∧ k ≤ 14 ∧ Good t bs k ∧ DrL w1 wr w.heap.size w.heap.size [.own t.cells [.slice A0 nA0 cA0, .slice A1 nA1 cA1] fp, .blk rn #[.slice A0 nA0 cA0, .slice A1 nA1 cA1] 30, .blk rc (bsA bs) 4]) (fun kv _ => 14 - (intOf kv).toNat)
  case atStart => exact ⟨0, zeroN, bs0, _, _, _, _, _, _, _, rfl, by omega, good0, X0.out⟩
  case round =>
    obtain ⟨k, t, bs, A0, nA0, cA0, A1, nA1, cA1, fp, rfl, hk, hg, X⟩ := hrel
    clear X0
    have hsz : t.sz ≤ 1048577 := Nat.le_trans (netOk_sz hg.1) (by decide)
    have HG := Lib.hid hg
    clear hg
    by_cases hlt : k < 14
    · go_wp2_with fail
      refine (lbelow_any _ _ _ X.cur 6 (by decide)).mono ?_
      rintro e w5 ⟨a, ha, rfl, cu, gr⟩
      replace X := X.draw cu gr
      clear cu gr
      obtain ⟨i, rfl⟩ : ∃ i : Nat, a = (i : Int) := ⟨a.toNat, by omega⟩
      have hi : i < 6 := by omega
      clear ha
      go_wp2_with fail
      refine (lbelow_any _ _ _ X.cur 6 (by decide)).mono ?_
      rintro e w6 ⟨b, hb, rfl, cu, gr⟩
      replace X := X.draw cu gr
      clear cu gr
      obtain ⟨j, rfl⟩ : ∃ j : Nat, b = (j : Int) := ⟨b.toNat, by omega⟩
      have hj : j < 6 := by omega
      clear hb
      go_wp2_with fail
      refine (lbelow_any _ _ _ X.cur 3 (by decide)).mono ?_
      rintro e w7 ⟨z, hz, rfl, cu, gr⟩
      replace X := X.draw cu gr
      clear cu gr
      by_cases hzz : z > 0
      · rcases cut_step HG.out (by omega) hi hj with ⟨e, E⟩ | ⟨ne, hb, E⟩ | ⟨ne, hb, t', E, G'⟩
        · subst e
          have f0 : w7.cell? ⟨rn, 0, none⟩ = some (.slice A0 nA0 cA0) := (X.sep.at_ 1 rfl).cell 0
          have f1 : w7.cell? ⟨rn, 1, none⟩ = some (.slice A1 nA1 cA1) := (X.sep.at_ 1 rfl).cell 1
          go_wp2_with fail
          refine (iCutOff_any _ _ t (i : Int) (i : Int) _ (X.sep.own_ 0 rfl).rd hsz).mono ?_
          rintro e w8 ⟨E0, nE0, cE0, E1, nE1, cE1, rfl, o, b⟩
          rw [show (cutOffM t (i : Int) (i : Int)).1 = t by rw [E]] at o
          rw [show (cutOffM t (i : Int) (i : Int)).2 = false by rw [E]]
          clear E
          obtain ⟨fp_tx, X'⟩ := X.has b o
          clear X; have X := X'; clear X' b o f0 f1
          have f2 : w8.cell? ⟨rn, 0, none⟩ = some (.slice A0 nA0 cA0) := (X.sep.at_ 2 rfl).cell 0
          have f3 := (X.sep.at_ 2 rfl).free 0
          have f4 : w8.cell? ⟨rn, 1, none⟩ = some (.slice A1 nA1 cA1) := (X.sep.at_ 2 rfl).cell 1
          have f5 := (X.sep.at_ 2 rfl).free 1
          replace X := X.put 2 rfl 0 (.slice E0 nE0 cE0)
          replace X := X.put 2 rfl 1 (.slice E1 nE1 cE1)
          replace X : DrL w1 _ _ _ [_, _, .blk (rn) #[.slice E0 nE0 cE0, .slice E1 nE1 cE1] 30, .blk rc (bsA bs) 4] := X
          replace X := X.with_ (X.sep.pick 3 rfl)
          replace X := X.with_ (X.sep.pick 3 rfl)
          replace X := X.with_ (X.sep.pick 2 rfl)
          replace X := X.with_ (X.sep.sub (.cons_cons _ (.cons_cons _ (.cons_cons _ (List.nil_sublist _)))))
          have HG2 := Lib.hid (show Good t bs (k + 1) from HG.out.up (by omega))
          have X1 := Lib.hid X
          clear X HG
          go_wp2
          go_roundw
          case rel => exact ⟨k + 1, _, _, _, _, _, _, _, _, _, by go_num, by omega, HG2.out, X1.out⟩
          case measure => simp [intOf]; omega
        · have f0 : w7.cell? ⟨rn, 0, none⟩ = some (.slice A0 nA0 cA0) := (X.sep.at_ 1 rfl).cell 0
          have f1 : w7.cell? ⟨rn, 1, none⟩ = some (.slice A1 nA1 cA1) := (X.sep.at_ 1 rfl).cell 1
          go_wp2_with fail
          refine (iCutOff_any _ _ t (i : Int) (j : Int) _ (X.sep.own_ 0 rfl).rd hsz).mono ?_
          rintro e w8 ⟨E0, nE0, cE0, E1, nE1, cE1, rfl, o, b⟩
          rw [show (cutOffM t (i : Int) (j : Int)).1 = t by rw [E]] at o
          rw [show (cutOffM t (i : Int) (j : Int)).2 = false by rw [E]]
          clear E
          obtain ⟨fp_tx, X'⟩ := X.has b o
          clear X; have X := X'; clear X' b o f0 f1
          have f2 : w8.cell? ⟨rn, 0, none⟩ = some (.slice A0 nA0 cA0) := (X.sep.at_ 2 rfl).cell 0
          have f3 := (X.sep.at_ 2 rfl).free 0
          have f4 : w8.cell? ⟨rn, 1, none⟩ = some (.slice A1 nA1 cA1) := (X.sep.at_ 2 rfl).cell 1
          have f5 := (X.sep.at_ 2 rfl).free 1
          replace X := X.put 2 rfl 0 (.slice E0 nE0 cE0)
          replace X := X.put 2 rfl 1 (.slice E1 nE1 cE1)
          replace X : DrL w1 _ _ _ [_, _, .blk (rn) #[.slice E0 nE0 cE0, .slice E1 nE1 cE1] 30, .blk rc (bsA bs) 4] := X
          have hne : ¬ ((i : Int) = (j : Int)) := by omega
          have hne2 : ((i : Int) != (j : Int)) = true := by rw [bne_iff_ne]; exact hne
          have hm1 : IntKind.i64.wrap (6 * (i : Int)) = 6 * (i : Int) := by rw [IntKind.wrap_i64]; omega
          have hm2 : IntKind.i64.wrap (6 * (i : Int) + (j : Int)) = 6 * (i : Int) + (j : Int) := by rw [IntKind.wrap_i64]; omega
          have hm3 : IntKind.i64.wrap (6 * (j : Int)) = 6 * (j : Int) := by rw [IntKind.wrap_i64]; omega
          have hm4 : IntKind.i64.wrap (6 * (j : Int) + (i : Int)) = 6 * (j : Int) + (i : Int) := by rw [IntKind.wrap_i64]; omega
          have hm5 : (6 * (i : Int) + (j : Int)).toNat = 6 * i + j := by omega
          have hm6 : (6 * (j : Int) + (i : Int)).toNat = 6 * j + i := by omega
          have hm7 : 0 ≤ 6 * (i : Int) + (j : Int) := by omega
          have hm8 : 6 * (i : Int) + (j : Int) < 36 := by omega
          have hm9 : 0 ≤ 6 * (j : Int) + (i : Int) := by omega
          have hm10 : 6 * (j : Int) + (i : Int) < 36 := by omega
          have f6 : ((w8.setCell ⟨rn, 0, none⟩ (.slice E0 nE0 cE0)).setCell ⟨rn, 1, none⟩ (.slice E1 nE1 cE1)).cell? ⟨rc, 6 * i + j, none⟩ = some (.bool true) := ((X.sep.at_ 3 rfl).cell (6 * i + j)).trans ((bsA_at (by have := HG.out.2.2.2.1; omega)).trans (by rw [hb]))
          replace X := X.with_ (X.sep.pick 3 rfl)
          replace X := X.with_ (X.sep.pick 3 rfl)
          replace X := X.with_ (X.sep.pick 2 rfl)
          replace X := X.with_ (X.sep.sub (.cons_cons _ (.cons_cons _ (.cons_cons _ (List.nil_sublist _)))))
          have HG2 := Lib.hid (show Good t bs (k + 1) from HG.out.up (by omega))
          have X1 := Lib.hid X
          clear X HG
          go_wp2
          go_roundw
          case rel => exact ⟨k + 1, _, _, _, _, _, _, _, _, _, by go_num, by omega, HG2.out, X1.out⟩
          case measure => simp [intOf]; omega
        · have f0 : w7.cell? ⟨rn, 0, none⟩ = some (.slice A0 nA0 cA0) := (X.sep.at_ 1 rfl).cell 0
          have f1 : w7.cell? ⟨rn, 1, none⟩ = some (.slice A1 nA1 cA1) := (X.sep.at_ 1 rfl).cell 1
          go_wp2_with fail
          refine (iCutOff_any _ _ t (i : Int) (j : Int) _ (X.sep.own_ 0 rfl).rd hsz).mono ?_
          rintro e w8 ⟨E0, nE0, cE0, E1, nE1, cE1, rfl, o, b⟩
          rw [show (cutOffM t (i : Int) (j : Int)).1 = t' by rw [E]] at o
          rw [show (cutOffM t (i : Int) (j : Int)).2 = true by rw [E]]
          clear E
          obtain ⟨fp_tx, X'⟩ := X.has b o
          clear X; have X := X'; clear X' b o f0 f1
          have f2 : w8.cell? ⟨rn, 0, none⟩ = some (.slice A0 nA0 cA0) := (X.sep.at_ 2 rfl).cell 0
          have f3 := (X.sep.at_ 2 rfl).free 0
          have f4 : w8.cell? ⟨rn, 1, none⟩ = some (.slice A1 nA1 cA1) := (X.sep.at_ 2 rfl).cell 1
          have f5 := (X.sep.at_ 2 rfl).free 1
          replace X := X.put 2 rfl 0 (.slice E0 nE0 cE0)
          replace X := X.put 2 rfl 1 (.slice E1 nE1 cE1)
          replace X : DrL w1 _ _ _ [_, _, .blk (rn) #[.slice E0 nE0 cE0, .slice E1 nE1 cE1] 30, .blk rc (bsA bs) 4] := X
          have hne : ¬ ((i : Int) = (j : Int)) := by omega
          have hne2 : ((i : Int) != (j : Int)) = true := by rw [bne_iff_ne]; exact hne
          have hm1 : IntKind.i64.wrap (6 * (i : Int)) = 6 * (i : Int) := by rw [IntKind.wrap_i64]; omega
          have hm2 : IntKind.i64.wrap (6 * (i : Int) + (j : Int)) = 6 * (i : Int) + (j : Int) := by rw [IntKind.wrap_i64]; omega
          have hm3 : IntKind.i64.wrap (6 * (j : Int)) = 6 * (j : Int) := by rw [IntKind.wrap_i64]; omega
          have hm4 : IntKind.i64.wrap (6 * (j : Int) + (i : Int)) = 6 * (j : Int) + (i : Int) := by rw [IntKind.wrap_i64]; omega
          have hm5 : (6 * (i : Int) + (j : Int)).toNat = 6 * i + j := by omega
          have hm6 : (6 * (j : Int) + (i : Int)).toNat = 6 * j + i := by omega
          have hm7 : 0 ≤ 6 * (i : Int) + (j : Int) := by omega
          have hm8 : 6 * (i : Int) + (j : Int) < 36 := by omega
          have hm9 : 0 ≤ 6 * (j : Int) + (i : Int) := by omega
          have hm10 : 6 * (j : Int) + (i : Int) < 36 := by omega
          have f6 : ((w8.setCell ⟨rn, 0, none⟩ (.slice E0 nE0 cE0)).setCell ⟨rn, 1, none⟩ (.slice E1 nE1 cE1)).cell? ⟨rc, 6 * i + j, none⟩ = some (.bool false) := ((X.sep.at_ 3 rfl).cell (6 * i + j)).trans ((bsA_at (by have := HG.out.2.2.2.1; omega)).trans (by rw [hb]))
          have f7 := (X.sep.at_ 3 rfl).free (6 * i + j)
          have f98 : ∃ u, ((w8.setCell ⟨rn, 0, none⟩ (.slice E0 nE0 cE0)).setCell ⟨rn, 1, none⟩ (.slice E1 nE1 cE1)).cell? ⟨rc, 6 * j + i, none⟩ = some (.bool u) := ⟨_, ((X.sep.at_ 3 rfl).cell (6 * j + i)).trans (bsA_at (by have := HG.out.2.2.2.1; omega))⟩
          obtain ⟨u98, f98⟩ := f98
          have f99 := (X.sep.at_ 3 rfl).free (6 * j + i)
          replace X := (X.put 3 rfl (6 * i + j) (.bool true)).put 3 rfl (6 * j + i) (.bool true)
          replace X : DrL w1 _ _ _ [_, _, .blk (rn) #[.slice E0 nE0 cE0, .slice E1 nE1 cE1] 30, (.blk rc (((bsA bs).setIfInBounds (6 * i + j) (.bool true)).setIfInBounds (6 * j + i) (.bool true)) 4)] := X
          rw [bsA_set, bsA_set] at X
          replace X := X.with_ (X.sep.pick 3 rfl)
          replace X := X.with_ (X.sep.pick 3 rfl)
          replace X := X.with_ (X.sep.pick 2 rfl)
          replace X := X.with_ (X.sep.sub (.cons_cons _ (.cons_cons _ (.cons_cons _ (List.nil_sublist _)))))
          have HG2 := Lib.hid (show Good t' ((bs.set (6 * i + j) true).set (6 * j + i) true) (k + 1) from G')
          have X1 := Lib.hid X
          clear X HG
          go_wp2
          go_roundw
          case rel => exact ⟨k + 1, _, _, _, _, _, _, _, _, _, by go_num, by omega, HG2.out, X1.out⟩
          case measure => simp [intOf]; omega
      · obtain rfl : z = 0 := by omega
        clear hzz hz
        rcases heal_step HG.out hi hj with ⟨e, E⟩ | ⟨ne, hb, E⟩ | ⟨ne, hb, t', E, G'⟩
        · subst e
          have f0 : w7.cell? ⟨rn, 0, none⟩ = some (.slice A0 nA0 cA0) := (X.sep.at_ 1 rfl).cell 0
          have f1 : w7.cell? ⟨rn, 1, none⟩ = some (.slice A1 nA1 cA1) := (X.sep.at_ 1 rfl).cell 1
          go_wp2_with fail
          refine (iHealed_any _ _ t (i : Int) (i : Int) _ (X.sep.own_ 0 rfl).rd hsz).mono ?_
          rintro e w8 ⟨E0, nE0, cE0, E1, nE1, cE1, rfl, o, b⟩
          rw [show (healedM t (i : Int) (i : Int)).1 = t by rw [E]] at o
          rw [show (healedM t (i : Int) (i : Int)).2 = false by rw [E]]
          clear E
          obtain ⟨fp_tx, X'⟩ := X.has b o
          clear X; have X := X'; clear X' b o f0 f1
          have f2 : w8.cell? ⟨rn, 0, none⟩ = some (.slice A0 nA0 cA0) := (X.sep.at_ 2 rfl).cell 0
          have f3 := (X.sep.at_ 2 rfl).free 0
          have f4 : w8.cell? ⟨rn, 1, none⟩ = some (.slice A1 nA1 cA1) := (X.sep.at_ 2 rfl).cell 1
          have f5 := (X.sep.at_ 2 rfl).free 1
          replace X := X.put 2 rfl 0 (.slice E0 nE0 cE0)
          replace X := X.put 2 rfl 1 (.slice E1 nE1 cE1)
          replace X : DrL w1 _ _ _ [_, _, .blk (rn) #[.slice E0 nE0 cE0, .slice E1 nE1 cE1] 30, .blk rc (bsA bs) 4] := X
          replace X := X.with_ (X.sep.pick 3 rfl)
          replace X := X.with_ (X.sep.pick 3 rfl)
          replace X := X.with_ (X.sep.pick 2 rfl)
          replace X := X.with_ (X.sep.sub (.cons_cons _ (.cons_cons _ (.cons_cons _ (List.nil_sublist _)))))
          have HG2 := Lib.hid (show Good t bs (k + 1) from HG.out.up (by omega))
          have X1 := Lib.hid X
          clear X HG
          go_wp2
          go_roundw
          case rel => exact ⟨k + 1, _, _, _, _, _, _, _, _, _, by go_num, by omega, HG2.out, X1.out⟩
          case measure => simp [intOf]; omega
        · have f0 : w7.cell? ⟨rn, 0, none⟩ = some (.slice A0 nA0 cA0) := (X.sep.at_ 1 rfl).cell 0
          have f1 : w7.cell? ⟨rn, 1, none⟩ = some (.slice A1 nA1 cA1) := (X.sep.at_ 1 rfl).cell 1
          go_wp2_with fail
          refine (iHealed_any _ _ t (i : Int) (j : Int) _ (X.sep.own_ 0 rfl).rd hsz).mono ?_
          rintro e w8 ⟨E0, nE0, cE0, E1, nE1, cE1, rfl, o, b⟩
          rw [show (healedM t (i : Int) (j : Int)).1 = t by rw [E]] at o
          rw [show (healedM t (i : Int) (j : Int)).2 = false by rw [E]]
          clear E
          obtain ⟨fp_tx, X'⟩ := X.has b o
          clear X; have X := X'; clear X' b o f0 f1
          have f2 : w8.cell? ⟨rn, 0, none⟩ = some (.slice A0 nA0 cA0) := (X.sep.at_ 2 rfl).cell 0
          have f3 := (X.sep.at_ 2 rfl).free 0
          have f4 : w8.cell? ⟨rn, 1, none⟩ = some (.slice A1 nA1 cA1) := (X.sep.at_ 2 rfl).cell 1
          have f5 := (X.sep.at_ 2 rfl).free 1
          replace X := X.put 2 rfl 0 (.slice E0 nE0 cE0)
          replace X := X.put 2 rfl 1 (.slice E1 nE1 cE1)
          replace X : DrL w1 _ _ _ [_, _, .blk (rn) #[.slice E0 nE0 cE0, .slice E1 nE1 cE1] 30, .blk rc (bsA bs) 4] := X
          have hne : ¬ ((i : Int) = (j : Int)) := by omega
          have hne2 : ((i : Int) != (j : Int)) = true := by rw [bne_iff_ne]; exact hne
          have hm1 : IntKind.i64.wrap (6 * (i : Int)) = 6 * (i : Int) := by rw [IntKind.wrap_i64]; omega
          have hm2 : IntKind.i64.wrap (6 * (i : Int) + (j : Int)) = 6 * (i : Int) + (j : Int) := by rw [IntKind.wrap_i64]; omega
          have hm3 : IntKind.i64.wrap (6 * (j : Int)) = 6 * (j : Int) := by rw [IntKind.wrap_i64]; omega
          have hm4 : IntKind.i64.wrap (6 * (j : Int) + (i : Int)) = 6 * (j : Int) + (i : Int) := by rw [IntKind.wrap_i64]; omega
          have hm5 : (6 * (i : Int) + (j : Int)).toNat = 6 * i + j := by omega
          have hm6 : (6 * (j : Int) + (i : Int)).toNat = 6 * j + i := by omega
          have hm7 : 0 ≤ 6 * (i : Int) + (j : Int) := by omega
          have hm8 : 6 * (i : Int) + (j : Int) < 36 := by omega
          have hm9 : 0 ≤ 6 * (j : Int) + (i : Int) := by omega
          have hm10 : 6 * (j : Int) + (i : Int) < 36 := by omega
          have f6 : ((w8.setCell ⟨rn, 0, none⟩ (.slice E0 nE0 cE0)).setCell ⟨rn, 1, none⟩ (.slice E1 nE1 cE1)).cell? ⟨rc, 6 * i + j, none⟩ = some (.bool false) := ((X.sep.at_ 3 rfl).cell (6 * i + j)).trans ((bsA_at (by have := HG.out.2.2.2.1; omega)).trans (by rw [hb]))
          replace X := X.with_ (X.sep.pick 3 rfl)
          replace X := X.with_ (X.sep.pick 3 rfl)
          replace X := X.with_ (X.sep.pick 2 rfl)
          replace X := X.with_ (X.sep.sub (.cons_cons _ (.cons_cons _ (.cons_cons _ (List.nil_sublist _)))))
          have HG2 := Lib.hid (show Good t bs (k + 1) from HG.out.up (by omega))
          have X1 := Lib.hid X
          clear X HG
          go_wp2
          go_roundw
          case rel => exact ⟨k + 1, _, _, _, _, _, _, _, _, _, by go_num, by omega, HG2.out, X1.out⟩
          case measure => simp [intOf]; omega
        · have f0 : w7.cell? ⟨rn, 0, none⟩ = some (.slice A0 nA0 cA0) := (X.sep.at_ 1 rfl).cell 0
          have f1 : w7.cell? ⟨rn, 1, none⟩ = some (.slice A1 nA1 cA1) := (X.sep.at_ 1 rfl).cell 1
          go_wp2_with fail
          refine (iHealed_any _ _ t (i : Int) (j : Int) _ (X.sep.own_ 0 rfl).rd hsz).mono ?_
          rintro e w8 ⟨E0, nE0, cE0, E1, nE1, cE1, rfl, o, b⟩
          rw [show (healedM t (i : Int) (j : Int)).1 = t' by rw [E]] at o
          rw [show (healedM t (i : Int) (j : Int)).2 = true by rw [E]]
          clear E
          obtain ⟨fp_tx, X'⟩ := X.has b o
          clear X; have X := X'; clear X' b o f0 f1
          have f2 : w8.cell? ⟨rn, 0, none⟩ = some (.slice A0 nA0 cA0) := (X.sep.at_ 2 rfl).cell 0
          have f3 := (X.sep.at_ 2 rfl).free 0
          have f4 : w8.cell? ⟨rn, 1, none⟩ = some (.slice A1 nA1 cA1) := (X.sep.at_ 2 rfl).cell 1
          have f5 := (X.sep.at_ 2 rfl).free 1
          replace X := X.put 2 rfl 0 (.slice E0 nE0 cE0)
          replace X := X.put 2 rfl 1 (.slice E1 nE1 cE1)
          replace X : DrL w1 _ _ _ [_, _, .blk (rn) #[.slice E0 nE0 cE0, .slice E1 nE1 cE1] 30, .blk rc (bsA bs) 4] := X
          have hne : ¬ ((i : Int) = (j : Int)) := by omega
          have hne2 : ((i : Int) != (j : Int)) = true := by rw [bne_iff_ne]; exact hne
          have hm1 : IntKind.i64.wrap (6 * (i : Int)) = 6 * (i : Int) := by rw [IntKind.wrap_i64]; omega
          have hm2 : IntKind.i64.wrap (6 * (i : Int) + (j : Int)) = 6 * (i : Int) + (j : Int) := by rw [IntKind.wrap_i64]; omega
          have hm3 : IntKind.i64.wrap (6 * (j : Int)) = 6 * (j : Int) := by rw [IntKind.wrap_i64]; omega
          have hm4 : IntKind.i64.wrap (6 * (j : Int) + (i : Int)) = 6 * (j : Int) + (i : Int) := by rw [IntKind.wrap_i64]; omega
          have hm5 : (6 * (i : Int) + (j : Int)).toNat = 6 * i + j := by omega
          have hm6 : (6 * (j : Int) + (i : Int)).toNat = 6 * j + i := by omega
          have hm7 : 0 ≤ 6 * (i : Int) + (j : Int) := by omega
          have hm8 : 6 * (i : Int) + (j : Int) < 36 := by omega
          have hm9 : 0 ≤ 6 * (j : Int) + (i : Int) := by omega
          have hm10 : 6 * (j : Int) + (i : Int) < 36 := by omega
          have f6 : ((w8.setCell ⟨rn, 0, none⟩ (.slice E0 nE0 cE0)).setCell ⟨rn, 1, none⟩ (.slice E1 nE1 cE1)).cell? ⟨rc, 6 * i + j, none⟩ = some (.bool true) := ((X.sep.at_ 3 rfl).cell (6 * i + j)).trans ((bsA_at (by have := HG.out.2.2.2.1; omega)).trans (by rw [hb]))
          have f7 := (X.sep.at_ 3 rfl).free (6 * i + j)
          have f98 : ∃ u, ((w8.setCell ⟨rn, 0, none⟩ (.slice E0 nE0 cE0)).setCell ⟨rn, 1, none⟩ (.slice E1 nE1 cE1)).cell? ⟨rc, 6 * j + i, none⟩ = some (.bool u) := ⟨_, ((X.sep.at_ 3 rfl).cell (6 * j + i)).trans (bsA_at (by have := HG.out.2.2.2.1; omega))⟩
          obtain ⟨u98, f98⟩ := f98
          have f99 := (X.sep.at_ 3 rfl).free (6 * j + i)
          replace X := (X.put 3 rfl (6 * i + j) (.bool false)).put 3 rfl (6 * j + i) (.bool false)
          replace X : DrL w1 _ _ _ [_, _, .blk (rn) #[.slice E0 nE0 cE0, .slice E1 nE1 cE1] 30, (.blk rc (((bsA bs).setIfInBounds (6 * i + j) (.bool false)).setIfInBounds (6 * j + i) (.bool false)) 4)] := X
          rw [bsA_set, bsA_set] at X
          replace X := X.with_ (X.sep.pick 3 rfl)
          replace X := X.with_ (X.sep.pick 3 rfl)
          replace X := X.with_ (X.sep.pick 2 rfl)
          replace X := X.with_ (X.sep.sub (.cons_cons _ (.cons_cons _ (.cons_cons _ (List.nil_sublist _)))))
          have HG2 := Lib.hid (show Good t' ((bs.set (6 * i + j) false).set (6 * j + i) false) (k + 1) from G')
          have X1 := Lib.hid X
          clear X HG
          go_wp2
          go_roundw
          case rel => exact ⟨k + 1, _, _, _, _, _, _, _, _, _, by go_num, by omega, HG2.out, X1.out⟩
          case measure => simp [intOf]; omega
    · obtain rfl : nA0 = 0 := by have h1 := (net_len (X.sep.own_ 0 rfl).rd).1; rw [HG.out.2.1] at h1; exact h1.symm
      clear hk
      have X0 := Lib.hid X
      clear X
      go_wp2_with fail
      go_loopw [11] (fun kv wr => ∃ (i : Nat), kv = .int .i64 (i : Int) ∧ i ≤ 6 ∧ DrL w1 wr w.heap.size w.heap.size [.own t.cells [.slice A0 0 cA0, .slice A1 nA1 cA1] fp, .blk rn #[.slice A0 0 cA0, .slice A1 nA1 cA1] 30, .blk rc (bsA bs) 4]) (fun kv _ => 6 - (intOf kv).toNat)
      case atStart => exact ⟨0, rfl, by omega, X0.out⟩
      case round =>
        obtain ⟨i, rfl, hi6, X⟩ := hrel
        clear X0
        by_cases hi : i < 6
        · have X0 := Lib.hid X
          clear X
          go_wp2_with fail
          go_loopw [12] (fun kv wr => ∃ (j : Nat), kv = .int .i64 (j : Int) ∧ j ≤ 6 ∧ DrL w1 wr w.heap.size w.heap.size [.own t.cells [.slice A0 0 cA0, .slice A1 nA1 cA1] fp, .blk rn #[.slice A0 0 cA0, .slice A1 nA1 cA1] 30, .blk rc (bsA bs) 4]) (fun kv _ => 6 - (intOf kv).toNat)
          case atStart => exact ⟨0, rfl, by omega, X0.out⟩
          case round =>
            obtain ⟨j, rfl, hj6, X⟩ := hrel
            clear X0
            have HI := Lib.hid hi
            have hdi := Lib.hid (show decide ((i : Int) < 6) = true from decide_eq_true (by omega))
            clear hi hi6
            by_cases hj : j < 6
            · have hi := HI.out
              have hm1 : IntKind.i64.wrap (6 * (i : Int)) = 6 * (i : Int) := by rw [IntKind.wrap_i64]; omega
              have hm2 : IntKind.i64.wrap (6 * (i : Int) + (j : Int)) = 6 * (i : Int) + (j : Int) := by rw [IntKind.wrap_i64]; omega
              have hm5 : (6 * (i : Int) + (j : Int)).toNat = 6 * i + j := by omega
              have hm7 : 0 ≤ 6 * (i : Int) + (j : Int) := by omega
              have hm8 : 6 * (i : Int) + (j : Int) < 36 := by omega
              clear hi
              have f0 : wr.cell? ⟨rn, 0, none⟩ = some (.slice A0 0 cA0) := (X.sep.at_ 1 rfl).cell 0
              have f1 : wr.cell? ⟨rn, 1, none⟩ = some (.slice A1 nA1 cA1) := (X.sep.at_ 1 rfl).cell 1
              go_wp2_with fail
              refine (iPasses_any _ _ t (i : Int) (j : Int) _ _ (X.sep.own_ 0 rfl).rd (Nat.le_refl _) hsz).mono ?_
              rintro e w5 ⟨rfl, b⟩
              replace X := X.keep b
              clear b f0 f1
              rcases HG.out.passes HI.out hj with ⟨e, E⟩ | ⟨ne, E⟩
              · rw [E]
                clear E
                subst e
                have X1 := Lib.hid X
                clear X
                go_wp2
                go_roundw
                case rel =>
                  repeat apply Exists.intro
                  refine ⟨⟨i + 1, ?_, by omega, X1.out⟩, ?_⟩
                  rotate_left 1
                  · first | rfl | (rw [hdi.out]; done) | (rw [hdi.out]; rfl)
                  · go_num
                case measure => simp [intOf]; omega
              · rw [E]
                clear E
                have hne : ¬ ((i : Int) = (j : Int)) := by omega
                have hne2 : ((i : Int) != (j : Int)) = true := by rw [bne_iff_ne]; exact hne
                cases hb : bs.getD (6 * i + j) false
                · have f2 : w5.cell? ⟨rc, 6 * i + j, none⟩ = some (.bool false) := ((X.sep.at_ 2 rfl).cell (6 * i + j)).trans ((bsA_at (by have := HG.out.2.2.2.1; omega)).trans (by rw [hb]))
                  have X1 := Lib.hid X
                  clear X
                  go_wp2
                  go_roundw
                  case rel =>
                    repeat apply Exists.intro
                    refine ⟨⟨j + 1, ?_, by omega, X1.out⟩, ?_⟩
                    rotate_left 1
                    · first | rfl | (rw [hdi.out]; done) | (rw [hdi.out]; rfl)
                    · go_num
                  case measure => simp [intOf]; omega
                · have f2 : w5.cell? ⟨rc, 6 * i + j, none⟩ = some (.bool true) := ((X.sep.at_ 2 rfl).cell (6 * i + j)).trans ((bsA_at (by have := HG.out.2.2.2.1; omega)).trans (by rw [hb]))
                  have X1 := Lib.hid X
                  clear X
                  go_wp2
                  go_roundw
                  case rel =>
                    repeat apply Exists.intro
                    refine ⟨⟨j + 1, ?_, by omega, X1.out⟩, ?_⟩
                    rotate_left 1
                    · first | rfl | (rw [hdi.out]; done) | (rw [hdi.out]; rfl)
                    · go_num
                  case measure => simp [intOf]; omega
            · have X1 := Lib.hid X
              clear X
              go_wp2
              go_roundw
              case rel => exact ⟨i + 1, by go_num, by have := HI.out; omega, X1.out⟩
              case measure => have := HI.out; simp [intOf]; omega
        · have f0 : wr.cell? ⟨rn, 0, none⟩ = some (.slice A0 0 cA0) := (X.sep.at_ 1 rfl).cell 0
          have f1 : wr.cell? ⟨rn, 1, none⟩ = some (.slice A1 nA1 cA1) := (X.sep.at_ 1 rfl).cell 1
          go_wp2_with fail
          refine (iNetOk_any _ _ t _ _ (X.sep.own_ 0 rfl).rd (Nat.le_refl _) hsz).mono ?_
          rintro e w5 ⟨rfl, b⟩
          rw [HG.out.1]
          replace X := X.keep b
          clear b f0 f1
          have f2 : w5.cell? ⟨rn, 0, none⟩ = some (.slice A0 0 cA0) := (X.sep.at_ 1 rfl).cell 0
          have f3 : w5.cell? ⟨rn, 1, none⟩ = some (.slice A1 nA1 cA1) := (X.sep.at_ 1 rfl).cell 1
          have C := Lib.hid (B1.out.trans (grown_below X.grown B1.out.size (fun k hk => by injection hk with hk; omega)))
          clear X
          go_wp2
          go_ret
          exact ⟨rfl, C.out⟩

end Go.Proofs.Ytdcdcccdihhhcaa
