/-
  The law FnFullNet answers true at every slice of bytes, and writes nothing that was there (by program, wip/gen/gennett.py).
-/
import Derived.Test.YtdcdcccdihhhcaaNetK1
import Derived.Test.YtdcdcccdihhhcaaNetI4
import Derived.RegionTactic
import Derived.BigQuiet
import Derived.Deep.DeepCutAuto
namespace Go.Proofs.Ytdcdcccdihhhcaa
set_option maxRecDepth 100000
open Go.RowKit

set_option maxHeartbeats 12800000 in
theorem lawFullNet (A : Option Addr) (n c0 : Nat) (w : World) (h : BRow w w.heap.size A n) (hm : n ≤ maxLen) :
    Calls Try.prog 6 #[.slice A n c0] w fun e w' => e = .returned (.bool true) ∧ Below w.heap.size w w' := by
  unfold maxLen at hm
  by_cases hn : 4096 < n
  · clear h
    go_enter Try.func6, Try.ntmps6
    go_wp2_with fail
    refine (lbig_any A n c0 _).mono ?_
    rintro e w' ⟨rfl, rfl⟩
    rw [decide_eq_true hn]
    go_wp2
    go_ret
    exact ⟨rfl, Below.refl _ _⟩
  go_enter Try.func6, Try.ntmps6
  go_wp2_with fail
  refine (lbig_any A n c0 _).mono ?_
  rintro e w' ⟨rfl, rfl⟩
  rw [decide_eq_false hn]
  go_wp2_with fail
  refine (roll_any A n c0 _ h (by omega) _).mono ?_
  rintro e w1 ⟨rfl, cu, b1⟩
  have X := DrL.start cu
  have B1 := Lib.hid b1
  clear b1 cu h
  go_wp2_with fail
  refine (iNewNet_any _).mono ?_
  rintro e w2 ⟨rfl, b⟩
  replace X := X.keep b
  clear b
  replace X := X.with_ (X.sep.own0 (ow_zeroN _))
  replace X := X.boxAt (w2.heap.size) rfl #[.slice none 0 0, .slice none 0 0] 30
  go_wp2_with fail
  generalize w2.alloc (.cells #[.slice none 0 0, .slice none 0 0] 30) = w3 at *
  generalize w2.heap.size = rn at *
  refine (letter_any _ _ _ X.cur).mono ?_
  rintro e w4 ⟨x0, x1, xs, Am, nm, cm, hmo, rfl, cu, gr, o⟩
  obtain ⟨fp_tm, X'⟩ := X.drawHas cu gr o
  clear X; have X := X'; clear X' cu gr o
  replace X := X.boxAt (w4.heap.size) rfl #[.int .i64 x0, .int .i64 x1, .slice Am nm cm] 40
  go_wp2_with fail
  generalize w4.alloc (.cells #[.int .i64 x0, .int .i64 x1, .slice Am nm cm] 40) = w5 at *
  generalize w4.heap.size = rm at *
  have hln : xs.length = nm := (msg_open (d := ⟨x0, x1, xs⟩) (X.sep.own_ 1 rfl).rd).2.1
  have hnm : nm ≤ 1048577 := by have := msgOk_row hmo; simp only at this; omega
  clear hln
  have HMO := Lib.hid hmo
  clear hmo
  replace X := X.with_ (X.sep.pick 2 rfl)
  replace X := X.with_ (X.sep.pick 3 rfl)
  have X0 := Lib.hid X
  clear X
  go_loopw [6] (fun kv wr => ∃ (k : Nat) (A0 : Option Addr) (nA0 cA0 : Nat) (A1 : Option Addr) (nA1 cA1 : Nat) (fp : List Nat), kv = .int .i64 (k : Int) ∧ k ≤ 60 ∧ DrL w1 wr w.heap.size w.heap.size [.own ((full ⟨x0, x1, xs⟩ k).cells) [.slice A0 nA0 cA0, .slice A1 nA1 cA1] fp, .blk (rn) #[.slice A0 nA0 cA0, .slice A1 nA1 cA1] 30, .blk (rm) #[.int .i64 x0, .int .i64 x1, .slice Am nm cm] 40, .own (msgC ⟨x0, x1, xs⟩) [.int .i64 x0, .int .i64 x1, .slice Am nm cm] fp_tm]) (fun kv _ => 60 - (intOf kv).toNat)
  case atStart => exact ⟨0, _, _, _, _, _, _, _, rfl, by omega, X0.out⟩
  case round =>
    obtain ⟨k, A0, nA0, cA0, A1, nA1, cA1, fp, rfl, hk, X⟩ := hrel
    clear X0
    by_cases hlt : k < 60
    · have hw : IntKind.i64.wrap ((k : Int) + 1) = (k : Int) + 1 := by rw [IntKind.wrap_i64]; omega
      have f0 : wr.cell? ⟨rn, 0, none⟩ = some (.slice A0 nA0 cA0) := (X.sep.at_ 1 rfl).cell 0
      have f1 : wr.cell? ⟨rn, 1, none⟩ = some (.slice A1 nA1 cA1) := (X.sep.at_ 1 rfl).cell 1
      have f2 : wr.cell? ⟨rm, 0, none⟩ = some (.int .i64 x0) := (X.sep.at_ 2 rfl).cell 0
      have f3 : wr.cell? ⟨rm, 1, none⟩ = some (.int .i64 x1) := (X.sep.at_ 2 rfl).cell 1
      have f4 : wr.cell? ⟨rm, 2, none⟩ = some (.slice Am nm cm) := (X.sep.at_ 2 rfl).cell 2
      go_wp2_with fail
      refine (iSent_any _ _ (full ⟨x0, x1, xs⟩ k) x0 x1 Am nm cm xs _ (X.sep.own_ 0 rfl).rd (by have := full_sz (k := k) HMO.out (by omega); omega) (msg_open (d := ⟨x0, x1, xs⟩) (X.sep.own_ 3 rfl).rd).2 hnm).mono ?_
      rintro e w6 ⟨E0, nE0, cE0, E1, nE1, cE1, rfl, o, b⟩
      have E := sent_full (k := k) HMO.out hlt
      rw [show (sentM (full ⟨x0, x1, xs⟩ k) ⟨x0, x1, xs⟩).1 = full ⟨x0, x1, xs⟩ (k + 1) by rw [E]] at o
      rw [show (sentM (full ⟨x0, x1, xs⟩ k) ⟨x0, x1, xs⟩).2 = true by rw [E]]
      clear E
      obtain ⟨fp_tx, X'⟩ := X.has b o
      clear X; have X := X'; clear X' b o f0 f1 f2 f3 f4
      obtain rfl : k + 1 = nE0 := by have h1 := (net_len (X.sep.own_ 0 rfl).rd).1; rw [full_len] at h1; exact h1
      replace X := X.boxAt (w6.heap.size) rfl #[.slice E0 (k + 1) cE0, .slice E1 nE1 cE1] 30
      go_upto_region 10 with fail
      generalize w6.alloc (.cells #[.slice E0 (k + 1) cE0, .slice E1 nE1 cE1] 30) = w7 at *
      generalize w6.heap.size = rx at *
      have f5 : w7.cell? ⟨rx, 0, none⟩ = some (.slice E0 (k + 1) cE0) := (X.sep.at_ 0 rfl).cell 0
      have f6 : w7.cell? ⟨rx, 1, none⟩ = some (.slice E1 nE1 cE1) := (X.sep.at_ 0 rfl).cell 1
      have f7 : w7.cell? ⟨rn, 0, none⟩ = some (.slice A0 nA0 cA0) := (X.sep.at_ 3 rfl).cell 0
      have f8 := (X.sep.at_ 3 rfl).free 0
      have f9 : w7.cell? ⟨rn, 1, none⟩ = some (.slice A1 nA1 cA1) := (X.sep.at_ 3 rfl).cell 1
      have f10 := (X.sep.at_ 3 rfl).free 1
      replace X := X.put 3 rfl 0 (.slice E0 (k + 1) cE0)
      replace X := X.put 3 rfl 1 (.slice E1 nE1 cE1)
      replace X : DrL w1 _ _ _ [.blk (rx) #[.slice E0 (k + 1) cE0, .slice E1 nE1 cE1] 30, _, _, .blk (rn) #[.slice E0 (k + 1) cE0, .slice E1 nE1 cE1] 30, .blk (rm) #[.int .i64 x0, .int .i64 x1, .slice Am nm cm] 40, _] := X
      replace X := X.with_ (X.sep.pick 3 rfl)
      replace X := X.with_ (X.sep.pick 2 rfl)
      replace X := X.with_ (X.sep.sub (.cons_cons _ (.cons_cons _ (.cons _ (.cons _ (.cons_cons _ (.cons_cons _ (List.nil_sublist _))))))))
      have X1 := Lib.hid X
      clear X
      go_wp2
      go_roundw
      case rel => exact ⟨k + 1, _, _, _, _, _, _, _, by go_num, by omega, X1.out⟩
      case measure => simp [intOf]; omega
    · obtain rfl : k = 60 := by omega
      clear hlt hk
      have XH := Lib.hid X
      have f0 : wr.cell? ⟨rn, 0, none⟩ = some (.slice A0 nA0 cA0) := (X.sep.at_ 1 rfl).cell 0
      have f1 : wr.cell? ⟨rn, 1, none⟩ = some (.slice A1 nA1 cA1) := (X.sep.at_ 1 rfl).cell 1
      clear X
      go_wp2_with fail
      go_cut [9, 10] (fun s1 s2 wx => ∃ (qQ : Nat) (Q0 : Option Addr) (nQ0 cQ0 : Nat) (Q1 : Option Addr) (nQ1 cQ1 : Nat) (fp_Q : List Nat), s1 = .pointer (some ⟨qQ, 0, none⟩) ∧ s2 = .bool false ∧ DrL w1 wx w.heap.size w.heap.size [.blk (qQ) #[.slice Q0 nQ0 cQ0, .slice Q1 nQ1 cQ1] 30, .own ((full ⟨x0, x1, xs⟩ 60).cells) [.slice Q0 nQ0 cQ0, .slice Q1 nQ1 cQ1] fp_Q, .own ((full ⟨x0, x1, xs⟩ 60).cells) [.slice A0 nA0 cA0, .slice A1 nA1 cA1] fp, .blk (rn) #[.slice A0 nA0 cA0, .slice A1 nA1 cA1] 30, .blk (rm) #[.int .i64 x0, .int .i64 x1, .slice Am nm cm] 40, .own (msgC ⟨x0, x1, xs⟩) [.int .i64 x0, .int .i64 x1, .slice Am nm cm] fp_tm])
      case first =>
        have X := XH.out
        refine wp_region_L (fun v => v.cell? ⟨rn, 0, none⟩ = some (.slice A0 nA0 cA0) ∧ v.cell? ⟨rn, 1, none⟩ = some (.slice A1 nA1 cA1)) 9 (by kernel_rfl) ?_
        clear f0 f1 XH
        replace X := X.drew
        generalize wr.drew = w6 at *
        have HF : w6.cell? ⟨rn, 0, none⟩ = some (.slice A0 nA0 cA0) ∧ w6.cell? ⟨rn, 1, none⟩ = some (.slice A1 nA1 cA1) := ⟨(X.sep.at_ 1 rfl).cell 0, (X.sep.at_ 1 rfl).cell 1⟩
        refine wpAnyL_take (i := 0) (v := ?_) rfl rfl (by kernel_rfl) (by kernel_rfl) (by kernel_rfl) (by kernel_rfl) (by kernel_rfl) (fun _ _ _ h => h) HF (Or.inl ⟨by rfl, ?_⟩) ?_
        rotate_left 1
        · (rintro v ⟨a0, a1⟩; go_simp; try with_reducible rfl)
        try simp only [Act.put]
        refine wpAnyL_pure (i := 1) (v := ?_) rfl rfl (by kernel_rfl) (by kernel_rfl) (by kernel_rfl) (fun _ _ _ h => h) HF (Or.inl ⟨by rfl, ?_⟩) ?_
        rotate_left 1
        · (intro v _; go_simp; try with_reducible rfl)
        try simp only [Act.put]
        refine wpAnyL_two (i := 2) (k := 7) (by kernel_rfl) rfl rfl rfl rfl ?_ ?_
        · intro K hK
          go_simp
          refine (letter_any _ _ _ X.cur).mono ?_
          rintro e w7 ⟨y0, y1, ys, Ay, ny, cy, hmy, rfl, cu, gr, o⟩
          obtain ⟨fp_ty, X'⟩ := X.drawHas cu gr o
          clear X; have X := X'; clear X' cu gr o
          clear HF
          have HF : w7.cell? ⟨rn, 0, none⟩ = some (.slice A0 nA0 cA0) ∧ w7.cell? ⟨rn, 1, none⟩ = some (.slice A1 nA1 cA1) := ⟨(X.sep.at_ 2 rfl).cell 0, (X.sep.at_ 2 rfl).cell 1⟩
          refine hK _ _ (fun _ => HF) ?_
          clear hK K
          try simp only [Act.put]
          refine wpAnyL_two (i := 3) (k := 7) (by kernel_rfl) rfl rfl rfl rfl ?_ ?_
          · have hyn : ys.length = ny := (msg_open (d := ⟨y0, y1, ys⟩) (X.sep.own_ 0 rfl).rd).2.1
            have hny : ny ≤ 1048577 := by have := msgOk_row hmy; simp only at this; omega
            clear hyn
            have E := sent_over HMO.out hmy
            intro K hK
            go_simp
            refine (iSent_any _ _ (full ⟨x0, x1, xs⟩ 60) y0 y1 Ay ny cy ys _ (X.sep.own_ 1 rfl).rd (by have := full_sz (k := 60) HMO.out (by omega); omega) (msg_open (d := ⟨y0, y1, ys⟩) (X.sep.own_ 0 rfl).rd).2 hny).mono ?_
            rintro e w8 ⟨Q0, nQ0, cQ0, Q1, nQ1, cQ1, rfl, o, b⟩
            rw [show (sentM (full ⟨x0, x1, xs⟩ 60) ⟨y0, y1, ys⟩).1 = full ⟨x0, x1, xs⟩ 60 by rw [E]] at o
            rw [show (sentM (full ⟨x0, x1, xs⟩ 60) ⟨y0, y1, ys⟩).2 = false by rw [E]]
            clear E
            obtain ⟨fp_T, X'⟩ := X.has b o
            clear X; have X := X'; clear X' b o
            clear HF
            have HF : w8.cell? ⟨rn, 0, none⟩ = some (.slice A0 nA0 cA0) ∧ w8.cell? ⟨rn, 1, none⟩ = some (.slice A1 nA1 cA1) := ⟨(X.sep.at_ 3 rfl).cell 0, (X.sep.at_ 3 rfl).cell 1⟩
            refine hK _ _ (fun _ => HF) ?_
            clear hK K
            try simp only [Act.put]
            refine wpAnyL_pure (i := 4) (v := ?_) rfl rfl (by kernel_rfl) (by kernel_rfl) (by kernel_rfl) (fun _ _ _ h => h) HF (Or.inl ⟨by rfl, ?_⟩) ?_
            rotate_left 1
            · (intro v _; go_simp; try with_reducible rfl)
            try simp only [Act.put]
            refine wpAnyL_pure (i := 5) (v := ?_) rfl rfl (by kernel_rfl) (by kernel_rfl) (by kernel_rfl) (fun _ _ _ h => h) HF (Or.inl ⟨by rfl, ?_⟩) ?_
            rotate_left 1
            · (intro v _; go_simp; try with_reducible rfl)
            try simp only [Act.put]
            refine wpAnyL_pure (i := 6) (v := ?_) rfl rfl (by kernel_rfl) (by kernel_rfl) (by kernel_rfl) (fun _ _ _ h => h) HF (Or.inl ⟨by rfl, ?_⟩) ?_
            rotate_left 1
            · (intro v _; go_simp; try with_reducible rfl)
            try simp only [Act.put]
            refine wpAnyL_step (i := 7) (by kernel_rfl) rfl rfl ?_
            intro K hK
            go_simp
            replace X := X.boxAt (w8.heap.size) rfl #[.slice none 0 0, .slice none 0 0] 30
            clear HF
            have HF : (w8.alloc (.cells #[.slice none 0 0, .slice none 0 0] 30)).cell? ⟨rn, 0, none⟩ = some (.slice A0 nA0 cA0) ∧ (w8.alloc (.cells #[.slice none 0 0, .slice none 0 0] 30)).cell? ⟨rn, 1, none⟩ = some (.slice A1 nA1 cA1) := ⟨(X.sep.at_ 4 rfl).cell 0, (X.sep.at_ 4 rfl).cell 1⟩
            refine hK _ _ (fun _ => HF) ?_
            clear hK K
            try simp only [Act.put]
            generalize hw : w8.alloc (.cells #[.slice none 0 0, .slice none 0 0] 30) = w9 at *
            clear hw
            have f2 : w9.cell? ⟨w8.heap.size, 0, none⟩ = some (.slice none 0 0) := (X.sep.at_ 0 rfl).cell 0
            have f3 := (X.sep.at_ 0 rfl).free 0
            have f4 : w9.cell? ⟨w8.heap.size, 1, none⟩ = some (.slice none 0 0) := (X.sep.at_ 0 rfl).cell 1
            have f5 := (X.sep.at_ 0 rfl).free 1
            refine wpAnyL_step (i := 8) (by kernel_rfl) rfl rfl ?_
            intro K hK
            go_simp
            replace X := X.put 0 rfl 0 (.slice Q0 nQ0 cQ0)
            replace X := X.put 0 rfl 1 (.slice Q1 nQ1 cQ1)
            replace X : DrL w1 _ _ _ [.blk (w8.heap.size) #[.slice Q0 nQ0 cQ0, .slice Q1 nQ1 cQ1] 30, _, _, _, .blk (rn) #[.slice A0 nA0 cA0, .slice A1 nA1 cA1] 30, .blk (rm) #[.int .i64 x0, .int .i64 x1, .slice Am nm cm] 40, _] := X
            clear HF
            have HF : ((w9.setCell ⟨w8.heap.size, 0, none⟩ (.slice Q0 nQ0 cQ0)).setCell ⟨w8.heap.size, 1, none⟩ (.slice Q1 nQ1 cQ1)).cell? ⟨rn, 0, none⟩ = some (.slice A0 nA0 cA0) ∧ ((w9.setCell ⟨w8.heap.size, 0, none⟩ (.slice Q0 nQ0 cQ0)).setCell ⟨w8.heap.size, 1, none⟩ (.slice Q1 nQ1 cQ1)).cell? ⟨rn, 1, none⟩ = some (.slice A1 nA1 cA1) := ⟨(X.sep.at_ 4 rfl).cell 0, (X.sep.at_ 4 rfl).cell 1⟩
            refine hK _ _ (fun _ => HF) ?_
            clear hK K
            try simp only [Act.put]
            generalize (w9.setCell ⟨w8.heap.size, 0, none⟩ (.slice Q0 nQ0 cQ0)).setCell ⟨w8.heap.size, 1, none⟩ (.slice Q1 nQ1 cQ1) = w10 at *
            clear f2 f3 f4 f5
            refine wpAnyL_step (i := 9) (by kernel_rfl) rfl rfl ?_
            intro K hK
            go_simp
            refine hK _ _ (fun h => nomatch (show true = false from h)) ?_
            clear hK K
            try simp only [Act.put]
            refine wpAnyL_done (by kernel_rfl) ?_ _
            replace X := X.with_ (X.sep.pick 1 rfl)
            replace X := X.with_ (X.sep.pick 1 rfl)
            replace X := X.with_ (X.sep.sub (.cons_cons _ (.cons_cons _ (.cons _ (.cons_cons _ (.cons_cons _ (.cons_cons _ (.cons_cons _ (List.nil_sublist _)))))))))
            go_wp2_with fail
            go_meet
            exact ⟨_, _, _, _, _, _, _, _, rfl, rfl, X⟩
          · intro K hK
            go_simp
            replace X := X.boxAt (w7.heap.size) rfl #[.slice none 0 0, .slice none 0 0] 30
            clear HF
            have HF : (w7.alloc (.cells #[.slice none 0 0, .slice none 0 0] 30)).cell? ⟨rn, 0, none⟩ = some (.slice A0 nA0 cA0) ∧ (w7.alloc (.cells #[.slice none 0 0, .slice none 0 0] 30)).cell? ⟨rn, 1, none⟩ = some (.slice A1 nA1 cA1) := ⟨(X.sep.at_ 3 rfl).cell 0, (X.sep.at_ 3 rfl).cell 1⟩
            refine hK _ _ (fun _ => HF) ?_
            clear hK K
            try simp only [Act.put]
            generalize hw : w7.alloc (.cells #[.slice none 0 0, .slice none 0 0] 30) = w8 at *
            clear hw
            have hyn : ys.length = ny := (msg_open (d := ⟨y0, y1, ys⟩) (X.sep.own_ 1 rfl).rd).2.1
            have hny : ny ≤ 1048577 := by have := msgOk_row hmy; simp only at this; omega
            clear hyn
            have E := sent_over HMO.out hmy
            refine wpAnyL_step (i := 3) (by kernel_rfl) rfl rfl ?_
            intro K hK
            go_simp
            refine (iSent_any _ _ (full ⟨x0, x1, xs⟩ 60) y0 y1 Ay ny cy ys _ (X.sep.own_ 2 rfl).rd (by have := full_sz (k := 60) HMO.out (by omega); omega) (msg_open (d := ⟨y0, y1, ys⟩) (X.sep.own_ 1 rfl).rd).2 hny).mono ?_
            rintro e w9 ⟨Q0, nQ0, cQ0, Q1, nQ1, cQ1, rfl, o, b⟩
            rw [show (sentM (full ⟨x0, x1, xs⟩ 60) ⟨y0, y1, ys⟩).1 = full ⟨x0, x1, xs⟩ 60 by rw [E]] at o
            rw [show (sentM (full ⟨x0, x1, xs⟩ 60) ⟨y0, y1, ys⟩).2 = false by rw [E]]
            clear E
            obtain ⟨fp_T, X'⟩ := X.has b o
            clear X; have X := X'; clear X' b o
            clear HF
            have HF : w9.cell? ⟨rn, 0, none⟩ = some (.slice A0 nA0 cA0) ∧ w9.cell? ⟨rn, 1, none⟩ = some (.slice A1 nA1 cA1) := ⟨(X.sep.at_ 4 rfl).cell 0, (X.sep.at_ 4 rfl).cell 1⟩
            refine hK _ _ (fun _ => HF) ?_
            clear hK K
            try simp only [Act.put]
            refine wpAnyL_pure (i := 4) (v := ?_) rfl rfl (by kernel_rfl) (by kernel_rfl) (by kernel_rfl) (fun _ _ _ h => h) HF (Or.inl ⟨by rfl, ?_⟩) ?_
            rotate_left 1
            · (intro v _; go_simp; try with_reducible rfl)
            try simp only [Act.put]
            refine wpAnyL_pure (i := 5) (v := ?_) rfl rfl (by kernel_rfl) (by kernel_rfl) (by kernel_rfl) (fun _ _ _ h => h) HF (Or.inl ⟨by rfl, ?_⟩) ?_
            rotate_left 1
            · (intro v _; go_simp; try with_reducible rfl)
            try simp only [Act.put]
            refine wpAnyL_pure (i := 6) (v := ?_) rfl rfl (by kernel_rfl) (by kernel_rfl) (by kernel_rfl) (fun _ _ _ h => h) HF (Or.inl ⟨by rfl, ?_⟩) ?_
            rotate_left 1
            · (intro v _; go_simp; try with_reducible rfl)
            try simp only [Act.put]
            have f2 : w9.cell? ⟨w7.heap.size, 0, none⟩ = some (.slice none 0 0) := (X.sep.at_ 1 rfl).cell 0
            have f3 := (X.sep.at_ 1 rfl).free 0
            have f4 : w9.cell? ⟨w7.heap.size, 1, none⟩ = some (.slice none 0 0) := (X.sep.at_ 1 rfl).cell 1
            have f5 := (X.sep.at_ 1 rfl).free 1
            refine wpAnyL_step (i := 8) (by kernel_rfl) rfl rfl ?_
            intro K hK
            go_simp
            replace X := X.put 1 rfl 0 (.slice Q0 nQ0 cQ0)
            replace X := X.put 1 rfl 1 (.slice Q1 nQ1 cQ1)
            replace X : DrL w1 _ _ _ [_, .blk (w7.heap.size) #[.slice Q0 nQ0 cQ0, .slice Q1 nQ1 cQ1] 30, _, _, .blk (rn) #[.slice A0 nA0 cA0, .slice A1 nA1 cA1] 30, .blk (rm) #[.int .i64 x0, .int .i64 x1, .slice Am nm cm] 40, _] := X
            clear HF
            have HF : ((w9.setCell ⟨w7.heap.size, 0, none⟩ (.slice Q0 nQ0 cQ0)).setCell ⟨w7.heap.size, 1, none⟩ (.slice Q1 nQ1 cQ1)).cell? ⟨rn, 0, none⟩ = some (.slice A0 nA0 cA0) ∧ ((w9.setCell ⟨w7.heap.size, 0, none⟩ (.slice Q0 nQ0 cQ0)).setCell ⟨w7.heap.size, 1, none⟩ (.slice Q1 nQ1 cQ1)).cell? ⟨rn, 1, none⟩ = some (.slice A1 nA1 cA1) := ⟨(X.sep.at_ 4 rfl).cell 0, (X.sep.at_ 4 rfl).cell 1⟩
            refine hK _ _ (fun _ => HF) ?_
            clear hK K
            try simp only [Act.put]
            generalize (w9.setCell ⟨w7.heap.size, 0, none⟩ (.slice Q0 nQ0 cQ0)).setCell ⟨w7.heap.size, 1, none⟩ (.slice Q1 nQ1 cQ1) = w10 at *
            clear f2 f3 f4 f5
            refine wpAnyL_step (i := 9) (by kernel_rfl) rfl rfl ?_
            intro K hK
            go_simp
            refine hK _ _ (fun h => nomatch (show true = false from h)) ?_
            clear hK K
            try simp only [Act.put]
            refine wpAnyL_done (by kernel_rfl) ?_ _
            replace X := X.with_ (X.sep.pick 0 rfl)
            replace X := X.with_ (X.sep.pick 1 rfl)
            replace X := X.with_ (X.sep.sub (.cons_cons _ (.cons_cons _ (.cons _ (.cons_cons _ (.cons_cons _ (.cons_cons _ (.cons_cons _ (List.nil_sublist _)))))))))
            go_wp2_with fail
            go_meet
            exact ⟨_, _, _, _, _, _, _, _, rfl, rfl, X⟩
        · intro K hK
          go_simp
          replace X := X.boxAt (w6.heap.size) rfl #[.slice none 0 0, .slice none 0 0] 30
          clear HF
          have HF : (w6.alloc (.cells #[.slice none 0 0, .slice none 0 0] 30)).cell? ⟨rn, 0, none⟩ = some (.slice A0 nA0 cA0) ∧ (w6.alloc (.cells #[.slice none 0 0, .slice none 0 0] 30)).cell? ⟨rn, 1, none⟩ = some (.slice A1 nA1 cA1) := ⟨(X.sep.at_ 2 rfl).cell 0, (X.sep.at_ 2 rfl).cell 1⟩
          refine hK _ _ (fun _ => HF) ?_
          clear hK K
          try simp only [Act.put]
          generalize hw : w6.alloc (.cells #[.slice none 0 0, .slice none 0 0] 30) = w7 at *
          clear hw
          refine wpAnyL_step (i := 2) (by kernel_rfl) rfl rfl ?_
          intro K hK
          go_simp
          refine (letter_any _ _ _ X.cur).mono ?_
          rintro e w8 ⟨y0, y1, ys, Ay, ny, cy, hmy, rfl, cu, gr, o⟩
          obtain ⟨fp_ty, X'⟩ := X.drawHas cu gr o
          clear X; have X := X'; clear X' cu gr o
          clear HF
          have HF : w8.cell? ⟨rn, 0, none⟩ = some (.slice A0 nA0 cA0) ∧ w8.cell? ⟨rn, 1, none⟩ = some (.slice A1 nA1 cA1) := ⟨(X.sep.at_ 3 rfl).cell 0, (X.sep.at_ 3 rfl).cell 1⟩
          refine hK _ _ (fun _ => HF) ?_
          clear hK K
          try simp only [Act.put]
          have hyn : ys.length = ny := (msg_open (d := ⟨y0, y1, ys⟩) (X.sep.own_ 0 rfl).rd).2.1
          have hny : ny ≤ 1048577 := by have := msgOk_row hmy; simp only at this; omega
          clear hyn
          have E := sent_over HMO.out hmy
          refine wpAnyL_step (i := 3) (by kernel_rfl) rfl rfl ?_
          intro K hK
          go_simp
          refine (iSent_any _ _ (full ⟨x0, x1, xs⟩ 60) y0 y1 Ay ny cy ys _ (X.sep.own_ 2 rfl).rd (by have := full_sz (k := 60) HMO.out (by omega); omega) (msg_open (d := ⟨y0, y1, ys⟩) (X.sep.own_ 0 rfl).rd).2 hny).mono ?_
          rintro e w9 ⟨Q0, nQ0, cQ0, Q1, nQ1, cQ1, rfl, o, b⟩
          rw [show (sentM (full ⟨x0, x1, xs⟩ 60) ⟨y0, y1, ys⟩).1 = full ⟨x0, x1, xs⟩ 60 by rw [E]] at o
          rw [show (sentM (full ⟨x0, x1, xs⟩ 60) ⟨y0, y1, ys⟩).2 = false by rw [E]]
          clear E
          obtain ⟨fp_T, X'⟩ := X.has b o
          clear X; have X := X'; clear X' b o
          clear HF
          have HF : w9.cell? ⟨rn, 0, none⟩ = some (.slice A0 nA0 cA0) ∧ w9.cell? ⟨rn, 1, none⟩ = some (.slice A1 nA1 cA1) := ⟨(X.sep.at_ 4 rfl).cell 0, (X.sep.at_ 4 rfl).cell 1⟩
          refine hK _ _ (fun _ => HF) ?_
          clear hK K
          try simp only [Act.put]
          refine wpAnyL_pure (i := 4) (v := ?_) rfl rfl (by kernel_rfl) (by kernel_rfl) (by kernel_rfl) (fun _ _ _ h => h) HF (Or.inl ⟨by rfl, ?_⟩) ?_
          rotate_left 1
          · (intro v _; go_simp; try with_reducible rfl)
          try simp only [Act.put]
          refine wpAnyL_pure (i := 5) (v := ?_) rfl rfl (by kernel_rfl) (by kernel_rfl) (by kernel_rfl) (fun _ _ _ h => h) HF (Or.inl ⟨by rfl, ?_⟩) ?_
          rotate_left 1
          · (intro v _; go_simp; try with_reducible rfl)
          try simp only [Act.put]
          refine wpAnyL_pure (i := 6) (v := ?_) rfl rfl (by kernel_rfl) (by kernel_rfl) (by kernel_rfl) (fun _ _ _ h => h) HF (Or.inl ⟨by rfl, ?_⟩) ?_
          rotate_left 1
          · (intro v _; go_simp; try with_reducible rfl)
          try simp only [Act.put]
          have f2 : w9.cell? ⟨w6.heap.size, 0, none⟩ = some (.slice none 0 0) := (X.sep.at_ 2 rfl).cell 0
          have f3 := (X.sep.at_ 2 rfl).free 0
          have f4 : w9.cell? ⟨w6.heap.size, 1, none⟩ = some (.slice none 0 0) := (X.sep.at_ 2 rfl).cell 1
          have f5 := (X.sep.at_ 2 rfl).free 1
          refine wpAnyL_step (i := 8) (by kernel_rfl) rfl rfl ?_
          intro K hK
          go_simp
          replace X := X.put 2 rfl 0 (.slice Q0 nQ0 cQ0)
          replace X := X.put 2 rfl 1 (.slice Q1 nQ1 cQ1)
          replace X : DrL w1 _ _ _ [_, _, .blk (w6.heap.size) #[.slice Q0 nQ0 cQ0, .slice Q1 nQ1 cQ1] 30, _, .blk (rn) #[.slice A0 nA0 cA0, .slice A1 nA1 cA1] 30, .blk (rm) #[.int .i64 x0, .int .i64 x1, .slice Am nm cm] 40, _] := X
          clear HF
          have HF : ((w9.setCell ⟨w6.heap.size, 0, none⟩ (.slice Q0 nQ0 cQ0)).setCell ⟨w6.heap.size, 1, none⟩ (.slice Q1 nQ1 cQ1)).cell? ⟨rn, 0, none⟩ = some (.slice A0 nA0 cA0) ∧ ((w9.setCell ⟨w6.heap.size, 0, none⟩ (.slice Q0 nQ0 cQ0)).setCell ⟨w6.heap.size, 1, none⟩ (.slice Q1 nQ1 cQ1)).cell? ⟨rn, 1, none⟩ = some (.slice A1 nA1 cA1) := ⟨(X.sep.at_ 4 rfl).cell 0, (X.sep.at_ 4 rfl).cell 1⟩
          refine hK _ _ (fun _ => HF) ?_
          clear hK K
          try simp only [Act.put]
          generalize (w9.setCell ⟨w6.heap.size, 0, none⟩ (.slice Q0 nQ0 cQ0)).setCell ⟨w6.heap.size, 1, none⟩ (.slice Q1 nQ1 cQ1) = w10 at *
          clear f2 f3 f4 f5
          refine wpAnyL_step (i := 9) (by kernel_rfl) rfl rfl ?_
          intro K hK
          go_simp
          refine hK _ _ (fun h => nomatch (show true = false from h)) ?_
          clear hK K
          try simp only [Act.put]
          refine wpAnyL_done (by kernel_rfl) ?_ _
          replace X := X.with_ (X.sep.pick 0 rfl)
          replace X := X.with_ (X.sep.pick 2 rfl)
          replace X := X.with_ (X.sep.sub (.cons_cons _ (.cons_cons _ (.cons _ (.cons_cons _ (.cons_cons _ (.cons_cons _ (.cons_cons _ (List.nil_sublist _)))))))))
          go_wp2_with fail
          go_meet
          exact ⟨_, _, _, _, _, _, _, _, rfl, rfl, X⟩
      obtain ⟨qQ, Q0, nQ0, cQ0, Q1, nQ1, cQ1, fp_Q, rfl, rfl, X⟩ := hcut
      clear XH f0 f1
      generalize wc = w6 at *
      have XH := Lib.hid X
      have f2 : w6.cell? ⟨rn, 0, none⟩ = some (.slice A0 nA0 cA0) := (X.sep.at_ 3 rfl).cell 0
      have f3 : w6.cell? ⟨rn, 1, none⟩ = some (.slice A1 nA1 cA1) := (X.sep.at_ 3 rfl).cell 1
      clear X
      go_wp2_with fail
      go_cut [11, 12] (fun s1 s2 wx => ∃ (qR : Nat) (R0 : Option Addr) (nR0 cR0 : Nat) (R1 : Option Addr) (nR1 cR1 : Nat) (fp_R : List Nat), s1 = .pointer (some ⟨qR, 0, none⟩) ∧ s2 = .bool false ∧ DrL w1 wx w.heap.size w.heap.size [.blk (qR) #[.slice R0 nR0 cR0, .slice R1 nR1 cR1] 30, .own ((full ⟨x0, x1, xs⟩ 60).cells) [.slice R0 nR0 cR0, .slice R1 nR1 cR1] fp_R, .blk (qQ) #[.slice Q0 nQ0 cQ0, .slice Q1 nQ1 cQ1] 30, .own ((full ⟨x0, x1, xs⟩ 60).cells) [.slice Q0 nQ0 cQ0, .slice Q1 nQ1 cQ1] fp_Q, .own ((full ⟨x0, x1, xs⟩ 60).cells) [.slice A0 nA0 cA0, .slice A1 nA1 cA1] fp, .blk (rn) #[.slice A0 nA0 cA0, .slice A1 nA1 cA1] 30, .blk (rm) #[.int .i64 x0, .int .i64 x1, .slice Am nm cm] 40, .own (msgC ⟨x0, x1, xs⟩) [.int .i64 x0, .int .i64 x1, .slice Am nm cm] fp_tm])
      case first =>
        have X := XH.out
        refine wp_region_L (fun v => v.cell? ⟨rn, 0, none⟩ = some (.slice A0 nA0 cA0) ∧ v.cell? ⟨rn, 1, none⟩ = some (.slice A1 nA1 cA1)) 9 (by kernel_rfl) ?_
        clear f2 f3 XH
        replace X := X.drew
        generalize w6.drew = w7 at *
        have HF : w7.cell? ⟨rn, 0, none⟩ = some (.slice A0 nA0 cA0) ∧ w7.cell? ⟨rn, 1, none⟩ = some (.slice A1 nA1 cA1) := ⟨(X.sep.at_ 3 rfl).cell 0, (X.sep.at_ 3 rfl).cell 1⟩
        refine wpAnyL_take (i := 0) (v := ?_) rfl rfl (by kernel_rfl) (by kernel_rfl) (by kernel_rfl) (by kernel_rfl) (by kernel_rfl) (fun _ _ _ h => h) HF (Or.inl ⟨by rfl, ?_⟩) ?_
        rotate_left 1
        · (rintro v ⟨a0, a1⟩; go_simp; try with_reducible rfl)
        try simp only [Act.put]
        refine wpAnyL_pure (i := 1) (v := ?_) rfl rfl (by kernel_rfl) (by kernel_rfl) (by kernel_rfl) (fun _ _ _ h => h) HF (Or.inl ⟨by rfl, ?_⟩) ?_
        rotate_left 1
        · (intro v _; go_simp; try with_reducible rfl)
        try simp only [Act.put]
        refine wpAnyL_two (i := 2) (k := 7) (by kernel_rfl) rfl rfl rfl rfl ?_ ?_
        · intro K hK
          go_simp
          refine (lbelow_any _ _ _ X.cur 60 (by decide)).mono ?_
          rintro e w8 ⟨v, hv, rfl, cu, gr⟩
          replace X := X.draw cu gr
          clear cu gr
          clear HF
          have HF : w8.cell? ⟨rn, 0, none⟩ = some (.slice A0 nA0 cA0) ∧ w8.cell? ⟨rn, 1, none⟩ = some (.slice A1 nA1 cA1) := ⟨(X.sep.at_ 3 rfl).cell 0, (X.sep.at_ 3 rfl).cell 1⟩
          refine hK _ _ (fun _ => HF) ?_
          clear hK K
          try simp only [Act.put]
          refine wpAnyL_two (i := 3) (k := 7) (by kernel_rfl) rfl rfl rfl rfl ?_ ?_
          · have E := doubled_over HMO.out hv.1 hv.2
            intro K hK
            go_simp
            refine (iDoubled_any _ _ (full ⟨x0, x1, xs⟩ 60) v _ (X.sep.own_ 2 rfl).rd (by have := full_sz (k := 60) HMO.out (by omega); omega)).mono ?_
            rintro e w9 ⟨R0, nR0, cR0, R1, nR1, cR1, rfl, o, b⟩
            rw [show (doubledM (full ⟨x0, x1, xs⟩ 60) v).1 = full ⟨x0, x1, xs⟩ 60 by rw [E]] at o
            rw [show (doubledM (full ⟨x0, x1, xs⟩ 60) v).2 = false by rw [E]]
            clear E
            obtain ⟨fp_T, X'⟩ := X.has b o
            clear X; have X := X'; clear X' b o
            clear HF
            have HF : w9.cell? ⟨rn, 0, none⟩ = some (.slice A0 nA0 cA0) ∧ w9.cell? ⟨rn, 1, none⟩ = some (.slice A1 nA1 cA1) := ⟨(X.sep.at_ 4 rfl).cell 0, (X.sep.at_ 4 rfl).cell 1⟩
            refine hK _ _ (fun _ => HF) ?_
            clear hK K
            try simp only [Act.put]
            refine wpAnyL_pure (i := 4) (v := ?_) rfl rfl (by kernel_rfl) (by kernel_rfl) (by kernel_rfl) (fun _ _ _ h => h) HF (Or.inl ⟨by rfl, ?_⟩) ?_
            rotate_left 1
            · (intro v _; go_simp; try with_reducible rfl)
            try simp only [Act.put]
            refine wpAnyL_pure (i := 5) (v := ?_) rfl rfl (by kernel_rfl) (by kernel_rfl) (by kernel_rfl) (fun _ _ _ h => h) HF (Or.inl ⟨by rfl, ?_⟩) ?_
            rotate_left 1
            · (intro v _; go_simp; try with_reducible rfl)
            try simp only [Act.put]
            refine wpAnyL_pure (i := 6) (v := ?_) rfl rfl (by kernel_rfl) (by kernel_rfl) (by kernel_rfl) (fun _ _ _ h => h) HF (Or.inl ⟨by rfl, ?_⟩) ?_
            rotate_left 1
            · (intro v _; go_simp; try with_reducible rfl)
            try simp only [Act.put]
            refine wpAnyL_step (i := 7) (by kernel_rfl) rfl rfl ?_
            intro K hK
            go_simp
            replace X := X.boxAt (w9.heap.size) rfl #[.slice none 0 0, .slice none 0 0] 30
            clear HF
            have HF : (w9.alloc (.cells #[.slice none 0 0, .slice none 0 0] 30)).cell? ⟨rn, 0, none⟩ = some (.slice A0 nA0 cA0) ∧ (w9.alloc (.cells #[.slice none 0 0, .slice none 0 0] 30)).cell? ⟨rn, 1, none⟩ = some (.slice A1 nA1 cA1) := ⟨(X.sep.at_ 5 rfl).cell 0, (X.sep.at_ 5 rfl).cell 1⟩
            refine hK _ _ (fun _ => HF) ?_
            clear hK K
            try simp only [Act.put]
            generalize hw : w9.alloc (.cells #[.slice none 0 0, .slice none 0 0] 30) = w10 at *
            clear hw
            have f4 : w10.cell? ⟨w9.heap.size, 0, none⟩ = some (.slice none 0 0) := (X.sep.at_ 0 rfl).cell 0
            have f5 := (X.sep.at_ 0 rfl).free 0
            have f6 : w10.cell? ⟨w9.heap.size, 1, none⟩ = some (.slice none 0 0) := (X.sep.at_ 0 rfl).cell 1
            have f7 := (X.sep.at_ 0 rfl).free 1
            refine wpAnyL_step (i := 8) (by kernel_rfl) rfl rfl ?_
            intro K hK
            go_simp
            replace X := X.put 0 rfl 0 (.slice R0 nR0 cR0)
            replace X := X.put 0 rfl 1 (.slice R1 nR1 cR1)
            replace X : DrL w1 _ _ _ [.blk (w9.heap.size) #[.slice R0 nR0 cR0, .slice R1 nR1 cR1] 30, _, .blk (qQ) #[.slice Q0 nQ0 cQ0, .slice Q1 nQ1 cQ1] 30, _, _, .blk (rn) #[.slice A0 nA0 cA0, .slice A1 nA1 cA1] 30, .blk (rm) #[.int .i64 x0, .int .i64 x1, .slice Am nm cm] 40, _] := X
            clear HF
            have HF : ((w10.setCell ⟨w9.heap.size, 0, none⟩ (.slice R0 nR0 cR0)).setCell ⟨w9.heap.size, 1, none⟩ (.slice R1 nR1 cR1)).cell? ⟨rn, 0, none⟩ = some (.slice A0 nA0 cA0) ∧ ((w10.setCell ⟨w9.heap.size, 0, none⟩ (.slice R0 nR0 cR0)).setCell ⟨w9.heap.size, 1, none⟩ (.slice R1 nR1 cR1)).cell? ⟨rn, 1, none⟩ = some (.slice A1 nA1 cA1) := ⟨(X.sep.at_ 5 rfl).cell 0, (X.sep.at_ 5 rfl).cell 1⟩
            refine hK _ _ (fun _ => HF) ?_
            clear hK K
            try simp only [Act.put]
            generalize (w10.setCell ⟨w9.heap.size, 0, none⟩ (.slice R0 nR0 cR0)).setCell ⟨w9.heap.size, 1, none⟩ (.slice R1 nR1 cR1) = w11 at *
            clear f4 f5 f6 f7
            refine wpAnyL_step (i := 9) (by kernel_rfl) rfl rfl ?_
            intro K hK
            go_simp
            refine hK _ _ (fun h => nomatch (show true = false from h)) ?_
            clear hK K
            try simp only [Act.put]
            refine wpAnyL_done (by kernel_rfl) ?_ _
            replace X := X.with_ (X.sep.pick 1 rfl)
            replace X := X.with_ (X.sep.pick 1 rfl)
            replace X := X.with_ (X.sep.sub (.cons_cons _ (.cons_cons _ (.cons_cons _ (.cons_cons _ (.cons_cons _ (.cons_cons _ (.cons_cons _ (.cons_cons _ (List.nil_sublist _))))))))))
            go_wp2_with fail
            go_meet
            exact ⟨_, _, _, _, _, _, _, _, rfl, rfl, X⟩
          · intro K hK
            go_simp
            replace X := X.boxAt (w8.heap.size) rfl #[.slice none 0 0, .slice none 0 0] 30
            clear HF
            have HF : (w8.alloc (.cells #[.slice none 0 0, .slice none 0 0] 30)).cell? ⟨rn, 0, none⟩ = some (.slice A0 nA0 cA0) ∧ (w8.alloc (.cells #[.slice none 0 0, .slice none 0 0] 30)).cell? ⟨rn, 1, none⟩ = some (.slice A1 nA1 cA1) := ⟨(X.sep.at_ 4 rfl).cell 0, (X.sep.at_ 4 rfl).cell 1⟩
            refine hK _ _ (fun _ => HF) ?_
            clear hK K
            try simp only [Act.put]
            generalize hw : w8.alloc (.cells #[.slice none 0 0, .slice none 0 0] 30) = w9 at *
            clear hw
            have E := doubled_over HMO.out hv.1 hv.2
            refine wpAnyL_step (i := 3) (by kernel_rfl) rfl rfl ?_
            intro K hK
            go_simp
            refine (iDoubled_any _ _ (full ⟨x0, x1, xs⟩ 60) v _ (X.sep.own_ 3 rfl).rd (by have := full_sz (k := 60) HMO.out (by omega); omega)).mono ?_
            rintro e w10 ⟨R0, nR0, cR0, R1, nR1, cR1, rfl, o, b⟩
            rw [show (doubledM (full ⟨x0, x1, xs⟩ 60) v).1 = full ⟨x0, x1, xs⟩ 60 by rw [E]] at o
            rw [show (doubledM (full ⟨x0, x1, xs⟩ 60) v).2 = false by rw [E]]
            clear E
            obtain ⟨fp_T, X'⟩ := X.has b o
            clear X; have X := X'; clear X' b o
            clear HF
            have HF : w10.cell? ⟨rn, 0, none⟩ = some (.slice A0 nA0 cA0) ∧ w10.cell? ⟨rn, 1, none⟩ = some (.slice A1 nA1 cA1) := ⟨(X.sep.at_ 5 rfl).cell 0, (X.sep.at_ 5 rfl).cell 1⟩
            refine hK _ _ (fun _ => HF) ?_
            clear hK K
            try simp only [Act.put]
            refine wpAnyL_pure (i := 4) (v := ?_) rfl rfl (by kernel_rfl) (by kernel_rfl) (by kernel_rfl) (fun _ _ _ h => h) HF (Or.inl ⟨by rfl, ?_⟩) ?_
            rotate_left 1
            · (intro v _; go_simp; try with_reducible rfl)
            try simp only [Act.put]
            refine wpAnyL_pure (i := 5) (v := ?_) rfl rfl (by kernel_rfl) (by kernel_rfl) (by kernel_rfl) (fun _ _ _ h => h) HF (Or.inl ⟨by rfl, ?_⟩) ?_
            rotate_left 1
            · (intro v _; go_simp; try with_reducible rfl)
            try simp only [Act.put]
            refine wpAnyL_pure (i := 6) (v := ?_) rfl rfl (by kernel_rfl) (by kernel_rfl) (by kernel_rfl) (fun _ _ _ h => h) HF (Or.inl ⟨by rfl, ?_⟩) ?_
            rotate_left 1
            · (intro v _; go_simp; try with_reducible rfl)
            try simp only [Act.put]
            have f4 : w10.cell? ⟨w8.heap.size, 0, none⟩ = some (.slice none 0 0) := (X.sep.at_ 1 rfl).cell 0
            have f5 := (X.sep.at_ 1 rfl).free 0
            have f6 : w10.cell? ⟨w8.heap.size, 1, none⟩ = some (.slice none 0 0) := (X.sep.at_ 1 rfl).cell 1
            have f7 := (X.sep.at_ 1 rfl).free 1
            refine wpAnyL_step (i := 8) (by kernel_rfl) rfl rfl ?_
            intro K hK
            go_simp
            replace X := X.put 1 rfl 0 (.slice R0 nR0 cR0)
            replace X := X.put 1 rfl 1 (.slice R1 nR1 cR1)
            replace X : DrL w1 _ _ _ [_, .blk (w8.heap.size) #[.slice R0 nR0 cR0, .slice R1 nR1 cR1] 30, .blk (qQ) #[.slice Q0 nQ0 cQ0, .slice Q1 nQ1 cQ1] 30, _, _, .blk (rn) #[.slice A0 nA0 cA0, .slice A1 nA1 cA1] 30, .blk (rm) #[.int .i64 x0, .int .i64 x1, .slice Am nm cm] 40, _] := X
            clear HF
            have HF : ((w10.setCell ⟨w8.heap.size, 0, none⟩ (.slice R0 nR0 cR0)).setCell ⟨w8.heap.size, 1, none⟩ (.slice R1 nR1 cR1)).cell? ⟨rn, 0, none⟩ = some (.slice A0 nA0 cA0) ∧ ((w10.setCell ⟨w8.heap.size, 0, none⟩ (.slice R0 nR0 cR0)).setCell ⟨w8.heap.size, 1, none⟩ (.slice R1 nR1 cR1)).cell? ⟨rn, 1, none⟩ = some (.slice A1 nA1 cA1) := ⟨(X.sep.at_ 5 rfl).cell 0, (X.sep.at_ 5 rfl).cell 1⟩
            refine hK _ _ (fun _ => HF) ?_
            clear hK K
            try simp only [Act.put]
            generalize (w10.setCell ⟨w8.heap.size, 0, none⟩ (.slice R0 nR0 cR0)).setCell ⟨w8.heap.size, 1, none⟩ (.slice R1 nR1 cR1) = w11 at *
            clear f4 f5 f6 f7
            refine wpAnyL_step (i := 9) (by kernel_rfl) rfl rfl ?_
            intro K hK
            go_simp
            refine hK _ _ (fun h => nomatch (show true = false from h)) ?_
            clear hK K
            try simp only [Act.put]
            refine wpAnyL_done (by kernel_rfl) ?_ _
            replace X := X.with_ (X.sep.pick 0 rfl)
            replace X := X.with_ (X.sep.pick 1 rfl)
            replace X := X.with_ (X.sep.sub (.cons_cons _ (.cons_cons _ (.cons_cons _ (.cons_cons _ (.cons_cons _ (.cons_cons _ (.cons_cons _ (.cons_cons _ (List.nil_sublist _))))))))))
            go_wp2_with fail
            go_meet
            exact ⟨_, _, _, _, _, _, _, _, rfl, rfl, X⟩
        · intro K hK
          go_simp
          replace X := X.boxAt (w7.heap.size) rfl #[.slice none 0 0, .slice none 0 0] 30
          clear HF
          have HF : (w7.alloc (.cells #[.slice none 0 0, .slice none 0 0] 30)).cell? ⟨rn, 0, none⟩ = some (.slice A0 nA0 cA0) ∧ (w7.alloc (.cells #[.slice none 0 0, .slice none 0 0] 30)).cell? ⟨rn, 1, none⟩ = some (.slice A1 nA1 cA1) := ⟨(X.sep.at_ 4 rfl).cell 0, (X.sep.at_ 4 rfl).cell 1⟩
          refine hK _ _ (fun _ => HF) ?_
          clear hK K
          try simp only [Act.put]
          generalize hw : w7.alloc (.cells #[.slice none 0 0, .slice none 0 0] 30) = w8 at *
          clear hw
          refine wpAnyL_step (i := 2) (by kernel_rfl) rfl rfl ?_
          intro K hK
          go_simp
          refine (lbelow_any _ _ _ X.cur 60 (by decide)).mono ?_
          rintro e w9 ⟨v, hv, rfl, cu, gr⟩
          replace X := X.draw cu gr
          clear cu gr
          clear HF
          have HF : w9.cell? ⟨rn, 0, none⟩ = some (.slice A0 nA0 cA0) ∧ w9.cell? ⟨rn, 1, none⟩ = some (.slice A1 nA1 cA1) := ⟨(X.sep.at_ 4 rfl).cell 0, (X.sep.at_ 4 rfl).cell 1⟩
          refine hK _ _ (fun _ => HF) ?_
          clear hK K
          try simp only [Act.put]
          have E := doubled_over HMO.out hv.1 hv.2
          refine wpAnyL_step (i := 3) (by kernel_rfl) rfl rfl ?_
          intro K hK
          go_simp
          refine (iDoubled_any _ _ (full ⟨x0, x1, xs⟩ 60) v _ (X.sep.own_ 3 rfl).rd (by have := full_sz (k := 60) HMO.out (by omega); omega)).mono ?_
          rintro e w10 ⟨R0, nR0, cR0, R1, nR1, cR1, rfl, o, b⟩
          rw [show (doubledM (full ⟨x0, x1, xs⟩ 60) v).1 = full ⟨x0, x1, xs⟩ 60 by rw [E]] at o
          rw [show (doubledM (full ⟨x0, x1, xs⟩ 60) v).2 = false by rw [E]]
          clear E
          obtain ⟨fp_T, X'⟩ := X.has b o
          clear X; have X := X'; clear X' b o
          clear HF
          have HF : w10.cell? ⟨rn, 0, none⟩ = some (.slice A0 nA0 cA0) ∧ w10.cell? ⟨rn, 1, none⟩ = some (.slice A1 nA1 cA1) := ⟨(X.sep.at_ 5 rfl).cell 0, (X.sep.at_ 5 rfl).cell 1⟩
          refine hK _ _ (fun _ => HF) ?_
          clear hK K
          try simp only [Act.put]
          refine wpAnyL_pure (i := 4) (v := ?_) rfl rfl (by kernel_rfl) (by kernel_rfl) (by kernel_rfl) (fun _ _ _ h => h) HF (Or.inl ⟨by rfl, ?_⟩) ?_
          rotate_left 1
          · (intro v _; go_simp; try with_reducible rfl)
          try simp only [Act.put]
          refine wpAnyL_pure (i := 5) (v := ?_) rfl rfl (by kernel_rfl) (by kernel_rfl) (by kernel_rfl) (fun _ _ _ h => h) HF (Or.inl ⟨by rfl, ?_⟩) ?_
          rotate_left 1
          · (intro v _; go_simp; try with_reducible rfl)
          try simp only [Act.put]
          refine wpAnyL_pure (i := 6) (v := ?_) rfl rfl (by kernel_rfl) (by kernel_rfl) (by kernel_rfl) (fun _ _ _ h => h) HF (Or.inl ⟨by rfl, ?_⟩) ?_
          rotate_left 1
          · (intro v _; go_simp; try with_reducible rfl)
          try simp only [Act.put]
          have f4 : w10.cell? ⟨w7.heap.size, 0, none⟩ = some (.slice none 0 0) := (X.sep.at_ 1 rfl).cell 0
          have f5 := (X.sep.at_ 1 rfl).free 0
          have f6 : w10.cell? ⟨w7.heap.size, 1, none⟩ = some (.slice none 0 0) := (X.sep.at_ 1 rfl).cell 1
          have f7 := (X.sep.at_ 1 rfl).free 1
          refine wpAnyL_step (i := 8) (by kernel_rfl) rfl rfl ?_
          intro K hK
          go_simp
          replace X := X.put 1 rfl 0 (.slice R0 nR0 cR0)
          replace X := X.put 1 rfl 1 (.slice R1 nR1 cR1)
          replace X : DrL w1 _ _ _ [_, .blk (w7.heap.size) #[.slice R0 nR0 cR0, .slice R1 nR1 cR1] 30, .blk (qQ) #[.slice Q0 nQ0 cQ0, .slice Q1 nQ1 cQ1] 30, _, _, .blk (rn) #[.slice A0 nA0 cA0, .slice A1 nA1 cA1] 30, .blk (rm) #[.int .i64 x0, .int .i64 x1, .slice Am nm cm] 40, _] := X
          clear HF
          have HF : ((w10.setCell ⟨w7.heap.size, 0, none⟩ (.slice R0 nR0 cR0)).setCell ⟨w7.heap.size, 1, none⟩ (.slice R1 nR1 cR1)).cell? ⟨rn, 0, none⟩ = some (.slice A0 nA0 cA0) ∧ ((w10.setCell ⟨w7.heap.size, 0, none⟩ (.slice R0 nR0 cR0)).setCell ⟨w7.heap.size, 1, none⟩ (.slice R1 nR1 cR1)).cell? ⟨rn, 1, none⟩ = some (.slice A1 nA1 cA1) := ⟨(X.sep.at_ 5 rfl).cell 0, (X.sep.at_ 5 rfl).cell 1⟩
          refine hK _ _ (fun _ => HF) ?_
          clear hK K
          try simp only [Act.put]
          generalize (w10.setCell ⟨w7.heap.size, 0, none⟩ (.slice R0 nR0 cR0)).setCell ⟨w7.heap.size, 1, none⟩ (.slice R1 nR1 cR1) = w11 at *
          clear f4 f5 f6 f7
          refine wpAnyL_step (i := 9) (by kernel_rfl) rfl rfl ?_
          intro K hK
          go_simp
          refine hK _ _ (fun h => nomatch (show true = false from h)) ?_
          clear hK K
          try simp only [Act.put]
          refine wpAnyL_done (by kernel_rfl) ?_ _
          replace X := X.with_ (X.sep.pick 0 rfl)
          replace X := X.with_ (X.sep.pick 1 rfl)
          replace X := X.with_ (X.sep.sub (.cons_cons _ (.cons_cons _ (.cons_cons _ (.cons_cons _ (.cons_cons _ (.cons_cons _ (.cons_cons _ (.cons_cons _ (List.nil_sublist _))))))))))
          go_wp2_with fail
          go_meet
          exact ⟨_, _, _, _, _, _, _, _, rfl, rfl, X⟩
      obtain ⟨qR, R0, nR0, cR0, R1, nR1, cR1, fp_R, rfl, rfl, X⟩ := hcut
      clear XH f2 f3
      generalize wc = w7 at *
      have f4 : w7.cell? ⟨qQ, 0, none⟩ = some (.slice Q0 nQ0 cQ0) := (X.sep.at_ 2 rfl).cell 0
      have f5 : w7.cell? ⟨qQ, 1, none⟩ = some (.slice Q1 nQ1 cQ1) := (X.sep.at_ 2 rfl).cell 1
      have f6 : w7.cell? ⟨rn, 0, none⟩ = some (.slice A0 nA0 cA0) := (X.sep.at_ 5 rfl).cell 0
      have f7 : w7.cell? ⟨rn, 1, none⟩ = some (.slice A1 nA1 cA1) := (X.sep.at_ 5 rfl).cell 1
      go_wp2_with fail
      refine (iSameNet_any _ _ _ _ (full ⟨x0, x1, xs⟩ 60) (full ⟨x0, x1, xs⟩ 60) _ _ _ (X.sep.own_ 3 rfl).rd (X.sep.own_ 4 rfl).rd (Nat.le_refl _) (Nat.le_refl _) (by have := full_sz (k := 60) HMO.out (by omega); omega) (by have := full_sz (k := 60) HMO.out (by omega); omega)).mono ?_
      rintro e w8 ⟨rfl, b⟩
      rw [sameNet_refl]
      replace X := X.keep b
      clear b f4 f5 f6 f7
      have f8 : w8.cell? ⟨qR, 0, none⟩ = some (.slice R0 nR0 cR0) := (X.sep.at_ 0 rfl).cell 0
      have f9 : w8.cell? ⟨qR, 1, none⟩ = some (.slice R1 nR1 cR1) := (X.sep.at_ 0 rfl).cell 1
      have f10 : w8.cell? ⟨rn, 0, none⟩ = some (.slice A0 nA0 cA0) := (X.sep.at_ 5 rfl).cell 0
      have f11 : w8.cell? ⟨rn, 1, none⟩ = some (.slice A1 nA1 cA1) := (X.sep.at_ 5 rfl).cell 1
      go_wp2_with fail
      refine (iSameNet_any _ _ _ _ (full ⟨x0, x1, xs⟩ 60) (full ⟨x0, x1, xs⟩ 60) _ _ _ (X.sep.own_ 1 rfl).rd (X.sep.own_ 4 rfl).rd (Nat.le_refl _) (Nat.le_refl _) (by have := full_sz (k := 60) HMO.out (by omega); omega) (by have := full_sz (k := 60) HMO.out (by omega); omega)).mono ?_
      rintro e w9 ⟨rfl, b⟩
      rw [sameNet_refl]
      replace X := X.keep b
      clear b f8 f9 f10 f11
      have f12 : w9.cell? ⟨rn, 0, none⟩ = some (.slice A0 nA0 cA0) := (X.sep.at_ 5 rfl).cell 0
      have f13 : w9.cell? ⟨rn, 1, none⟩ = some (.slice A1 nA1 cA1) := (X.sep.at_ 5 rfl).cell 1
      go_wp2_with fail
      refine wp_region_L (fun v => v.cell? ⟨rn, 0, none⟩ = some (.slice A0 nA0 cA0) ∧ v.cell? ⟨rn, 1, none⟩ = some (.slice A1 nA1 cA1)) 8 (by kernel_rfl) ?_
      clear f12 f13
      replace X := X.drew
      generalize w9.drew = w10 at *
      have HF : w10.cell? ⟨rn, 0, none⟩ = some (.slice A0 nA0 cA0) ∧ w10.cell? ⟨rn, 1, none⟩ = some (.slice A1 nA1 cA1) := ⟨(X.sep.at_ 5 rfl).cell 0, (X.sep.at_ 5 rfl).cell 1⟩
      refine wpAnyL_take (i := 0) (v := ?_) rfl rfl (by kernel_rfl) (by kernel_rfl) (by kernel_rfl) (by kernel_rfl) (by kernel_rfl) (fun _ _ _ h => h) HF (Or.inl ⟨by rfl, ?_⟩) ?_
      rotate_left 1
      · (rintro v ⟨a0, a1⟩; go_simp; try with_reducible rfl)
      try simp only [Act.put]
      refine wpAnyL_pure (i := 1) (v := ?_) rfl rfl (by kernel_rfl) (by kernel_rfl) (by kernel_rfl) (fun _ _ _ h => h) HF (Or.inl ⟨by rfl, ?_⟩) ?_
      rotate_left 1
      · (intro v _; go_simp; try with_reducible rfl)
      try simp only [Act.put]
      refine wpAnyL_step (i := 2) (by kernel_rfl) rfl rfl ?_
      intro K hK
      go_simp
      refine (lbelow_any _ _ _ X.cur 60 (by decide)).mono ?_
      rintro e w11 ⟨v, hv, rfl, cu, gr⟩
      replace X := X.draw cu gr
      clear cu gr
      clear HF
      have HF : w11.cell? ⟨rn, 0, none⟩ = some (.slice A0 nA0 cA0) ∧ w11.cell? ⟨rn, 1, none⟩ = some (.slice A1 nA1 cA1) := ⟨(X.sep.at_ 5 rfl).cell 0, (X.sep.at_ 5 rfl).cell 1⟩
      refine hK _ _ (fun _ => HF) ?_
      clear hK K
      try simp only [Act.put]
      have E := lost_full HMO.out hv.1 hv.2
      refine wpAnyL_step (i := 3) (by kernel_rfl) rfl rfl ?_
      intro K hK
      go_simp
      refine (iLost_any _ _ (full ⟨x0, x1, xs⟩ 60) v _ (X.sep.own_ 4 rfl).rd (by have := full_sz (k := 60) HMO.out (by omega); omega)).mono ?_
      rintro e w12 ⟨P0, nP0, cP0, P1, nP1, cP1, rfl, o, b⟩
      rw [show (lostM (full ⟨x0, x1, xs⟩ 60) v).1 = full ⟨x0, x1, xs⟩ 59 by rw [E]] at o
      rw [show (lostM (full ⟨x0, x1, xs⟩ 60) v).2 = true by rw [E]]
      clear E
      obtain ⟨fp_tP, X'⟩ := X.has b o
      clear X; have X := X'; clear X' b o
      clear HF
      have HF : w12.cell? ⟨rn, 0, none⟩ = some (.slice A0 nA0 cA0) ∧ w12.cell? ⟨rn, 1, none⟩ = some (.slice A1 nA1 cA1) := ⟨(X.sep.at_ 6 rfl).cell 0, (X.sep.at_ 6 rfl).cell 1⟩
      refine hK _ _ (fun _ => HF) ?_
      clear hK K
      try simp only [Act.put]
      refine wpAnyL_pure (i := 4) (v := ?_) rfl rfl (by kernel_rfl) (by kernel_rfl) (by kernel_rfl) (fun _ _ _ h => h) HF (Or.inl ⟨by rfl, ?_⟩) ?_
      rotate_left 1
      · (intro v _; go_simp; try with_reducible rfl)
      try simp only [Act.put]
      refine wpAnyL_pure (i := 5) (v := ?_) rfl rfl (by kernel_rfl) (by kernel_rfl) (by kernel_rfl) (fun _ _ _ h => h) HF (Or.inl ⟨by rfl, ?_⟩) ?_
      rotate_left 1
      · (intro v _; go_simp; try with_reducible rfl)
      try simp only [Act.put]
      refine wpAnyL_pure (i := 6) (v := ?_) rfl rfl (by kernel_rfl) (by kernel_rfl) (by kernel_rfl) (fun _ _ _ h => h) HF (Or.inl ⟨by rfl, ?_⟩) ?_
      rotate_left 1
      · (intro v _; go_simp; try with_reducible rfl)
      try simp only [Act.put]
      have f14 : w12.cell? ⟨qQ, 0, none⟩ = some (.slice Q0 nQ0 cQ0) := (X.sep.at_ 3 rfl).cell 0
      have f15 := (X.sep.at_ 3 rfl).free 0
      have f16 : w12.cell? ⟨qQ, 1, none⟩ = some (.slice Q1 nQ1 cQ1) := (X.sep.at_ 3 rfl).cell 1
      have f17 := (X.sep.at_ 3 rfl).free 1
      refine wpAnyL_step (i := 7) (by kernel_rfl) rfl rfl ?_
      intro K hK
      go_simp
      replace X := X.put 3 rfl 0 (.slice P0 nP0 cP0)
      replace X := X.put 3 rfl 1 (.slice P1 nP1 cP1)
      replace X : DrL w1 _ _ _ [_, .blk (qR) #[.slice R0 nR0 cR0, .slice R1 nR1 cR1] 30, _, .blk (qQ) #[.slice P0 nP0 cP0, .slice P1 nP1 cP1] 30, _, _, .blk (rn) #[.slice A0 nA0 cA0, .slice A1 nA1 cA1] 30, .blk (rm) #[.int .i64 x0, .int .i64 x1, .slice Am nm cm] 40, _] := X
      clear HF
      have HF : ((w12.setCell ⟨qQ, 0, none⟩ (.slice P0 nP0 cP0)).setCell ⟨qQ, 1, none⟩ (.slice P1 nP1 cP1)).cell? ⟨rn, 0, none⟩ = some (.slice A0 nA0 cA0) ∧ ((w12.setCell ⟨qQ, 0, none⟩ (.slice P0 nP0 cP0)).setCell ⟨qQ, 1, none⟩ (.slice P1 nP1 cP1)).cell? ⟨rn, 1, none⟩ = some (.slice A1 nA1 cA1) := ⟨(X.sep.at_ 6 rfl).cell 0, (X.sep.at_ 6 rfl).cell 1⟩
      refine hK _ _ (fun _ => HF) ?_
      clear hK K
      try simp only [Act.put]
      generalize (w12.setCell ⟨qQ, 0, none⟩ (.slice P0 nP0 cP0)).setCell ⟨qQ, 1, none⟩ (.slice P1 nP1 cP1) = w13 at *
      clear f14 f15 f16 f17
      refine wpAnyL_step (i := 8) (by kernel_rfl) rfl rfl ?_
      intro K hK
      go_simp
      refine hK _ _ (fun h => nomatch (show true = false from h)) ?_
      clear hK K
      try simp only [Act.put]
      refine wpAnyL_done (by kernel_rfl) ?_ _
      clear HF
      have f18 : w13.cell? ⟨qQ, 0, none⟩ = some (.slice P0 nP0 cP0) := (X.sep.at_ 3 rfl).cell 0
      have f19 : w13.cell? ⟨qQ, 1, none⟩ = some (.slice P1 nP1 cP1) := (X.sep.at_ 3 rfl).cell 1
      have f20 : w13.cell? ⟨rm, 0, none⟩ = some (.int .i64 x0) := (X.sep.at_ 7 rfl).cell 0
      have f21 : w13.cell? ⟨rm, 1, none⟩ = some (.int .i64 x1) := (X.sep.at_ 7 rfl).cell 1
      have f22 : w13.cell? ⟨rm, 2, none⟩ = some (.slice Am nm cm) := (X.sep.at_ 7 rfl).cell 2
      go_wp2_with fail
      refine (iSent_any _ _ (full ⟨x0, x1, xs⟩ 59) x0 x1 Am nm cm xs _ (X.sep.own_ 0 rfl).rd (by have := full_sz (k := 59) HMO.out (by omega); omega) (msg_open (d := ⟨x0, x1, xs⟩) (X.sep.own_ 8 rfl).rd).2 hnm).mono ?_
      rintro e w14 ⟨S0, nS0, cS0, S1, nS1, cS1, rfl, o, b⟩
      have E := sent_full (k := 59) HMO.out (by omega)
      rw [show (sentM (full ⟨x0, x1, xs⟩ 59) ⟨x0, x1, xs⟩).1 = full ⟨x0, x1, xs⟩ 60 by rw [E]] at o
      rw [show (sentM (full ⟨x0, x1, xs⟩ 59) ⟨x0, x1, xs⟩).2 = true by rw [E]]
      clear E
      obtain ⟨fp_tS, X'⟩ := X.has b o
      clear X; have X := X'; clear X' b o f18 f19 f20 f21 f22
      have f23 : w14.cell? ⟨qQ, 0, none⟩ = some (.slice P0 nP0 cP0) := (X.sep.at_ 4 rfl).cell 0
      have f24 := (X.sep.at_ 4 rfl).free 0
      have f25 : w14.cell? ⟨qQ, 1, none⟩ = some (.slice P1 nP1 cP1) := (X.sep.at_ 4 rfl).cell 1
      have f26 := (X.sep.at_ 4 rfl).free 1
      replace X := X.put 4 rfl 0 (.slice S0 nS0 cS0)
      replace X := X.put 4 rfl 1 (.slice S1 nS1 cS1)
      replace X : DrL w1 _ _ _ [_, _, .blk (qR) #[.slice R0 nR0 cR0, .slice R1 nR1 cR1] 30, _, .blk (qQ) #[.slice S0 nS0 cS0, .slice S1 nS1 cS1] 30, _, _, .blk (rn) #[.slice A0 nA0 cA0, .slice A1 nA1 cA1] 30, .blk (rm) #[.int .i64 x0, .int .i64 x1, .slice Am nm cm] 40, _] := X
      have f27 : ((w14.setCell ⟨qQ, 0, none⟩ (.slice S0 nS0 cS0)).setCell ⟨qQ, 1, none⟩ (.slice S1 nS1 cS1)).cell? ⟨qQ, 0, none⟩ = some (.slice S0 nS0 cS0) := (X.sep.at_ 4 rfl).cell 0
      have f28 : ((w14.setCell ⟨qQ, 0, none⟩ (.slice S0 nS0 cS0)).setCell ⟨qQ, 1, none⟩ (.slice S1 nS1 cS1)).cell? ⟨qQ, 1, none⟩ = some (.slice S1 nS1 cS1) := (X.sep.at_ 4 rfl).cell 1
      have f29 : ((w14.setCell ⟨qQ, 0, none⟩ (.slice S0 nS0 cS0)).setCell ⟨qQ, 1, none⟩ (.slice S1 nS1 cS1)).cell? ⟨rn, 0, none⟩ = some (.slice A0 nA0 cA0) := (X.sep.at_ 7 rfl).cell 0
      have f30 : ((w14.setCell ⟨qQ, 0, none⟩ (.slice S0 nS0 cS0)).setCell ⟨qQ, 1, none⟩ (.slice S1 nS1 cS1)).cell? ⟨rn, 1, none⟩ = some (.slice A1 nA1 cA1) := (X.sep.at_ 7 rfl).cell 1
      go_wp2_with fail
      generalize (w14.setCell ⟨qQ, 0, none⟩ (.slice S0 nS0 cS0)).setCell ⟨qQ, 1, none⟩ (.slice S1 nS1 cS1) = w15 at *
      refine (iSameNet_any _ _ _ _ (full ⟨x0, x1, xs⟩ 60) (full ⟨x0, x1, xs⟩ 60) _ _ _ (X.sep.own_ 0 rfl).rd (X.sep.own_ 6 rfl).rd (Nat.le_refl _) (Nat.le_refl _) (by have := full_sz (k := 60) HMO.out (by omega); omega) (by have := full_sz (k := 60) HMO.out (by omega); omega)).mono ?_
      rintro e w16 ⟨rfl, b⟩
      rw [sameNet_refl]
      replace X := X.keep b
      clear b f23 f24 f25 f26 f27 f28 f29 f30
      have C := Lib.hid (B1.out.trans (grown_below X.grown B1.out.size (fun k hk => by injection hk with hk; omega)))
      clear X
      go_wp2
      go_ret
      exact ⟨rfl, C.out⟩

end Go.Proofs.Ytdcdcccdihhhcaa
