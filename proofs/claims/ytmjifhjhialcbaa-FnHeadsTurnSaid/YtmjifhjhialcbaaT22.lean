/- Parts of my texts: LawTurn. -/
import Derived.Test.YtmjifhjhialcbaaT21
namespace Go.Proofs.Ytmjifhjhialcbaa
set_option maxRecDepth 100000
set_option linter.unusedVariables false
open Go.RowKit
set_option linter.unusedSimpArgs false
theorem Has.headU {w : World} {base : Nat} {t : HeadM} {z0 z1 z2 : Int} {v3 : Value} (h : Has w base t.cells [.int .i64 z0, .int .i64 z1, .int .i64 z2, v3]) : z0 = t.num ∧ z1 = t.base ∧ z2 = t.tm ∧ Has w base [mrkD t.seen] [v3] := by
 obtain ⟨fp, o, nd, ge⟩ := h
 obtain ⟨_, _, _, e0, e1, e2, _, _⟩ := o.rd.headT
 obtain ⟨f3, rfl, o3⟩ := Ow.headT o
 rw [List.append_nil] at nd ge
 injection e0 with _ e0
 injection e1 with _ e1
 injection e2 with _ e2
 exact ⟨e0, e1, e2, f3, o3, nd, ge⟩
theorem seen_szU {l : List EntM} (hr : RunS l) (hl : l.length = 12) {num : Int} {b : Nat} (h : 0 ≤ num ∧ num < (b : Int)) (hb : b ≤ 11) : mrkSz (headOf l num b).seen ≤ 1048576 :=
 Nat.le_trans (seen_len ((headOkB_iff _).1 (headOf_ok hr (by omega) (by omega) (by omega) (by omega)).1).2.2.2.2.1) (by decide)
set_option maxHeartbeats 12800000 in
theorem lawTurn (hNK : CNewKept 23) (hKH : CKeptHead 22) (hBS : CBothSynced 24) (hBF : CBothFallen 26) (hHI : CHeadIn 25) (hSS : CSameSeen 28)
    (A : Option Addr) (n c0 : Nat) (w : World) (h : BRow w w.heap.size A n) (hm : n ≤ maxLen) :
    Calls Try.prog 4 #[.slice A n c0] w fun e w' => e = .returned (.bool true) ∧ Below w.heap.size w w' := by
 have HNK := jd hNK
 have HKH := jd hKH
 have HBS := jd hBS
 have HBF := jd hBF
 have HHI := jd hHI
 have HSS := jd hSS
 clear hNK hKH hBS hBF hHI hSS
 unfold maxLen at hm
 by_cases hn : 4096 < n
 · clear h
   go_enter Try.func4, Try.ntmps4
   go_wp2_with fail
   refine (lbig_any A n c0 _).mono ?_
   rintro e w' ⟨rfl, rfl⟩
   rw [decide_eq_true hn]
   go_wp2
   go_ret
   exact ⟨rfl, Below.refl _ _⟩
 go_enter Try.func4, Try.ntmps4
 go_wp2_with fail
 refine (lbig_any A n c0 _).mono ?_
 rintro e w' ⟨rfl, rfl⟩
 rw [decide_eq_false hn]
 go_wp2_with fail
 refine (roll_any A n c0 _ h (by omega) _).mono ?_
 rintro e w1 ⟨rfl, cu, b1⟩
 have X := DrL.start cu
 have B1 := jd b1
 clear b1 cu h
 replace X := X.boxAt (w1.heap.size) rfl #[] 35
 go_wp2_with fail
 generalize w1.alloc (.cells #[] 35) = w2 at *
 refine (w9list_seq _ _ 12 (by decide) _ _ _ X.cur).mono ?_
 rintro e w3 ⟨l, A, n, c, hl, hrun, rfl, cu, gr, o⟩
 obtain ⟨fp_l, X'⟩ := X.drawHas cu gr o
 clear X; have X := X'; clear X' cu gr o
 replace X := X.with_ (X.sep.sub (.cons_cons _ (List.nil_sublist _)))
 obtain ⟨_, _, _, e, hln, hnc, hcm, _⟩ := ((X.sep.own_ 0 rfl).rd).ents
 injection e with e1 e2 e3
 subst e1 e2 e3
 have HN := jd (show n = 12 by omega)
 have HL := jd hl
 have HR := jd hrun
 clear hl hln hrun
 go_wp2_with fail
 refine (lbelow_any _ _ _ X.cur 4 (by decide)).mono ?_
 rintro e w4 ⟨num, hnum, rfl, cu, gr⟩
 replace X := X.draw cu gr
 clear cu gr
 have hw1 : IntKind.i64.wrap (num + 1) = num + 1 := by rw [IntKind.wrap_i64]; omega
 have HNUM := jd hnum
 go_wp2_with fail
 refine (lbelow_any _ _ _ X.cur 4 (by decide)).mono ?_
 rintro e w5 ⟨z0, hz0, rfl, cu, gr⟩
 replace X := X.draw cu gr
 clear cu gr
 obtain ⟨b1, hb1⟩ : ∃ b : Nat, (b : Int) = num + 1 + z0 := ⟨(num + 1 + z0).toNat, by omega⟩
 have hwb1 : IntKind.i64.wrap (num + 1 + z0) = (b1 : Int) := by rw [IntKind.wrap_i64]; omega
 have HB1 := jd (show num < (b1 : Int) ∧ b1 ≤ 7 by omega)
 clear hb1 hz0 hnum
 go_wp2_with fail
 obtain ⟨t1, ht1⟩ : ∃ t, t = (headOf l num b1).tm := ⟨_, rfl⟩
 obtain ⟨s1, hs1⟩ : ∃ s, s = (headOf l num b1).seen := ⟨_, rfl⟩
 have HE9 := jd (show headOf l num b1 = ⟨num, (b1 : Int), t1, s1⟩ by rw [ht1, hs1]; rfl)
 have HSZ1 := jd (show mrkSz s1 ≤ 1048576 by rw [hs1]; exact seen_szU HR.out HL.out ⟨HNUM.out.1, HB1.out.1⟩ (by have := HB1.out.2; omega))
 refine (w9head_any A n c _ l num b1 _ (X.sep.own_ 0 rfl) (by have := HN.out; have := HB1.out.2; omega) (by have := HN.out; omega)).mono ?_
 rintro e w6 ⟨Ae, ne, ce, rfl, o, b⟩
 rw [← ht1]
 rw [← hs1] at o
 obtain ⟨fp_h1, X'⟩ := X.has b o
 clear X; have X := X'; clear X' b o
 clear ht1 hs1 hwb1
 replace X := X.boxAt (w6.heap.size) rfl #[.int .i64 num, .int .i64 (b1 : Int), .int .i64 t1, .slice Ae ne ce] 40
 go_wp2_with fail
 generalize w6.alloc (.cells #[.int .i64 num, .int .i64 (b1 : Int), .int .i64 t1, .slice Ae ne ce] 40) = w7 at *
 generalize w6.heap.size = qe at *
 have hw2 : IntKind.i64.wrap ((b1 : Int) + 1) = (b1 : Int) + 1 := by have := HB1.out; rw [IntKind.wrap_i64]; omega
 have XH := jd X
 clear X
 go_cut [7] (fun s0_ wx => ∃ (qg : Nat) (b2 : Nat) (t2 : Int) (s2 : List MarkM) (Ag : Option Addr) (ng cg : Nat) (fp_h2 : List Nat), s0_ = .pointer (some ⟨qg, 0, none⟩) ∧ (b1 < b2 ∧ b2 ≤ 11) ∧ headOf l (num + 1) b2 = ⟨num + 1, (b2 : Int), t2, s2⟩ ∧ DrL w1 wx w.heap.size w.heap.size [.blk qg #[.int .i64 (num + 1), .int .i64 (b2 : Int), .int .i64 t2, .slice Ag ng cg] 40, .own [mrkD s2] [.slice Ag ng cg] fp_h2, .blk qe #[.int .i64 num, .int .i64 (b1 : Int), .int .i64 t1, .slice Ae ne ce] 40, .own [mrkD s1] [.slice Ae ne ce] fp_h1, .own [entD l] [.slice A n c] fp_l])
 case first =>
  have X := XH.out
  refine wp_region_L (fun v => v.cell? ⟨qe, 1, none⟩ = some (.int .i64 (b1 : Int))) 11 (by kernel_rfl) ?_
  clear XH
  replace X := X.drew
  generalize w7.drew = w8 at *
  have HF := lk X.sep 0 1 rfl rfl
  refine tk 0 (v := ?_) rfl rfl HF (.inl ⟨by rfl, ?_⟩) ?_
  rotate_left 1
  · (rintro v a0; go_simp; try with_reducible rfl)
  try simp only [Act.put]
  refine tk 1 (v := ?_) rfl rfl HF (.inl ⟨by rfl, ?_⟩) ?_
  rotate_left 1
  · (rintro v a0; go_simp; try with_reducible rfl)
  try simp only [Act.put]
  refine tk 2 (v := ?_) rfl rfl HF (.inl ⟨by rfl, ?_⟩) ?_
  rotate_left 1
  · (rintro v a0; go_simp; try with_reducible rfl)
  try simp only [Act.put]
  refine tk 3 (v := ?_) rfl rfl HF (.inl ⟨by rfl, ?_⟩) ?_
  rotate_left 1
  · (rintro v a0; go_simp; try with_reducible rfl)
  try simp only [Act.put]
  refine tk 4 (v := ?_) rfl rfl HF (.inl ⟨by rfl, ?_⟩) ?_
  rotate_left 1
  · (rintro v a0; go_simp; try with_reducible rfl)
  try simp only [Act.put]
  refine tk 5 (v := ?_) rfl rfl HF (.inl ⟨by rfl, ?_⟩) ?_
  rotate_left 1
  · (rintro v a0; go_simp; try with_reducible rfl)
  try simp only [Act.put]
  refine tk 6 (v := ?_) rfl rfl HF (.inl ⟨by rfl, ?_⟩) ?_
  rotate_left 1
  · (rintro v a0; go_simp; try with_reducible rfl)
  try simp only [Act.put]
  refine wpAnyL_two (i := 7) (k := 10) (by kernel_rfl) rfl rfl rfl rfl ?_ ?_
  · intro K hK
    go_simp
    refine (lbelow_any _ _ _ X.cur 4 (by decide)).mono ?_
    rintro e w9 ⟨z1, hz1, rfl, cu, gr⟩
    replace X := X.draw cu gr
    clear cu gr
    clear HF
    have HF := lk X.sep 0 1 rfl rfl
    refine hK _ _ (fun _ => HF) ?_
    clear hK K
    try simp only [Act.put]
    obtain ⟨b2, hb2⟩ : ∃ b : Nat, (b : Int) = (b1 : Int) + 1 + z1 := ⟨((b1 : Int) + 1 + z1).toNat, by omega⟩
    have hwb2 : IntKind.i64.wrap ((b1 : Int) + 1 + z1) = (b2 : Int) := by have := HB1.out; rw [IntKind.wrap_i64]; omega
    have HB2 := jd (show b1 < b2 ∧ b2 ≤ 11 by have := HB1.out; omega)
    clear hb2 hz1
    refine tk 8 (v := ?_) rfl rfl HF (.inl ⟨by rfl, ?_⟩) ?_
    rotate_left 1
    · (rintro v a0; go_simp; try with_reducible rfl)
    try simp only [Act.put]
    obtain ⟨t2, ht2⟩ : ∃ t, t = (headOf l (num + 1) b2).tm := ⟨_, rfl⟩
    obtain ⟨s2, hs2⟩ : ∃ s, s = (headOf l (num + 1) b2).seen := ⟨_, rfl⟩
    have HG9 := jd (show headOf l (num + 1) b2 = ⟨num + 1, (b2 : Int), t2, s2⟩ by rw [ht2, hs2]; rfl)
    refine wpAnyL_two (i := 9) (k := 10) (by kernel_rfl) rfl rfl rfl rfl ?_ ?_
    · intro K hK
      go_simp
      refine (w9head_any A n c _ l (num + 1) b2 _ (X.sep.own_ 2 rfl) (by have := HN.out; have := HB2.out.2; omega) (by have := HN.out; omega)).mono ?_
      rintro e w10 ⟨Ag, ng, cg, rfl, o, b⟩
      rw [← ht2]
      rw [← hs2] at o
      clear ht2 hs2
      obtain ⟨fp_h2, X'⟩ := X.has b o
      clear X; have X := X'; clear X' b o
      clear HF
      have HF := lk X.sep 1 1 rfl rfl
      refine hK _ _ (fun _ => HF) ?_
      clear hK K
      try simp only [Act.put]
      refine wpAnyL_step (i := 10) (by kernel_rfl) rfl rfl ?_
      intro K hK
      go_simp
      replace X := X.boxAt (w10.heap.size) rfl #[.int .i64 0, .int .i64 0, .int .i64 0, .slice none 0 0] 40
      clear HF
      have HF := lk X.sep 2 1 rfl rfl
      refine hK _ _ (fun _ => HF) ?_
      clear hK K
      try simp only [Act.put]
      generalize hw : w10.alloc (.cells #[.int .i64 0, .int .i64 0, .int .i64 0, .slice none 0 0] 40) = w11 at *
      clear hw
      have f0 := lk X.sep 0 0 rfl rfl
      have f1 := (X.sep.at_ 0 rfl).free 0
      have f2 := lk X.sep 0 1 rfl rfl
      have f3 := (X.sep.at_ 0 rfl).free 1
      have f4 := lk X.sep 0 2 rfl rfl
      have f5 := (X.sep.at_ 0 rfl).free 2
      have f6 := lk X.sep 0 3 rfl rfl
      have f7 := (X.sep.at_ 0 rfl).free 3
      refine wpAnyL_step (i := 11) (by kernel_rfl) rfl rfl ?_
      intro K hK
      go_simp
      refine hK _ _ (fun h => nomatch (show true = false from h)) ?_
      clear hK K
      try simp only [Act.put]
      replace X := X.put 0 rfl 0 (.int .i64 (num + 1))
      replace X := X.put 0 rfl 1 (.int .i64 (b2 : Int))
      replace X := X.put 0 rfl 2 (.int .i64 t2)
      replace X := X.put 0 rfl 3 (.slice Ag ng cg)
      replace X : DrL w1 _ _ _ [.blk (w10.heap.size) #[.int .i64 (num + 1), .int .i64 (b2 : Int), .int .i64 t2, .slice Ag ng cg] 40, _, .blk (qe) #[.int .i64 num, .int .i64 (b1 : Int), .int .i64 t1, .slice Ae ne ce] 40, _, _] := X
      generalize (((w11.setCell ⟨w10.heap.size, 0, none⟩ (.int .i64 (num + 1))).setCell ⟨w10.heap.size, 1, none⟩ (.int .i64 (b2 : Int))).setCell ⟨w10.heap.size, 2, none⟩ (.int .i64 t2)).setCell ⟨w10.heap.size, 3, none⟩ (.slice Ag ng cg) = w12 at *
      clear HF f0 f1 f2 f3 f4 f5 f6 f7
      refine wpAnyL_done (by kernel_rfl) ?_ _
      replace X := X.with_ (X.sep.pick 1 rfl)
      replace X := X.with_ (X.sep.pick 1 rfl)
      replace X := X.with_ (X.sep.sub (.cons_cons _ (.cons_cons _ (.cons_cons _ (.cons_cons _ (.cons_cons _ (List.nil_sublist _)))))))
      go_wp2_with fail
      go_meet
      exact ⟨_, _, _, _, _, _, _, _, rfl, HB2.out, HG9.out, X⟩
    · intro K hK
      go_simp
      replace X := X.boxAt (w9.heap.size) rfl #[.int .i64 0, .int .i64 0, .int .i64 0, .slice none 0 0] 40
      clear HF
      have HF := lk X.sep 1 1 rfl rfl
      refine hK _ _ (fun _ => HF) ?_
      clear hK K
      try simp only [Act.put]
      generalize hw : w9.alloc (.cells #[.int .i64 0, .int .i64 0, .int .i64 0, .slice none 0 0] 40) = w10 at *
      clear hw
      refine wpAnyL_step (i := 9) (by kernel_rfl) rfl rfl ?_
      intro K hK
      go_simp
      refine (w9head_any A n c _ l (num + 1) b2 _ (X.sep.own_ 3 rfl) (by have := HN.out; have := HB2.out.2; omega) (by have := HN.out; omega)).mono ?_
      rintro e w11 ⟨Ag, ng, cg, rfl, o, b⟩
      rw [← ht2]
      rw [← hs2] at o
      clear ht2 hs2
      obtain ⟨fp_h2, X'⟩ := X.has b o
      clear X; have X := X'; clear X' b o
      clear HF
      have HF := lk X.sep 2 1 rfl rfl
      refine hK _ _ (fun _ => HF) ?_
      clear hK K
      try simp only [Act.put]
      have f0 := lk X.sep 1 0 rfl rfl
      have f1 := (X.sep.at_ 1 rfl).free 0
      have f2 := lk X.sep 1 1 rfl rfl
      have f3 := (X.sep.at_ 1 rfl).free 1
      have f4 := lk X.sep 1 2 rfl rfl
      have f5 := (X.sep.at_ 1 rfl).free 2
      have f6 := lk X.sep 1 3 rfl rfl
      have f7 := (X.sep.at_ 1 rfl).free 3
      refine wpAnyL_step (i := 11) (by kernel_rfl) rfl rfl ?_
      intro K hK
      go_simp
      refine hK _ _ (fun h => nomatch (show true = false from h)) ?_
      clear hK K
      try simp only [Act.put]
      replace X := X.put 1 rfl 0 (.int .i64 (num + 1))
      replace X := X.put 1 rfl 1 (.int .i64 (b2 : Int))
      replace X := X.put 1 rfl 2 (.int .i64 t2)
      replace X := X.put 1 rfl 3 (.slice Ag ng cg)
      replace X : DrL w1 _ _ _ [_, .blk (w9.heap.size) #[.int .i64 (num + 1), .int .i64 (b2 : Int), .int .i64 t2, .slice Ag ng cg] 40, .blk (qe) #[.int .i64 num, .int .i64 (b1 : Int), .int .i64 t1, .slice Ae ne ce] 40, _, _] := X
      generalize (((w11.setCell ⟨w9.heap.size, 0, none⟩ (.int .i64 (num + 1))).setCell ⟨w9.heap.size, 1, none⟩ (.int .i64 (b2 : Int))).setCell ⟨w9.heap.size, 2, none⟩ (.int .i64 t2)).setCell ⟨w9.heap.size, 3, none⟩ (.slice Ag ng cg) = w12 at *
      clear HF f0 f1 f2 f3 f4 f5 f6 f7
      refine wpAnyL_done (by kernel_rfl) ?_ _
      replace X := X.with_ (X.sep.pick 0 rfl)
      replace X := X.with_ (X.sep.pick 1 rfl)
      replace X := X.with_ (X.sep.sub (.cons_cons _ (.cons_cons _ (.cons_cons _ (.cons_cons _ (.cons_cons _ (List.nil_sublist _)))))))
      go_wp2_with fail
      go_meet
      exact ⟨_, _, _, _, _, _, _, _, rfl, HB2.out, HG9.out, X⟩
  · intro K hK
    go_simp
    replace X := X.boxAt (w8.heap.size) rfl #[.int .i64 0, .int .i64 0, .int .i64 0, .slice none 0 0] 40
    clear HF
    have HF := lk X.sep 1 1 rfl rfl
    refine hK _ _ (fun _ => HF) ?_
    clear hK K
    try simp only [Act.put]
    generalize hw : w8.alloc (.cells #[.int .i64 0, .int .i64 0, .int .i64 0, .slice none 0 0] 40) = w9 at *
    clear hw
    refine wpAnyL_step (i := 7) (by kernel_rfl) rfl rfl ?_
    intro K hK
    go_simp
    refine (lbelow_any _ _ _ X.cur 4 (by decide)).mono ?_
    rintro e w10 ⟨z1, hz1, rfl, cu, gr⟩
    replace X := X.draw cu gr
    clear cu gr
    clear HF
    have HF := lk X.sep 1 1 rfl rfl
    refine hK _ _ (fun _ => HF) ?_
    clear hK K
    try simp only [Act.put]
    obtain ⟨b2, hb2⟩ : ∃ b : Nat, (b : Int) = (b1 : Int) + 1 + z1 := ⟨((b1 : Int) + 1 + z1).toNat, by omega⟩
    have hwb2 : IntKind.i64.wrap ((b1 : Int) + 1 + z1) = (b2 : Int) := by have := HB1.out; rw [IntKind.wrap_i64]; omega
    have HB2 := jd (show b1 < b2 ∧ b2 ≤ 11 by have := HB1.out; omega)
    clear hb2 hz1
    refine tk 8 (v := ?_) rfl rfl HF (.inl ⟨by rfl, ?_⟩) ?_
    rotate_left 1
    · (rintro v a0; go_simp; try with_reducible rfl)
    try simp only [Act.put]
    obtain ⟨t2, ht2⟩ : ∃ t, t = (headOf l (num + 1) b2).tm := ⟨_, rfl⟩
    obtain ⟨s2, hs2⟩ : ∃ s, s = (headOf l (num + 1) b2).seen := ⟨_, rfl⟩
    have HG9 := jd (show headOf l (num + 1) b2 = ⟨num + 1, (b2 : Int), t2, s2⟩ by rw [ht2, hs2]; rfl)
    refine wpAnyL_step (i := 9) (by kernel_rfl) rfl rfl ?_
    intro K hK
    go_simp
    refine (w9head_any A n c _ l (num + 1) b2 _ (X.sep.own_ 3 rfl) (by have := HN.out; have := HB2.out.2; omega) (by have := HN.out; omega)).mono ?_
    rintro e w11 ⟨Ag, ng, cg, rfl, o, b⟩
    rw [← ht2]
    rw [← hs2] at o
    clear ht2 hs2
    obtain ⟨fp_h2, X'⟩ := X.has b o
    clear X; have X := X'; clear X' b o
    clear HF
    have HF := lk X.sep 2 1 rfl rfl
    refine hK _ _ (fun _ => HF) ?_
    clear hK K
    try simp only [Act.put]
    have f0 := lk X.sep 1 0 rfl rfl
    have f1 := (X.sep.at_ 1 rfl).free 0
    have f2 := lk X.sep 1 1 rfl rfl
    have f3 := (X.sep.at_ 1 rfl).free 1
    have f4 := lk X.sep 1 2 rfl rfl
    have f5 := (X.sep.at_ 1 rfl).free 2
    have f6 := lk X.sep 1 3 rfl rfl
    have f7 := (X.sep.at_ 1 rfl).free 3
    refine wpAnyL_step (i := 11) (by kernel_rfl) rfl rfl ?_
    intro K hK
    go_simp
    refine hK _ _ (fun h => nomatch (show true = false from h)) ?_
    clear hK K
    try simp only [Act.put]
    replace X := X.put 1 rfl 0 (.int .i64 (num + 1))
    replace X := X.put 1 rfl 1 (.int .i64 (b2 : Int))
    replace X := X.put 1 rfl 2 (.int .i64 t2)
    replace X := X.put 1 rfl 3 (.slice Ag ng cg)
    replace X : DrL w1 _ _ _ [_, .blk (w8.heap.size) #[.int .i64 (num + 1), .int .i64 (b2 : Int), .int .i64 t2, .slice Ag ng cg] 40, .blk (qe) #[.int .i64 num, .int .i64 (b1 : Int), .int .i64 t1, .slice Ae ne ce] 40, _, _] := X
    generalize (((w11.setCell ⟨w8.heap.size, 0, none⟩ (.int .i64 (num + 1))).setCell ⟨w8.heap.size, 1, none⟩ (.int .i64 (b2 : Int))).setCell ⟨w8.heap.size, 2, none⟩ (.int .i64 t2)).setCell ⟨w8.heap.size, 3, none⟩ (.slice Ag ng cg) = w12 at *
    clear HF f0 f1 f2 f3 f4 f5 f6 f7
    refine wpAnyL_done (by kernel_rfl) ?_ _
    replace X := X.with_ (X.sep.pick 0 rfl)
    replace X := X.with_ (X.sep.pick 1 rfl)
    replace X := X.with_ (X.sep.sub (.cons_cons _ (.cons_cons _ (.cons_cons _ (.cons_cons _ (.cons_cons _ (List.nil_sublist _)))))))
    go_wp2_with fail
    go_meet
    exact ⟨_, _, _, _, _, _, _, _, rfl, HB2.out, HG9.out, X⟩
 obtain ⟨qg, b2, t2, s2, Ag, ng, cg, fp_h2, rfl, hb2, hg9, X⟩ := hcut
 clear XH
 generalize wc = w8 at *
 have HB2 := jd hb2
 have HSZ2 := jd (show mrkSz s2 ≤ 1048576 by have h9 := seen_szU (num := num + 1) (b := b2) HR.out HL.out (by have := HNUM.out; have := HB1.out; omega) hb2.2; rw [hg9] at h9; exact h9)
 obtain ⟨T1, T2, k1, k2, o0, o1, o2, o3, f1, f2, f3⟩ := turn_law HR.out HL.out HNUM.out HB1.out.1 hb2.1 hb2.2 HE9.out.symm hg9.symm
 have K1 := jd k1
 have K2 := jd k2
 have F1 := jd f1
 have F2 := jd f2
 have F3 := jd f3
 have S0 := jd (Nat.le_trans (keptB_sz o0) (show 9800 ≤ 1048576 by decide))
 have S1 := jd (Nat.le_trans (keptB_sz o1) (show 9800 ≤ 1048576 by decide))
 have S2 := jd (Nat.le_trans (keptB_sz o2) (show 9800 ≤ 1048576 by decide))
 have S3 := jd (Nat.le_trans (keptB_sz o3) (show 9800 ≤ 1048576 by decide))
 have O3 := jd ((keptB_iff _).1 o3).1
 generalize hT0 : newKeptM = T0 at *
 have HT0 := jd hT0
 clear hT0
 obtain ⟨TS, hTS⟩ : ∃ t, t = bothSynced T1 := ⟨_, rfl⟩
 rw [← hTS] at K2 S2
 have HTS := jd hTS.symm
 clear k1 k2 o0 o1 o2 o3 f1 f2 f3 hb2 hg9 hTS hw1 hw2
 replace X := X.with_ (X.sep.sub (.cons_cons _ (.cons_cons _ (.cons_cons _ (.cons_cons _ (List.nil_sublist _))))))
 have f0 := lk X.sep 2 0 rfl rfl
 have f1 := lk X.sep 2 1 rfl rfl
 have f2 := lk X.sep 2 2 rfl rfl
 have f3 := lk X.sep 2 3 rfl rfl
 go_wp2_with fail
 have XH := jd X
 clear X
 go_cut [8, 9] (fun s0_ s1_ wx => ∃ (qb : Nat) (At0 : Option Addr) (nt0 ct0 : Nat) (At1 : Option Addr) (nt1 ct1 : Nat) (At2 : Option Addr) (nt2 ct2 : Nat) (At3 : Option Addr) (nt3 ct3 : Nat) (fp_t : List Nat), s0_ = .pointer (some ⟨qb, 0, none⟩) ∧ s1_ = .bool true ∧ DrL w1 wx w.heap.size w.heap.size [.blk qb #[.slice At0 nt0 ct0, .slice At1 nt1 ct1, .slice At2 nt2 ct2, .slice At3 nt3 ct3] 60, .own T1.cells [.slice At0 nt0 ct0, .slice At1 nt1 ct1, .slice At2 nt2 ct2, .slice At3 nt3 ct3] fp_t, .blk qg #[.int .i64 (num + 1), .int .i64 (b2 : Int), .int .i64 t2, .slice Ag ng cg] 40, .own [mrkD s2] [.slice Ag ng cg] fp_h2, .blk qe #[.int .i64 num, .int .i64 (b1 : Int), .int .i64 t1, .slice Ae ne ce] 40, .own [mrkD s1] [.slice Ae ne ce] fp_h1])
 case first =>
  have X := XH.out
  refine wp_region_L (fun v => v.cell? ⟨qe, 0, none⟩ = some (.int .i64 num) ∧ v.cell? ⟨qe, 1, none⟩ = some (.int .i64 (b1 : Int)) ∧ v.cell? ⟨qe, 2, none⟩ = some (.int .i64 t1) ∧ v.cell? ⟨qe, 3, none⟩ = some (.slice Ae ne ce)) 8 (by kernel_rfl) ?_
  clear XH
  replace X := X.drew
  generalize w8.drew = w9 at *
  have HF : w9.cell? ⟨qe, 0, none⟩ = some (.int .i64 num) ∧ w9.cell? ⟨qe, 1, none⟩ = some (.int .i64 (b1 : Int)) ∧ w9.cell? ⟨qe, 2, none⟩ = some (.int .i64 t1) ∧ w9.cell? ⟨qe, 3, none⟩ = some (.slice Ae ne ce) := ⟨(X.sep.at_ 2 rfl).cell 0, (X.sep.at_ 2 rfl).cell 1, (X.sep.at_ 2 rfl).cell 2, (X.sep.at_ 2 rfl).cell 3⟩
  refine tk 1 (v := ?_) rfl rfl HF (.inl ⟨by rfl, ?_⟩) ?_
  rotate_left 1
  · (rintro v ⟨a0, a1, a2, a3⟩; go_simp; try with_reducible rfl)
  try simp only [Act.put]
  refine wpAnyL_two (i := 0) (k := 6) (by kernel_rfl) rfl rfl rfl rfl ?_ ?_
  · intro K hK
    go_simp
    refine (HNK.out _).mono ?_
    rintro e w10 ⟨Ak0, nk0, ck0, Ak1, nk1, ck1, Ak2, nk2, ck2, Ak3, nk3, ck3, rfl, o, b⟩
    rw [HT0.out] at o
    obtain ⟨fp_nk, X'⟩ := X.has b o
    clear X; have X := X'; clear X' b o
    clear HF
    have HF : w10.cell? ⟨qe, 0, none⟩ = some (.int .i64 num) ∧ w10.cell? ⟨qe, 1, none⟩ = some (.int .i64 (b1 : Int)) ∧ w10.cell? ⟨qe, 2, none⟩ = some (.int .i64 t1) ∧ w10.cell? ⟨qe, 3, none⟩ = some (.slice Ae ne ce) := ⟨(X.sep.at_ 3 rfl).cell 0, (X.sep.at_ 3 rfl).cell 1, (X.sep.at_ 3 rfl).cell 2, (X.sep.at_ 3 rfl).cell 3⟩
    refine hK _ _ (fun _ => HF) ?_
    clear hK K
    try simp only [Act.put]
    refine wpAnyL_two (i := 2) (k := 6) (by kernel_rfl) rfl rfl rfl rfl ?_ ?_
    · intro K hK
      go_simp
      refine (HKH.out Ak0 nk0 ck0 Ak1 nk1 ck1 Ak2 nk2 ck2 Ak3 nk3 ck3 T0 num (b1 : Int) t1 Ae ne ce s1 _ (X.sep.own_ 0 rfl).rd S0.out (X.sep.own_ 4 rfl).rd HSZ1.out).mono ?_
      rintro e w11 ⟨At0, nt0, ct0, At1, nt1, ct1, At2, nt2, ct2, At3, nt3, ct3, rfl, o, b⟩
      rw [K1.out] at o ⊢
      obtain ⟨fp_t, X'⟩ := X.has b o
      clear X; have X := X'; clear X' b o
      clear HF
      have HF : w11.cell? ⟨qe, 0, none⟩ = some (.int .i64 num) ∧ w11.cell? ⟨qe, 1, none⟩ = some (.int .i64 (b1 : Int)) ∧ w11.cell? ⟨qe, 2, none⟩ = some (.int .i64 t1) ∧ w11.cell? ⟨qe, 3, none⟩ = some (.slice Ae ne ce) := ⟨(X.sep.at_ 4 rfl).cell 0, (X.sep.at_ 4 rfl).cell 1, (X.sep.at_ 4 rfl).cell 2, (X.sep.at_ 4 rfl).cell 3⟩
      refine hK _ _ (fun _ => HF) ?_
      clear hK K
      try simp only [Act.put]
      refine wpAnyL_pure (i := 3) (v := ?_) rfl rfl (by kernel_rfl) (by kernel_rfl) (by kernel_rfl) (fun _ _ _ h => h) HF (Or.inl ⟨by rfl, ?_⟩) ?_
      rotate_left 1
      · (intro v _; go_simp; try with_reducible rfl)
      try simp only [Act.put]
      refine wpAnyL_pure (i := 4) (v := ?_) rfl rfl (by kernel_rfl) (by kernel_rfl) (by kernel_rfl) (fun _ _ _ h => h) HF (Or.inl ⟨by rfl, ?_⟩) ?_
      rotate_left 1
      · (intro v _; go_simp; try with_reducible rfl)
      try simp only [Act.put]
      refine wpAnyL_pure (i := 5) (v := ?_) rfl rfl (by kernel_rfl) (by kernel_rfl) (by kernel_rfl) (fun _ _ _ h => h) HF (Or.inl ⟨by rfl, ?_⟩) ?_
      rotate_left 1
      · (intro v _; go_simp; try with_reducible rfl)
      try simp only [Act.put]
      refine wpAnyL_step (i := 6) (by kernel_rfl) rfl rfl ?_
      intro K hK
      go_simp
      replace X := X.boxAt (w11.heap.size) rfl #[.slice none 0 0, .slice none 0 0, .slice none 0 0, .slice none 0 0] 60
      clear HF
      have HF : (w11.alloc (.cells #[.slice none 0 0, .slice none 0 0, .slice none 0 0, .slice none 0 0] 60)).cell? ⟨qe, 0, none⟩ = some (.int .i64 num) ∧ (w11.alloc (.cells #[.slice none 0 0, .slice none 0 0, .slice none 0 0, .slice none 0 0] 60)).cell? ⟨qe, 1, none⟩ = some (.int .i64 (b1 : Int)) ∧ (w11.alloc (.cells #[.slice none 0 0, .slice none 0 0, .slice none 0 0, .slice none 0 0] 60)).cell? ⟨qe, 2, none⟩ = some (.int .i64 t1) ∧ (w11.alloc (.cells #[.slice none 0 0, .slice none 0 0, .slice none 0 0, .slice none 0 0] 60)).cell? ⟨qe, 3, none⟩ = some (.slice Ae ne ce) := ⟨(X.sep.at_ 5 rfl).cell 0, (X.sep.at_ 5 rfl).cell 1, (X.sep.at_ 5 rfl).cell 2, (X.sep.at_ 5 rfl).cell 3⟩
      refine hK _ _ (fun _ => HF) ?_
      clear hK K
      try simp only [Act.put]
      generalize hw : w11.alloc (.cells #[.slice none 0 0, .slice none 0 0, .slice none 0 0, .slice none 0 0] 60) = w12 at *
      clear hw
      have f4 := lk X.sep 0 0 rfl rfl
      have f5 := (X.sep.at_ 0 rfl).free 0
      have f6 := lk X.sep 0 1 rfl rfl
      have f7 := (X.sep.at_ 0 rfl).free 1
      have f8 := lk X.sep 0 2 rfl rfl
      have f9 := (X.sep.at_ 0 rfl).free 2
      have f10 := lk X.sep 0 3 rfl rfl
      have f11 := (X.sep.at_ 0 rfl).free 3
      refine wpAnyL_step (i := 7) (by kernel_rfl) rfl rfl ?_
      intro K hK
      go_simp
      replace X := X.put 0 rfl 0 (.slice At0 nt0 ct0)
      replace X := X.put 0 rfl 1 (.slice At1 nt1 ct1)
      replace X := X.put 0 rfl 2 (.slice At2 nt2 ct2)
      replace X := X.put 0 rfl 3 (.slice At3 nt3 ct3)
      replace X : DrL w1 _ _ _ [.blk (w11.heap.size) #[.slice At0 nt0 ct0, .slice At1 nt1 ct1, .slice At2 nt2 ct2, .slice At3 nt3 ct3] 60, _, _, .blk (qg) #[.int .i64 (num + 1), .int .i64 (b2 : Int), .int .i64 t2, .slice Ag ng cg] 40, _, .blk (qe) #[.int .i64 num, .int .i64 (b1 : Int), .int .i64 t1, .slice Ae ne ce] 40, _] := X
      clear HF
      have HF : ((((w12.setCell ⟨w11.heap.size, 0, none⟩ (.slice At0 nt0 ct0)).setCell ⟨w11.heap.size, 1, none⟩ (.slice At1 nt1 ct1)).setCell ⟨w11.heap.size, 2, none⟩ (.slice At2 nt2 ct2)).setCell ⟨w11.heap.size, 3, none⟩ (.slice At3 nt3 ct3)).cell? ⟨qe, 0, none⟩ = some (.int .i64 num) ∧ ((((w12.setCell ⟨w11.heap.size, 0, none⟩ (.slice At0 nt0 ct0)).setCell ⟨w11.heap.size, 1, none⟩ (.slice At1 nt1 ct1)).setCell ⟨w11.heap.size, 2, none⟩ (.slice At2 nt2 ct2)).setCell ⟨w11.heap.size, 3, none⟩ (.slice At3 nt3 ct3)).cell? ⟨qe, 1, none⟩ = some (.int .i64 (b1 : Int)) ∧ ((((w12.setCell ⟨w11.heap.size, 0, none⟩ (.slice At0 nt0 ct0)).setCell ⟨w11.heap.size, 1, none⟩ (.slice At1 nt1 ct1)).setCell ⟨w11.heap.size, 2, none⟩ (.slice At2 nt2 ct2)).setCell ⟨w11.heap.size, 3, none⟩ (.slice At3 nt3 ct3)).cell? ⟨qe, 2, none⟩ = some (.int .i64 t1) ∧ ((((w12.setCell ⟨w11.heap.size, 0, none⟩ (.slice At0 nt0 ct0)).setCell ⟨w11.heap.size, 1, none⟩ (.slice At1 nt1 ct1)).setCell ⟨w11.heap.size, 2, none⟩ (.slice At2 nt2 ct2)).setCell ⟨w11.heap.size, 3, none⟩ (.slice At3 nt3 ct3)).cell? ⟨qe, 3, none⟩ = some (.slice Ae ne ce) := ⟨(X.sep.at_ 5 rfl).cell 0, (X.sep.at_ 5 rfl).cell 1, (X.sep.at_ 5 rfl).cell 2, (X.sep.at_ 5 rfl).cell 3⟩
      refine hK _ _ (fun _ => HF) ?_
      clear hK K
      try simp only [Act.put]
      generalize (((w12.setCell ⟨w11.heap.size, 0, none⟩ (.slice At0 nt0 ct0)).setCell ⟨w11.heap.size, 1, none⟩ (.slice At1 nt1 ct1)).setCell ⟨w11.heap.size, 2, none⟩ (.slice At2 nt2 ct2)).setCell ⟨w11.heap.size, 3, none⟩ (.slice At3 nt3 ct3) = w13 at *
      clear f4 f5 f6 f7 f8 f9 f10 f11
      refine wpAnyL_step (i := 8) (by kernel_rfl) rfl rfl ?_
      intro K hK
      go_simp
      refine hK _ _ (fun h => nomatch (show true = false from h)) ?_
      clear hK K
      try simp only [Act.put]
      refine wpAnyL_done (by kernel_rfl) ?_ _
      clear HF
      replace X := X.with_ (X.sep.pick 1 rfl)
      replace X := X.with_ (X.sep.pick 1 rfl)
      replace X := X.with_ (X.sep.sub (.cons_cons _ (.cons_cons _ (.cons _ (.cons_cons _ (.cons_cons _ (.cons_cons _ (.cons_cons _ (List.nil_sublist _)))))))))
      go_wp2_with fail
      go_meet
      exact ⟨_, _, _, _, _, _, _, _, _, _, _, _, _, _, rfl, rfl, X⟩
    · intro K hK
      go_simp
      replace X := X.boxAt (w10.heap.size) rfl #[.slice none 0 0, .slice none 0 0, .slice none 0 0, .slice none 0 0] 60
      clear HF
      have HF : (w10.alloc (.cells #[.slice none 0 0, .slice none 0 0, .slice none 0 0, .slice none 0 0] 60)).cell? ⟨qe, 0, none⟩ = some (.int .i64 num) ∧ (w10.alloc (.cells #[.slice none 0 0, .slice none 0 0, .slice none 0 0, .slice none 0 0] 60)).cell? ⟨qe, 1, none⟩ = some (.int .i64 (b1 : Int)) ∧ (w10.alloc (.cells #[.slice none 0 0, .slice none 0 0, .slice none 0 0, .slice none 0 0] 60)).cell? ⟨qe, 2, none⟩ = some (.int .i64 t1) ∧ (w10.alloc (.cells #[.slice none 0 0, .slice none 0 0, .slice none 0 0, .slice none 0 0] 60)).cell? ⟨qe, 3, none⟩ = some (.slice Ae ne ce) := ⟨(X.sep.at_ 4 rfl).cell 0, (X.sep.at_ 4 rfl).cell 1, (X.sep.at_ 4 rfl).cell 2, (X.sep.at_ 4 rfl).cell 3⟩
      refine hK _ _ (fun _ => HF) ?_
      clear hK K
      try simp only [Act.put]
      generalize hw : w10.alloc (.cells #[.slice none 0 0, .slice none 0 0, .slice none 0 0, .slice none 0 0] 60) = w11 at *
      clear hw
      refine wpAnyL_step (i := 2) (by kernel_rfl) rfl rfl ?_
      intro K hK
      go_simp
      refine (HKH.out Ak0 nk0 ck0 Ak1 nk1 ck1 Ak2 nk2 ck2 Ak3 nk3 ck3 T0 num (b1 : Int) t1 Ae ne ce s1 _ (X.sep.own_ 1 rfl).rd S0.out (X.sep.own_ 5 rfl).rd HSZ1.out).mono ?_
      rintro e w12 ⟨At0, nt0, ct0, At1, nt1, ct1, At2, nt2, ct2, At3, nt3, ct3, rfl, o, b⟩
      rw [K1.out] at o ⊢
      obtain ⟨fp_t, X'⟩ := X.has b o
      clear X; have X := X'; clear X' b o
      clear HF
      have HF : w12.cell? ⟨qe, 0, none⟩ = some (.int .i64 num) ∧ w12.cell? ⟨qe, 1, none⟩ = some (.int .i64 (b1 : Int)) ∧ w12.cell? ⟨qe, 2, none⟩ = some (.int .i64 t1) ∧ w12.cell? ⟨qe, 3, none⟩ = some (.slice Ae ne ce) := ⟨(X.sep.at_ 5 rfl).cell 0, (X.sep.at_ 5 rfl).cell 1, (X.sep.at_ 5 rfl).cell 2, (X.sep.at_ 5 rfl).cell 3⟩
      refine hK _ _ (fun _ => HF) ?_
      clear hK K
      try simp only [Act.put]
      refine wpAnyL_pure (i := 3) (v := ?_) rfl rfl (by kernel_rfl) (by kernel_rfl) (by kernel_rfl) (fun _ _ _ h => h) HF (Or.inl ⟨by rfl, ?_⟩) ?_
      rotate_left 1
      · (intro v _; go_simp; try with_reducible rfl)
      try simp only [Act.put]
      refine wpAnyL_pure (i := 4) (v := ?_) rfl rfl (by kernel_rfl) (by kernel_rfl) (by kernel_rfl) (fun _ _ _ h => h) HF (Or.inl ⟨by rfl, ?_⟩) ?_
      rotate_left 1
      · (intro v _; go_simp; try with_reducible rfl)
      try simp only [Act.put]
      refine wpAnyL_pure (i := 5) (v := ?_) rfl rfl (by kernel_rfl) (by kernel_rfl) (by kernel_rfl) (fun _ _ _ h => h) HF (Or.inl ⟨by rfl, ?_⟩) ?_
      rotate_left 1
      · (intro v _; go_simp; try with_reducible rfl)
      try simp only [Act.put]
      have f4 := lk X.sep 1 0 rfl rfl
      have f5 := (X.sep.at_ 1 rfl).free 0
      have f6 := lk X.sep 1 1 rfl rfl
      have f7 := (X.sep.at_ 1 rfl).free 1
      have f8 := lk X.sep 1 2 rfl rfl
      have f9 := (X.sep.at_ 1 rfl).free 2
      have f10 := lk X.sep 1 3 rfl rfl
      have f11 := (X.sep.at_ 1 rfl).free 3
      refine wpAnyL_step (i := 7) (by kernel_rfl) rfl rfl ?_
      intro K hK
      go_simp
      replace X := X.put 1 rfl 0 (.slice At0 nt0 ct0)
      replace X := X.put 1 rfl 1 (.slice At1 nt1 ct1)
      replace X := X.put 1 rfl 2 (.slice At2 nt2 ct2)
      replace X := X.put 1 rfl 3 (.slice At3 nt3 ct3)
      replace X : DrL w1 _ _ _ [_, .blk (w10.heap.size) #[.slice At0 nt0 ct0, .slice At1 nt1 ct1, .slice At2 nt2 ct2, .slice At3 nt3 ct3] 60, _, .blk (qg) #[.int .i64 (num + 1), .int .i64 (b2 : Int), .int .i64 t2, .slice Ag ng cg] 40, _, .blk (qe) #[.int .i64 num, .int .i64 (b1 : Int), .int .i64 t1, .slice Ae ne ce] 40, _] := X
      clear HF
      have HF : ((((w12.setCell ⟨w10.heap.size, 0, none⟩ (.slice At0 nt0 ct0)).setCell ⟨w10.heap.size, 1, none⟩ (.slice At1 nt1 ct1)).setCell ⟨w10.heap.size, 2, none⟩ (.slice At2 nt2 ct2)).setCell ⟨w10.heap.size, 3, none⟩ (.slice At3 nt3 ct3)).cell? ⟨qe, 0, none⟩ = some (.int .i64 num) ∧ ((((w12.setCell ⟨w10.heap.size, 0, none⟩ (.slice At0 nt0 ct0)).setCell ⟨w10.heap.size, 1, none⟩ (.slice At1 nt1 ct1)).setCell ⟨w10.heap.size, 2, none⟩ (.slice At2 nt2 ct2)).setCell ⟨w10.heap.size, 3, none⟩ (.slice At3 nt3 ct3)).cell? ⟨qe, 1, none⟩ = some (.int .i64 (b1 : Int)) ∧ ((((w12.setCell ⟨w10.heap.size, 0, none⟩ (.slice At0 nt0 ct0)).setCell ⟨w10.heap.size, 1, none⟩ (.slice At1 nt1 ct1)).setCell ⟨w10.heap.size, 2, none⟩ (.slice At2 nt2 ct2)).setCell ⟨w10.heap.size, 3, none⟩ (.slice At3 nt3 ct3)).cell? ⟨qe, 2, none⟩ = some (.int .i64 t1) ∧ ((((w12.setCell ⟨w10.heap.size, 0, none⟩ (.slice At0 nt0 ct0)).setCell ⟨w10.heap.size, 1, none⟩ (.slice At1 nt1 ct1)).setCell ⟨w10.heap.size, 2, none⟩ (.slice At2 nt2 ct2)).setCell ⟨w10.heap.size, 3, none⟩ (.slice At3 nt3 ct3)).cell? ⟨qe, 3, none⟩ = some (.slice Ae ne ce) := ⟨(X.sep.at_ 5 rfl).cell 0, (X.sep.at_ 5 rfl).cell 1, (X.sep.at_ 5 rfl).cell 2, (X.sep.at_ 5 rfl).cell 3⟩
      refine hK _ _ (fun _ => HF) ?_
      clear hK K
      try simp only [Act.put]
      generalize (((w12.setCell ⟨w10.heap.size, 0, none⟩ (.slice At0 nt0 ct0)).setCell ⟨w10.heap.size, 1, none⟩ (.slice At1 nt1 ct1)).setCell ⟨w10.heap.size, 2, none⟩ (.slice At2 nt2 ct2)).setCell ⟨w10.heap.size, 3, none⟩ (.slice At3 nt3 ct3) = w13 at *
      clear f4 f5 f6 f7 f8 f9 f10 f11
      refine wpAnyL_step (i := 8) (by kernel_rfl) rfl rfl ?_
      intro K hK
      go_simp
      refine hK _ _ (fun h => nomatch (show true = false from h)) ?_
      clear hK K
      try simp only [Act.put]
      refine wpAnyL_done (by kernel_rfl) ?_ _
      clear HF
      replace X := X.with_ (X.sep.pick 0 rfl)
      replace X := X.with_ (X.sep.pick 1 rfl)
      replace X := X.with_ (X.sep.sub (.cons_cons _ (.cons_cons _ (.cons _ (.cons_cons _ (.cons_cons _ (.cons_cons _ (.cons_cons _ (List.nil_sublist _)))))))))
      go_wp2_with fail
      go_meet
      exact ⟨_, _, _, _, _, _, _, _, _, _, _, _, _, _, rfl, rfl, X⟩
  · intro K hK
    go_simp
    replace X := X.boxAt (w9.heap.size) rfl #[.slice none 0 0, .slice none 0 0, .slice none 0 0, .slice none 0 0] 60
    clear HF
    have HF : (w9.alloc (.cells #[.slice none 0 0, .slice none 0 0, .slice none 0 0, .slice none 0 0] 60)).cell? ⟨qe, 0, none⟩ = some (.int .i64 num) ∧ (w9.alloc (.cells #[.slice none 0 0, .slice none 0 0, .slice none 0 0, .slice none 0 0] 60)).cell? ⟨qe, 1, none⟩ = some (.int .i64 (b1 : Int)) ∧ (w9.alloc (.cells #[.slice none 0 0, .slice none 0 0, .slice none 0 0, .slice none 0 0] 60)).cell? ⟨qe, 2, none⟩ = some (.int .i64 t1) ∧ (w9.alloc (.cells #[.slice none 0 0, .slice none 0 0, .slice none 0 0, .slice none 0 0] 60)).cell? ⟨qe, 3, none⟩ = some (.slice Ae ne ce) := ⟨(X.sep.at_ 3 rfl).cell 0, (X.sep.at_ 3 rfl).cell 1, (X.sep.at_ 3 rfl).cell 2, (X.sep.at_ 3 rfl).cell 3⟩
    refine hK _ _ (fun _ => HF) ?_
    clear hK K
    try simp only [Act.put]
    generalize hw : w9.alloc (.cells #[.slice none 0 0, .slice none 0 0, .slice none 0 0, .slice none 0 0] 60) = w10 at *
    clear hw
    refine wpAnyL_step (i := 0) (by kernel_rfl) rfl rfl ?_
    intro K hK
    go_simp
    refine (HNK.out _).mono ?_
    rintro e w11 ⟨Ak0, nk0, ck0, Ak1, nk1, ck1, Ak2, nk2, ck2, Ak3, nk3, ck3, rfl, o, b⟩
    rw [HT0.out] at o
    obtain ⟨fp_nk, X'⟩ := X.has b o
    clear X; have X := X'; clear X' b o
    clear HF
    have HF : w11.cell? ⟨qe, 0, none⟩ = some (.int .i64 num) ∧ w11.cell? ⟨qe, 1, none⟩ = some (.int .i64 (b1 : Int)) ∧ w11.cell? ⟨qe, 2, none⟩ = some (.int .i64 t1) ∧ w11.cell? ⟨qe, 3, none⟩ = some (.slice Ae ne ce) := ⟨(X.sep.at_ 4 rfl).cell 0, (X.sep.at_ 4 rfl).cell 1, (X.sep.at_ 4 rfl).cell 2, (X.sep.at_ 4 rfl).cell 3⟩
    refine hK _ _ (fun _ => HF) ?_
    clear hK K
    try simp only [Act.put]
    refine wpAnyL_step (i := 2) (by kernel_rfl) rfl rfl ?_
    intro K hK
    go_simp
    refine (HKH.out Ak0 nk0 ck0 Ak1 nk1 ck1 Ak2 nk2 ck2 Ak3 nk3 ck3 T0 num (b1 : Int) t1 Ae ne ce s1 _ (X.sep.own_ 0 rfl).rd S0.out (X.sep.own_ 5 rfl).rd HSZ1.out).mono ?_
    rintro e w12 ⟨At0, nt0, ct0, At1, nt1, ct1, At2, nt2, ct2, At3, nt3, ct3, rfl, o, b⟩
    rw [K1.out] at o ⊢
    obtain ⟨fp_t, X'⟩ := X.has b o
    clear X; have X := X'; clear X' b o
    clear HF
    have HF : w12.cell? ⟨qe, 0, none⟩ = some (.int .i64 num) ∧ w12.cell? ⟨qe, 1, none⟩ = some (.int .i64 (b1 : Int)) ∧ w12.cell? ⟨qe, 2, none⟩ = some (.int .i64 t1) ∧ w12.cell? ⟨qe, 3, none⟩ = some (.slice Ae ne ce) := ⟨(X.sep.at_ 5 rfl).cell 0, (X.sep.at_ 5 rfl).cell 1, (X.sep.at_ 5 rfl).cell 2, (X.sep.at_ 5 rfl).cell 3⟩
    refine hK _ _ (fun _ => HF) ?_
    clear hK K
    try simp only [Act.put]
    refine wpAnyL_pure (i := 3) (v := ?_) rfl rfl (by kernel_rfl) (by kernel_rfl) (by kernel_rfl) (fun _ _ _ h => h) HF (Or.inl ⟨by rfl, ?_⟩) ?_
    rotate_left 1
    · (intro v _; go_simp; try with_reducible rfl)
    try simp only [Act.put]
    refine wpAnyL_pure (i := 4) (v := ?_) rfl rfl (by kernel_rfl) (by kernel_rfl) (by kernel_rfl) (fun _ _ _ h => h) HF (Or.inl ⟨by rfl, ?_⟩) ?_
    rotate_left 1
    · (intro v _; go_simp; try with_reducible rfl)
    try simp only [Act.put]
    refine wpAnyL_pure (i := 5) (v := ?_) rfl rfl (by kernel_rfl) (by kernel_rfl) (by kernel_rfl) (fun _ _ _ h => h) HF (Or.inl ⟨by rfl, ?_⟩) ?_
    rotate_left 1
    · (intro v _; go_simp; try with_reducible rfl)
    try simp only [Act.put]
    have f4 := lk X.sep 2 0 rfl rfl
    have f5 := (X.sep.at_ 2 rfl).free 0
    have f6 := lk X.sep 2 1 rfl rfl
    have f7 := (X.sep.at_ 2 rfl).free 1
    have f8 := lk X.sep 2 2 rfl rfl
    have f9 := (X.sep.at_ 2 rfl).free 2
    have f10 := lk X.sep 2 3 rfl rfl
    have f11 := (X.sep.at_ 2 rfl).free 3
    refine wpAnyL_step (i := 7) (by kernel_rfl) rfl rfl ?_
    intro K hK
    go_simp
    replace X := X.put 2 rfl 0 (.slice At0 nt0 ct0)
    replace X := X.put 2 rfl 1 (.slice At1 nt1 ct1)
    replace X := X.put 2 rfl 2 (.slice At2 nt2 ct2)
    replace X := X.put 2 rfl 3 (.slice At3 nt3 ct3)
    replace X : DrL w1 _ _ _ [_, _, .blk (w9.heap.size) #[.slice At0 nt0 ct0, .slice At1 nt1 ct1, .slice At2 nt2 ct2, .slice At3 nt3 ct3] 60, .blk (qg) #[.int .i64 (num + 1), .int .i64 (b2 : Int), .int .i64 t2, .slice Ag ng cg] 40, _, .blk (qe) #[.int .i64 num, .int .i64 (b1 : Int), .int .i64 t1, .slice Ae ne ce] 40, _] := X
    clear HF
    have HF : ((((w12.setCell ⟨w9.heap.size, 0, none⟩ (.slice At0 nt0 ct0)).setCell ⟨w9.heap.size, 1, none⟩ (.slice At1 nt1 ct1)).setCell ⟨w9.heap.size, 2, none⟩ (.slice At2 nt2 ct2)).setCell ⟨w9.heap.size, 3, none⟩ (.slice At3 nt3 ct3)).cell? ⟨qe, 0, none⟩ = some (.int .i64 num) ∧ ((((w12.setCell ⟨w9.heap.size, 0, none⟩ (.slice At0 nt0 ct0)).setCell ⟨w9.heap.size, 1, none⟩ (.slice At1 nt1 ct1)).setCell ⟨w9.heap.size, 2, none⟩ (.slice At2 nt2 ct2)).setCell ⟨w9.heap.size, 3, none⟩ (.slice At3 nt3 ct3)).cell? ⟨qe, 1, none⟩ = some (.int .i64 (b1 : Int)) ∧ ((((w12.setCell ⟨w9.heap.size, 0, none⟩ (.slice At0 nt0 ct0)).setCell ⟨w9.heap.size, 1, none⟩ (.slice At1 nt1 ct1)).setCell ⟨w9.heap.size, 2, none⟩ (.slice At2 nt2 ct2)).setCell ⟨w9.heap.size, 3, none⟩ (.slice At3 nt3 ct3)).cell? ⟨qe, 2, none⟩ = some (.int .i64 t1) ∧ ((((w12.setCell ⟨w9.heap.size, 0, none⟩ (.slice At0 nt0 ct0)).setCell ⟨w9.heap.size, 1, none⟩ (.slice At1 nt1 ct1)).setCell ⟨w9.heap.size, 2, none⟩ (.slice At2 nt2 ct2)).setCell ⟨w9.heap.size, 3, none⟩ (.slice At3 nt3 ct3)).cell? ⟨qe, 3, none⟩ = some (.slice Ae ne ce) := ⟨(X.sep.at_ 5 rfl).cell 0, (X.sep.at_ 5 rfl).cell 1, (X.sep.at_ 5 rfl).cell 2, (X.sep.at_ 5 rfl).cell 3⟩
    refine hK _ _ (fun _ => HF) ?_
    clear hK K
    try simp only [Act.put]
    generalize (((w12.setCell ⟨w9.heap.size, 0, none⟩ (.slice At0 nt0 ct0)).setCell ⟨w9.heap.size, 1, none⟩ (.slice At1 nt1 ct1)).setCell ⟨w9.heap.size, 2, none⟩ (.slice At2 nt2 ct2)).setCell ⟨w9.heap.size, 3, none⟩ (.slice At3 nt3 ct3) = w13 at *
    clear f4 f5 f6 f7 f8 f9 f10 f11
    refine wpAnyL_step (i := 8) (by kernel_rfl) rfl rfl ?_
    intro K hK
    go_simp
    refine hK _ _ (fun h => nomatch (show true = false from h)) ?_
    clear hK K
    try simp only [Act.put]
    refine wpAnyL_done (by kernel_rfl) ?_ _
    clear HF
    replace X := X.with_ (X.sep.pick 0 rfl)
    replace X := X.with_ (X.sep.pick 2 rfl)
    replace X := X.with_ (X.sep.sub (.cons_cons _ (.cons_cons _ (.cons _ (.cons_cons _ (.cons_cons _ (.cons_cons _ (.cons_cons _ (List.nil_sublist _)))))))))
    go_wp2_with fail
    go_meet
    exact ⟨_, _, _, _, _, _, _, _, _, _, _, _, _, _, rfl, rfl, X⟩
 obtain ⟨qb, At0, nt0, ct0, At1, nt1, ct1, At2, nt2, ct2, At3, nt3, ct3, fp_t, rfl, rfl, X⟩ := hcut
 clear XH
 generalize wc = w9 at *
 go_wp2_with fail
 refine wp_region_L (fun v => v.cell? ⟨qb, 0, none⟩ = some (.slice At0 nt0 ct0) ∧ v.cell? ⟨qb, 1, none⟩ = some (.slice At1 nt1 ct1) ∧ v.cell? ⟨qb, 2, none⟩ = some (.slice At2 nt2 ct2) ∧ v.cell? ⟨qb, 3, none⟩ = some (.slice At3 nt3 ct3) ∧ v.cell? ⟨qg, 0, none⟩ = some (.int .i64 (num + 1)) ∧ v.cell? ⟨qg, 1, none⟩ = some (.int .i64 (b2 : Int)) ∧ v.cell? ⟨qg, 2, none⟩ = some (.int .i64 t2) ∧ v.cell? ⟨qg, 3, none⟩ = some (.slice Ag ng cg)) 7 (by kernel_rfl) ?_
 replace X := X.drew
 generalize w9.drew = w10 at *
 have HF : w10.cell? ⟨qb, 0, none⟩ = some (.slice At0 nt0 ct0) ∧ w10.cell? ⟨qb, 1, none⟩ = some (.slice At1 nt1 ct1) ∧ w10.cell? ⟨qb, 2, none⟩ = some (.slice At2 nt2 ct2) ∧ w10.cell? ⟨qb, 3, none⟩ = some (.slice At3 nt3 ct3) ∧ w10.cell? ⟨qg, 0, none⟩ = some (.int .i64 (num + 1)) ∧ w10.cell? ⟨qg, 1, none⟩ = some (.int .i64 (b2 : Int)) ∧ w10.cell? ⟨qg, 2, none⟩ = some (.int .i64 t2) ∧ w10.cell? ⟨qg, 3, none⟩ = some (.slice Ag ng cg) := ⟨(X.sep.at_ 0 rfl).cell 0, (X.sep.at_ 0 rfl).cell 1, (X.sep.at_ 0 rfl).cell 2, (X.sep.at_ 0 rfl).cell 3, (X.sep.at_ 2 rfl).cell 0, (X.sep.at_ 2 rfl).cell 1, (X.sep.at_ 2 rfl).cell 2, (X.sep.at_ 2 rfl).cell 3⟩
 refine tk 0 (v := ?_) rfl rfl HF (.inl ⟨by rfl, ?_⟩) ?_
 rotate_left 1
 · (rintro v ⟨a0, a1, a2, a3, a4, a5, a6, a7⟩; go_simp; try with_reducible rfl)
 try simp only [Act.put]
 refine tk 2 (v := ?_) rfl rfl HF (.inl ⟨by rfl, ?_⟩) ?_
 rotate_left 1
 · (rintro v ⟨a0, a1, a2, a3, a4, a5, a6, a7⟩; go_simp; try with_reducible rfl)
 try simp only [Act.put]
 refine wpAnyL_step (i := 1) (by kernel_rfl) rfl rfl ?_
 intro K hK
 go_simp
 refine (HBS.out At0 nt0 ct0 At1 nt1 ct1 At2 nt2 ct2 At3 nt3 ct3 T1 _ (X.sep.own_ 1 rfl).rd S1.out).mono ?_
 rintro e w11 ⟨Au0, nu0, cu0, Au1, nu1, cu1, Au2, nu2, cu2, Au3, nu3, cu3, rfl, o, b⟩
 rw [HTS.out] at o
 obtain ⟨fp_u, X'⟩ := X.has b o
 clear X; have X := X'; clear X' b o
 clear HF
 have HF : w11.cell? ⟨qb, 0, none⟩ = some (.slice At0 nt0 ct0) ∧ w11.cell? ⟨qb, 1, none⟩ = some (.slice At1 nt1 ct1) ∧ w11.cell? ⟨qb, 2, none⟩ = some (.slice At2 nt2 ct2) ∧ w11.cell? ⟨qb, 3, none⟩ = some (.slice At3 nt3 ct3) ∧ w11.cell? ⟨qg, 0, none⟩ = some (.int .i64 (num + 1)) ∧ w11.cell? ⟨qg, 1, none⟩ = some (.int .i64 (b2 : Int)) ∧ w11.cell? ⟨qg, 2, none⟩ = some (.int .i64 t2) ∧ w11.cell? ⟨qg, 3, none⟩ = some (.slice Ag ng cg) := ⟨(X.sep.at_ 1 rfl).cell 0, (X.sep.at_ 1 rfl).cell 1, (X.sep.at_ 1 rfl).cell 2, (X.sep.at_ 1 rfl).cell 3, (X.sep.at_ 3 rfl).cell 0, (X.sep.at_ 3 rfl).cell 1, (X.sep.at_ 3 rfl).cell 2, (X.sep.at_ 3 rfl).cell 3⟩
 refine hK _ _ (fun _ => HF) ?_
 clear hK K
 try simp only [Act.put]
 refine wpAnyL_step (i := 3) (by kernel_rfl) rfl rfl ?_
 intro K hK
 go_simp
 refine (HKH.out Au0 nu0 cu0 Au1 nu1 cu1 Au2 nu2 cu2 Au3 nu3 cu3 TS (num + 1) (b2 : Int) t2 Ag ng cg s2 _ (X.sep.own_ 0 rfl).rd S2.out (X.sep.own_ 4 rfl).rd HSZ2.out).mono ?_
 rintro e w12 ⟨Av0, nv0, cv0, Av1, nv1, cv1, Av2, nv2, cv2, Av3, nv3, cv3, rfl, o, b⟩
 rw [K2.out] at o ⊢
 obtain ⟨fp_v, X'⟩ := X.has b o
 clear X; have X := X'; clear X' b o
 clear HF
 have HF : w12.cell? ⟨qb, 0, none⟩ = some (.slice At0 nt0 ct0) ∧ w12.cell? ⟨qb, 1, none⟩ = some (.slice At1 nt1 ct1) ∧ w12.cell? ⟨qb, 2, none⟩ = some (.slice At2 nt2 ct2) ∧ w12.cell? ⟨qb, 3, none⟩ = some (.slice At3 nt3 ct3) ∧ w12.cell? ⟨qg, 0, none⟩ = some (.int .i64 (num + 1)) ∧ w12.cell? ⟨qg, 1, none⟩ = some (.int .i64 (b2 : Int)) ∧ w12.cell? ⟨qg, 2, none⟩ = some (.int .i64 t2) ∧ w12.cell? ⟨qg, 3, none⟩ = some (.slice Ag ng cg) := ⟨(X.sep.at_ 2 rfl).cell 0, (X.sep.at_ 2 rfl).cell 1, (X.sep.at_ 2 rfl).cell 2, (X.sep.at_ 2 rfl).cell 3, (X.sep.at_ 4 rfl).cell 0, (X.sep.at_ 4 rfl).cell 1, (X.sep.at_ 4 rfl).cell 2, (X.sep.at_ 4 rfl).cell 3⟩
 refine hK _ _ (fun _ => HF) ?_
 clear hK K
 try simp only [Act.put]
 refine wpAnyL_pure (i := 4) (v := ?_) rfl rfl (by kernel_rfl) (by kernel_rfl) (by kernel_rfl) (fun _ _ _ h => h) HF (Or.inl ⟨by rfl, ?_⟩) ?_
 rotate_left 1
 · (intro v _; go_simp; try with_reducible rfl)
 try simp only [Act.put]
 refine wpAnyL_pure (i := 5) (v := ?_) rfl rfl (by kernel_rfl) (by kernel_rfl) (by kernel_rfl) (fun _ _ _ h => h) HF (Or.inl ⟨by rfl, ?_⟩) ?_
 rotate_left 1
 · (intro v _; go_simp; try with_reducible rfl)
 try simp only [Act.put]
 refine wpAnyL_pure (i := 6) (v := ?_) rfl rfl (by kernel_rfl) (by kernel_rfl) (by kernel_rfl) (fun _ _ _ h => h) HF (Or.inl ⟨by rfl, ?_⟩) ?_
 rotate_left 1
 · (intro v _; go_simp; try with_reducible rfl)
 try simp only [Act.put]
 have f4 := lk X.sep 2 0 rfl rfl
 have f5 := (X.sep.at_ 2 rfl).free 0
 have f6 := lk X.sep 2 1 rfl rfl
 have f7 := (X.sep.at_ 2 rfl).free 1
 have f8 := lk X.sep 2 2 rfl rfl
 have f9 := (X.sep.at_ 2 rfl).free 2
 have f10 := lk X.sep 2 3 rfl rfl
 have f11 := (X.sep.at_ 2 rfl).free 3
 refine wpAnyL_step (i := 7) (by kernel_rfl) rfl rfl ?_
 intro K hK
 go_simp
 replace X := X.put 2 rfl 0 (.slice Av0 nv0 cv0)
 replace X := X.put 2 rfl 1 (.slice Av1 nv1 cv1)
 replace X := X.put 2 rfl 2 (.slice Av2 nv2 cv2)
 replace X := X.put 2 rfl 3 (.slice Av3 nv3 cv3)
 replace X : DrL w1 _ _ _ [_, _, .blk (qb) #[.slice Av0 nv0 cv0, .slice Av1 nv1 cv1, .slice Av2 nv2 cv2, .slice Av3 nv3 cv3] 60, _, .blk (qg) #[.int .i64 (num + 1), .int .i64 (b2 : Int), .int .i64 t2, .slice Ag ng cg] 40, _, .blk (qe) #[.int .i64 num, .int .i64 (b1 : Int), .int .i64 t1, .slice Ae ne ce] 40, _] := X
 refine hK _ _ (fun h => nomatch (show true = false from h)) ?_
 clear hK K HF
 try simp only [Act.put]
 generalize (((w12.setCell ⟨qb, 0, none⟩ (.slice Av0 nv0 cv0)).setCell ⟨qb, 1, none⟩ (.slice Av1 nv1 cv1)).setCell ⟨qb, 2, none⟩ (.slice Av2 nv2 cv2)).setCell ⟨qb, 3, none⟩ (.slice Av3 nv3 cv3) = w13 at *
 clear f4 f5 f6 f7 f8 f9 f10 f11
 refine wpAnyL_step (i := 8) (by kernel_rfl) rfl rfl ?_
 intro K hK
 go_simp
 refine hK _ _ (fun h => nomatch (show true = false from h)) ?_
 clear hK K
 try simp only [Act.put]
 refine wpAnyL_done (by kernel_rfl) ?_ _
 replace X := X.with_ (X.sep.sub (.cons_cons _ (.cons _ (.cons_cons _ (.cons _ (.cons_cons _ (.cons_cons _ (.cons_cons _ (.cons_cons _ (List.nil_sublist _))))))))))
 replace X := X.with_ (X.sep.pick 1 rfl)
 go_wp2_with fail
 have XH := jd X
 clear X
 go_cut [11, 12] (fun s0_ s1_ wx => ∃ (qh : Nat) (hd : HeadM) (Ah : Option Addr) (nh ch : Nat) (fp_hs : List Nat), s0_ = .pointer (some ⟨qh, 0, none⟩) ∧ s1_ = .bool true ∧ (hd = ⟨num, (b1 : Int), t1, s1⟩ ∨ hd = ⟨num + 1, (b2 : Int), t2, s2⟩) ∧ DrL w1 wx w.heap.size w.heap.size [.blk qh #[.int .i64 hd.num, .int .i64 hd.base, .int .i64 hd.tm, .slice Ah nh ch] 40, .own [mrkD hd.seen] [.slice Ah nh ch] fp_hs, .blk qb #[.slice Av0 nv0 cv0, .slice Av1 nv1 cv1, .slice Av2 nv2 cv2, .slice Av3 nv3 cv3] 60, .own T2.cells [.slice Av0 nv0 cv0, .slice Av1 nv1 cv1, .slice Av2 nv2 cv2, .slice Av3 nv3 cv3] fp_v, .blk qg #[.int .i64 (num + 1), .int .i64 (b2 : Int), .int .i64 t2, .slice Ag ng cg] 40, .own [mrkD s2] [.slice Ag ng cg] fp_h2, .blk qe #[.int .i64 num, .int .i64 (b1 : Int), .int .i64 t1, .slice Ae ne ce] 40, .own [mrkD s1] [.slice Ae ne ce] fp_h1])
 case first =>
  have X := XH.out
  refine wp_region_L (fun v => v.cell? ⟨qb, 0, none⟩ = some (.slice Av0 nv0 cv0) ∧ v.cell? ⟨qb, 1, none⟩ = some (.slice Av1 nv1 cv1) ∧ v.cell? ⟨qb, 2, none⟩ = some (.slice Av2 nv2 cv2) ∧ v.cell? ⟨qb, 3, none⟩ = some (.slice Av3 nv3 cv3)) 10 (by kernel_rfl) ?_
  clear XH
  replace X := X.drew
  generalize w13.drew = w14 at *
  have HF : w14.cell? ⟨qb, 0, none⟩ = some (.slice Av0 nv0 cv0) ∧ w14.cell? ⟨qb, 1, none⟩ = some (.slice Av1 nv1 cv1) ∧ w14.cell? ⟨qb, 2, none⟩ = some (.slice Av2 nv2 cv2) ∧ w14.cell? ⟨qb, 3, none⟩ = some (.slice Av3 nv3 cv3) := ⟨(X.sep.at_ 0 rfl).cell 0, (X.sep.at_ 0 rfl).cell 1, (X.sep.at_ 0 rfl).cell 2, (X.sep.at_ 0 rfl).cell 3⟩
  refine tk 0 (v := ?_) rfl rfl HF (.inl ⟨by rfl, ?_⟩) ?_
  rotate_left 1
  · (rintro v ⟨a0, a1, a2, a3⟩; go_simp; try with_reducible rfl)
  try simp only [Act.put]
  refine tk 1 (v := ?_) rfl rfl HF (.inl ⟨by rfl, ?_⟩) ?_
  rotate_left 1
  · (rintro v ⟨a0, a1, a2, a3⟩; go_simp; try with_reducible rfl)
  try simp only [Act.put]
  refine wpAnyL_two (i := 2) (k := 8) (by kernel_rfl) rfl rfl rfl rfl ?_ ?_
  · intro K hK
    go_simp
    refine (w9fates_any _ _ 2 (by decide) _ X.cur).mono ?_
    rintro e w15 ⟨fs, Af, nf, cf, hfl, hfb, rfl, cu, gr, o⟩
    obtain ⟨fp_f, X'⟩ := X.drawHas cu gr o
    clear X; have X := X'; clear X' cu gr o
    clear HF
    have HF : w15.cell? ⟨qb, 0, none⟩ = some (.slice Av0 nv0 cv0) ∧ w15.cell? ⟨qb, 1, none⟩ = some (.slice Av1 nv1 cv1) ∧ w15.cell? ⟨qb, 2, none⟩ = some (.slice Av2 nv2 cv2) ∧ w15.cell? ⟨qb, 3, none⟩ = some (.slice Av3 nv3 cv3) := ⟨(X.sep.at_ 1 rfl).cell 0, (X.sep.at_ 1 rfl).cell 1, (X.sep.at_ 1 rfl).cell 2, (X.sep.at_ 1 rfl).cell 3⟩
    refine hK _ _ (fun _ => HF) ?_
    clear hK K
    try simp only [Act.put]
    refine wpAnyL_two (i := 3) (k := 8) (by kernel_rfl) rfl rfl rfl rfl ?_ ?_
    · intro K hK
      go_simp
      refine (HBF.out Av0 nv0 cv0 Av1 nv1 cv1 Av2 nv2 cv2 Av3 nv3 cv3 T2 Af nf cf fs _ (X.sep.own_ 2 rfl).rd S3.out (X.sep.own_ 0 rfl).rd (by omega)).mono ?_
      rintro e w16 ⟨Ax0, nx0, cx0, Ax1, nx1, cx1, Ax2, nx2, cx2, Ax3, nx3, cx3, rfl, o, b⟩
      clear hfl hfb
      obtain ⟨fp_x, X'⟩ := X.has b o
      clear X; have X := X'; clear X' b o
      clear HF
      have HF : w16.cell? ⟨qb, 0, none⟩ = some (.slice Av0 nv0 cv0) ∧ w16.cell? ⟨qb, 1, none⟩ = some (.slice Av1 nv1 cv1) ∧ w16.cell? ⟨qb, 2, none⟩ = some (.slice Av2 nv2 cv2) ∧ w16.cell? ⟨qb, 3, none⟩ = some (.slice Av3 nv3 cv3) := ⟨(X.sep.at_ 2 rfl).cell 0, (X.sep.at_ 2 rfl).cell 1, (X.sep.at_ 2 rfl).cell 2, (X.sep.at_ 2 rfl).cell 3⟩
      refine hK _ _ (fun _ => HF) ?_
      clear hK K
      try simp only [Act.put]
      refine wpAnyL_two (i := 4) (k := 8) (by kernel_rfl) rfl rfl rfl rfl ?_ ?_
      · obtain ⟨hd, hhd, hor⟩ : ∃ hd, headInM (bothFallen T2 fs) = (hd, true) ∧ (hd = ⟨num, (b1 : Int), t1, s1⟩ ∨ hd = ⟨num + 1, (b2 : Int), t2, s2⟩) := by rcases F1.out fs with h9 | h9 <;> first | exact ⟨_, h9, .inl rfl⟩ | exact ⟨_, h9, .inr rfl⟩
        intro K hK
        go_simp
        refine (HHI.out Ax0 nx0 cx0 Ax1 nx1 cx1 Ax2 nx2 cx2 Ax3 nx3 cx3 (bothFallen T2 fs) _ (X.sep.own_ 0 rfl).rd (Nat.le_trans (ok_two_sz (bothFallen_ok O3.out fs)) (by decide))).mono ?_
        rintro e w17 ⟨z0, z1, z2, Ah, nh, ch, rfl, o, b⟩
        rw [hhd] at o ⊢
        obtain ⟨q0, q1, q2, o9⟩ := o.headU
        clear o
        subst q0 q1 q2
        have o := o9
        clear o9 hhd
        obtain ⟨fp_hs, X'⟩ := X.has b o
        clear X; have X := X'; clear X' b o
        clear HF
        have HF : w17.cell? ⟨qb, 0, none⟩ = some (.slice Av0 nv0 cv0) ∧ w17.cell? ⟨qb, 1, none⟩ = some (.slice Av1 nv1 cv1) ∧ w17.cell? ⟨qb, 2, none⟩ = some (.slice Av2 nv2 cv2) ∧ w17.cell? ⟨qb, 3, none⟩ = some (.slice Av3 nv3 cv3) := ⟨(X.sep.at_ 3 rfl).cell 0, (X.sep.at_ 3 rfl).cell 1, (X.sep.at_ 3 rfl).cell 2, (X.sep.at_ 3 rfl).cell 3⟩
        refine hK _ _ (fun _ => HF) ?_
        clear hK K
        try simp only [Act.put]
        refine wpAnyL_pure (i := 5) (v := ?_) rfl rfl (by kernel_rfl) (by kernel_rfl) (by kernel_rfl) (fun _ _ _ h => h) HF (Or.inl ⟨by rfl, ?_⟩) ?_
        rotate_left 1
        · (intro v _; go_simp; try with_reducible rfl)
        try simp only [Act.put]
        refine wpAnyL_pure (i := 6) (v := ?_) rfl rfl (by kernel_rfl) (by kernel_rfl) (by kernel_rfl) (fun _ _ _ h => h) HF (Or.inl ⟨by rfl, ?_⟩) ?_
        rotate_left 1
        · (intro v _; go_simp; try with_reducible rfl)
        try simp only [Act.put]
        refine wpAnyL_pure (i := 7) (v := ?_) rfl rfl (by kernel_rfl) (by kernel_rfl) (by kernel_rfl) (fun _ _ _ h => h) HF (Or.inl ⟨by rfl, ?_⟩) ?_
        rotate_left 1
        · (intro v _; go_simp; try with_reducible rfl)
        try simp only [Act.put]
        refine wpAnyL_step (i := 8) (by kernel_rfl) rfl rfl ?_
        intro K hK
        go_simp
        replace X := X.boxAt (w17.heap.size) rfl #[.int .i64 0, .int .i64 0, .int .i64 0, .slice none 0 0] 40
        clear HF
        have HF : (w17.alloc (.cells #[.int .i64 0, .int .i64 0, .int .i64 0, .slice none 0 0] 40)).cell? ⟨qb, 0, none⟩ = some (.slice Av0 nv0 cv0) ∧ (w17.alloc (.cells #[.int .i64 0, .int .i64 0, .int .i64 0, .slice none 0 0] 40)).cell? ⟨qb, 1, none⟩ = some (.slice Av1 nv1 cv1) ∧ (w17.alloc (.cells #[.int .i64 0, .int .i64 0, .int .i64 0, .slice none 0 0] 40)).cell? ⟨qb, 2, none⟩ = some (.slice Av2 nv2 cv2) ∧ (w17.alloc (.cells #[.int .i64 0, .int .i64 0, .int .i64 0, .slice none 0 0] 40)).cell? ⟨qb, 3, none⟩ = some (.slice Av3 nv3 cv3) := ⟨(X.sep.at_ 4 rfl).cell 0, (X.sep.at_ 4 rfl).cell 1, (X.sep.at_ 4 rfl).cell 2, (X.sep.at_ 4 rfl).cell 3⟩
        refine hK _ _ (fun _ => HF) ?_
        clear hK K
        try simp only [Act.put]
        generalize hw : w17.alloc (.cells #[.int .i64 0, .int .i64 0, .int .i64 0, .slice none 0 0] 40) = w18 at *
        clear hw
        have f12 := lk X.sep 0 0 rfl rfl
        have f13 := (X.sep.at_ 0 rfl).free 0
        have f14 := lk X.sep 0 1 rfl rfl
        have f15 := (X.sep.at_ 0 rfl).free 1
        have f16 := lk X.sep 0 2 rfl rfl
        have f17 := (X.sep.at_ 0 rfl).free 2
        have f18 := lk X.sep 0 3 rfl rfl
        have f19 := (X.sep.at_ 0 rfl).free 3
        refine wpAnyL_step (i := 9) (by kernel_rfl) rfl rfl ?_
        intro K hK
        go_simp
        replace X := X.put 0 rfl 0 (.int .i64 hd.num)
        replace X := X.put 0 rfl 1 (.int .i64 hd.base)
        replace X := X.put 0 rfl 2 (.int .i64 hd.tm)
        replace X := X.put 0 rfl 3 (.slice Ah nh ch)
        replace X : DrL w1 _ _ _ [.blk (w17.heap.size) #[.int .i64 hd.num, .int .i64 hd.base, .int .i64 hd.tm, .slice Ah nh ch] 40, _, _, _, .blk (qb) #[.slice Av0 nv0 cv0, .slice Av1 nv1 cv1, .slice Av2 nv2 cv2, .slice Av3 nv3 cv3] 60, _, .blk (qg) #[.int .i64 (num + 1), .int .i64 (b2 : Int), .int .i64 t2, .slice Ag ng cg] 40, _, .blk (qe) #[.int .i64 num, .int .i64 (b1 : Int), .int .i64 t1, .slice Ae ne ce] 40, _] := X
        clear HF
        have HF : ((((w18.setCell ⟨w17.heap.size, 0, none⟩ (.int .i64 hd.num)).setCell ⟨w17.heap.size, 1, none⟩ (.int .i64 hd.base)).setCell ⟨w17.heap.size, 2, none⟩ (.int .i64 hd.tm)).setCell ⟨w17.heap.size, 3, none⟩ (.slice Ah nh ch)).cell? ⟨qb, 0, none⟩ = some (.slice Av0 nv0 cv0) ∧ ((((w18.setCell ⟨w17.heap.size, 0, none⟩ (.int .i64 hd.num)).setCell ⟨w17.heap.size, 1, none⟩ (.int .i64 hd.base)).setCell ⟨w17.heap.size, 2, none⟩ (.int .i64 hd.tm)).setCell ⟨w17.heap.size, 3, none⟩ (.slice Ah nh ch)).cell? ⟨qb, 1, none⟩ = some (.slice Av1 nv1 cv1) ∧ ((((w18.setCell ⟨w17.heap.size, 0, none⟩ (.int .i64 hd.num)).setCell ⟨w17.heap.size, 1, none⟩ (.int .i64 hd.base)).setCell ⟨w17.heap.size, 2, none⟩ (.int .i64 hd.tm)).setCell ⟨w17.heap.size, 3, none⟩ (.slice Ah nh ch)).cell? ⟨qb, 2, none⟩ = some (.slice Av2 nv2 cv2) ∧ ((((w18.setCell ⟨w17.heap.size, 0, none⟩ (.int .i64 hd.num)).setCell ⟨w17.heap.size, 1, none⟩ (.int .i64 hd.base)).setCell ⟨w17.heap.size, 2, none⟩ (.int .i64 hd.tm)).setCell ⟨w17.heap.size, 3, none⟩ (.slice Ah nh ch)).cell? ⟨qb, 3, none⟩ = some (.slice Av3 nv3 cv3) := ⟨(X.sep.at_ 4 rfl).cell 0, (X.sep.at_ 4 rfl).cell 1, (X.sep.at_ 4 rfl).cell 2, (X.sep.at_ 4 rfl).cell 3⟩
        refine hK _ _ (fun _ => HF) ?_
        clear hK K
        try simp only [Act.put]
        generalize (((w18.setCell ⟨w17.heap.size, 0, none⟩ (.int .i64 hd.num)).setCell ⟨w17.heap.size, 1, none⟩ (.int .i64 hd.base)).setCell ⟨w17.heap.size, 2, none⟩ (.int .i64 hd.tm)).setCell ⟨w17.heap.size, 3, none⟩ (.slice Ah nh ch) = w19 at *
        clear f12 f13 f14 f15 f16 f17 f18 f19
        refine wpAnyL_step (i := 10) (by kernel_rfl) rfl rfl ?_
        intro K hK
        go_simp
        refine hK _ _ (fun h => nomatch (show true = false from h)) ?_
        clear hK K
        try simp only [Act.put]
        refine wpAnyL_done (by kernel_rfl) ?_ _
        clear HF
        replace X := X.with_ (X.sep.pick 1 rfl)
        replace X := X.with_ (X.sep.pick 1 rfl)
        replace X := X.with_ (X.sep.sub (.cons_cons _ (.cons_cons _ (.cons _ (.cons _ (.cons_cons _ (.cons_cons _ (.cons_cons _ (.cons_cons _ (.cons_cons _ (.cons_cons _ (List.nil_sublist _))))))))))))
        go_wp2_with fail
        go_meet
        exact ⟨_, _, _, _, _, _, rfl, rfl, hor, X⟩
      · intro K hK
        go_simp
        replace X := X.boxAt (w16.heap.size) rfl #[.int .i64 0, .int .i64 0, .int .i64 0, .slice none 0 0] 40
        clear HF
        have HF : (w16.alloc (.cells #[.int .i64 0, .int .i64 0, .int .i64 0, .slice none 0 0] 40)).cell? ⟨qb, 0, none⟩ = some (.slice Av0 nv0 cv0) ∧ (w16.alloc (.cells #[.int .i64 0, .int .i64 0, .int .i64 0, .slice none 0 0] 40)).cell? ⟨qb, 1, none⟩ = some (.slice Av1 nv1 cv1) ∧ (w16.alloc (.cells #[.int .i64 0, .int .i64 0, .int .i64 0, .slice none 0 0] 40)).cell? ⟨qb, 2, none⟩ = some (.slice Av2 nv2 cv2) ∧ (w16.alloc (.cells #[.int .i64 0, .int .i64 0, .int .i64 0, .slice none 0 0] 40)).cell? ⟨qb, 3, none⟩ = some (.slice Av3 nv3 cv3) := ⟨(X.sep.at_ 3 rfl).cell 0, (X.sep.at_ 3 rfl).cell 1, (X.sep.at_ 3 rfl).cell 2, (X.sep.at_ 3 rfl).cell 3⟩
        refine hK _ _ (fun _ => HF) ?_
        clear hK K
        try simp only [Act.put]
        generalize hw : w16.alloc (.cells #[.int .i64 0, .int .i64 0, .int .i64 0, .slice none 0 0] 40) = w17 at *
        clear hw
        obtain ⟨hd, hhd, hor⟩ : ∃ hd, headInM (bothFallen T2 fs) = (hd, true) ∧ (hd = ⟨num, (b1 : Int), t1, s1⟩ ∨ hd = ⟨num + 1, (b2 : Int), t2, s2⟩) := by rcases F1.out fs with h9 | h9 <;> first | exact ⟨_, h9, .inl rfl⟩ | exact ⟨_, h9, .inr rfl⟩
        refine wpAnyL_step (i := 4) (by kernel_rfl) rfl rfl ?_
        intro K hK
        go_simp
        refine (HHI.out Ax0 nx0 cx0 Ax1 nx1 cx1 Ax2 nx2 cx2 Ax3 nx3 cx3 (bothFallen T2 fs) _ (X.sep.own_ 1 rfl).rd (Nat.le_trans (ok_two_sz (bothFallen_ok O3.out fs)) (by decide))).mono ?_
        rintro e w18 ⟨z0, z1, z2, Ah, nh, ch, rfl, o, b⟩
        rw [hhd] at o ⊢
        obtain ⟨q0, q1, q2, o9⟩ := o.headU
        clear o
        subst q0 q1 q2
        have o := o9
        clear o9 hhd
        obtain ⟨fp_hs, X'⟩ := X.has b o
        clear X; have X := X'; clear X' b o
        clear HF
        have HF : w18.cell? ⟨qb, 0, none⟩ = some (.slice Av0 nv0 cv0) ∧ w18.cell? ⟨qb, 1, none⟩ = some (.slice Av1 nv1 cv1) ∧ w18.cell? ⟨qb, 2, none⟩ = some (.slice Av2 nv2 cv2) ∧ w18.cell? ⟨qb, 3, none⟩ = some (.slice Av3 nv3 cv3) := ⟨(X.sep.at_ 4 rfl).cell 0, (X.sep.at_ 4 rfl).cell 1, (X.sep.at_ 4 rfl).cell 2, (X.sep.at_ 4 rfl).cell 3⟩
        refine hK _ _ (fun _ => HF) ?_
        clear hK K
        try simp only [Act.put]
        refine wpAnyL_pure (i := 5) (v := ?_) rfl rfl (by kernel_rfl) (by kernel_rfl) (by kernel_rfl) (fun _ _ _ h => h) HF (Or.inl ⟨by rfl, ?_⟩) ?_
        rotate_left 1
        · (intro v _; go_simp; try with_reducible rfl)
        try simp only [Act.put]
        refine wpAnyL_pure (i := 6) (v := ?_) rfl rfl (by kernel_rfl) (by kernel_rfl) (by kernel_rfl) (fun _ _ _ h => h) HF (Or.inl ⟨by rfl, ?_⟩) ?_
        rotate_left 1
        · (intro v _; go_simp; try with_reducible rfl)
        try simp only [Act.put]
        refine wpAnyL_pure (i := 7) (v := ?_) rfl rfl (by kernel_rfl) (by kernel_rfl) (by kernel_rfl) (fun _ _ _ h => h) HF (Or.inl ⟨by rfl, ?_⟩) ?_
        rotate_left 1
        · (intro v _; go_simp; try with_reducible rfl)
        try simp only [Act.put]
        have f12 := lk X.sep 1 0 rfl rfl
        have f13 := (X.sep.at_ 1 rfl).free 0
        have f14 := lk X.sep 1 1 rfl rfl
        have f15 := (X.sep.at_ 1 rfl).free 1
        have f16 := lk X.sep 1 2 rfl rfl
        have f17 := (X.sep.at_ 1 rfl).free 2
        have f18 := lk X.sep 1 3 rfl rfl
        have f19 := (X.sep.at_ 1 rfl).free 3
        refine wpAnyL_step (i := 9) (by kernel_rfl) rfl rfl ?_
        intro K hK
        go_simp
        replace X := X.put 1 rfl 0 (.int .i64 hd.num)
        replace X := X.put 1 rfl 1 (.int .i64 hd.base)
        replace X := X.put 1 rfl 2 (.int .i64 hd.tm)
        replace X := X.put 1 rfl 3 (.slice Ah nh ch)
        replace X : DrL w1 _ _ _ [_, .blk (w16.heap.size) #[.int .i64 hd.num, .int .i64 hd.base, .int .i64 hd.tm, .slice Ah nh ch] 40, _, _, .blk (qb) #[.slice Av0 nv0 cv0, .slice Av1 nv1 cv1, .slice Av2 nv2 cv2, .slice Av3 nv3 cv3] 60, _, .blk (qg) #[.int .i64 (num + 1), .int .i64 (b2 : Int), .int .i64 t2, .slice Ag ng cg] 40, _, .blk (qe) #[.int .i64 num, .int .i64 (b1 : Int), .int .i64 t1, .slice Ae ne ce] 40, _] := X
        clear HF
        have HF : ((((w18.setCell ⟨w16.heap.size, 0, none⟩ (.int .i64 hd.num)).setCell ⟨w16.heap.size, 1, none⟩ (.int .i64 hd.base)).setCell ⟨w16.heap.size, 2, none⟩ (.int .i64 hd.tm)).setCell ⟨w16.heap.size, 3, none⟩ (.slice Ah nh ch)).cell? ⟨qb, 0, none⟩ = some (.slice Av0 nv0 cv0) ∧ ((((w18.setCell ⟨w16.heap.size, 0, none⟩ (.int .i64 hd.num)).setCell ⟨w16.heap.size, 1, none⟩ (.int .i64 hd.base)).setCell ⟨w16.heap.size, 2, none⟩ (.int .i64 hd.tm)).setCell ⟨w16.heap.size, 3, none⟩ (.slice Ah nh ch)).cell? ⟨qb, 1, none⟩ = some (.slice Av1 nv1 cv1) ∧ ((((w18.setCell ⟨w16.heap.size, 0, none⟩ (.int .i64 hd.num)).setCell ⟨w16.heap.size, 1, none⟩ (.int .i64 hd.base)).setCell ⟨w16.heap.size, 2, none⟩ (.int .i64 hd.tm)).setCell ⟨w16.heap.size, 3, none⟩ (.slice Ah nh ch)).cell? ⟨qb, 2, none⟩ = some (.slice Av2 nv2 cv2) ∧ ((((w18.setCell ⟨w16.heap.size, 0, none⟩ (.int .i64 hd.num)).setCell ⟨w16.heap.size, 1, none⟩ (.int .i64 hd.base)).setCell ⟨w16.heap.size, 2, none⟩ (.int .i64 hd.tm)).setCell ⟨w16.heap.size, 3, none⟩ (.slice Ah nh ch)).cell? ⟨qb, 3, none⟩ = some (.slice Av3 nv3 cv3) := ⟨(X.sep.at_ 4 rfl).cell 0, (X.sep.at_ 4 rfl).cell 1, (X.sep.at_ 4 rfl).cell 2, (X.sep.at_ 4 rfl).cell 3⟩
        refine hK _ _ (fun _ => HF) ?_
        clear hK K
        try simp only [Act.put]
        generalize (((w18.setCell ⟨w16.heap.size, 0, none⟩ (.int .i64 hd.num)).setCell ⟨w16.heap.size, 1, none⟩ (.int .i64 hd.base)).setCell ⟨w16.heap.size, 2, none⟩ (.int .i64 hd.tm)).setCell ⟨w16.heap.size, 3, none⟩ (.slice Ah nh ch) = w19 at *
        clear f12 f13 f14 f15 f16 f17 f18 f19
        refine wpAnyL_step (i := 10) (by kernel_rfl) rfl rfl ?_
        intro K hK
        go_simp
        refine hK _ _ (fun h => nomatch (show true = false from h)) ?_
        clear hK K
        try simp only [Act.put]
        refine wpAnyL_done (by kernel_rfl) ?_ _
        clear HF
        replace X := X.with_ (X.sep.pick 0 rfl)
        replace X := X.with_ (X.sep.pick 1 rfl)
        replace X := X.with_ (X.sep.sub (.cons_cons _ (.cons_cons _ (.cons _ (.cons _ (.cons_cons _ (.cons_cons _ (.cons_cons _ (.cons_cons _ (.cons_cons _ (.cons_cons _ (List.nil_sublist _))))))))))))
        go_wp2_with fail
        go_meet
        exact ⟨_, _, _, _, _, _, rfl, rfl, hor, X⟩
    · intro K hK
      go_simp
      replace X := X.boxAt (w15.heap.size) rfl #[.int .i64 0, .int .i64 0, .int .i64 0, .slice none 0 0] 40
      clear HF
      have HF : (w15.alloc (.cells #[.int .i64 0, .int .i64 0, .int .i64 0, .slice none 0 0] 40)).cell? ⟨qb, 0, none⟩ = some (.slice Av0 nv0 cv0) ∧ (w15.alloc (.cells #[.int .i64 0, .int .i64 0, .int .i64 0, .slice none 0 0] 40)).cell? ⟨qb, 1, none⟩ = some (.slice Av1 nv1 cv1) ∧ (w15.alloc (.cells #[.int .i64 0, .int .i64 0, .int .i64 0, .slice none 0 0] 40)).cell? ⟨qb, 2, none⟩ = some (.slice Av2 nv2 cv2) ∧ (w15.alloc (.cells #[.int .i64 0, .int .i64 0, .int .i64 0, .slice none 0 0] 40)).cell? ⟨qb, 3, none⟩ = some (.slice Av3 nv3 cv3) := ⟨(X.sep.at_ 2 rfl).cell 0, (X.sep.at_ 2 rfl).cell 1, (X.sep.at_ 2 rfl).cell 2, (X.sep.at_ 2 rfl).cell 3⟩
      refine hK _ _ (fun _ => HF) ?_
      clear hK K
      try simp only [Act.put]
      generalize hw : w15.alloc (.cells #[.int .i64 0, .int .i64 0, .int .i64 0, .slice none 0 0] 40) = w16 at *
      clear hw
      refine wpAnyL_step (i := 3) (by kernel_rfl) rfl rfl ?_
      intro K hK
      go_simp
      refine (HBF.out Av0 nv0 cv0 Av1 nv1 cv1 Av2 nv2 cv2 Av3 nv3 cv3 T2 Af nf cf fs _ (X.sep.own_ 3 rfl).rd S3.out (X.sep.own_ 1 rfl).rd (by omega)).mono ?_
      rintro e w17 ⟨Ax0, nx0, cx0, Ax1, nx1, cx1, Ax2, nx2, cx2, Ax3, nx3, cx3, rfl, o, b⟩
      clear hfl hfb
      obtain ⟨fp_x, X'⟩ := X.has b o
      clear X; have X := X'; clear X' b o
      clear HF
      have HF : w17.cell? ⟨qb, 0, none⟩ = some (.slice Av0 nv0 cv0) ∧ w17.cell? ⟨qb, 1, none⟩ = some (.slice Av1 nv1 cv1) ∧ w17.cell? ⟨qb, 2, none⟩ = some (.slice Av2 nv2 cv2) ∧ w17.cell? ⟨qb, 3, none⟩ = some (.slice Av3 nv3 cv3) := ⟨(X.sep.at_ 3 rfl).cell 0, (X.sep.at_ 3 rfl).cell 1, (X.sep.at_ 3 rfl).cell 2, (X.sep.at_ 3 rfl).cell 3⟩
      refine hK _ _ (fun _ => HF) ?_
      clear hK K
      try simp only [Act.put]
      obtain ⟨hd, hhd, hor⟩ : ∃ hd, headInM (bothFallen T2 fs) = (hd, true) ∧ (hd = ⟨num, (b1 : Int), t1, s1⟩ ∨ hd = ⟨num + 1, (b2 : Int), t2, s2⟩) := by rcases F1.out fs with h9 | h9 <;> first | exact ⟨_, h9, .inl rfl⟩ | exact ⟨_, h9, .inr rfl⟩
      refine wpAnyL_step (i := 4) (by kernel_rfl) rfl rfl ?_
      intro K hK
      go_simp
      refine (HHI.out Ax0 nx0 cx0 Ax1 nx1 cx1 Ax2 nx2 cx2 Ax3 nx3 cx3 (bothFallen T2 fs) _ (X.sep.own_ 0 rfl).rd (Nat.le_trans (ok_two_sz (bothFallen_ok O3.out fs)) (by decide))).mono ?_
      rintro e w18 ⟨z0, z1, z2, Ah, nh, ch, rfl, o, b⟩
      rw [hhd] at o ⊢
      obtain ⟨q0, q1, q2, o9⟩ := o.headU
      clear o
      subst q0 q1 q2
      have o := o9
      clear o9 hhd
      obtain ⟨fp_hs, X'⟩ := X.has b o
      clear X; have X := X'; clear X' b o
      clear HF
      have HF : w18.cell? ⟨qb, 0, none⟩ = some (.slice Av0 nv0 cv0) ∧ w18.cell? ⟨qb, 1, none⟩ = some (.slice Av1 nv1 cv1) ∧ w18.cell? ⟨qb, 2, none⟩ = some (.slice Av2 nv2 cv2) ∧ w18.cell? ⟨qb, 3, none⟩ = some (.slice Av3 nv3 cv3) := ⟨(X.sep.at_ 4 rfl).cell 0, (X.sep.at_ 4 rfl).cell 1, (X.sep.at_ 4 rfl).cell 2, (X.sep.at_ 4 rfl).cell 3⟩
      refine hK _ _ (fun _ => HF) ?_
      clear hK K
      try simp only [Act.put]
      refine wpAnyL_pure (i := 5) (v := ?_) rfl rfl (by kernel_rfl) (by kernel_rfl) (by kernel_rfl) (fun _ _ _ h => h) HF (Or.inl ⟨by rfl, ?_⟩) ?_
      rotate_left 1
      · (intro v _; go_simp; try with_reducible rfl)
      try simp only [Act.put]
      refine wpAnyL_pure (i := 6) (v := ?_) rfl rfl (by kernel_rfl) (by kernel_rfl) (by kernel_rfl) (fun _ _ _ h => h) HF (Or.inl ⟨by rfl, ?_⟩) ?_
      rotate_left 1
      · (intro v _; go_simp; try with_reducible rfl)
      try simp only [Act.put]
      refine wpAnyL_pure (i := 7) (v := ?_) rfl rfl (by kernel_rfl) (by kernel_rfl) (by kernel_rfl) (fun _ _ _ h => h) HF (Or.inl ⟨by rfl, ?_⟩) ?_
      rotate_left 1
      · (intro v _; go_simp; try with_reducible rfl)
      try simp only [Act.put]
      have f12 := lk X.sep 2 0 rfl rfl
      have f13 := (X.sep.at_ 2 rfl).free 0
      have f14 := lk X.sep 2 1 rfl rfl
      have f15 := (X.sep.at_ 2 rfl).free 1
      have f16 := lk X.sep 2 2 rfl rfl
      have f17 := (X.sep.at_ 2 rfl).free 2
      have f18 := lk X.sep 2 3 rfl rfl
      have f19 := (X.sep.at_ 2 rfl).free 3
      refine wpAnyL_step (i := 9) (by kernel_rfl) rfl rfl ?_
      intro K hK
      go_simp
      replace X := X.put 2 rfl 0 (.int .i64 hd.num)
      replace X := X.put 2 rfl 1 (.int .i64 hd.base)
      replace X := X.put 2 rfl 2 (.int .i64 hd.tm)
      replace X := X.put 2 rfl 3 (.slice Ah nh ch)
      replace X : DrL w1 _ _ _ [_, _, .blk (w15.heap.size) #[.int .i64 hd.num, .int .i64 hd.base, .int .i64 hd.tm, .slice Ah nh ch] 40, _, .blk (qb) #[.slice Av0 nv0 cv0, .slice Av1 nv1 cv1, .slice Av2 nv2 cv2, .slice Av3 nv3 cv3] 60, _, .blk (qg) #[.int .i64 (num + 1), .int .i64 (b2 : Int), .int .i64 t2, .slice Ag ng cg] 40, _, .blk (qe) #[.int .i64 num, .int .i64 (b1 : Int), .int .i64 t1, .slice Ae ne ce] 40, _] := X
      clear HF
      have HF : ((((w18.setCell ⟨w15.heap.size, 0, none⟩ (.int .i64 hd.num)).setCell ⟨w15.heap.size, 1, none⟩ (.int .i64 hd.base)).setCell ⟨w15.heap.size, 2, none⟩ (.int .i64 hd.tm)).setCell ⟨w15.heap.size, 3, none⟩ (.slice Ah nh ch)).cell? ⟨qb, 0, none⟩ = some (.slice Av0 nv0 cv0) ∧ ((((w18.setCell ⟨w15.heap.size, 0, none⟩ (.int .i64 hd.num)).setCell ⟨w15.heap.size, 1, none⟩ (.int .i64 hd.base)).setCell ⟨w15.heap.size, 2, none⟩ (.int .i64 hd.tm)).setCell ⟨w15.heap.size, 3, none⟩ (.slice Ah nh ch)).cell? ⟨qb, 1, none⟩ = some (.slice Av1 nv1 cv1) ∧ ((((w18.setCell ⟨w15.heap.size, 0, none⟩ (.int .i64 hd.num)).setCell ⟨w15.heap.size, 1, none⟩ (.int .i64 hd.base)).setCell ⟨w15.heap.size, 2, none⟩ (.int .i64 hd.tm)).setCell ⟨w15.heap.size, 3, none⟩ (.slice Ah nh ch)).cell? ⟨qb, 2, none⟩ = some (.slice Av2 nv2 cv2) ∧ ((((w18.setCell ⟨w15.heap.size, 0, none⟩ (.int .i64 hd.num)).setCell ⟨w15.heap.size, 1, none⟩ (.int .i64 hd.base)).setCell ⟨w15.heap.size, 2, none⟩ (.int .i64 hd.tm)).setCell ⟨w15.heap.size, 3, none⟩ (.slice Ah nh ch)).cell? ⟨qb, 3, none⟩ = some (.slice Av3 nv3 cv3) := ⟨(X.sep.at_ 4 rfl).cell 0, (X.sep.at_ 4 rfl).cell 1, (X.sep.at_ 4 rfl).cell 2, (X.sep.at_ 4 rfl).cell 3⟩
      refine hK _ _ (fun _ => HF) ?_
      clear hK K
      try simp only [Act.put]
      generalize (((w18.setCell ⟨w15.heap.size, 0, none⟩ (.int .i64 hd.num)).setCell ⟨w15.heap.size, 1, none⟩ (.int .i64 hd.base)).setCell ⟨w15.heap.size, 2, none⟩ (.int .i64 hd.tm)).setCell ⟨w15.heap.size, 3, none⟩ (.slice Ah nh ch) = w19 at *
      clear f12 f13 f14 f15 f16 f17 f18 f19
      refine wpAnyL_step (i := 10) (by kernel_rfl) rfl rfl ?_
      intro K hK
      go_simp
      refine hK _ _ (fun h => nomatch (show true = false from h)) ?_
      clear hK K
      try simp only [Act.put]
      refine wpAnyL_done (by kernel_rfl) ?_ _
      clear HF
      replace X := X.with_ (X.sep.pick 0 rfl)
      replace X := X.with_ (X.sep.pick 2 rfl)
      replace X := X.with_ (X.sep.sub (.cons_cons _ (.cons_cons _ (.cons _ (.cons _ (.cons_cons _ (.cons_cons _ (.cons_cons _ (.cons_cons _ (.cons_cons _ (.cons_cons _ (List.nil_sublist _))))))))))))
      go_wp2_with fail
      go_meet
      exact ⟨_, _, _, _, _, _, rfl, rfl, hor, X⟩
  · intro K hK
    go_simp
    replace X := X.boxAt (w14.heap.size) rfl #[.int .i64 0, .int .i64 0, .int .i64 0, .slice none 0 0] 40
    clear HF
    have HF : (w14.alloc (.cells #[.int .i64 0, .int .i64 0, .int .i64 0, .slice none 0 0] 40)).cell? ⟨qb, 0, none⟩ = some (.slice Av0 nv0 cv0) ∧ (w14.alloc (.cells #[.int .i64 0, .int .i64 0, .int .i64 0, .slice none 0 0] 40)).cell? ⟨qb, 1, none⟩ = some (.slice Av1 nv1 cv1) ∧ (w14.alloc (.cells #[.int .i64 0, .int .i64 0, .int .i64 0, .slice none 0 0] 40)).cell? ⟨qb, 2, none⟩ = some (.slice Av2 nv2 cv2) ∧ (w14.alloc (.cells #[.int .i64 0, .int .i64 0, .int .i64 0, .slice none 0 0] 40)).cell? ⟨qb, 3, none⟩ = some (.slice Av3 nv3 cv3) := ⟨(X.sep.at_ 1 rfl).cell 0, (X.sep.at_ 1 rfl).cell 1, (X.sep.at_ 1 rfl).cell 2, (X.sep.at_ 1 rfl).cell 3⟩
    refine hK _ _ (fun _ => HF) ?_
    clear hK K
    try simp only [Act.put]
    generalize hw : w14.alloc (.cells #[.int .i64 0, .int .i64 0, .int .i64 0, .slice none 0 0] 40) = w15 at *
    clear hw
    refine wpAnyL_step (i := 2) (by kernel_rfl) rfl rfl ?_
    intro K hK
    go_simp
    refine (w9fates_any _ _ 2 (by decide) _ X.cur).mono ?_
    rintro e w16 ⟨fs, Af, nf, cf, hfl, hfb, rfl, cu, gr, o⟩
    obtain ⟨fp_f, X'⟩ := X.drawHas cu gr o
    clear X; have X := X'; clear X' cu gr o
    clear HF
    have HF : w16.cell? ⟨qb, 0, none⟩ = some (.slice Av0 nv0 cv0) ∧ w16.cell? ⟨qb, 1, none⟩ = some (.slice Av1 nv1 cv1) ∧ w16.cell? ⟨qb, 2, none⟩ = some (.slice Av2 nv2 cv2) ∧ w16.cell? ⟨qb, 3, none⟩ = some (.slice Av3 nv3 cv3) := ⟨(X.sep.at_ 2 rfl).cell 0, (X.sep.at_ 2 rfl).cell 1, (X.sep.at_ 2 rfl).cell 2, (X.sep.at_ 2 rfl).cell 3⟩
    refine hK _ _ (fun _ => HF) ?_
    clear hK K
    try simp only [Act.put]
    refine wpAnyL_step (i := 3) (by kernel_rfl) rfl rfl ?_
    intro K hK
    go_simp
    refine (HBF.out Av0 nv0 cv0 Av1 nv1 cv1 Av2 nv2 cv2 Av3 nv3 cv3 T2 Af nf cf fs _ (X.sep.own_ 3 rfl).rd S3.out (X.sep.own_ 0 rfl).rd (by omega)).mono ?_
    rintro e w17 ⟨Ax0, nx0, cx0, Ax1, nx1, cx1, Ax2, nx2, cx2, Ax3, nx3, cx3, rfl, o, b⟩
    clear hfl hfb
    obtain ⟨fp_x, X'⟩ := X.has b o
    clear X; have X := X'; clear X' b o
    clear HF
    have HF : w17.cell? ⟨qb, 0, none⟩ = some (.slice Av0 nv0 cv0) ∧ w17.cell? ⟨qb, 1, none⟩ = some (.slice Av1 nv1 cv1) ∧ w17.cell? ⟨qb, 2, none⟩ = some (.slice Av2 nv2 cv2) ∧ w17.cell? ⟨qb, 3, none⟩ = some (.slice Av3 nv3 cv3) := ⟨(X.sep.at_ 3 rfl).cell 0, (X.sep.at_ 3 rfl).cell 1, (X.sep.at_ 3 rfl).cell 2, (X.sep.at_ 3 rfl).cell 3⟩
    refine hK _ _ (fun _ => HF) ?_
    clear hK K
    try simp only [Act.put]
    obtain ⟨hd, hhd, hor⟩ : ∃ hd, headInM (bothFallen T2 fs) = (hd, true) ∧ (hd = ⟨num, (b1 : Int), t1, s1⟩ ∨ hd = ⟨num + 1, (b2 : Int), t2, s2⟩) := by rcases F1.out fs with h9 | h9 <;> first | exact ⟨_, h9, .inl rfl⟩ | exact ⟨_, h9, .inr rfl⟩
    refine wpAnyL_step (i := 4) (by kernel_rfl) rfl rfl ?_
    intro K hK
    go_simp
    refine (HHI.out Ax0 nx0 cx0 Ax1 nx1 cx1 Ax2 nx2 cx2 Ax3 nx3 cx3 (bothFallen T2 fs) _ (X.sep.own_ 0 rfl).rd (Nat.le_trans (ok_two_sz (bothFallen_ok O3.out fs)) (by decide))).mono ?_
    rintro e w18 ⟨z0, z1, z2, Ah, nh, ch, rfl, o, b⟩
    rw [hhd] at o ⊢
    obtain ⟨q0, q1, q2, o9⟩ := o.headU
    clear o
    subst q0 q1 q2
    have o := o9
    clear o9 hhd
    obtain ⟨fp_hs, X'⟩ := X.has b o
    clear X; have X := X'; clear X' b o
    clear HF
    have HF : w18.cell? ⟨qb, 0, none⟩ = some (.slice Av0 nv0 cv0) ∧ w18.cell? ⟨qb, 1, none⟩ = some (.slice Av1 nv1 cv1) ∧ w18.cell? ⟨qb, 2, none⟩ = some (.slice Av2 nv2 cv2) ∧ w18.cell? ⟨qb, 3, none⟩ = some (.slice Av3 nv3 cv3) := ⟨(X.sep.at_ 4 rfl).cell 0, (X.sep.at_ 4 rfl).cell 1, (X.sep.at_ 4 rfl).cell 2, (X.sep.at_ 4 rfl).cell 3⟩
    refine hK _ _ (fun _ => HF) ?_
    clear hK K
    try simp only [Act.put]
    refine wpAnyL_pure (i := 5) (v := ?_) rfl rfl (by kernel_rfl) (by kernel_rfl) (by kernel_rfl) (fun _ _ _ h => h) HF (Or.inl ⟨by rfl, ?_⟩) ?_
    rotate_left 1
    · (intro v _; go_simp; try with_reducible rfl)
    try simp only [Act.put]
    refine wpAnyL_pure (i := 6) (v := ?_) rfl rfl (by kernel_rfl) (by kernel_rfl) (by kernel_rfl) (fun _ _ _ h => h) HF (Or.inl ⟨by rfl, ?_⟩) ?_
    rotate_left 1
    · (intro v _; go_simp; try with_reducible rfl)
    try simp only [Act.put]
    refine wpAnyL_pure (i := 7) (v := ?_) rfl rfl (by kernel_rfl) (by kernel_rfl) (by kernel_rfl) (fun _ _ _ h => h) HF (Or.inl ⟨by rfl, ?_⟩) ?_
    rotate_left 1
    · (intro v _; go_simp; try with_reducible rfl)
    try simp only [Act.put]
    have f12 := lk X.sep 3 0 rfl rfl
    have f13 := (X.sep.at_ 3 rfl).free 0
    have f14 := lk X.sep 3 1 rfl rfl
    have f15 := (X.sep.at_ 3 rfl).free 1
    have f16 := lk X.sep 3 2 rfl rfl
    have f17 := (X.sep.at_ 3 rfl).free 2
    have f18 := lk X.sep 3 3 rfl rfl
    have f19 := (X.sep.at_ 3 rfl).free 3
    refine wpAnyL_step (i := 9) (by kernel_rfl) rfl rfl ?_
    intro K hK
    go_simp
    replace X := X.put 3 rfl 0 (.int .i64 hd.num)
    replace X := X.put 3 rfl 1 (.int .i64 hd.base)
    replace X := X.put 3 rfl 2 (.int .i64 hd.tm)
    replace X := X.put 3 rfl 3 (.slice Ah nh ch)
    replace X : DrL w1 _ _ _ [_, _, _, .blk (w14.heap.size) #[.int .i64 hd.num, .int .i64 hd.base, .int .i64 hd.tm, .slice Ah nh ch] 40, .blk (qb) #[.slice Av0 nv0 cv0, .slice Av1 nv1 cv1, .slice Av2 nv2 cv2, .slice Av3 nv3 cv3] 60, _, .blk (qg) #[.int .i64 (num + 1), .int .i64 (b2 : Int), .int .i64 t2, .slice Ag ng cg] 40, _, .blk (qe) #[.int .i64 num, .int .i64 (b1 : Int), .int .i64 t1, .slice Ae ne ce] 40, _] := X
    clear HF
    have HF : ((((w18.setCell ⟨w14.heap.size, 0, none⟩ (.int .i64 hd.num)).setCell ⟨w14.heap.size, 1, none⟩ (.int .i64 hd.base)).setCell ⟨w14.heap.size, 2, none⟩ (.int .i64 hd.tm)).setCell ⟨w14.heap.size, 3, none⟩ (.slice Ah nh ch)).cell? ⟨qb, 0, none⟩ = some (.slice Av0 nv0 cv0) ∧ ((((w18.setCell ⟨w14.heap.size, 0, none⟩ (.int .i64 hd.num)).setCell ⟨w14.heap.size, 1, none⟩ (.int .i64 hd.base)).setCell ⟨w14.heap.size, 2, none⟩ (.int .i64 hd.tm)).setCell ⟨w14.heap.size, 3, none⟩ (.slice Ah nh ch)).cell? ⟨qb, 1, none⟩ = some (.slice Av1 nv1 cv1) ∧ ((((w18.setCell ⟨w14.heap.size, 0, none⟩ (.int .i64 hd.num)).setCell ⟨w14.heap.size, 1, none⟩ (.int .i64 hd.base)).setCell ⟨w14.heap.size, 2, none⟩ (.int .i64 hd.tm)).setCell ⟨w14.heap.size, 3, none⟩ (.slice Ah nh ch)).cell? ⟨qb, 2, none⟩ = some (.slice Av2 nv2 cv2) ∧ ((((w18.setCell ⟨w14.heap.size, 0, none⟩ (.int .i64 hd.num)).setCell ⟨w14.heap.size, 1, none⟩ (.int .i64 hd.base)).setCell ⟨w14.heap.size, 2, none⟩ (.int .i64 hd.tm)).setCell ⟨w14.heap.size, 3, none⟩ (.slice Ah nh ch)).cell? ⟨qb, 3, none⟩ = some (.slice Av3 nv3 cv3) := ⟨(X.sep.at_ 4 rfl).cell 0, (X.sep.at_ 4 rfl).cell 1, (X.sep.at_ 4 rfl).cell 2, (X.sep.at_ 4 rfl).cell 3⟩
    refine hK _ _ (fun _ => HF) ?_
    clear hK K
    try simp only [Act.put]
    generalize (((w18.setCell ⟨w14.heap.size, 0, none⟩ (.int .i64 hd.num)).setCell ⟨w14.heap.size, 1, none⟩ (.int .i64 hd.base)).setCell ⟨w14.heap.size, 2, none⟩ (.int .i64 hd.tm)).setCell ⟨w14.heap.size, 3, none⟩ (.slice Ah nh ch) = w19 at *
    clear f12 f13 f14 f15 f16 f17 f18 f19
    refine wpAnyL_step (i := 10) (by kernel_rfl) rfl rfl ?_
    intro K hK
    go_simp
    refine hK _ _ (fun h => nomatch (show true = false from h)) ?_
    clear hK K
    try simp only [Act.put]
    refine wpAnyL_done (by kernel_rfl) ?_ _
    clear HF
    replace X := X.with_ (X.sep.pick 0 rfl)
    replace X := X.with_ (X.sep.pick 3 rfl)
    replace X := X.with_ (X.sep.sub (.cons_cons _ (.cons_cons _ (.cons _ (.cons _ (.cons_cons _ (.cons_cons _ (.cons_cons _ (.cons_cons _ (.cons_cons _ (.cons_cons _ (List.nil_sublist _))))))))))))
    go_wp2_with fail
    go_meet
    exact ⟨_, _, _, _, _, _, rfl, rfl, hor, X⟩
 obtain ⟨qh, hd, Ah, nh, ch, fp_hs, rfl, rfl, hor, X⟩ := hcut
 clear XH
 generalize wc = w14 at *
 have n0 : (num != num) = false := by simp
 have n1 : ((b1 : Int) != (b1 : Int)) = false := by simp
 have n2 : (num == num + 1) = false := beq_eq_false_iff_ne.2 (by omega)
 have n3 : (num + 1 != num) = true := bne_iff_ne.2 (by omega)
 have n4 : (num + 1 != num + 1) = false := by simp
 have n5 : (num + 1 == num) = false := beq_eq_false_iff_ne.2 (by omega)
 have n6 : ((b2 : Int) != (b2 : Int)) = false := by simp
 have n7 : (num != num + 1) = true := bne_iff_ne.2 (by omega)
 have n8 : (num == num) = true := by simp
 have n9 : (num + 1 == num + 1) = true := by simp
 have m1 : ((b2 : Int) == (b2 : Int)) = true := by simp
 rcases hor with rfl | rfl
 · have f12 : w14.cell? ⟨qh, 0, none⟩ = some (.int .i64 num) := (X.sep.at_ 0 rfl).cell 0
   have f13 := lk X.sep 0 1 rfl rfl
   have f14 := lk X.sep 0 2 rfl rfl
   have f15 := lk X.sep 0 3 rfl rfl
   have f16 := lk X.sep 6 0 rfl rfl
   have f17 := lk X.sep 6 1 rfl rfl
   have f18 := lk X.sep 6 2 rfl rfl
   have f19 := lk X.sep 6 3 rfl rfl
   have f20 := lk X.sep 4 0 rfl rfl
   have f21 := lk X.sep 4 1 rfl rfl
   have f22 := lk X.sep 4 2 rfl rfl
   have f23 := lk X.sep 4 3 rfl rfl
   go_wp2_with fail
   refine (HSS.out Ah nh ch s1 Ae ne ce s1 _ ((X.sep.own_ 1 rfl).rd) (Nat.le_trans HSZ1.out (by decide)) ((X.sep.own_ 7 rfl).rd) (Nat.le_trans HSZ1.out (by decide))).mono ?_
   rintro e w15 ⟨rfl, b⟩
   rw [show sameMs s1 s1 = true from (sameMs_iff _ _).2 rfl]
   replace X := X.keep b
   clear b f12 f13 f14 f15 f16 f17 f18 f19 f20 f21 f22 f23
   replace X := X.with_ (X.sep.sub (.cons_cons _ (.cons_cons _ (.cons_cons _ (.cons_cons _ (.cons_cons _ (.cons_cons _ (.cons_cons _ (.cons_cons _ (List.nil_sublist _))))))))))
   have f24 := lk X.sep 0 0 rfl rfl
   have f25 := lk X.sep 0 1 rfl rfl
   have f26 := lk X.sep 0 2 rfl rfl
   have f27 := lk X.sep 0 3 rfl rfl
   have f28 := lk X.sep 6 0 rfl rfl
   have f29 := lk X.sep 6 1 rfl rfl
   have f30 := lk X.sep 6 2 rfl rfl
   have f31 := lk X.sep 6 3 rfl rfl
   have f32 := lk X.sep 4 0 rfl rfl
   have f33 := lk X.sep 4 1 rfl rfl
   have f34 := lk X.sep 4 2 rfl rfl
   have f35 := lk X.sep 4 3 rfl rfl
   have f36 := lk X.sep 2 0 rfl rfl
   have f37 := lk X.sep 2 1 rfl rfl
   have f38 := lk X.sep 2 2 rfl rfl
   have f39 := lk X.sep 2 3 rfl rfl
   replace X := X.boxAt (w15.heap.size) rfl #[] 2
   replace X := X.with_ (X.sep.blk0 (k := 1) (f := fun y : Int => [Dat.int y]))
   have f40 := lk X.sep 3 0 rfl rfl
   have f41 := lk X.sep 3 1 rfl rfl
   have f42 := lk X.sep 3 2 rfl rfl
   have f43 := lk X.sep 3 3 rfl rfl
   go_wp2_with fail
   generalize w15.alloc (.cells #[] 2) = w16 at *
   refine (HBF.out Av0 nv0 cv0 Av1 nv1 cv1 Av2 nv2 cv2 Av3 nv3 cv3 T2 _ 0 0 [] _ (X.sep.own_ 4 rfl).rd S3.out (X.sep.own_ 0 rfl).rd (by decide)).mono ?_
   rintro e w17 ⟨Ax0, nx0, cx0, Ax1, nx1, cx1, Ax2, nx2, cx2, Ax3, nx3, cx3, rfl, o, b⟩
   obtain ⟨fp_x, X'⟩ := X.has b o
   clear X; have X := X'; clear X' b o f24 f25 f26 f27 f28 f29 f30 f31 f32 f33 f34 f35 f36 f37 f38 f39 f40 f41 f42 f43
   go_wp2_with fail
   refine (HHI.out Ax0 nx0 cx0 Ax1 nx1 cx1 Ax2 nx2 cx2 Ax3 nx3 cx3 (bothFallen T2 []) _ (X.sep.own_ 0 rfl).rd (Nat.le_trans (ok_two_sz (bothFallen_ok O3.out [])) (by decide))).mono ?_
   rintro e w18 ⟨y0, y1, y2, Al, nl, cl9, rfl, o, b⟩
   rw [F2.out] at o ⊢
   obtain ⟨q0, q1, q2, o⟩ := o.headU
   have Q0 := jd (show y0 = num from q0)
   clear q0 q1 q2
   obtain ⟨fp_ls, X'⟩ := X.has b o
   clear X; have X := X'; clear X' b o
   replace X := X.with_ (X.sep.sub (.cons_cons _ (.cons _ (.cons _ (.cons _ (.cons _ (.cons_cons _ (.cons_cons _ (.cons_cons _ (.cons_cons _ (.cons_cons _ (List.nil_sublist _))))))))))))
   replace X := X.boxAt (w18.heap.size) rfl #[.int .i64 y0, .int .i64 y1, .int .i64 y2, .slice Al nl cl9] 40
   have f44 := lk X.sep 2 0 rfl rfl
   have f45 := lk X.sep 2 1 rfl rfl
   have f46 := lk X.sep 2 2 rfl rfl
   have f47 := lk X.sep 2 3 rfl rfl
   go_wp2_with fail
   generalize w18.alloc (.cells #[.int .i64 y0, .int .i64 y1, .int .i64 y2, .slice Al nl cl9] 40) = w19 at *
   generalize w18.heap.size = ql at *
   refine (HBS.out Av0 nv0 cv0 Av1 nv1 cv1 Av2 nv2 cv2 Av3 nv3 cv3 T2 _ (X.sep.own_ 3 rfl).rd S3.out).mono ?_
   rintro e w20 ⟨Ay0, ny0, cy0, Ay1, ny1, cy1, Ay2, ny2, cy2, Ay3, ny3, cy3, rfl, o, b⟩
   obtain ⟨fp_y, X'⟩ := X.has b o
   clear X; have X := X'; clear X' b o f44 f45 f46 f47
   go_wp2_with fail
   refine (w9fates_any _ _ 2 (by decide) _ X.cur).mono ?_
   rintro e w21 ⟨fs, Af, nf, cf, hfl, hfb, rfl, cu, gr, o⟩
   obtain ⟨fp_f, X'⟩ := X.drawHas cu gr o
   clear X; have X := X'; clear X' cu gr o
   go_wp2_with fail
   refine (HBF.out Ay0 ny0 cy0 Ay1 ny1 cy1 Ay2 ny2 cy2 Ay3 ny3 cy3 (bothSynced T2) Af nf cf fs _ (X.sep.own_ 1 rfl).rd (Nat.le_trans (ok_two_sz (bothSynced_ok O3.out)) (by decide)) (X.sep.own_ 0 rfl).rd (by omega)).mono ?_
   rintro e w22 ⟨Ax0, nx0, cx0, Ax1, nx1, cx1, Ax2, nx2, cx2, Ax3, nx3, cx3, rfl, o, b⟩
   obtain ⟨fp_x, X'⟩ := X.has b o
   clear X; have X := X'; clear X' b o
   go_wp2_with fail
   refine (HHI.out Ax0 nx0 cx0 Ax1 nx1 cx1 Ax2 nx2 cx2 Ax3 nx3 cx3 (bothFallen (bothSynced T2) fs) _ (X.sep.own_ 0 rfl).rd (Nat.le_trans (ok_two_sz (bothFallen_ok (bothSynced_ok O3.out) fs)) (by decide))).mono ?_
   rintro e w23 ⟨x0, x1, x2, Ad, nd, cd9, rfl, o, b⟩
   rw [F3.out] at o ⊢
   obtain ⟨q0, q1, q2, o⟩ := o.headU
   have Q3 := jd (show x0 = num + 1 from q0)
   have Q4 := jd (show x1 = (b2 : Int) from q1)
   have o : Has _ _ [mrkD s2] _ := o
   clear q0 q1 q2 hfl hfb
   obtain ⟨fp_ds, X'⟩ := X.has b o
   clear X; have X := X'; clear X' b o
   replace X := X.with_ (X.sep.sub (.cons_cons _ (.cons _ (.cons _ (.cons _ (.cons_cons _ (.cons _ (.cons _ (.cons _ (.cons_cons _ (.cons_cons _ (.cons_cons _ (List.nil_sublist _)))))))))))))
   replace X := X.boxAt (w23.heap.size) rfl #[.int .i64 x0, .int .i64 x1, .int .i64 x2, .slice Ad nd cd9] 40
   have r0 : (y0 == num) = true := by rw [Q0.out]; simp
   have r1 : (x0 == num + 1) = true := by rw [Q3.out]; simp
   have r2 : (x1 == (b2 : Int)) = true := by rw [Q4.out]; simp
   have f48 := lk X.sep 0 0 rfl rfl
   have f49 := lk X.sep 0 1 rfl rfl
   have f50 := lk X.sep 0 2 rfl rfl
   have f51 := lk X.sep 0 3 rfl rfl
   have f52 := lk X.sep 2 0 rfl rfl
   have f53 := lk X.sep 2 1 rfl rfl
   have f54 := lk X.sep 2 2 rfl rfl
   have f55 := lk X.sep 2 3 rfl rfl
   have f56 := lk X.sep 3 0 rfl rfl
   have f57 := lk X.sep 3 1 rfl rfl
   have f58 := lk X.sep 3 2 rfl rfl
   have f59 := lk X.sep 3 3 rfl rfl
   have f60 := lk X.sep 5 0 rfl rfl
   have f61 := lk X.sep 5 1 rfl rfl
   have f62 := lk X.sep 5 2 rfl rfl
   have f63 := lk X.sep 5 3 rfl rfl
   go_wp2_with fail
   generalize w23.alloc (.cells #[.int .i64 x0, .int .i64 x1, .int .i64 x2, .slice Ad nd cd9] 40) = w24 at *
   generalize w23.heap.size = qd at *
   refine (HSS.out Ad nd cd9 s2 Ag ng cg s2 _ ((X.sep.own_ 1 rfl).rd) (Nat.le_trans HSZ2.out (by decide)) ((X.sep.own_ 4 rfl).rd) (Nat.le_trans HSZ2.out (by decide))).mono ?_
   rintro e w25 ⟨rfl, b⟩
   rw [show sameMs s2 s2 = true from (sameMs_iff _ _).2 rfl]
   replace X := X.keep b
   clear b f48 f49 f50 f51 f52 f53 f54 f55 f56 f57 f58 f59 f60 f61 f62 f63
   have C := jd (B1.out.trans (grown_below X.grown B1.out.size (fun k hk => by injection hk with hk; omega)))
   clear X
   go_wp2
   go_ret
   exact ⟨rfl, C.out⟩
 · have f12 : w14.cell? ⟨qh, 0, none⟩ = some (.int .i64 (num + 1)) := (X.sep.at_ 0 rfl).cell 0
   have f13 := lk X.sep 0 1 rfl rfl
   have f14 := lk X.sep 0 2 rfl rfl
   have f15 := lk X.sep 0 3 rfl rfl
   have f16 := lk X.sep 6 0 rfl rfl
   have f17 := lk X.sep 6 1 rfl rfl
   have f18 := lk X.sep 6 2 rfl rfl
   have f19 := lk X.sep 6 3 rfl rfl
   have f20 := lk X.sep 4 0 rfl rfl
   have f21 := lk X.sep 4 1 rfl rfl
   have f22 := lk X.sep 4 2 rfl rfl
   have f23 := lk X.sep 4 3 rfl rfl
   have f24 := lk X.sep 2 0 rfl rfl
   have f25 := lk X.sep 2 1 rfl rfl
   have f26 := lk X.sep 2 2 rfl rfl
   have f27 := lk X.sep 2 3 rfl rfl
   replace X := X.boxAt (w14.heap.size) rfl #[] 2
   replace X := X.with_ (X.sep.blk0 (k := 1) (f := fun y : Int => [Dat.int y]))
   have f28 := lk X.sep 3 0 rfl rfl
   have f29 := lk X.sep 3 1 rfl rfl
   have f30 := lk X.sep 3 2 rfl rfl
   have f31 := lk X.sep 3 3 rfl rfl
   go_wp2_with fail
   generalize w14.alloc (.cells #[] 2) = w15 at *
   refine (HBF.out Av0 nv0 cv0 Av1 nv1 cv1 Av2 nv2 cv2 Av3 nv3 cv3 T2 _ 0 0 [] _ (X.sep.own_ 4 rfl).rd S3.out (X.sep.own_ 0 rfl).rd (by decide)).mono ?_
   rintro e w16 ⟨Ax0, nx0, cx0, Ax1, nx1, cx1, Ax2, nx2, cx2, Ax3, nx3, cx3, rfl, o, b⟩
   obtain ⟨fp_x, X'⟩ := X.has b o
   clear X; have X := X'; clear X' b o f12 f13 f14 f15 f16 f17 f18 f19 f20 f21 f22 f23 f24 f25 f26 f27 f28 f29 f30 f31
   go_wp2_with fail
   refine (HHI.out Ax0 nx0 cx0 Ax1 nx1 cx1 Ax2 nx2 cx2 Ax3 nx3 cx3 (bothFallen T2 []) _ (X.sep.own_ 0 rfl).rd (Nat.le_trans (ok_two_sz (bothFallen_ok O3.out [])) (by decide))).mono ?_
   rintro e w17 ⟨y0, y1, y2, Al, nl, cl9, rfl, o, b⟩
   rw [F2.out] at o ⊢
   obtain ⟨q0, q1, q2, o⟩ := o.headU
   have Q0 := jd (show y0 = num from q0)
   clear q0 q1 q2
   obtain ⟨fp_ls, X'⟩ := X.has b o
   clear X; have X := X'; clear X' b o
   replace X := X.with_ (X.sep.sub (.cons_cons _ (.cons _ (.cons _ (.cons _ (.cons _ (.cons_cons _ (.cons_cons _ (.cons_cons _ (.cons_cons _ (.cons_cons _ (List.nil_sublist _))))))))))))
   replace X := X.boxAt (w17.heap.size) rfl #[.int .i64 y0, .int .i64 y1, .int .i64 y2, .slice Al nl cl9] 40
   have f32 := lk X.sep 2 0 rfl rfl
   have f33 := lk X.sep 2 1 rfl rfl
   have f34 := lk X.sep 2 2 rfl rfl
   have f35 := lk X.sep 2 3 rfl rfl
   go_wp2_with fail
   generalize w17.alloc (.cells #[.int .i64 y0, .int .i64 y1, .int .i64 y2, .slice Al nl cl9] 40) = w18 at *
   generalize w17.heap.size = ql at *
   refine (HBS.out Av0 nv0 cv0 Av1 nv1 cv1 Av2 nv2 cv2 Av3 nv3 cv3 T2 _ (X.sep.own_ 3 rfl).rd S3.out).mono ?_
   rintro e w19 ⟨Ay0, ny0, cy0, Ay1, ny1, cy1, Ay2, ny2, cy2, Ay3, ny3, cy3, rfl, o, b⟩
   obtain ⟨fp_y, X'⟩ := X.has b o
   clear X; have X := X'; clear X' b o f32 f33 f34 f35
   go_wp2_with fail
   refine (w9fates_any _ _ 2 (by decide) _ X.cur).mono ?_
   rintro e w20 ⟨fs, Af, nf, cf, hfl, hfb, rfl, cu, gr, o⟩
   obtain ⟨fp_f, X'⟩ := X.drawHas cu gr o
   clear X; have X := X'; clear X' cu gr o
   go_wp2_with fail
   refine (HBF.out Ay0 ny0 cy0 Ay1 ny1 cy1 Ay2 ny2 cy2 Ay3 ny3 cy3 (bothSynced T2) Af nf cf fs _ (X.sep.own_ 1 rfl).rd (Nat.le_trans (ok_two_sz (bothSynced_ok O3.out)) (by decide)) (X.sep.own_ 0 rfl).rd (by omega)).mono ?_
   rintro e w21 ⟨Ax0, nx0, cx0, Ax1, nx1, cx1, Ax2, nx2, cx2, Ax3, nx3, cx3, rfl, o, b⟩
   obtain ⟨fp_x, X'⟩ := X.has b o
   clear X; have X := X'; clear X' b o
   go_wp2_with fail
   refine (HHI.out Ax0 nx0 cx0 Ax1 nx1 cx1 Ax2 nx2 cx2 Ax3 nx3 cx3 (bothFallen (bothSynced T2) fs) _ (X.sep.own_ 0 rfl).rd (Nat.le_trans (ok_two_sz (bothFallen_ok (bothSynced_ok O3.out) fs)) (by decide))).mono ?_
   rintro e w22 ⟨x0, x1, x2, Ad, nd, cd9, rfl, o, b⟩
   rw [F3.out] at o ⊢
   obtain ⟨q0, q1, q2, o⟩ := o.headU
   have Q3 := jd (show x0 = num + 1 from q0)
   have Q4 := jd (show x1 = (b2 : Int) from q1)
   have o : Has _ _ [mrkD s2] _ := o
   clear q0 q1 q2 hfl hfb
   obtain ⟨fp_ds, X'⟩ := X.has b o
   clear X; have X := X'; clear X' b o
   replace X := X.with_ (X.sep.sub (.cons_cons _ (.cons _ (.cons _ (.cons _ (.cons_cons _ (.cons _ (.cons _ (.cons _ (.cons_cons _ (.cons_cons _ (.cons_cons _ (List.nil_sublist _)))))))))))))
   replace X := X.boxAt (w22.heap.size) rfl #[.int .i64 x0, .int .i64 x1, .int .i64 x2, .slice Ad nd cd9] 40
   have r0 : (y0 == num) = true := by rw [Q0.out]; simp
   have r1 : (x0 == num + 1) = true := by rw [Q3.out]; simp
   have r2 : (x1 == (b2 : Int)) = true := by rw [Q4.out]; simp
   have f36 := lk X.sep 0 0 rfl rfl
   have f37 := lk X.sep 0 1 rfl rfl
   have f38 := lk X.sep 0 2 rfl rfl
   have f39 := lk X.sep 0 3 rfl rfl
   have f40 := lk X.sep 2 0 rfl rfl
   have f41 := lk X.sep 2 1 rfl rfl
   have f42 := lk X.sep 2 2 rfl rfl
   have f43 := lk X.sep 2 3 rfl rfl
   have f44 := lk X.sep 3 0 rfl rfl
   have f45 := lk X.sep 3 1 rfl rfl
   have f46 := lk X.sep 3 2 rfl rfl
   have f47 := lk X.sep 3 3 rfl rfl
   have f48 := lk X.sep 5 0 rfl rfl
   have f49 := lk X.sep 5 1 rfl rfl
   have f50 := lk X.sep 5 2 rfl rfl
   have f51 := lk X.sep 5 3 rfl rfl
   go_wp2_with fail
   generalize w22.alloc (.cells #[.int .i64 x0, .int .i64 x1, .int .i64 x2, .slice Ad nd cd9] 40) = w23 at *
   generalize w22.heap.size = qd at *
   refine (HSS.out Ad nd cd9 s2 Ag ng cg s2 _ ((X.sep.own_ 1 rfl).rd) (Nat.le_trans HSZ2.out (by decide)) ((X.sep.own_ 4 rfl).rd) (Nat.le_trans HSZ2.out (by decide))).mono ?_
   rintro e w24 ⟨rfl, b⟩
   rw [show sameMs s2 s2 = true from (sameMs_iff _ _).2 rfl]
   replace X := X.keep b
   clear b f36 f37 f38 f39 f40 f41 f42 f43 f44 f45 f46 f47 f48 f49 f50 f51
   have C := jd (B1.out.trans (grown_below X.grown B1.out.size (fun k hk => by injection hk with hk; omega)))
   clear X
   go_wp2
   go_ret
   exact ⟨rfl, C.out⟩
end Go.Proofs.Ytmjifhjhialcbaa
