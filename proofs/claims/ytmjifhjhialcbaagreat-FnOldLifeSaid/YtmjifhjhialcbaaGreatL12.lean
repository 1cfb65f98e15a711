/- Parts of my texts: Cls LawKept DskS1 KS2. -/
import Derived.Test.YtmjifhjhialcbaaGreatL11
import Derived.Deep.Quiet
import Derived.Deep.DeepCutAuto
import Derived.Deep.RegionHeld3
import Derived.Deep.RegionLaw
namespace Go.Proofs.YtmjifhjhialcbaaGreat
set_option maxRecDepth 100000
set_option linter.unusedVariables false
open Go.RowKit
theorem wp_region_cls {P : Program} {id : Nat} {Q : Exit → Act → World → Prop} {a : Act} {w : World} {l : List Oper} (F : World → Prop) (hm : P.follows .mixedOrders = true) (hB : Region.lexB .any l.toArray = true)
    (hF : ∀ v, Below w.heap.size w v → F v)
    (h : ∀ C : World → Prop, (∀ v, C v → F v) → (∀ v v', C v → Below v.heap.size v v' → C v') → wpQuiet P l.toArray C (fun a' => ∀ w', Below w.heap.size w w' → Q .normal a' w') l a) : (Code.region id l.toArray true).wp P Q a w := by
 refine wp_region_quiet (C := fun v => Below w.heap.size w v) hm hB ?_ ?_
 · exact (Below.refl _ _).drew
 · simpa using h (fun v => Below w.heap.size w v) hF (fun v v' hv hb => hv.trans (hb.mono hv.size))
theorem Calls.cls {P : Program} {f : FuncId} {args : Array Value} {v : World} {u u' : Value} {C : World → Prop} (hC : ∀ v v', C v → Below v.heap.size v v' → C v') (hv : C v)
    (h : Calls P f args v fun e w' => e = .returned u ∧ Below v.heap.size v w') (hu : u = u') : Calls P f args v fun e w' => e = .returned u' ∧ C w' :=
 h.mono fun _ _ ⟨he, hb⟩ => ⟨he.trans (by rw [hu]), hC _ _ hv hb⟩
theorem rec_kept {t : TwoM} (h : (recoveredM t).ok = true) : keptB t = true ∧ (headInM t).2 = true := by
 unfold recoveredM at h
 split at h
 next hi => exact ⟨headIn_kept hi, hi⟩
 next => cases h
theorem begins_take (l : List EntM) (k : Nat) : beginsB l (l.take k) = true := by
 unfold beginsB
 rw [Bool.and_eq_true, decide_eq_true_eq]
 refine ⟨by rw [List.length_take]; omega, ?_⟩
 rw [(sameEs_iff _ _).2]
 rw [List.length_take]
 by_cases h : k ≤ l.length
 · rw [show min k l.length = k by omega]
 · rw [show min k l.length = l.length by omega, List.take_length, List.take_of_length_le (by omega)]
theorem kept_facts {l : List EntM} (hr : RunS l) (hl : l.length ≤ 20) {s : Nat} (hs : s ≤ l.length) (fs : List Int) (at_ i y : Int) (hy : 0 ≤ y ∧ y < 60) :
    ∃ rows k, recoveredM ⟨(bothFallen (keptAll newKeptM l (s : Int)) fs).a, (rotted (bothFallen (keptAll newKeptM l (s : Int)) fs).b at_ i y).1⟩ = ⟨onBoth rows, headZ, ⟨0, 0, l.take k⟩, true⟩ ∧ s ≤ k ∧ k ≤ l.length ∧ bookB ⟨0, 0, l.take k⟩ = true ∧ equalIn (onBoth rows) = true ∧ lastM ⟨0, 0, l.take k⟩ = (k : Int) ∧ (onBoth rows).sz ≤ 9800 := by
 obtain ⟨k, rows, h1, h2, h3, h4, _⟩ := kept_recovered hr hl hs fs at_ i y (by omega) _ rfl
 have hb : bookB ⟨0, 0, l.take k⟩ = true := by
  obtain ⟨_, _, _, _, _, _, _, h9, _⟩ := recovered_again (rec_kept (by rw [h3])).2
  rw [h3] at h9
  exact h9
 refine ⟨rows, k, h3, h1, h2, hb, onBoth_equal h4, ?_, ok_two_sz h4⟩
 unfold lastM lastB
 rw [if_pos hb]
 show 0 + ((l.take k).length : Int) = _
 rw [List.length_take]
 omega
theorem keptAll_ok {l : List EntM} (hr : RunS l) (hl : l.length ≤ 20) {s : Nat} (hs : s ≤ l.length) : keptB (keptAll newKeptM l (s : Int)) = true ∧ keptB newKeptM = true := by
 obtain ⟨n1, n2⟩ := newKept_twin
 obtain ⟨k1, k2⟩ := kept_all n2 (run_ents hr) (by omega) hs
 rw [n1, k1]
 exact ⟨k2, n2⟩
set_option maxHeartbeats 12800000 in
theorem lawKept (hN : CNewKept 13) (hE : CKeptEntry 47) (hS : CBothSynced 46) (hF9 : CBothFallen 14) (hR9 : CRotted 16) (hV : CRecovered 17) (hL9 : CLastOf 18) (hB : CBookOk 20) (hQ : CEqualIn 21)
    (A : Option Addr) (n c0 : Nat) (w : World) (h : BRow w w.heap.size A n) (hm : n ≤ maxLen) :
    Calls Tryz.prog 3 #[.slice A n c0] w fun e w' => e = .returned (.bool true) ∧ Below w.heap.size w w' := by
 have HN := jd hN
 have HE := jd hE
 have HS := jd hS
 have HF9 := jd hF9
 have HR9 := jd hR9
 have HV := jd hV
 have HL9 := jd hL9
 have HB := jd hB
 have HQ := jd hQ
 clear hN hE hS hF9 hR9 hV hL9 hB hQ
 unfold maxLen at hm
 by_cases hn : 4096 < n
 · clear h
   go_enter Tryz.func3, Tryz.ntmps3
   go_wp2_with fail
   refine (lbig_any A n c0 _).mono ?_
   rintro e w' ⟨rfl, rfl⟩
   rw [decide_eq_true hn]
   go_wp2
   go_ret
   exact ⟨rfl, Below.refl _ _⟩
 go_enter Tryz.func3, Tryz.ntmps3
 go_wp2_with fail
 refine (lbig_any A n c0 _).mono ?_
 rintro e w' ⟨rfl, rfl⟩
 rw [decide_eq_false hn]
 go_wp2_with fail
 refine (roll_any A n c0 _ h (by omega) _).mono ?_
 rintro e w1 ⟨rfl, cu, b1⟩
 have X := DrL.start cu
 have B1 := jd b1
 clear b1 cu h
 replace X := X.boxAt (w1.heap.size) rfl #[] 87
 go_wp2_with fail
 generalize w1.alloc (.cells #[] 87) = w2 at *
 refine (lbelow_any _ _ _ X.cur 9 (by decide)).mono ?_
 rintro e w3 ⟨z, hz, rfl, cu, gr⟩
 replace X := X.draw cu gr
 clear cu gr
 obtain ⟨m, hm9⟩ : ∃ m : Nat, 1 + z = (m : Int) := ⟨(1 + z).toNat, by omega⟩
 have hm : 1 ≤ m ∧ m ≤ 9 := by omega
 have hwz : IntKind.i64.wrap (1 + z) = (m : Int) := by rw [IntKind.wrap_i64]; omega
 clear hz hm9
 go_wp2_with fail
 refine (w9list_seq _ _ m (by omega) _ _ _ X.cur).mono ?_
 rintro e w4 ⟨l, A, n, c, hl, hrun, rfl, cu, gr, o⟩
 obtain ⟨fp_l, X'⟩ := X.drawHas cu gr o
 clear X; have X := X'; clear X' cu gr o
 replace X := X.with_ (X.sep.sub (.cons_cons _ (List.nil_sublist _)))
 clear hwz
 obtain ⟨_, _, _, e, hln, hnc, hcm, _⟩ := ((X.sep.own_ 0 rfl).rd).ents
 injection e with e1 e2 e3
 subst e1 e2 e3
 obtain rfl : n = m := by omega
 have HL := jd hl
 have HR := jd hrun
 have hl20 : l.length ≤ 20 := by omega
 have hsz : entSz l ≤ 1048577 := by unfold entSz; omega
 clear hl hln hrun
 have hw1 : IntKind.i64.wrap ((n : Int) + 1) = (n : Int) + 1 := by rw [IntKind.wrap_i64]; omega
 have hw2 : IntKind.i64.wrap (2 * (n : Int)) = ((2 * n : Nat) : Int) := by rw [IntKind.wrap_i64]; omega
 go_wp2_with fail
 refine (lbelow_any _ _ _ X.cur ((n : Int) + 1) (by omega)).mono ?_
 rintro e w5 ⟨z, hz, rfl, cu, gr⟩
 replace X := X.draw cu gr
 clear cu gr
 obtain ⟨s, rfl⟩ : ∃ s : Nat, z = (s : Int) := ⟨z.toNat, by omega⟩
 have hs9 : s ≤ n := by omega
 clear hz hw1
 have HOK := jd (keptAll_ok HR.out hl20 (show s ≤ l.length by have := HL.out; omega))
 have HFA := jd (fun fs at_ i y => kept_facts HR.out hl20 (show s ≤ l.length by have := HL.out; omega) fs at_ i y)
 go_wp2_with fail
 refine (HN.out _).mono ?_
 rintro e w6 ⟨Ak0, nk0, ck0, Ak1, nk1, ck1, Ak2, nk2, ck2, Ak3, nk3, ck3, rfl, o, b⟩
 obtain ⟨fp_nk, X'⟩ := X.has b o
 clear X; have X := X'; clear X' b o
 go_wp2_with fail
 refine (w9kept_any HE.out HS.out Ak0 nk0 ck0 Ak1 nk1 ck1 Ak2 nk2 ck2 Ak3 nk3 ck3 newKeptM A n c l (s : Int) _ (X.sep.own_ 0 rfl).rd HOK.out.2 ((X.sep.own_ 1 rfl).rd) (by omega)).mono ?_
 rintro e w7 ⟨At0, nt0, ct0, At1, nt1, ct1, At2, nt2, ct2, At3, nt3, ct3, rfl, _, o, b⟩
 replace o := o (by omega)
 obtain ⟨fp_t, X'⟩ := X.has b o
 clear X; have X := X'; clear X' b o
 replace X := X.with_ (X.sep.sub (.cons_cons _ (.cons _ (.cons_cons _ (List.nil_sublist _)))))
 have hzt := keptB_sz HOK.out.1
 have hot : twoOk (keptAll newKeptM l (s : Int)) = true := ((keptB_iff _).1 HOK.out.1).1
 generalize keptAll newKeptM l (s : Int) = TK at *
 replace X := X.boxAt (w7.heap.size) rfl #[.slice At0 nt0 ct0, .slice At1 nt1 ct1, .slice At2 nt2 ct2, .slice At3 nt3 ct3] 35
 go_wp2_with fail
 generalize w7.alloc (.cells #[.slice At0 nt0 ct0, .slice At1 nt1 ct1, .slice At2 nt2 ct2, .slice At3 nt3 ct3] 35) = w8 at *
 generalize w7.heap.size = qb at *
 refine wp_region_L (fun v => v.cell? ⟨qb, 0, none⟩ = some (.slice At0 nt0 ct0) ∧ v.cell? ⟨qb, 1, none⟩ = some (.slice At1 nt1 ct1) ∧ v.cell? ⟨qb, 2, none⟩ = some (.slice At2 nt2 ct2) ∧ v.cell? ⟨qb, 3, none⟩ = some (.slice At3 nt3 ct3)) 7 (by kernel_rfl) ?_
 replace X := X.drew
 generalize w8.drew = w9 at *
 have HF : w9.cell? ⟨qb, 0, none⟩ = some (.slice At0 nt0 ct0) ∧ w9.cell? ⟨qb, 1, none⟩ = some (.slice At1 nt1 ct1) ∧ w9.cell? ⟨qb, 2, none⟩ = some (.slice At2 nt2 ct2) ∧ w9.cell? ⟨qb, 3, none⟩ = some (.slice At3 nt3 ct3) := ⟨(X.sep.at_ 0 rfl).cell 0, (X.sep.at_ 0 rfl).cell 1, (X.sep.at_ 0 rfl).cell 2, (X.sep.at_ 0 rfl).cell 3⟩
 refine tk 0 (v := ?_) rfl rfl HF (.inl ⟨by rfl, ?_⟩) ?_
 rotate_left 1
 · (rintro v ⟨a0, a1, a2, a3⟩; go_simp; try with_reducible rfl)
 try simp only [Act.put]
 refine tk 1 (v := ?_) rfl rfl HF (.inl ⟨by rfl, ?_⟩) ?_
 rotate_left 1
 · (rintro v ⟨a0, a1, a2, a3⟩; go_simp; try with_reducible rfl)
 try simp only [Act.put]
 refine tk 2 (v := ?_) rfl rfl HF (.inl ⟨by rfl, ?_⟩) ?_
 rotate_left 1
 · (rintro v ⟨a0, a1, a2, a3⟩; go_simp; try with_reducible rfl)
 try simp only [Act.put]
 refine tk 3 (v := ?_) rfl rfl HF (.inl ⟨by rfl, ?_⟩) ?_
 rotate_left 1
 · (rintro v ⟨a0, a1, a2, a3⟩; go_simp; try with_reducible rfl)
 try simp only [Act.put]
 refine tk 4 (v := ?_) rfl rfl HF (.inl ⟨by rfl, ?_⟩) ?_
 rotate_left 1
 · (rintro v ⟨a0, a1, a2, a3⟩; go_simp; try with_reducible rfl)
 try simp only [Act.put]
 refine wpAnyL_step (i := 5) (by kernel_rfl) rfl rfl ?_
 intro K hK
 go_simp
 refine (w9fates_any _ _ (2 * n) (by omega) _ X.cur).mono ?_
 rintro e w10 ⟨fs, Af, nf, cf, hfl, hfb, rfl, cu, gr, o⟩
 obtain ⟨fp_f, X'⟩ := X.drawHas cu gr o
 clear X; have X := X'; clear X' cu gr o
 clear HF
 have HF : w10.cell? ⟨qb, 0, none⟩ = some (.slice At0 nt0 ct0) ∧ w10.cell? ⟨qb, 1, none⟩ = some (.slice At1 nt1 ct1) ∧ w10.cell? ⟨qb, 2, none⟩ = some (.slice At2 nt2 ct2) ∧ w10.cell? ⟨qb, 3, none⟩ = some (.slice At3 nt3 ct3) := ⟨(X.sep.at_ 1 rfl).cell 0, (X.sep.at_ 1 rfl).cell 1, (X.sep.at_ 1 rfl).cell 2, (X.sep.at_ 1 rfl).cell 3⟩
 refine hK _ _ (fun _ => HF) ?_
 clear hK K
 try simp only [Act.put]
 refine wpAnyL_step (i := 6) (by kernel_rfl) rfl rfl ?_
 intro K hK
 go_simp
 refine (HF9.out At0 nt0 ct0 At1 nt1 ct1 At2 nt2 ct2 At3 nt3 ct3 TK Af nf cf fs _ (X.sep.own_ 2 rfl).rd (by omega) (X.sep.own_ 0 rfl).rd (by omega)).mono ?_
 rintro e w11 ⟨Au0, nu0, cu0, Au1, nu1, cu1, Au2, nu2, cu2, Au3, nu3, cu3, rfl, o, b⟩
 obtain ⟨fp_u, X'⟩ := X.has b o
 clear X; have X := X'; clear X' b o
 clear HF
 have HF : w11.cell? ⟨qb, 0, none⟩ = some (.slice At0 nt0 ct0) ∧ w11.cell? ⟨qb, 1, none⟩ = some (.slice At1 nt1 ct1) ∧ w11.cell? ⟨qb, 2, none⟩ = some (.slice At2 nt2 ct2) ∧ w11.cell? ⟨qb, 3, none⟩ = some (.slice At3 nt3 ct3) := ⟨(X.sep.at_ 2 rfl).cell 0, (X.sep.at_ 2 rfl).cell 1, (X.sep.at_ 2 rfl).cell 2, (X.sep.at_ 2 rfl).cell 3⟩
 refine hK _ _ (fun _ => HF) ?_
 clear hK K
 try simp only [Act.put]
 have hzu := Nat.le_trans (ok_two_sz (bothFallen_ok hot fs)) (show 9800 ≤ 1048576 by decide)
 clear hfl hfb hzt hot
 have HFS := jd (HFA.out fs)
 clear HFA
 generalize bothFallen TK fs = TF at *
 have f0 := lk X.sep 2 0 rfl rfl
 have f1 := (X.sep.at_ 2 rfl).free 0
 have f2 := lk X.sep 2 1 rfl rfl
 have f3 := (X.sep.at_ 2 rfl).free 1
 have f4 := lk X.sep 2 2 rfl rfl
 have f5 := (X.sep.at_ 2 rfl).free 2
 have f6 := lk X.sep 2 3 rfl rfl
 have f7 := (X.sep.at_ 2 rfl).free 3
 refine wpAnyL_step (i := 7) (by kernel_rfl) rfl rfl ?_
 intro K hK
 go_simp
 refine hK _ _ (fun h => nomatch (show true = false from h)) ?_
 clear hK K
 try simp only [Act.put]
 replace X := X.put 2 rfl 0 (.slice Au0 nu0 cu0)
 replace X := X.put 2 rfl 1 (.slice Au1 nu1 cu1)
 replace X := X.put 2 rfl 2 (.slice Au2 nu2 cu2)
 replace X := X.put 2 rfl 3 (.slice Au3 nu3 cu3)
 replace X : DrL w1 _ _ _ [_, _, .blk (qb) #[.slice Au0 nu0 cu0, .slice Au1 nu1 cu1, .slice Au2 nu2 cu2, .slice Au3 nu3 cu3] 35, _, _] := X
 generalize (((w11.setCell ⟨qb, 0, none⟩ (.slice Au0 nu0 cu0)).setCell ⟨qb, 1, none⟩ (.slice Au1 nu1 cu1)).setCell ⟨qb, 2, none⟩ (.slice Au2 nu2 cu2)).setCell ⟨qb, 3, none⟩ (.slice Au3 nu3 cu3) = w12 at *
 clear HF f0 f1 f2 f3 f4 f5 f6 f7
 refine wpAnyL_done (by kernel_rfl) ?_ _
 replace X := X.with_ (X.sep.sub (.cons_cons _ (.cons _ (.cons_cons _ (.cons _ (.cons_cons _ (List.nil_sublist _)))))))
 go_wp2_with fail
 refine wp_region_L (fun v => v.cell? ⟨qb, 0, none⟩ = some (.slice Au0 nu0 cu0) ∧ v.cell? ⟨qb, 1, none⟩ = some (.slice Au1 nu1 cu1) ∧ v.cell? ⟨qb, 2, none⟩ = some (.slice Au2 nu2 cu2) ∧ v.cell? ⟨qb, 3, none⟩ = some (.slice Au3 nu3 cu3)) 13 (by kernel_rfl) ?_
 replace X := X.drew
 generalize w12.drew = w13 at *
 have HF : w13.cell? ⟨qb, 0, none⟩ = some (.slice Au0 nu0 cu0) ∧ w13.cell? ⟨qb, 1, none⟩ = some (.slice Au1 nu1 cu1) ∧ w13.cell? ⟨qb, 2, none⟩ = some (.slice Au2 nu2 cu2) ∧ w13.cell? ⟨qb, 3, none⟩ = some (.slice Au3 nu3 cu3) := ⟨(X.sep.at_ 1 rfl).cell 0, (X.sep.at_ 1 rfl).cell 1, (X.sep.at_ 1 rfl).cell 2, (X.sep.at_ 1 rfl).cell 3⟩
 refine tk 0 (v := ?_) rfl rfl HF (.inl ⟨by rfl, ?_⟩) ?_
 rotate_left 1
 · (rintro v ⟨a0, a1, a2, a3⟩; go_simp; try with_reducible rfl)
 try simp only [Act.put]
 refine tk 1 (v := ?_) rfl rfl HF (.inl ⟨by rfl, ?_⟩) ?_
 rotate_left 1
 · (rintro v ⟨a0, a1, a2, a3⟩; go_simp; try with_reducible rfl)
 try simp only [Act.put]
 refine tk 2 (v := ?_) rfl rfl HF (.inl ⟨by rfl, ?_⟩) ?_
 rotate_left 1
 · (rintro v ⟨a0, a1, a2, a3⟩; go_simp; try with_reducible rfl)
 try simp only [Act.put]
 refine tk 4 (v := ?_) rfl rfl HF (.inl ⟨by rfl, ?_⟩) ?_
 rotate_left 1
 · (rintro v ⟨a0, a1, a2, a3⟩; go_simp; try with_reducible rfl)
 try simp only [Act.put]
 refine tk 6 (v := ?_) rfl rfl HF (.inl ⟨by rfl, ?_⟩) ?_
 rotate_left 1
 · (rintro v ⟨a0, a1, a2, a3⟩; go_simp; try with_reducible rfl)
 try simp only [Act.put]
 refine wpAnyL_step (i := 3) (by kernel_rfl) rfl rfl ?_
 intro K hK
 go_simp
 refine (lbelow_any _ _ _ X.cur 22 (by decide)).mono ?_
 rintro e w14 ⟨p, hp, rfl, cu, gr⟩
 replace X := X.draw cu gr
 clear cu gr
 clear HF
 have HF : w14.cell? ⟨qb, 0, none⟩ = some (.slice Au0 nu0 cu0) ∧ w14.cell? ⟨qb, 1, none⟩ = some (.slice Au1 nu1 cu1) ∧ w14.cell? ⟨qb, 2, none⟩ = some (.slice Au2 nu2 cu2) ∧ w14.cell? ⟨qb, 3, none⟩ = some (.slice Au3 nu3 cu3) := ⟨(X.sep.at_ 1 rfl).cell 0, (X.sep.at_ 1 rfl).cell 1, (X.sep.at_ 1 rfl).cell 2, (X.sep.at_ 1 rfl).cell 3⟩
 refine hK _ _ (fun _ => HF) ?_
 clear hK K
 try simp only [Act.put]
 refine wpAnyL_step (i := 5) (by kernel_rfl) rfl rfl ?_
 intro K hK
 go_simp
 refine (lbelow_any _ _ _ X.cur 12 (by decide)).mono ?_
 rintro e w15 ⟨i9, hi9, rfl, cu, gr⟩
 replace X := X.draw cu gr
 clear cu gr
 clear HF
 have HF : w15.cell? ⟨qb, 0, none⟩ = some (.slice Au0 nu0 cu0) ∧ w15.cell? ⟨qb, 1, none⟩ = some (.slice Au1 nu1 cu1) ∧ w15.cell? ⟨qb, 2, none⟩ = some (.slice Au2 nu2 cu2) ∧ w15.cell? ⟨qb, 3, none⟩ = some (.slice Au3 nu3 cu3) := ⟨(X.sep.at_ 1 rfl).cell 0, (X.sep.at_ 1 rfl).cell 1, (X.sep.at_ 1 rfl).cell 2, (X.sep.at_ 1 rfl).cell 3⟩
 refine hK _ _ (fun _ => HF) ?_
 clear hK K
 try simp only [Act.put]
 refine wpAnyL_step (i := 7) (by kernel_rfl) rfl rfl ?_
 intro K hK
 go_simp
 refine (lbelow_any _ _ _ X.cur 60 (by decide)).mono ?_
 rintro e w16 ⟨y, hy, rfl, cu, gr⟩
 replace X := X.draw cu gr
 clear cu gr
 clear HF
 have HF : w16.cell? ⟨qb, 0, none⟩ = some (.slice Au0 nu0 cu0) ∧ w16.cell? ⟨qb, 1, none⟩ = some (.slice Au1 nu1 cu1) ∧ w16.cell? ⟨qb, 2, none⟩ = some (.slice Au2 nu2 cu2) ∧ w16.cell? ⟨qb, 3, none⟩ = some (.slice Au3 nu3 cu3) := ⟨(X.sep.at_ 1 rfl).cell 0, (X.sep.at_ 1 rfl).cell 1, (X.sep.at_ 1 rfl).cell 2, (X.sep.at_ 1 rfl).cell 3⟩
 refine hK _ _ (fun _ => HF) ?_
 clear hK K
 try simp only [Act.put]
 refine wpAnyL_step (i := 8) (by kernel_rfl) rfl rfl ?_
 intro K hK
 go_simp
 refine (HR9.out Au2 nu2 cu2 Au3 nu3 cu3 TF.b p i9 y _ (X.sep.own_ 0 rfl).rd.halves.2 (by unfold TwoM.sz at hzu; omega)).mono ?_
 rintro e w17 ⟨Av0, nv0, cv0, Av1, nv1, cv1, rfl, o, b⟩
 obtain ⟨fp_v, X'⟩ := X.has b o
 clear X; have X := X'; clear X' b o
 clear HF
 have HF : w17.cell? ⟨qb, 0, none⟩ = some (.slice Au0 nu0 cu0) ∧ w17.cell? ⟨qb, 1, none⟩ = some (.slice Au1 nu1 cu1) ∧ w17.cell? ⟨qb, 2, none⟩ = some (.slice Au2 nu2 cu2) ∧ w17.cell? ⟨qb, 3, none⟩ = some (.slice Au3 nu3 cu3) := ⟨(X.sep.at_ 2 rfl).cell 0, (X.sep.at_ 2 rfl).cell 1, (X.sep.at_ 2 rfl).cell 2, (X.sep.at_ 2 rfl).cell 3⟩
 refine hK _ _ (fun _ => HF) ?_
 clear hK K
 try simp only [Act.put]
 obtain ⟨rows, k, hrec, k1, k2, hbk, heq, hlm, hzr⟩ := HFS.out p i9 y hy
 have HREC := jd hrec
 have HZX := jd (Nat.le_trans (keptB_sz (rec_kept (by rw [hrec])).1) (show 9800 ≤ 1048576 by decide))
 obtain ⟨rf, hrf⟩ : ∃ b, b = (rotted TF.b p i9 y).2 := ⟨_, rfl⟩
 rw [← hrf]
 generalize (rotted TF.b p i9 y).1 = DV at *
 have HBK := jd hbk
 have HEQ := jd heq
 have HLM := jd hlm
 have K1 := jd k1
 have K2 := jd k2
 have HZR := jd hzr
 clear hrec hp hi9 hy hrf HFS hbk heq hlm k1 k2 hzr
 refine wpAnyL_pure (i := 9) (v := ?_) rfl rfl (by kernel_rfl) (by kernel_rfl) (by kernel_rfl) (fun _ _ _ h => h) HF (Or.inl ⟨by rfl, ?_⟩) ?_
 rotate_left 1
 · (intro v _; go_simp; try with_reducible rfl)
 try simp only [Act.put]
 refine wpAnyL_pure (i := 10) (v := ?_) rfl rfl (by kernel_rfl) (by kernel_rfl) (by kernel_rfl) (fun _ _ _ h => h) HF (Or.inl ⟨by rfl, ?_⟩) ?_
 rotate_left 1
 · (intro v _; go_simp; try with_reducible rfl)
 try simp only [Act.put]
 refine wpAnyL_pure (i := 11) (v := ?_) rfl rfl (by kernel_rfl) (by kernel_rfl) (by kernel_rfl) (fun _ _ _ h => h) HF (Or.inl ⟨by rfl, ?_⟩) ?_
 rotate_left 1
 · (intro v _; go_simp; try with_reducible rfl)
 try simp only [Act.put]
 refine tk 12 (v := ?_) rfl rfl HF (.inl ⟨by rfl, ?_⟩) ?_
 rotate_left 1
 · (rintro v ⟨a0, a1, a2, a3⟩; go_simp; try with_reducible rfl)
 try simp only [Act.put]
 have f8 := lk X.sep 2 2 rfl rfl
 have f9 := (X.sep.at_ 2 rfl).free 2
 have f10 := lk X.sep 2 3 rfl rfl
 have f11 := (X.sep.at_ 2 rfl).free 3
 refine wpAnyL_step (i := 13) (by kernel_rfl) rfl rfl ?_
 intro K hK
 go_simp
 refine hK _ _ (fun h => nomatch (show true = false from h)) ?_
 clear hK K
 try simp only [Act.put]
 replace X := X.put 2 rfl 2 (.slice Av0 nv0 cv0)
 replace X := X.put 2 rfl 3 (.slice Av1 nv1 cv1)
 replace X : DrL w1 _ _ _ [_, _, .blk (qb) #[.slice Au0 nu0 cu0, .slice Au1 nu1 cu1, .slice Av0 nv0 cv0, .slice Av1 nv1 cv1] 35, _] := X
 generalize (w17.setCell ⟨qb, 2, none⟩ (.slice Av0 nv0 cv0)).setCell ⟨qb, 3, none⟩ (.slice Av1 nv1 cv1) = w18 at *
 clear HF f8 f9 f10 f11
 refine wpAnyL_done (by kernel_rfl) ?_ _
 have hrt : Rd w18 w18.heap.size (⟨TF.a, DV⟩ : TwoM).cells [.slice Au0 nu0 cu0, .slice Au1 nu1 cu1, .slice Av0 nv0 cv0, .slice Av1 nv1 cv1] := Rd.pairT (t := ⟨TF.a, DV⟩) ((X.sep.own_ 1 rfl).rd.halves.1) ((X.sep.own_ 0 rfl).rd)
 have f12 := lk X.sep 2 0 rfl rfl
 have f13 := lk X.sep 2 1 rfl rfl
 have f14 := lk X.sep 2 2 rfl rfl
 have f15 := lk X.sep 2 3 rfl rfl
 go_wp2_with fail
 refine ((HV.out Au0 nu0 cu0 Au1 nu1 cu1 Av0 nv0 cv0 Av1 nv1 cv1 ⟨TF.a, DV⟩ _ hrt HZX.out).mono fun e w' h9 => MadeR1.parts h9).mono ?_
 rintro e w19 ⟨Ar0, nr0, cr0, Ar1, nr1, cr1, Ar2, nr2, cr2, Ar3, nr3, cr3, A4, n4, c4, A5, n5, c5, rfl, r1, _, r3, b⟩
 rw [HREC.out] at r1 r3 ⊢
 try simp only [headZ]
 have R1 := jd r1
 have R3 := jd r3
 clear r1 r3 hrt
 replace X := X.keep b
 clear b f12 f13 f14 f15
 replace X := X.with_ (X.sep.sub (.cons _ (.cons _ (.cons _ (.cons_cons _ (List.nil_sublist _))))))
 replace X := X.boxAt (w19.heap.size) rfl #[.slice Ar0 nr0 cr0, .slice Ar1 nr1 cr1, .slice Ar2 nr2 cr2, .slice Ar3 nr3 cr3] 35
 replace X := X.boxAt (w19.heap.size + 1) (by simp) #[.int .i64 0, .int .i64 0, .int .i64 0, .slice A4 n4 c4] 45
 replace X := X.boxAt (w19.heap.size + 1 + 1) (by simp) #[.int .i64 0, .int .i64 0, .slice A5 n5 c5] 47
 have b3 : Below w19.heap.size w19 (((w19.alloc (.cells #[.slice Ar0 nr0 cr0, .slice Ar1 nr1 cr1, .slice Ar2 nr2 cr2, .slice Ar3 nr3 cr3] 35)).alloc (.cells #[.int .i64 0, .int .i64 0, .int .i64 0, .slice A4 n4 c4] 45)).alloc (.cells #[.int .i64 0, .int .i64 0, .slice A5 n5 c5] 47)) := ((((Below.refl _ _).alloc (Nat.le_refl _) _).alloc (by simp) _).alloc (by simp <;> omega) _)
 have R4 := jd ((R1.out.keep b3).up b3.size)
 have R5 := jd ((R3.out.keep b3).up b3.size)
 clear R1 R3 b3
 have f16 := lk X.sep 2 0 rfl rfl
 have f17 := lk X.sep 2 1 rfl rfl
 have f18 := lk X.sep 2 2 rfl rfl
 have f19 := lk X.sep 2 3 rfl rfl
 have f20 := lk X.sep 1 0 rfl rfl
 have f21 := lk X.sep 1 1 rfl rfl
 have f22 := lk X.sep 1 2 rfl rfl
 have f23 := lk X.sep 1 3 rfl rfl
 have f24 := lk X.sep 0 0 rfl rfl
 have f25 := lk X.sep 0 1 rfl rfl
 have f26 := lk X.sep 0 2 rfl rfl
 go_wp2_with fail
 generalize ((w19.alloc (.cells #[.slice Ar0 nr0 cr0, .slice Ar1 nr1 cr1, .slice Ar2 nr2 cr2, .slice Ar3 nr3 cr3] 35)).alloc (.cells #[.int .i64 0, .int .i64 0, .int .i64 0, .slice A4 n4 c4] 45)).alloc (.cells #[.int .i64 0, .int .i64 0, .slice A5 n5 c5] 47) = w20 at *
 obtain ⟨qx, hqx⟩ : ∃ q, q = w19.heap.size := ⟨_, rfl⟩
 rw [← hqx] at X
 try rw [← hqx]
 clear hqx
 clear f16 f17 f18 f19 f20 f21 f22 f23 f24 f25 f26
 refine (HL9.out 0 0 A5 n5 c5 (l.take k) _ R5.out (by unfold entSz; rw [List.length_take]; omega)).mono ?_
 rintro e w21 ⟨rfl, b⟩
 rw [HLM.out]
 have R6 := jd ((R4.out.keep b).up b.size)
 have R7 := jd ((R5.out.keep b).up b.size)
 clear R4 R5
 have R4 := R6
 have R5 := R7
 clear R6 R7
 replace X := X.keep b
 clear b
 have ek : decide ((k : Int) ≥ (s : Int)) = true := decide_eq_true (by have := K1.out; omega)
 have ek2 : decide ((s : Int) ≤ (k : Int)) = true := decide_eq_true (by have := K1.out; omega)
 have ek3 : decide (s ≤ k) = true := decide_eq_true K1.out
 have f27 := lk X.sep 0 0 rfl rfl
 have f28 := lk X.sep 0 1 rfl rfl
 have f29 := lk X.sep 0 2 rfl rfl
 go_wp2_with fail
 refine (w9begins_any A A5 n c n5 c5 _ _ l (l.take k) _ (X.sep.own_ 3 rfl) R5.out (Nat.le_refl _) (by unfold entSz; rw [List.length_take]; omega)).mono ?_
 rintro e w22 ⟨rfl, b⟩
 rw [begins_take]
 have R6 := jd ((R4.out.keep b).up b.size)
 have R7 := jd ((R5.out.keep b).up b.size)
 clear R4 R5
 have R4 := R6
 have R5 := R7
 clear R6 R7
 replace X := X.keep b
 clear b f27 f28 f29
 have f30 := lk X.sep 0 0 rfl rfl
 have f31 := lk X.sep 0 1 rfl rfl
 have f32 := lk X.sep 0 2 rfl rfl
 go_wp2_with fail
 refine (HB.out 0 0 A5 n5 c5 (l.take k) _ R5.out (by unfold entSz; rw [List.length_take]; omega)).mono ?_
 rintro e w23 ⟨rfl, b⟩
 rw [HBK.out]
 have R6 := jd ((R4.out.keep b).up b.size)
 have R7 := jd ((R5.out.keep b).up b.size)
 clear R4 R5
 have R4 := R6
 have R5 := R7
 clear R6 R7
 replace X := X.keep b
 clear b f30 f31 f32
 have f33 := lk X.sep 2 0 rfl rfl
 have f34 := lk X.sep 2 1 rfl rfl
 have f35 := lk X.sep 2 2 rfl rfl
 have f36 := lk X.sep 2 3 rfl rfl
 go_wp2_with fail
 refine (HQ.out Ar0 nr0 cr0 Ar1 nr1 cr1 Ar2 nr2 cr2 Ar3 nr3 cr3 (onBoth rows) _ R4.out (Nat.le_trans HZR.out (by decide))).mono ?_
 rintro e w24 ⟨rfl, b⟩
 rw [HEQ.out]
 replace X := X.keep b
 clear b f33 f34 f35 f36
 clear R4 R5
 have C := jd (B1.out.trans (grown_below X.grown B1.out.size (fun k hk => by injection hk with hk; omega)))
 clear X
 go_wp2
 go_ret
 exact ⟨rfl, C.out⟩
theorem ok_kept_bad {d : DiskM} {j : Nat} (hj : j < d.kept.length) (h : rowOk d.kept[j] = false) : diskOk d = false :=
 diskOk_no fun h' => by rw [all_bad hj h] at h'; exact absurd h'.2.2.1 (by simp)
theorem ok_wait_bad {d : DiskM} {j : Nat} (hj : j < d.wait.length) (h : wrOk d d.wait[j] = false) : diskOk d = false :=
 diskOk_no fun h' => by rw [all_bad hj h] at h'; exact absurd h'.2.2.2 (by simp)
end Go.Proofs.YtmjifhjhialcbaaGreat
namespace Go.Proofs.YtmjifhjhialcbaaGreat
set_option maxRecDepth 100000
set_option linter.unusedVariables false
open Go.RowKit
theorem ow_nil_kept (w : World) : Ow w [keptD []] [.slice none 0 0] [] := Ow.row (n := 0) (us := []) (fp1 := []) (fp2 := []) (World.ownsRow_nil w 0 _ _) .nil .nil
theorem ow_nil_wait (w : World) : Ow w [waitD []] [.slice none 0 0] [] := Ow.row (n := 0) (us := []) (fp1 := []) (fp2 := []) (World.ownsRow_nil w 0 _ _) .nil .nil
theorem keptD_len {w : World} {l : List (List Int)} {A : Option Addr} {n c : Nat} {fp : List Nat} (h : Ow w [keptD l] [.slice A n c] fp) : l.length = n := by
 obtain ⟨_, _, _, e, hl, _⟩ := h.rd.kept
 injection e with _ e2 _
 omega
theorem waitD_len {w : World} {l : List (Int × List Int)} {A : Option Addr} {n c : Nat} {fp : List Nat} (h : Ow w [waitD l] [.slice A n c] fp) : l.length = n := by
 obtain ⟨_, _, _, e, hl, _⟩ := h.rd.wait
 injection e with _ e2 _
 omega
end Go.Proofs.YtmjifhjhialcbaaGreat
namespace Go.Proofs.YtmjifhjhialcbaaGreat
set_option maxRecDepth 100000
open Go.RowKit
theorem has_zero (w : World) (base : Nat) : Has w base zeroD.cells [.slice none 0 0, .slice none 0 0] :=
 ⟨[], (ow_nil_kept w).append (ow_nil_wait w), List.nodup_nil, fun p hp => by cases hp⟩
theorem lastTo_le {l : List (Int × List Int)} {i : Int} {j : Nat} {x : Int × List Int} (hj : j < l.length) (hx : l[j] = x) : lastTo l i (j + 1) = if x.1 = i then some x.2 else lastTo l i j := by
 have : l.getD j (0, []) = x := by simp [List.getD, List.getElem?_eq_getElem hj, hx]
 rw [lastTo, this]
end Go.Proofs.YtmjifhjhialcbaaGreat
namespace Go.Proofs.YtmjifhjhialcbaaGreat
set_option maxRecDepth 100000
open Go.RowKit
end Go.Proofs.YtmjifhjhialcbaaGreat
namespace Go.Proofs.YtmjifhjhialcbaaGreat
set_option maxRecDepth 100000
open Go.RowKit
theorem IRow.take_ {w : World} {B : Nat} {A : Option Addr} {n m : Nat} {xs : List Int} (h : IRow w B A n xs) (hm : m ≤ n) : IRow w B A m (xs.take m) := by
 refine ⟨by rw [List.length_take, h.1]; omega, fun h0 => ?_⟩
 obtain ⟨b, off, rfl, hb, hc⟩ := h.2 (by omega)
 refine ⟨b, off, rfl, hb, fun j hj => ?_⟩
 rw [hc j (by omega)]
 simp [List.getD, hj]
theorem IRow.drop_ {w : World} {B b off n m : Nat} {xs : List Int} (h : IRow w B (some ⟨b, off, none⟩) n xs) (hm : m < n) : IRow w B (some ⟨b, off + m, none⟩) (n - m) (xs.drop m) := by
 refine ⟨by rw [List.length_drop, h.1], fun _ => ?_⟩
 obtain ⟨b', off', e, hb, hc⟩ := h.2 (by omega)
 injection e with e
 injection e with e1 e2
 subst e1 e2
 refine ⟨b, off + m, rfl, hb, fun j hj => ?_⟩
 have := hc (m + j) (by omega)
 rw [Nat.add_assoc, this]
 simp [List.getD, List.getElem?_drop]
end Go.Proofs.YtmjifhjhialcbaaGreat
