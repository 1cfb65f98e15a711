/- Parts of my texts: LawOldLife LawZOld. -/
import Derived.Test.YtmjifhjhialcbaaGreatL38
import Derived.Test.YtmjifhjhialcbaaGreatL39
namespace Go.Proofs.YtmjifhjhialcbaaGreat
set_option maxRecDepth 100000
set_option linter.unusedVariables false
open Go.RowKit
theorem old_facts {l : List EntM} (hr : RunS l) (hl : l.length ≤ 20) {s : Nat} (hs : s ≤ l.length) (fs : List Int) :
    ∃ rows k, recoveredM (bothFallen (keptAll newKeptM l (s : Int)) fs) = ⟨onBoth rows, headZ, ⟨0, 0, l.take k⟩, true⟩ ∧ k ≤ l.length ∧ twoOk (onBoth rows) = true ∧ rows = rowsOf headZ ⟨0, 0, l.take k⟩ ∧ keptB (onBoth rows) = true := by
 obtain ⟨k, rows, h1, h2, h3, h4, h5⟩ := kept_plain hr hl hs fs
 refine ⟨rows, k, h3, h2, h4, h5, (keptB_iff _).2 ⟨h4, ?_⟩⟩
 show (rows.map withSum).length = 22
 rw [List.length_map, h5, rowsOf_len]
theorem old_again {l more : List EntM} {k : Nat} (hr : RunS (l.take k ++ more)) (hk : k ≤ l.length) (hl : (l.take k ++ more).length ≤ 20) {rows : List (List Int)} (hrows : rows = rowsOf headZ ⟨0, 0, l.take k⟩) (h2 : twoOk (onBoth rows) = true) (fs : List Int) :
    ∃ rows' k', recoveredM (bothFallen (keptAll (onBoth rows) more 0) fs) = ⟨onBoth rows', headZ, ⟨0, 0, (l.take k ++ more).take k'⟩, true⟩ ∧ k ≤ k' ∧ k' ≤ (l.take k ++ more).length := by
 obtain ⟨k', rows', h1, h3, h4⟩ := old_recovered hr hl hrows h2 fs
 exact ⟨rows', k', h4, by rw [List.length_take] at h1; omega, h3⟩
theorem MadeR1.own {w w' : World} {R : RecM} {e : Ending} (h : MadeR1 w R e w') : ∃ (A0 : Option Addr) (n0 c0 : Nat) (A1 : Option Addr) (n1 c1 : Nat) (A2 : Option Addr) (n2 c2 : Nat) (A3 : Option Addr) (n3 c3 : Nat) (A4 : Option Addr) (n4 c4 : Nat) (A5 : Option Addr) (n5 c5 : Nat),
    e = .returned (.tuple #[.agg #[.slice A0 n0 c0, .slice A1 n1 c1, .slice A2 n2 c2, .slice A3 n3 c3], .agg #[.int .i64 R.head.num, .int .i64 R.head.base, .int .i64 R.head.tm, .slice A4 n4 c4], .agg #[.int .i64 R.book.base, .int .i64 R.book.tm, .slice A5 n5 c5], .bool R.ok]) ∧
    Has w' w.heap.size (R.two.cells ++ ([mrkD R.head.seen] ++ [entD R.book.ents])) ([.slice A0 n0 c0, .slice A1 n1 c1, .slice A2 n2 c2, .slice A3 n3 c3] ++ ([.slice A4 n4 c4] ++ [.slice A5 n5 c5])) ∧ Below w.heap.size w w' := by
 obtain ⟨A0, n0, c0, A1, n1, c1, A2, n2, c2, A3, n3, c3, x0, x1, x2, A4, n4, c4, y0, y1, A5, n5, c5, rfl, ⟨fp, o, h1, h2⟩, b⟩ := h
 obtain ⟨f1, fr, rfl, o1, o2⟩ := Ow.cut (vs := [.slice A0 n0 c0, .slice A1 n1 c1, .slice A2 n2 c2, .slice A3 n3 c3]) (vs' := [.int .i64 x0, .int .i64 x1, .int .i64 x2, .slice A4 n4 c4, .int .i64 y0, .int .i64 y1, .slice A5 n5 c5]) o rfl
 have o3 : Ow w' (.int R.head.num :: .int R.head.base :: .int R.head.tm :: mrkD R.head.seen :: .int R.book.base :: .int R.book.tm :: [entD R.book.ents]) [.int .i64 x0, .int .i64 x1, .int .i64 x2, .slice A4 n4 c4, .int .i64 y0, .int .i64 y1, .slice A5 n5 c5] fr := o2
 obtain ⟨e0, p1⟩ := Ow.int_cons o3
 obtain ⟨e1, p2⟩ := Ow.int_cons p1
 obtain ⟨e2, p3⟩ := Ow.int_cons p2
 obtain ⟨f2, f3, rfl, o4, o5⟩ := Ow.cut (ds := [mrkD R.head.seen]) (vs := [.slice A4 n4 c4]) (vs' := [.int .i64 y0, .int .i64 y1, .slice A5 n5 c5]) p3 rfl
 obtain ⟨e3, p4⟩ := Ow.int_cons o5
 obtain ⟨e4, p5⟩ := Ow.int_cons p4
 clear o o2 o3 p1 p2 p3 o5 p4
 injection e0 with _ e0
 injection e1 with _ e1
 injection e2 with _ e2
 injection e3 with _ e3
 injection e4 with _ e4
 subst e0 e1 e2 e3 e4
 exact ⟨A0, n0, c0, A1, n1, c1, A2, n2, c2, A3, n3, c3, A4, n4, c4, A5, n5, c5, rfl, ⟨f1 ++ (f2 ++ f3), o1.append (o4.append p5), h1, h2⟩, b⟩
theorem DrL.rec3 {w W W' : World} {B p : Nat} {is : List Item} {t : TwoM} {s : List MarkM} {es : List EntM} {v0 v1 v2 v3 v4 v5 : Value} (X : DrL w W B p is) (b : Below W.heap.size W W') (o : Has W' W.heap.size (t.cells ++ ([mrkD s] ++ [entD es])) ([v0, v1, v2, v3] ++ ([v4] ++ [v5]))) :
    ∃ f1 f2 f3, DrL w W' B p (.own [entD es] [v5] f3 :: .own [mrkD s] [v4] f2 :: .own t.cells [v0, v1, v2, v3] f1 :: is) := by
 obtain ⟨fp, X'⟩ := X.has b o
 obtain ⟨u1, u2, f1, fr, e, S⟩ := X'.sep.split
 have l1 : u1.length = 4 := (S.own_ 1 rfl).len
 obtain ⟨e1, e2⟩ := List.append_inj e (by rw [l1]; rfl)
 subst e1 e2
 obtain ⟨g1, g2, f2, f3, e, S⟩ := S.split
 have l2 : g1.length = 1 := (S.own_ 1 rfl).len
 obtain ⟨e1, e2⟩ := List.append_inj e (by rw [l2]; rfl)
 subst e1 e2
 exact ⟨f1, f2, f3, X'.with_ S⟩
section
variable {P : Program} {ops : Array Oper} {Q : Exit → Act → World → Prop} {md : Region.Mode} {F : World → Prop} {last : Nat}
theorem wpAnyL_stepg {i : Nat} {o : Oper} {fuel : Nat} {listed : Array Bool} {a : Act} {w : World} (hr : Region.ready md ops listed = [i]) (ho : ops[i]? = some o) (hw : Region.wanted o (yielded ops a.tmps) = true)
    (h : ∀ K : Act → World → Prop, (∀ a' w', ((listed.setIfInBounds i true).getD last true = false → F w') → wpAnyL P md ops Q F last fuel (listed.setIfInBounds i true) a' w' → K a' w') → Oper.wp P o a w K Q) :
    wpAnyL P md ops Q F last (fuel + 1) listed a w := by
 refine ⟨fun h0 => (by rw [hr] at h0; cases h0), fun j hj => ?_⟩
 rw [hr] at hj
 have hji : j = i := by simpa using hj
 subst hji
 unfold wpOp
 simp only [ho]
 rw [if_pos hw]
 exact .inl (h _ fun a' w' h1 h2 => ⟨h1, h2⟩)
end
theorem old_kept {rows : List (List Int)} {b more : List EntM} (hr : RunS (b ++ more)) (hl : (b ++ more).length ≤ 20) (hk : keptB (onBoth rows) = true) : keptB (keptAll (onBoth rows) more 0) = true := by
 have he : ∀ e ∈ more, entB e = true := fun e h => run_ents hr e (List.mem_append_right _ h)
 have hk2 : keptB (twin ⟨rows.map withSum, []⟩) = true := hk
 obtain ⟨k1, k2⟩ := kept_all (s := 0) hk2 he (by rw [List.length_append] at hl; omega) (Nat.zero_le _)
 have e : keptAll (onBoth rows) more 0 = keptAll (twin ⟨rows.map withSum, []⟩) more ((0 : Nat) : Int) := rfl
 rw [e, k1]
 exact k2
set_option maxHeartbeats 12800000 in
theorem lawOldLife (hN : CNewKept 13) (hE : CKeptEntry 47) (hS : CBothSynced 46) (hF9 : CBothFallen 14) (hV : CRecovered 17)
    (A : Option Addr) (n c0 : Nat) (w : World) (h : BRow w w.heap.size A n) (hm : n ≤ maxLen) :
    Calls Tryz.prog 4 #[.slice A n c0] w fun e w' => e = .returned (.bool true) ∧ Below w.heap.size w w' := by
 have HN := jd hN
 have HE := jd hE
 have HS := jd hS
 have HF9 := jd hF9
 have HV := jd hV
 clear hN hE hS hF9 hV
 unfold maxLen at hm
 by_cases hn : 4096 < n
 · clear h
   go_enter Tryz.func4, Tryz.ntmps4
   go_wp2_with fail
   refine (lbig_any A n c0 _).mono ?_
   rintro e w' ⟨rfl, rfl⟩
   rw [decide_eq_true hn]
   go_wp2
   go_ret
   exact ⟨rfl, Below.refl _ _⟩
 go_enter Tryz.func4, Tryz.ntmps4
 go_wp2_with fail
 refine (lbig_any A n c0 _).mono ?_
 rintro e w' ⟨rfl, rfl⟩
 rw [decide_eq_false hn]
 go_wp2_with fail
 refine (roll_any A n c0 _ h (by omega) _).mono ?_
 rintro e w1 ⟨rfl, cu, b1⟩
 have X := DrL.start cu
 have B1 := jd b1
 clear b1 cu h
 replace X := X.boxAt (w1.heap.size) rfl #[] 87
 replace X := X.with_ (X.sep.blk0 (k := 9) (f := entC))
 go_wp2_with fail
 generalize w1.alloc (.cells #[] 87) = w2 at *
 refine (lbelow_any _ _ _ X.cur 8 (by decide)).mono ?_
 rintro e w3 ⟨z, hz, rfl, cu, gr⟩
 replace X := X.draw cu gr
 clear cu gr
 obtain ⟨m, hm9⟩ : ∃ m : Nat, 1 + z = (m : Int) := ⟨(1 + z).toNat, by omega⟩
 have hm : 1 ≤ m ∧ m ≤ 8 := by omega
 have hwz : IntKind.i64.wrap (1 + z) = (m : Int) := by rw [IntKind.wrap_i64]; omega
 clear hz hm9
 go_wp2_with fail
 refine (w9list_from _ _ m (by omega) _ 0 _ [] RunT.nil (Nat.zero_le _) _ X.cur ((X.sep.own_ 0 rfl).rd)).mono ?_
 rintro e w4 ⟨l, A, n, c, hl, hrun, rfl, cu, gr, o⟩
 obtain ⟨fp_l, X'⟩ := X.drawHas cu gr o
 clear X; have X := X'; clear X' cu gr o
 replace X := X.with_ (X.sep.sub (.cons_cons _ (List.nil_sublist _)))
 clear hwz
 have hrun : RunT l := hrun
 obtain ⟨_, _, _, e, hln, hnc, hcm, _⟩ := ((X.sep.own_ 0 rfl).rd).ents
 injection e with e1 e2 e3
 subst e1 e2 e3
 obtain rfl : n = m := by omega
 have HL := jd hl
 have HR := jd hrun
 have hl20 : l.length ≤ 20 := by omega
 clear hl hln hrun
 go_wp2_with fail
 refine (HN.out _).mono ?_
 rintro e w5 ⟨Ak0, nk0, ck0, Ak1, nk1, ck1, Ak2, nk2, ck2, Ak3, nk3, ck3, rfl, o, b⟩
 obtain ⟨fp_nk, X'⟩ := X.has b o
 clear X; have X := X'; clear X' b o
 go_wp2_with fail
 refine (lbelow_any _ _ _ X.cur 2 (by decide)).mono ?_
 rintro e w6 ⟨z, hz, rfl, cu, gr⟩
 replace X := X.draw cu gr
 clear cu gr
 obtain ⟨s, rfl⟩ : ∃ s : Nat, z = (s : Int) := ⟨z.toNat, by omega⟩
 have hs9 : s ≤ l.length := by have := HL.out; omega
 clear hz
 have HOK := jd (keptAll_ok HR.out.1 hl20 hs9)
 have HFA := jd (fun fs => old_facts HR.out.1 hl20 hs9 fs)
 clear hs9
 go_wp2_with fail
 refine (w9kept_any HE.out HS.out Ak0 nk0 ck0 Ak1 nk1 ck1 Ak2 nk2 ck2 Ak3 nk3 ck3 newKeptM A n c l (s : Int) _ (X.sep.own_ 0 rfl).rd HOK.out.2 ((X.sep.own_ 1 rfl).rd) (by omega)).mono ?_
 rintro e w7 ⟨At0, nt0, ct0, At1, nt1, ct1, At2, nt2, ct2, At3, nt3, ct3, rfl, _, o, b⟩
 replace o := o (by omega)
 obtain ⟨fp_t, X'⟩ := X.has b o
 clear X; have X := X'; clear X' b o
 replace X := X.with_ (X.sep.sub (.cons_cons _ (.cons _ (.cons_cons _ (List.nil_sublist _)))))
 have hzt := keptB_sz HOK.out.1
 have hot : twoOk (keptAll newKeptM l (s : Int)) = true := ((keptB_iff _).1 HOK.out.1).1
 generalize keptAll newKeptM l (s : Int) = TK at *
 have hw2 : IntKind.i64.wrap (2 * (n : Int)) = ((2 * n : Nat) : Int) := by rw [IntKind.wrap_i64]; omega
 replace X := X.boxAt (w7.heap.size) rfl #[.slice At0 nt0 ct0, .slice At1 nt1 ct1, .slice At2 nt2 ct2, .slice At3 nt3 ct3] 35
 go_wp2_with fail
 generalize w7.alloc (.cells #[.slice At0 nt0 ct0, .slice At1 nt1 ct1, .slice At2 nt2 ct2, .slice At3 nt3 ct3] 35) = w8 at *
 generalize w7.heap.size = qb at *
 refine wp_region_L (fun v => v.cell? ⟨qb, 0, none⟩ = some (.slice At0 nt0 ct0) ∧ v.cell? ⟨qb, 1, none⟩ = some (.slice At1 nt1 ct1) ∧ v.cell? ⟨qb, 2, none⟩ = some (.slice At2 nt2 ct2) ∧ v.cell? ⟨qb, 3, none⟩ = some (.slice At3 nt3 ct3)) 7 (by kernel_rfl) ?_
 replace X := X.drew
 generalize w8.drew = w9 at *
 have HF : w9.cell? ⟨qb, 0, none⟩ = some (.slice At0 nt0 ct0) ∧ w9.cell? ⟨qb, 1, none⟩ = some (.slice At1 nt1 ct1) ∧ w9.cell? ⟨qb, 2, none⟩ = some (.slice At2 nt2 ct2) ∧ w9.cell? ⟨qb, 3, none⟩ = some (.slice At3 nt3 ct3) := ⟨(X.sep.at_ 0 rfl).cell 0, (X.sep.at_ 0 rfl).cell 1, (X.sep.at_ 0 rfl).cell 2, (X.sep.at_ 0 rfl).cell 3⟩
 refine tk 0 (v := ?_) rfl rfl HF (.inl ⟨by rfl, ?_⟩) ?_
 rotate_left 1
 · (rintro v ⟨a0, a1, a2, a3⟩; go_simp; try with_reducible rfl)
 try simp only [Act.put]
 refine tk 1 (v := ?_) rfl rfl HF (.inl ⟨by rfl, ?_⟩) ?_
 rotate_left 1
 · (rintro v ⟨a0, a1, a2, a3⟩; go_simp; try with_reducible rfl)
 try simp only [Act.put]
 refine tk 2 (v := ?_) rfl rfl HF (.inl ⟨by rfl, ?_⟩) ?_
 rotate_left 1
 · (rintro v ⟨a0, a1, a2, a3⟩; go_simp; try with_reducible rfl)
 try simp only [Act.put]
 refine tk 3 (v := ?_) rfl rfl HF (.inl ⟨by rfl, ?_⟩) ?_
 rotate_left 1
 · (rintro v ⟨a0, a1, a2, a3⟩; go_simp; try with_reducible rfl)
 try simp only [Act.put]
 refine tk 4 (v := ?_) rfl rfl HF (.inl ⟨by rfl, ?_⟩) ?_
 rotate_left 1
 · (rintro v ⟨a0, a1, a2, a3⟩; go_simp; try with_reducible rfl)
 try simp only [Act.put]
 refine wpAnyL_step (i := 5) (by kernel_rfl) rfl rfl ?_
 intro K hK
 go_simp
 refine (w9fates_any _ _ (2 * n) (by omega) _ X.cur).mono ?_
 rintro e w10 ⟨fsu, Af, nf, cf, hfl, hfb, rfl, cu, gr, o⟩
 obtain ⟨fp_f, X'⟩ := X.drawHas cu gr o
 clear X; have X := X'; clear X' cu gr o
 clear HF
 have HF : w10.cell? ⟨qb, 0, none⟩ = some (.slice At0 nt0 ct0) ∧ w10.cell? ⟨qb, 1, none⟩ = some (.slice At1 nt1 ct1) ∧ w10.cell? ⟨qb, 2, none⟩ = some (.slice At2 nt2 ct2) ∧ w10.cell? ⟨qb, 3, none⟩ = some (.slice At3 nt3 ct3) := ⟨(X.sep.at_ 1 rfl).cell 0, (X.sep.at_ 1 rfl).cell 1, (X.sep.at_ 1 rfl).cell 2, (X.sep.at_ 1 rfl).cell 3⟩
 refine hK _ _ (fun _ => HF) ?_
 clear hK K
 try simp only [Act.put]
 refine wpAnyL_step (i := 6) (by kernel_rfl) rfl rfl ?_
 intro K hK
 go_simp
 refine (HF9.out At0 nt0 ct0 At1 nt1 ct1 At2 nt2 ct2 At3 nt3 ct3 TK Af nf cf fsu _ (X.sep.own_ 2 rfl).rd (by omega) (X.sep.own_ 0 rfl).rd (by omega)).mono ?_
 rintro e w11 ⟨Au0, nu0, cu0, Au1, nu1, cu1, Au2, nu2, cu2, Au3, nu3, cu3, rfl, o, b⟩
 obtain ⟨fp_u, X'⟩ := X.has b o
 clear X; have X := X'; clear X' b o
 clear HF
 have HF : w11.cell? ⟨qb, 0, none⟩ = some (.slice At0 nt0 ct0) ∧ w11.cell? ⟨qb, 1, none⟩ = some (.slice At1 nt1 ct1) ∧ w11.cell? ⟨qb, 2, none⟩ = some (.slice At2 nt2 ct2) ∧ w11.cell? ⟨qb, 3, none⟩ = some (.slice At3 nt3 ct3) := ⟨(X.sep.at_ 2 rfl).cell 0, (X.sep.at_ 2 rfl).cell 1, (X.sep.at_ 2 rfl).cell 2, (X.sep.at_ 2 rfl).cell 3⟩
 refine hK _ _ (fun _ => HF) ?_
 clear hK K
 try simp only [Act.put]
 have hzu := Nat.le_trans (ok_two_sz (bothFallen_ok hot fsu)) (show 9800 ≤ 1048576 by decide)
 clear hfl hfb
 have f0 := lk X.sep 2 0 rfl rfl
 have f1 := (X.sep.at_ 2 rfl).free 0
 have f2 := lk X.sep 2 1 rfl rfl
 have f3 := (X.sep.at_ 2 rfl).free 1
 have f4 := lk X.sep 2 2 rfl rfl
 have f5 := (X.sep.at_ 2 rfl).free 2
 have f6 := lk X.sep 2 3 rfl rfl
 have f7 := (X.sep.at_ 2 rfl).free 3
 refine wpAnyL_step (i := 7) (by kernel_rfl) rfl rfl ?_
 intro K hK
 go_simp
 refine hK _ _ (fun h => nomatch (show true = false from h)) ?_
 clear hK K
 try simp only [Act.put]
 refine wpAnyL_done (by kernel_rfl) ?_ _
 replace X := X.put 2 rfl 0 (.slice Au0 nu0 cu0)
 replace X := X.put 2 rfl 1 (.slice Au1 nu1 cu1)
 replace X := X.put 2 rfl 2 (.slice Au2 nu2 cu2)
 replace X := X.put 2 rfl 3 (.slice Au3 nu3 cu3)
 replace X : DrL w1 _ _ _ [_, _, .blk (qb) #[.slice Au0 nu0 cu0, .slice Au1 nu1 cu1, .slice Au2 nu2 cu2, .slice Au3 nu3 cu3] 35, _, _] := X
 generalize (((w11.setCell ⟨qb, 0, none⟩ (.slice Au0 nu0 cu0)).setCell ⟨qb, 1, none⟩ (.slice Au1 nu1 cu1)).setCell ⟨qb, 2, none⟩ (.slice Au2 nu2 cu2)).setCell ⟨qb, 3, none⟩ (.slice Au3 nu3 cu3) = w12 at *
 clear HF f0 f1 f2 f3 f4 f5 f6 f7
 replace X := X.with_ (X.sep.sub (.cons_cons _ (.cons _ (.cons_cons _ (.cons _ (.cons_cons _ (List.nil_sublist _)))))))
 obtain ⟨rows, k, hrec, k2, h2, hrows, hkb⟩ := HFA.out fsu
 have HREC := jd hrec
 have HROWS := jd hrows
 have HKB := jd hkb
 have H2 := jd h2
 have K2 := jd k2
 clear HFA hzt hot hrec k2 h2 hrows hkb
 generalize bothFallen TK fsu = TF at *
 have f8 := lk X.sep 1 0 rfl rfl
 have f9 := lk X.sep 1 1 rfl rfl
 have f10 := lk X.sep 1 2 rfl rfl
 have f11 := lk X.sep 1 3 rfl rfl
 go_wp2_with fail
 refine ((HV.out Au0 nu0 cu0 Au1 nu1 cu1 Au2 nu2 cu2 Au3 nu3 cu3 TF _ (X.sep.own_ 0 rfl).rd hzu).mono fun e w' h9 => MadeR1.own h9).mono ?_
 rintro e w13 ⟨Ar0, nr0, cr0, Ar1, nr1, cr1, Ar2, nr2, cr2, Ar3, nr3, cr3, A4, n4, c4, A5, n5, c5, rfl, o, b⟩
 rw [HREC.out] at o ⊢
 try simp only [headZ]
 obtain ⟨fy1, fy2, fy3, X'⟩ := X.rec3 b o
 clear X; have X := X'; clear X' o b f8 f9 f10 f11
 replace X := X.with_ (X.sep.sub (.cons_cons _ (.cons _ (.cons_cons _ (.cons _ (.cons_cons _ (.cons_cons _ (List.nil_sublist _))))))))
 replace X := X.boxAt (w13.heap.size) rfl #[.int .i64 0, .int .i64 0, .int .i64 0, .slice none 0 0] 45
 replace X := X.boxAt (w13.heap.size + 1) (by simp) #[.int .i64 0, .int .i64 0, .slice none 0 0] 47
 have f12 := lk X.sep 4 0 rfl rfl
 have f13 := (X.sep.at_ 4 rfl).free 0
 have f14 := lk X.sep 4 1 rfl rfl
 have f15 := (X.sep.at_ 4 rfl).free 1
 have f16 := lk X.sep 4 2 rfl rfl
 have f17 := (X.sep.at_ 4 rfl).free 2
 have f18 := lk X.sep 4 3 rfl rfl
 have f19 := (X.sep.at_ 4 rfl).free 3
 replace X := X.put 4 rfl 0 (.slice Ar0 nr0 cr0)
 replace X := X.put 4 rfl 1 (.slice Ar1 nr1 cr1)
 replace X := X.put 4 rfl 2 (.slice Ar2 nr2 cr2)
 replace X := X.put 4 rfl 3 (.slice Ar3 nr3 cr3)
 replace X : DrL w1 _ _ _ [.blk (w13.heap.size + 1) #[.int .i64 0, .int .i64 0, .slice none 0 0] 47, .blk (w13.heap.size) #[.int .i64 0, .int .i64 0, .int .i64 0, .slice none 0 0] 45, _, _, .blk (qb) #[.slice Ar0 nr0 cr0, .slice Ar1 nr1 cr1, .slice Ar2 nr2 cr2, .slice Ar3 nr3 cr3] 35, _] := X
 have f20 := lk X.sep 1 0 rfl rfl
 have f21 := (X.sep.at_ 1 rfl).free 0
 have f22 := lk X.sep 1 1 rfl rfl
 have f23 := (X.sep.at_ 1 rfl).free 1
 have f24 := lk X.sep 1 2 rfl rfl
 have f25 := (X.sep.at_ 1 rfl).free 2
 have f26 := lk X.sep 1 3 rfl rfl
 have f27 := (X.sep.at_ 1 rfl).free 3
 replace X := X.put 1 rfl 0 (.int .i64 0)
 replace X := X.put 1 rfl 1 (.int .i64 0)
 replace X := X.put 1 rfl 2 (.int .i64 0)
 replace X := X.put 1 rfl 3 (.slice A4 n4 c4)
 replace X : DrL w1 _ _ _ [.blk (w13.heap.size + 1) #[.int .i64 0, .int .i64 0, .slice none 0 0] 47, .blk (w13.heap.size) #[.int .i64 0, .int .i64 0, .int .i64 0, .slice A4 n4 c4] 45, _, _, .blk (qb) #[.slice Ar0 nr0 cr0, .slice Ar1 nr1 cr1, .slice Ar2 nr2 cr2, .slice Ar3 nr3 cr3] 35, _] := X
 have f28 := lk X.sep 0 0 rfl rfl
 have f29 := (X.sep.at_ 0 rfl).free 0
 have f30 := lk X.sep 0 1 rfl rfl
 have f31 := (X.sep.at_ 0 rfl).free 1
 have f32 := lk X.sep 0 2 rfl rfl
 have f33 := (X.sep.at_ 0 rfl).free 2
 replace X := X.put 0 rfl 0 (.int .i64 0)
 replace X := X.put 0 rfl 1 (.int .i64 0)
 replace X := X.put 0 rfl 2 (.slice A5 n5 c5)
 replace X : DrL w1 _ _ _ [.blk (w13.heap.size + 1) #[.int .i64 0, .int .i64 0, .slice A5 n5 c5] 47, .blk (w13.heap.size) #[.int .i64 0, .int .i64 0, .int .i64 0, .slice A4 n4 c4] 45, _, _, .blk (qb) #[.slice Ar0 nr0 cr0, .slice Ar1 nr1 cr1, .slice Ar2 nr2 cr2, .slice Ar3 nr3 cr3] 35, _] := X
 have f34 := lk X.sep 0 0 rfl rfl
 have f35 := lk X.sep 0 1 rfl rfl
 have f36 := lk X.sep 0 2 rfl rfl
 go_wp2_with fail
 generalize ((((((((((((w13.alloc (.cells #[.int .i64 0, .int .i64 0, .int .i64 0, .slice none 0 0] 45)).alloc (.cells #[.int .i64 0, .int .i64 0, .slice none 0 0] 47)).setCell ⟨qb, 0, none⟩ (.slice Ar0 nr0 cr0)).setCell ⟨qb, 1, none⟩ (.slice Ar1 nr1 cr1)).setCell ⟨qb, 2, none⟩ (.slice Ar2 nr2 cr2)).setCell ⟨qb, 3, none⟩ (.slice Ar3 nr3 cr3)).setCell ⟨w13.heap.size, 0, none⟩ (.int .i64 0)).setCell ⟨w13.heap.size, 1, none⟩ (.int .i64 0)).setCell ⟨w13.heap.size, 2, none⟩ (.int .i64 0)).setCell ⟨w13.heap.size, 3, none⟩ (.slice A4 n4 c4)).setCell ⟨w13.heap.size + 1, 0, none⟩ (.int .i64 0)).setCell ⟨w13.heap.size + 1, 1, none⟩ (.int .i64 0)).setCell ⟨w13.heap.size + 1, 2, none⟩ (.slice A5 n5 c5) = w14 at *
 obtain ⟨qx, hqx⟩ : ∃ q, q = w13.heap.size := ⟨_, rfl⟩
 rw [← hqx] at X
 try rw [← hqx]
 clear hqx
 clear f12 f13 f14 f15 f16 f17 f18 f19 f20 f21 f22 f23 f24 f25 f26 f27 f28 f29 f30 f31 f32 f33 f34 f35 f36
 refine (w9begins_any A A5 n c n5 c5 _ _ l (l.take k) _ (X.sep.own_ 5 rfl) ((X.sep.own_ 2 rfl).rd) (Nat.le_refl _) (by unfold entSz; rw [List.length_take]; omega)).mono ?_
 rintro e w15 ⟨rfl, b⟩
 rw [begins_take]
 replace X := X.keep b
 clear b
 replace X := X.with_ (X.sep.sub (.cons_cons _ (.cons _ (.cons_cons _ (.cons_cons _ (.cons_cons _ (.cons_cons _ (List.nil_sublist _))))))))
 go_wp2_with fail
 refine wp_region_L (fun v => v.cell? ⟨qx + 1, 2, none⟩ = some (.slice A5 n5 c5)) 7 (by kernel_rfl) ?_
 replace X := X.drew
 generalize w15.drew = w16 at *
 have HF := lk X.sep 0 2 rfl rfl
 refine tk 0 (v := ?_) rfl rfl HF (.inl ⟨by rfl, ?_⟩) ?_
 rotate_left 1
 · (rintro v a0; go_simp; try with_reducible rfl)
 try simp only [Act.put]
 refine tk 1 (v := ?_) rfl rfl HF (.inl ⟨by rfl, ?_⟩) ?_
 rotate_left 1
 · (rintro v a0; go_simp; try with_reducible rfl)
 try simp only [Act.put]
 refine tk 2 (v := ?_) rfl rfl HF (.inl ⟨by rfl, ?_⟩) ?_
 rotate_left 1
 · (rintro v a0; go_simp; try with_reducible rfl)
 try simp only [Act.put]
 refine tk 3 (v := ?_) rfl rfl HF (.inl ⟨by rfl, ?_⟩) ?_
 rotate_left 1
 · (rintro v a0; go_simp; try with_reducible rfl)
 try simp only [Act.put]
 refine wpAnyL_step (i := 4) (by kernel_rfl) rfl rfl ?_
 intro K hK
 go_simp
 refine (lbelow_any _ _ _ X.cur 8 (by decide)).mono ?_
 rintro e w17 ⟨z, hz, rfl, cu, gr⟩
 replace X := X.draw cu gr
 clear cu gr
 clear HF
 have HF := lk X.sep 0 2 rfl rfl
 refine hK _ _ (fun _ => HF) ?_
 clear hK K
 try simp only [Act.put]
 obtain ⟨m, hm9⟩ : ∃ m : Nat, 1 + z = (m : Int) := ⟨(1 + z).toNat, by omega⟩
 have hm8 : 1 ≤ m ∧ m ≤ 8 := by omega
 have hwz : IntKind.i64.wrap (1 + z) = (m : Int) := by rw [IntKind.wrap_i64]; omega
 clear hz hm9
 refine tk 5 (v := ?_) rfl rfl HF (.inl ⟨by rfl, ?_⟩) ?_
 rotate_left 1
 · (rintro v a0; go_simp; try with_reducible rfl)
 try simp only [Act.put]
 refine wpAnyL_step (i := 6) (by kernel_rfl) rfl rfl ?_
 intro K hK
 go_simp
 refine (w9list_from _ _ m (by omega) _ _ _ (l.take k) (HR.out.take k) (by rw [List.length_take]; omega) _ X.cur ((X.sep.own_ 1 rfl).rd)).mono ?_
 rintro e w18 ⟨l2, A2, n2, c2, hl2, hrun2, rfl, cu, gr, o⟩
 obtain ⟨fp_m, X'⟩ := X.drawHas cu gr o
 clear X; have X := X'; clear X' cu gr o
 clear HF
 have HF := lk X.sep 1 2 rfl rfl
 refine hK _ _ (fun _ => HF) ?_
 clear hK K
 try simp only [Act.put]
 refine wpAnyL_step (i := 7) (by kernel_rfl) rfl rfl ?_
 intro K hK
 go_simp
 refine hK _ _ (fun h => nomatch (show true = false from h)) ?_
 clear hK K
 try simp only [Act.put]
 refine wpAnyL_done (by kernel_rfl) ?_ _
 clear HF hwz
 obtain ⟨_, _, _, e, hln2, _, _, _⟩ := ((X.sep.own_ 0 rfl).rd).ents
 injection e with e1 e2 e3
 subst e1 e2 e3
 obtain rfl : n2 = m := by omega
 have HL2 := jd hl2
 have HR2 := jd hrun2
 have hll : (l.take k ++ l2).length ≤ 20 := by rw [List.length_append, List.length_take]; have := HL.out; omega
 have hnl : n ≤ 8 := by omega
 clear hl2 hln2 hrun2
 have HOK2 := jd (old_kept HR2.out.1 hll HKB.out)
 have HFA2 := jd (fun fs => old_again HR2.out.1 K2.out hll HROWS.out H2.out fs)
 have f37 := lk X.sep 4 0 rfl rfl
 have f38 := lk X.sep 4 1 rfl rfl
 have f39 := lk X.sep 4 2 rfl rfl
 have f40 := lk X.sep 4 3 rfl rfl
 go_wp2_with fail
 refine (w9kept_any HE.out HS.out Ar0 nr0 cr0 Ar1 nr1 cr1 Ar2 nr2 cr2 Ar3 nr3 cr3 (onBoth rows) A2 n2 c2 l2 0 _ (X.sep.own_ 3 rfl).rd HKB.out ((X.sep.own_ 0 rfl).rd) (by omega)).mono ?_
 rintro e w19 ⟨At0, nt0, ct0, At1, nt1, ct1, At2, nt2, ct2, At3, nt3, ct3, rfl, _, o, b⟩
 replace o := o (by omega)
 obtain ⟨fp_t, X'⟩ := X.has b o
 clear X; have X := X'; clear X' b o f37 f38 f39 f40
 have f41 := lk X.sep 5 0 rfl rfl
 have f42 := (X.sep.at_ 5 rfl).free 0
 have f43 := lk X.sep 5 1 rfl rfl
 have f44 := (X.sep.at_ 5 rfl).free 1
 have f45 := lk X.sep 5 2 rfl rfl
 have f46 := (X.sep.at_ 5 rfl).free 2
 have f47 := lk X.sep 5 3 rfl rfl
 have f48 := (X.sep.at_ 5 rfl).free 3
 replace X := X.put 5 rfl 0 (.slice At0 nt0 ct0)
 replace X := X.put 5 rfl 1 (.slice At1 nt1 ct1)
 replace X := X.put 5 rfl 2 (.slice At2 nt2 ct2)
 replace X := X.put 5 rfl 3 (.slice At3 nt3 ct3)
 replace X : DrL w1 _ _ _ [_, _, .blk (qx + 1) #[.int .i64 0, .int .i64 0, .slice A5 n5 c5] 47, _, _, .blk (qb) #[.slice At0 nt0 ct0, .slice At1 nt1 ct1, .slice At2 nt2 ct2, .slice At3 nt3 ct3] 35, _] := X
 replace X := X.with_ (X.sep.sub (.cons_cons _ (.cons_cons _ (.cons_cons _ (.cons_cons _ (.cons _ (.cons_cons _ (.cons_cons _ (List.nil_sublist _)))))))))
 have hot : twoOk (keptAll (onBoth rows) l2 0) = true := ((keptB_iff _).1 HOK2.out).1
 have hzt := keptB_sz HOK2.out
 generalize keptAll (onBoth rows) l2 0 = TK2 at *
 have hw3 : IntKind.i64.wrap (2 * (n2 : Int)) = ((2 * n2 : Nat) : Int) := by rw [IntKind.wrap_i64]; omega
 have hw4 : IntKind.i64.wrap ((n2 : Int) * 2) = ((2 * n2 : Nat) : Int) := by rw [IntKind.wrap_i64]; omega
 go_wp2_with fail
 generalize (((w19.setCell ⟨qb, 0, none⟩ (.slice At0 nt0 ct0)).setCell ⟨qb, 1, none⟩ (.slice At1 nt1 ct1)).setCell ⟨qb, 2, none⟩ (.slice At2 nt2 ct2)).setCell ⟨qb, 3, none⟩ (.slice At3 nt3 ct3) = w20 at *
 refine wp_region_L (fun v => v.cell? ⟨qb, 0, none⟩ = some (.slice At0 nt0 ct0) ∧ v.cell? ⟨qb, 1, none⟩ = some (.slice At1 nt1 ct1) ∧ v.cell? ⟨qb, 2, none⟩ = some (.slice At2 nt2 ct2) ∧ v.cell? ⟨qb, 3, none⟩ = some (.slice At3 nt3 ct3)) 7 (by kernel_rfl) ?_
 clear f41 f42 f43 f44 f45 f46 f47 f48
 replace X := X.drew
 generalize w20.drew = w21 at *
 have HF : w21.cell? ⟨qb, 0, none⟩ = some (.slice At0 nt0 ct0) ∧ w21.cell? ⟨qb, 1, none⟩ = some (.slice At1 nt1 ct1) ∧ w21.cell? ⟨qb, 2, none⟩ = some (.slice At2 nt2 ct2) ∧ w21.cell? ⟨qb, 3, none⟩ = some (.slice At3 nt3 ct3) := ⟨(X.sep.at_ 4 rfl).cell 0, (X.sep.at_ 4 rfl).cell 1, (X.sep.at_ 4 rfl).cell 2, (X.sep.at_ 4 rfl).cell 3⟩
 refine tk 0 (v := ?_) rfl rfl HF (.inl ⟨by rfl, ?_⟩) ?_
 rotate_left 1
 · (rintro v ⟨a0, a1, a2, a3⟩; go_simp; try with_reducible rfl)
 try simp only [Act.put]
 refine tk 1 (v := ?_) rfl rfl HF (.inl ⟨by rfl, ?_⟩) ?_
 rotate_left 1
 · (rintro v ⟨a0, a1, a2, a3⟩; go_simp; try with_reducible rfl)
 try simp only [Act.put]
 refine tk 2 (v := ?_) rfl rfl HF (.inl ⟨by rfl, ?_⟩) ?_
 rotate_left 1
 · (rintro v ⟨a0, a1, a2, a3⟩; go_simp; try with_reducible rfl)
 try simp only [Act.put]
 refine tk 3 (v := ?_) rfl rfl HF (.inl ⟨by rfl, ?_⟩) ?_
 rotate_left 1
 · (rintro v ⟨a0, a1, a2, a3⟩; go_simp; try with_reducible rfl)
 try simp only [Act.put]
 refine tk 4 (v := ?_) rfl rfl HF (.inl ⟨by rfl, ?_⟩) ?_
 rotate_left 1
 · (rintro v ⟨a0, a1, a2, a3⟩; go_simp; try with_reducible rfl)
 try simp only [Act.put]
 refine wpAnyL_step (i := 5) (by kernel_rfl) rfl rfl ?_
 intro K hK
 go_simp
 refine (w9fates_any _ _ (2 * n2) (by omega) _ X.cur).mono ?_
 rintro e w22 ⟨fsv, Af, nf, cf, hfl, hfb, rfl, cu, gr, o⟩
 obtain ⟨fp_f, X'⟩ := X.drawHas cu gr o
 clear X; have X := X'; clear X' cu gr o
 clear HF
 have HF : w22.cell? ⟨qb, 0, none⟩ = some (.slice At0 nt0 ct0) ∧ w22.cell? ⟨qb, 1, none⟩ = some (.slice At1 nt1 ct1) ∧ w22.cell? ⟨qb, 2, none⟩ = some (.slice At2 nt2 ct2) ∧ w22.cell? ⟨qb, 3, none⟩ = some (.slice At3 nt3 ct3) := ⟨(X.sep.at_ 5 rfl).cell 0, (X.sep.at_ 5 rfl).cell 1, (X.sep.at_ 5 rfl).cell 2, (X.sep.at_ 5 rfl).cell 3⟩
 refine hK _ _ (fun _ => HF) ?_
 clear hK K
 try simp only [Act.put]
 refine wpAnyL_step (i := 6) (by kernel_rfl) rfl rfl ?_
 intro K hK
 go_simp
 refine (HF9.out At0 nt0 ct0 At1 nt1 ct1 At2 nt2 ct2 At3 nt3 ct3 TK2 Af nf cf fsv _ (X.sep.own_ 1 rfl).rd (by omega) (X.sep.own_ 0 rfl).rd (by omega)).mono ?_
 rintro e w23 ⟨Av0, nv0, cv0, Av1, nv1, cv1, Av2, nv2, cv2, Av3, nv3, cv3, rfl, o, b⟩
 obtain ⟨fp_v, X'⟩ := X.has b o
 clear X; have X := X'; clear X' b o
 clear HF
 have HF : w23.cell? ⟨qb, 0, none⟩ = some (.slice At0 nt0 ct0) ∧ w23.cell? ⟨qb, 1, none⟩ = some (.slice At1 nt1 ct1) ∧ w23.cell? ⟨qb, 2, none⟩ = some (.slice At2 nt2 ct2) ∧ w23.cell? ⟨qb, 3, none⟩ = some (.slice At3 nt3 ct3) := ⟨(X.sep.at_ 6 rfl).cell 0, (X.sep.at_ 6 rfl).cell 1, (X.sep.at_ 6 rfl).cell 2, (X.sep.at_ 6 rfl).cell 3⟩
 refine hK _ _ (fun _ => HF) ?_
 clear hK K
 try simp only [Act.put]
 have hzv := Nat.le_trans (ok_two_sz (bothFallen_ok hot fsv)) (show 9800 ≤ 1048576 by decide)
 clear hfl hfb
 have f49 := lk X.sep 6 0 rfl rfl
 have f50 := (X.sep.at_ 6 rfl).free 0
 have f51 := lk X.sep 6 1 rfl rfl
 have f52 := (X.sep.at_ 6 rfl).free 1
 have f53 := lk X.sep 6 2 rfl rfl
 have f54 := (X.sep.at_ 6 rfl).free 2
 have f55 := lk X.sep 6 3 rfl rfl
 have f56 := (X.sep.at_ 6 rfl).free 3
 refine wpAnyL_step (i := 7) (by kernel_rfl) rfl rfl ?_
 intro K hK
 go_simp
 refine hK _ _ (fun h => nomatch (show true = false from h)) ?_
 clear hK K
 try simp only [Act.put]
 refine wpAnyL_done (by kernel_rfl) ?_ _
 replace X := X.put 6 rfl 0 (.slice Av0 nv0 cv0)
 replace X := X.put 6 rfl 1 (.slice Av1 nv1 cv1)
 replace X := X.put 6 rfl 2 (.slice Av2 nv2 cv2)
 replace X := X.put 6 rfl 3 (.slice Av3 nv3 cv3)
 replace X : DrL w1 _ _ _ [_, _, _, _, .blk (qx + 1) #[.int .i64 0, .int .i64 0, .slice A5 n5 c5] 47, _, .blk (qb) #[.slice Av0 nv0 cv0, .slice Av1 nv1 cv1, .slice Av2 nv2 cv2, .slice Av3 nv3 cv3] 35, _] := X
 generalize (((w23.setCell ⟨qb, 0, none⟩ (.slice Av0 nv0 cv0)).setCell ⟨qb, 1, none⟩ (.slice Av1 nv1 cv1)).setCell ⟨qb, 2, none⟩ (.slice Av2 nv2 cv2)).setCell ⟨qb, 3, none⟩ (.slice Av3 nv3 cv3) = w24 at *
 clear HF f49 f50 f51 f52 f53 f54 f55 f56
 replace X := X.with_ (X.sep.sub (.cons_cons _ (.cons _ (.cons _ (.cons_cons _ (.cons_cons _ (.cons_cons _ (.cons_cons _ (.cons_cons _ (List.nil_sublist _))))))))))
 obtain ⟨rows2, k3, hrec2, k4, k5⟩ := HFA2.out fsv
 have HREC2 := jd hrec2
 have K4 := jd k4
 have K5 := jd k5
 clear HFA2 hzt hot hrec2 k4 k5
 generalize bothFallen TK2 fsv = TF2 at *
 have f57 := lk X.sep 4 0 rfl rfl
 have f58 := lk X.sep 4 1 rfl rfl
 have f59 := lk X.sep 4 2 rfl rfl
 have f60 := lk X.sep 4 3 rfl rfl
 go_wp2_with fail
 refine ((HV.out Av0 nv0 cv0 Av1 nv1 cv1 Av2 nv2 cv2 Av3 nv3 cv3 TF2 _ (X.sep.own_ 0 rfl).rd hzv).mono fun e w' h9 => MadeR1.own h9).mono ?_
 rintro e w25 ⟨Ar20, nr20, cr20, Ar21, nr21, cr21, Ar22, nr22, cr22, Ar23, nr23, cr23, A42, n42, c42, A52, n52, c52, rfl, o, b⟩
 rw [HREC2.out] at o ⊢
 try simp only [headZ]
 obtain ⟨fy12, fy22, fy32, X'⟩ := X.rec3 b o
 clear X; have X := X'; clear X' o b f57 f58 f59 f60
 replace X := X.with_ (X.sep.sub (.cons_cons _ (.cons _ (.cons _ (.cons _ (.cons_cons _ (.cons_cons _ (.cons_cons _ (.cons _ (.cons_cons _ (List.nil_sublist _)))))))))))
 replace X := X.boxAt (w25.heap.size) rfl #[.slice Ar20 nr20 cr20, .slice Ar21 nr21 cr21, .slice Ar22 nr22 cr22, .slice Ar23 nr23 cr23] 35
 replace X := X.boxAt (w25.heap.size + 1) (by simp) #[.int .i64 0, .int .i64 0, .int .i64 0, .slice A42 n42 c42] 45
 replace X := X.boxAt (w25.heap.size + 1 + 1) (by simp) #[.int .i64 0, .int .i64 0, .slice A52 n52 c52] 47
 have f61 := lk X.sep 0 0 rfl rfl
 have f62 := lk X.sep 0 1 rfl rfl
 have f63 := lk X.sep 0 2 rfl rfl
 have f64 := lk X.sep 5 0 rfl rfl
 have f65 := lk X.sep 5 1 rfl rfl
 have f66 := lk X.sep 5 2 rfl rfl
 go_wp2_with fail
 generalize ((w25.alloc (.cells #[.slice Ar20 nr20 cr20, .slice Ar21 nr21 cr21, .slice Ar22 nr22 cr22, .slice Ar23 nr23 cr23] 35)).alloc (.cells #[.int .i64 0, .int .i64 0, .int .i64 0, .slice A42 n42 c42] 45)).alloc (.cells #[.int .i64 0, .int .i64 0, .slice A52 n52 c52] 47) = w26 at *
 obtain ⟨qy, hqy⟩ : ∃ q, q = w25.heap.size := ⟨_, rfl⟩
 rw [← hqy] at X
 try rw [← hqy]
 clear hqy
 clear f61 f62 f63 f64 f65 f66
 have HLE := jd (show n5 = (l.take k).length by obtain ⟨_, _, _, e, h9, _⟩ := ((X.sep.own_ 6 rfl).rd).ents; injection e with e1 e2 e3; omega)
 have HLE2 := jd (show n52 = ((l.take k ++ l2).take k3).length by obtain ⟨_, _, _, e, h9, _⟩ := ((X.sep.own_ 3 rfl).rd).ents; injection e with e1 e2 e3; omega)
 have hge : n5 ≤ n52 := by have h1 := HLE.out; have h2 := HLE2.out; have := K4.out; have := K5.out; have := K2.out; rw [List.length_take] at h1 h2; rw [List.length_append, List.length_take] at h2; omega
 have ek : decide ((n52 : Int) ≥ (n5 : Int)) = true := decide_eq_true (by omega)
 have ek2 : decide ((n5 : Int) ≤ (n52 : Int)) = true := decide_eq_true (by omega)
 have ek3 : decide (n5 ≤ n52) = true := decide_eq_true hge
 have HGE := jd hge
 clear hge
 refine wp_region_L (fun v => v.cell? ⟨qy + 1 + 1, 2, none⟩ = some (.slice A52 n52 c52) ∧ v.cell? ⟨qx + 1, 2, none⟩ = some (.slice A5 n5 c5)) 19 (by kernel_rfl) ?_
 replace X := X.drew
 generalize w26.drew = w27 at *
 have HF : w27.cell? ⟨qy + 1 + 1, 2, none⟩ = some (.slice A52 n52 c52) ∧ w27.cell? ⟨qx + 1, 2, none⟩ = some (.slice A5 n5 c5) := ⟨(X.sep.at_ 0 rfl).cell 2, (X.sep.at_ 5 rfl).cell 2⟩
 refine wpAnyL_take (i := 0) (v := ?_) rfl rfl (by kernel_rfl) (by kernel_rfl) (by kernel_rfl) (by kernel_rfl) (by kernel_rfl) (fun _ _ _ h => h) HF (Or.inl ⟨by kernel_rfl, ?_⟩) ?_
 rotate_left 1
 · (rintro v ⟨a0, a1⟩; go_simp; try with_reducible rfl)
 try simp only [Act.put]
 refine wpAnyL_take (i := 1) (v := ?_) rfl rfl (by kernel_rfl) (by kernel_rfl) (by kernel_rfl) (by kernel_rfl) (by kernel_rfl) (fun _ _ _ h => h) HF (Or.inl ⟨by kernel_rfl, ?_⟩) ?_
 rotate_left 1
 · (rintro v ⟨a0, a1⟩; go_simp; try with_reducible rfl)
 try simp only [Act.put]
 refine wpAnyL_take (i := 2) (v := ?_) rfl rfl (by kernel_rfl) (by kernel_rfl) (by kernel_rfl) (by kernel_rfl) (by kernel_rfl) (fun _ _ _ h => h) HF (Or.inl ⟨by kernel_rfl, ?_⟩) ?_
 rotate_left 1
 · (rintro v ⟨a0, a1⟩; go_simp; try with_reducible rfl)
 try simp only [Act.put]
 refine wpAnyL_take (i := 3) (v := ?_) rfl rfl (by kernel_rfl) (by kernel_rfl) (by kernel_rfl) (by kernel_rfl) (by kernel_rfl) (fun _ _ _ h => h) HF (Or.inl ⟨by kernel_rfl, ?_⟩) ?_
 rotate_left 1
 · (rintro v ⟨a0, a1⟩; go_simp; try with_reducible rfl)
 try simp only [Act.put]
 refine wpAnyL_take (i := 4) (v := ?_) rfl rfl (by kernel_rfl) (by kernel_rfl) (by kernel_rfl) (by kernel_rfl) (by kernel_rfl) (fun _ _ _ h => h) HF (Or.inl ⟨by kernel_rfl, ?_⟩) ?_
 rotate_left 1
 · (rintro v ⟨a0, a1⟩; go_simp; try with_reducible rfl)
 try simp only [Act.put]
 refine wpAnyL_take (i := 5) (v := ?_) rfl rfl (by kernel_rfl) (by kernel_rfl) (by kernel_rfl) (by kernel_rfl) (by kernel_rfl) (fun _ _ _ h => h) HF (Or.inl ⟨by kernel_rfl, ?_⟩) ?_
 rotate_left 1
 · (rintro v ⟨a0, a1⟩; go_simp; try with_reducible rfl)
 try simp only [Act.put]
 refine wpAnyL_take (i := 6) (v := ?_) rfl rfl (by kernel_rfl) (by kernel_rfl) (by kernel_rfl) (by kernel_rfl) (by kernel_rfl) (fun _ _ _ h => h) HF (Or.inl ⟨by kernel_rfl, ?_⟩) ?_
 rotate_left 1
 · (rintro v ⟨a0, a1⟩; go_simp; try with_reducible rfl)
 try simp only [Act.put]
 refine wpAnyL_take (i := 7) (v := ?_) rfl rfl (by kernel_rfl) (by kernel_rfl) (by kernel_rfl) (by kernel_rfl) (by kernel_rfl) (fun _ _ _ h => h) HF (Or.inl ⟨by kernel_rfl, ?_⟩) ?_
 rotate_left 1
 · (rintro v ⟨a0, a1⟩; go_simp; try with_reducible rfl)
 try simp only [Act.put]
 refine wpAnyL_take (i := 8) (v := ?_) rfl rfl (by kernel_rfl) (by kernel_rfl) (by kernel_rfl) (by kernel_rfl) (by kernel_rfl) (fun _ _ _ h => h) HF (Or.inl ⟨by kernel_rfl, ?_⟩) ?_
 rotate_left 1
 · (rintro v ⟨a0, a1⟩; go_simp; try with_reducible rfl)
 try simp only [Act.put]
 refine wpAnyL_take (i := 9) (v := ?_) rfl rfl (by kernel_rfl) (by kernel_rfl) (by kernel_rfl) (by kernel_rfl) (by kernel_rfl) (fun _ _ _ h => h) HF (Or.inl ⟨by kernel_rfl, ?_⟩) ?_
 rotate_left 1
 · (rintro v ⟨a0, a1⟩; go_simp; try with_reducible rfl)
 try simp only [Act.put]
 refine wpAnyL_take (i := 10) (v := ?_) rfl rfl (by kernel_rfl) (by kernel_rfl) (by kernel_rfl) (by kernel_rfl) (by kernel_rfl) (fun _ _ _ h => h) HF (Or.inl ⟨by kernel_rfl, ?_⟩) ?_
 rotate_left 1
 · (rintro v ⟨a0, a1⟩; go_simp; try with_reducible rfl)
 try simp only [Act.put]
 refine wpAnyL_take (i := 11) (v := ?_) rfl rfl (by kernel_rfl) (by kernel_rfl) (by kernel_rfl) (by kernel_rfl) (by kernel_rfl) (fun _ _ _ h => h) HF (Or.inl ⟨by kernel_rfl, ?_⟩) ?_
 rotate_left 1
 · (rintro v ⟨a0, a1⟩; go_simp; try with_reducible rfl)
 try simp only [Act.put]
 refine wpAnyL_take (i := 12) (v := ?_) rfl rfl (by kernel_rfl) (by kernel_rfl) (by kernel_rfl) (by kernel_rfl) (by kernel_rfl) (fun _ _ _ h => h) HF (Or.inl ⟨by kernel_rfl, ?_⟩) ?_
 rotate_left 1
 · (rintro v ⟨a0, a1⟩; go_simp; try with_reducible rfl)
 try simp only [Act.put]
 refine wpAnyL_take (i := 13) (v := ?_) rfl rfl (by kernel_rfl) (by kernel_rfl) (by kernel_rfl) (by kernel_rfl) (by kernel_rfl) (fun _ _ _ h => h) HF (Or.inl ⟨by kernel_rfl, ?_⟩) ?_
 rotate_left 1
 · (rintro v ⟨a0, a1⟩; go_simp; try with_reducible rfl)
 try simp only [Act.put]
 refine wpAnyL_take (i := 15) (v := ?_) rfl rfl (by kernel_rfl) (by kernel_rfl) (by kernel_rfl) (by kernel_rfl) (by kernel_rfl) (fun _ _ _ h => h) HF (Or.inl ⟨by kernel_rfl, ?_⟩) ?_
 rotate_left 1
 · (rintro v ⟨a0, a1⟩; go_simp; try with_reducible rfl)
 try simp only [Act.put]
 refine wpAnyL_take (i := 16) (v := ?_) rfl rfl (by kernel_rfl) (by kernel_rfl) (by kernel_rfl) (by kernel_rfl) (by kernel_rfl) (fun _ _ _ h => h) HF (Or.inl ⟨by kernel_rfl, ?_⟩) ?_
 rotate_left 1
 · (rintro v ⟨a0, a1⟩; go_simp; try with_reducible rfl)
 try simp only [Act.put]
 refine wpAnyL_stepg (i := 14) (by kernel_rfl) rfl (by kernel_rfl) ?_
 intro K hK
 go_simp
 refine (w9both_any A5 A2 n5 c5 n2 c2 _ _ (l.take k) l2 _ ((X.sep.own_ 6 rfl).rd) ((X.sep.own_ 4 rfl).rd) (Nat.le_refl _) (Nat.le_refl _) (by unfold entSz; rw [List.length_take]; omega) (by have := HL2.out; unfold entSz; omega)).mono ?_
 rintro e w28 ⟨A9, c9, rfl, o, b⟩
 obtain ⟨fp_w, X'⟩ := X.has b o
 clear X; have X := X'; clear X' b o
 clear HF
 have HF : w28.cell? ⟨qy + 1 + 1, 2, none⟩ = some (.slice A52 n52 c52) ∧ w28.cell? ⟨qx + 1, 2, none⟩ = some (.slice A5 n5 c5) := ⟨(X.sep.at_ 1 rfl).cell 2, (X.sep.at_ 6 rfl).cell 2⟩
 refine hK _ _ (fun _ => HF) ?_
 clear hK K
 try simp only [Act.put]
 refine wpAnyL_stepg (i := 17) (by kernel_rfl) rfl (by kernel_rfl) ?_
 intro K hK
 go_simp
 refine (w9begins_any A9 A52 (n5 + n2) c9 n52 c52 _ _ (l.take k ++ l2) ((l.take k ++ l2).take k3) _ (X.sep.own_ 0 rfl) ((X.sep.own_ 4 rfl).rd) (Nat.le_refl _) (by unfold entSz; rw [List.length_take]; omega)).mono ?_
 rintro e w29 ⟨rfl, b⟩
 rw [begins_take]
 replace X := X.keep b
 clear b
 clear HF
 have HF : w29.cell? ⟨qy + 1 + 1, 2, none⟩ = some (.slice A52 n52 c52) ∧ w29.cell? ⟨qx + 1, 2, none⟩ = some (.slice A5 n5 c5) := ⟨(X.sep.at_ 1 rfl).cell 2, (X.sep.at_ 6 rfl).cell 2⟩
 refine hK _ _ (fun _ => HF) ?_
 clear hK K
 try simp only [Act.put]
 refine tk 18 (v := ?_) rfl rfl HF (.inl ⟨by rfl, ?_⟩) ?_
 rotate_left 1
 · (rintro v ⟨a0, a1⟩; go_simp; try with_reducible rfl)
 try simp only [Act.put]
 refine wpAnyL_step (i := 19) (by kernel_rfl) rfl rfl ?_
 intro K hK
 go_simp
 refine hK _ _ (fun h => nomatch (show true = false from h)) ?_
 clear hK K
 try simp only [Act.put]
 refine wpAnyL_done (by kernel_rfl) ?_ _
 clear HF
 have C := jd (B1.out.trans (grown_below X.grown B1.out.size (fun k hk => by injection hk with hk; omega)))
 clear X
 go_wp2
 go_ret
 exact ⟨rfl, C.out⟩
theorem lawOldLife_i (A : Option Addr) (n c0 : Nat) (w : World) (h : BRow w w.heap.size A n) (hm : n ≤ maxLen) : Calls Tryz.prog 4 #[.slice A n c0] w fun e w' => e = .returned (.bool true) ∧ Below w.heap.size w w' :=
 lawOldLife iNewKept_c iKeptEntry_c iBothSynced_c iBothFallen_c iRecovered_c A n c0 w h hm
end Go.Proofs.YtmjifhjhialcbaaGreat
