/- Parts of my texts: BookI5 BookI9 BookIA BookI8. -/
import Derived.Test.YtmjifhjhialcbaaGreatK40
namespace Go.Proofs.YtmjifhjhialcbaaGreat
set_option maxRecDepth 100000
set_option linter.unusedVariables false
open Go.RowKit
theorem iCollect_any (gf : Nat) (lb : Array Value) (xs : List EntM) (Sp : List EntM → Prop) (eg : ∀ args w, (callFunc gf args).run Tryz.prog w = .ok (.enter gf args) w) (w : World) (hlen : xs.length ≤ 1048576)
    (hseq : SeqStopsK Fence.wide 2 Tryz.prog gf lb encE (Below w.heap.size) (fun ys => ys = xs) Sp xs.length w) :
    Calls Tryz.prog 259 #[.func (.func gf) #[] lb] w (MadeEntryS w xs) := by
 go_enter Tryz.func259, Tryz.ntmps259
 go_wp2_with fail
 refine (iAppendSeq_any gf lb xs Sp eg w hlen hseq).mono ?_
 rintro e w' ⟨A, n, c, rfl, o, b⟩
 go_wp2
 go_ret
 exact ⟨A, n, c, rfl, o, b⟩
theorem iEntriesIn_at (x0 x1 : Int) (A : Option Addr) (n cc : Nat) (a z : Int) (w : World) :
    Calls Tryz.prog 260 #[.agg #[.int .i64 x0, .int .i64 x1, .slice A n cc], .int .i64 a, .int .i64 z] w fun e w' => e = .returned (.func (.func 267) #[] #[.pointer (some ⟨w.heap.size, 0, none⟩), .pointer (some ⟨w.heap.size + 1, 0, none⟩), .pointer (some ⟨w.heap.size + 1 + 1, 0, none⟩)]) ∧ Blk w' w.heap.size #[.int .i64 x0, .int .i64 x1, .slice A n cc] 47 ∧ Blk w' (w.heap.size + 1) #[.int .i64 a] 2 ∧ Blk w' (w.heap.size + 1 + 1) #[.int .i64 z] 2 ∧ Below w.heap.size w w' := by
 refine (iEntriesIn_any x0 x1 A n cc a z w).mono ?_
 rintro e w' ⟨rfl, rfl⟩
 have S := Sep.nil w w.heap.size
 have c := Below.refl w.heap.size w
 replace S := S.boxAt c.size (w.heap.size) rfl #[.int .i64 x0, .int .i64 x1, .slice A n cc] 47
 replace c := al c S
 replace S := S.boxAt c.size (w.heap.size + 1) (by simp) #[.int .i64 a] 2
 replace c := al c S
 replace S := S.boxAt c.size (w.heap.size + 1 + 1) (by simp) #[.int .i64 z] 2
 replace c := al c S
 exact ⟨rfl, S.at_ 2 rfl, S.at_ 1 rfl, S.at_ 0 rfl, c⟩
theorem selE_le (l : List EntM) (a z : Int) : (selE l a z).length ≤ l.length := List.length_filter_le _ _
theorem iCollIter_any (bb bf bl B : Nat) (x0 x1 a z : Int) (A : Option Addr) (n cc : Nat) (l : List EntM) (w : World) (h0 : Blk w bb #[.int .i64 x0, .int .i64 x1, .slice A n cc] 47) (h1 : Blk w bf #[.int .i64 a] 2) (h2 : Blk w bl #[.int .i64 z] 2)
    (hr : Rd w B [entD l] [.slice A n cc]) (hB : B ≤ w.heap.size) (hn : n ≤ 1048576) :
    Calls Tryz.prog 259 #[.func (.func 267) #[] #[.pointer (some ⟨bb, 0, none⟩), .pointer (some ⟨bf, 0, none⟩), .pointer (some ⟨bl, 0, none⟩)]] w (MadeEntryS w (selE l a z)) := by
 refine iCollect_any 267 _ (selE l a z) _ (enters_of Tryz.func267 (by kernel_rfl) rfl) w ?_ (iIter_stops bb bf bl B x0 x1 a z A n cc l (Below w.heap.size) (fun W W' h => ⟨h.mono hB, h.block bb h0.lt, h.block bf h1.lt, h.block bl h2.lt⟩) w h0 h1 h2 hr (by omega) hB)
 obtain ⟨_, _, _, e, hl, _⟩ := hr.ents
 injection e with e1 e2 e3
 have := selE_le l a z
 omega
set_option maxHeartbeats 12800000 in
theorem iBookTo_any (x0 x1 : Int) (A : Option Addr) (n cc B : Nat) (l : List EntM) (i : Int) (w : World) (h : Rd w B [entD l] [.slice A n cc]) (hB : B ≤ w.heap.size) (_hs : entSz l ≤ 1048577) (hn20 : n ≤ 1048576) (hx : 0 ≤ x0 ∧ x0 ≤ 2000) :
    Calls Tryz.prog 253 #[.agg #[.int .i64 x0, .int .i64 x1, .slice A n cc], .int .i64 i] w fun e w' => ∃ (A2 : Option Addr) (n2 c2 : Nat), e = .returned (.agg #[.int .i64 x0, .int .i64 x1, .slice A2 n2 c2]) ∧ Has w' w.heap.size [entD (selE l (x0 + 1) i)] [.slice A2 n2 c2] ∧ Below w.heap.size w w' := by
 have HH := jd h
 have ew : IntKind.i64.wrap (x0 + 1) = x0 + 1 := by rw [IntKind.wrap_i64]; omega
 clear h hx
 have S := Sep.nil w w.heap.size
 have c := Below.refl w.heap.size w
 replace S := S.boxAt c.size (w.heap.size) rfl #[.int .i64 x0, .int .i64 x1, .slice A n cc] 47
 replace c := al c S
 replace S := S.boxAt c.size (w.heap.size + 1) (by simp) #[.int .i64 0, .int .i64 0, .slice none 0 0] 47
 replace c := al c S
 go_enter Tryz.func253, Tryz.ntmps253
 go_wp2_with fail
 generalize (w.alloc (.cells #[.int .i64 x0, .int .i64 x1, .slice A n cc] 47)).alloc (.cells #[.int .i64 0, .int .i64 0, .slice none 0 0] 47) = w1 at *
 refine wp_region_L (fun v => v.cell? ⟨w.heap.size, 0, none⟩ = some (.int .i64 x0) ∧ v.cell? ⟨w.heap.size, 1, none⟩ = some (.int .i64 x1) ∧ v.cell? ⟨w.heap.size, 2, none⟩ = some (.slice A n cc)) 12 (by kernel_rfl) ?_
 replace S := S.keep ((Below.refl _ _).drew)
 replace c := c.drew
 generalize w1.drew = w2 at *
 have HF : w2.cell? ⟨w.heap.size, 0, none⟩ = some (.int .i64 x0) ∧ w2.cell? ⟨w.heap.size, 1, none⟩ = some (.int .i64 x1) ∧ w2.cell? ⟨w.heap.size, 2, none⟩ = some (.slice A n cc) := ⟨(S.at_ 1 rfl).cell 0, (S.at_ 1 rfl).cell 1, (S.at_ 1 rfl).cell 2⟩
 refine tk 0 (v := ?_) rfl rfl HF (.inl ⟨by rfl, ?_⟩) ?_
 rotate_left 1
 · (rintro v ⟨a0, a1, a2⟩; go_simp; try with_reducible rfl)
 try simp only [Act.put]
 refine tk 1 (v := ?_) rfl rfl HF (.inl ⟨by rfl, ?_⟩) ?_
 rotate_left 1
 · (rintro v ⟨a0, a1, a2⟩; go_simp; try with_reducible rfl)
 try simp only [Act.put]
 refine tk 2 (v := ?_) rfl rfl HF (.inl ⟨by rfl, ?_⟩) ?_
 rotate_left 1
 · (rintro v ⟨a0, a1, a2⟩; go_simp; try with_reducible rfl)
 try simp only [Act.put]
 refine tk 3 (v := ?_) rfl rfl HF (.inl ⟨by rfl, ?_⟩) ?_
 rotate_left 1
 · (rintro v ⟨a0, a1, a2⟩; go_simp; try with_reducible rfl)
 try simp only [Act.put]
 refine tk 4 (v := ?_) rfl rfl HF (.inl ⟨by rfl, ?_⟩) ?_
 rotate_left 1
 · (rintro v ⟨a0, a1, a2⟩; go_simp; try with_reducible rfl)
 try simp only [Act.put]
 refine tk 5 (v := ?_) rfl rfl HF (.inl ⟨by rfl, ?_⟩) ?_
 rotate_left 1
 · (rintro v ⟨a0, a1, a2⟩; go_simp; try with_reducible rfl)
 try simp only [Act.put]
 refine tk 6 (v := ?_) rfl rfl HF (.inl ⟨by rfl, ?_⟩) ?_
 rotate_left 1
 · (rintro v ⟨a0, a1, a2⟩; go_simp; try with_reducible rfl)
 try simp only [Act.put]
 refine tk 7 (v := ?_) rfl rfl HF (.inl ⟨by rfl, ?_⟩) ?_
 rotate_left 1
 · (rintro v ⟨a0, a1, a2⟩; go_simp; try with_reducible rfl)
 try simp only [Act.put]
 refine tk 8 (v := ?_) rfl rfl HF (.inl ⟨by rfl, ?_⟩) ?_
 rotate_left 1
 · (rintro v ⟨a0, a1, a2⟩; go_simp; try with_reducible rfl)
 try simp only [Act.put]
 refine wpAnyL_step (i := 9) (by kernel_rfl) rfl rfl ?_
 intro K hK
 go_simp
 refine (iEntriesIn_at x0 x1 A n cc (x0 + 1) i _).mono ?_
 rintro e w3 ⟨rfl, k0, k1, k2, b⟩
 replace c := c.trans (b.mono c.size)
 replace S := S.keep b
 clear b
 clear HF
 have HF : w3.cell? ⟨w.heap.size, 0, none⟩ = some (.int .i64 x0) ∧ w3.cell? ⟨w.heap.size, 1, none⟩ = some (.int .i64 x1) ∧ w3.cell? ⟨w.heap.size, 2, none⟩ = some (.slice A n cc) := ⟨(S.at_ 1 rfl).cell 0, (S.at_ 1 rfl).cell 1, (S.at_ 1 rfl).cell 2⟩
 refine hK _ _ (fun _ => HF) ?_
 clear hK K
 try simp only [Act.put]
 have K0 := jd k0
 have K1 := jd k1
 have K2 := jd k2
 clear k0 k1 k2
 refine wpAnyL_step (i := 10) (by kernel_rfl) rfl rfl ?_
 intro K hK
 go_simp
 refine (iCollIter_any _ _ _ B x0 x1 (x0 + 1) i A n cc l _ K0.out K1.out K2.out (HH.out.keep (c.mono hB)) (Nat.le_trans hB c.size) hn20).mono ?_
 rintro e w4 ⟨A2, n2, c2, rfl, o, b⟩
 obtain ⟨fp_u, S'⟩ := S.has b o c.size
 replace c := c.trans (b.mono c.size)
 clear S; have S := S'; clear S' o b
 clear HF
 have HF : w4.cell? ⟨w.heap.size, 0, none⟩ = some (.int .i64 x0) ∧ w4.cell? ⟨w.heap.size, 1, none⟩ = some (.int .i64 x1) ∧ w4.cell? ⟨w.heap.size, 2, none⟩ = some (.slice A n cc) := ⟨(S.at_ 2 rfl).cell 0, (S.at_ 2 rfl).cell 1, (S.at_ 2 rfl).cell 2⟩
 refine hK _ _ (fun _ => HF) ?_
 clear hK K
 try simp only [Act.put]
 refine wpAnyL_pure (i := 11) (v := ?_) rfl rfl (by kernel_rfl) (by kernel_rfl) (by kernel_rfl) (fun _ _ _ h => h) HF (Or.inl ⟨by rfl, ?_⟩) ?_
 rotate_left 1
 · (intro v _; go_simp; try with_reducible rfl)
 try simp only [Act.put]
 have f0 := lk S 1 0 rfl rfl
 have f1 := (S.at_ 1 rfl).free 0
 have f2 := lk S 1 1 rfl rfl
 have f3 := (S.at_ 1 rfl).free 1
 have f4 := lk S 1 2 rfl rfl
 have f5 := (S.at_ 1 rfl).free 2
 refine wpAnyL_step (i := 12) (by kernel_rfl) rfl rfl ?_
 intro K hK
 go_simp
 refine hK _ _ (fun h => nomatch (show true = false from h)) ?_
 clear hK K
 try simp only [Act.put]
 refine wpAnyL_done (by kernel_rfl) ?_ _
 replace S := S.put 1 rfl 0 (.int .i64 x0)
 replace c := st c S (by omega)
 replace S := S.put 1 rfl 1 (.int .i64 x1)
 replace c := st c S (by omega)
 replace S := S.put 1 rfl 2 (.slice A2 n2 c2)
 replace c := st c S (by omega)
 clear HF
 generalize ((w4.setCell ⟨w.heap.size + 1, 0, none⟩ (.int .i64 x0)).setCell ⟨w.heap.size + 1, 1, none⟩ (.int .i64 x1)).setCell ⟨w.heap.size + 1, 2, none⟩ (.slice A2 n2 c2) = w5 at *
 clear f0 f1 f2 f3 f4 f5
 replace S := S.pick 0 rfl
 have H := jd S.first
 have r0 := jd ((S.at_ 1 rfl).cell 0)
 have r1 := jd ((S.at_ 1 rfl).cell 1)
 have r2 := jd ((S.at_ 1 rfl).cell 2)
 have CC := jd c
 clear S c
 go_wp2
 exact bodyPost_ret (v := .agg #[.int .i64 x0, .int .i64 x1, .slice A2 n2 c2]) (by simp [results, Tryz.results253, go_sem, r0.out, r1.out, r2.out]) rfl ⟨_, _, _, rfl, H.out, CC.out⟩
set_option maxHeartbeats 6400000 in
theorem iCopied_any (x0 x1 : Int) (A : Option Addr) (n cc B : Nat) (l : List EntM) (w : World) (h : Rd w B [entD l] [.slice A n cc]) (hB : B ≤ w.heap.size) (hs : entSz l ≤ 1048577) (hok : bookB ⟨x0, x1, l⟩ = true) :
    Calls Tryz.prog 246 #[.agg #[.int .i64 x0, .int .i64 x1, .slice A n cc]] w fun e w' => ∃ (A2 : Option Addr) (n2 c2 : Nat), e = .returned (.agg #[.int .i64 x0, .int .i64 x1, .slice A2 n2 c2]) ∧ Has w' w.heap.size [entD l] [.slice A2 n2 c2] ∧ Below w.heap.size w w' := by
 have HH := jd h
 obtain ⟨_, _, _, e, hl, _, hcm, hel⟩ := h.ents
 injection e with e1 e2 e3
 subst e1 e2 e3
 have hn : n ≤ 1048577 := by unfold entSz at hs; omega
 have HL := jd hl
 have hbk := (bookB_mk' x0 x1 l).1 hok
 have HX := jd hbk.1
 have hn20 : n ≤ 1048576 := by have := hbk.2.2.2.1; omega
 have HA := jd (show selE l (x0 + 1) 2000 = l from sel_all hok)
 clear hbk hel hcm h hok hl
 have S := Sep.nil w w.heap.size
 have c := Below.refl w.heap.size w
 replace S := S.boxAt c.size (w.heap.size) rfl #[.int .i64 x0, .int .i64 x1, .slice A n cc] 47
 replace c := al c S
 replace S := S.boxAt c.size (w.heap.size + 1) (by simp) #[.int .i64 0, .int .i64 0, .slice none 0 0] 47
 replace c := al c S
 go_enter Tryz.func246, Tryz.ntmps246
 have f0 := lk S 1 0 rfl rfl
 have f1 := lk S 1 1 rfl rfl
 have f2 := lk S 1 2 rfl rfl
 go_wp2_with fail
 generalize (w.alloc (.cells #[.int .i64 x0, .int .i64 x1, .slice A n cc] 47)).alloc (.cells #[.int .i64 0, .int .i64 0, .slice none 0 0] 47) = w1 at *
 refine (iBookTo_any x0 x1 A n cc B l 2000 _ (HH.out.keep (c.mono hB)) (Nat.le_trans hB c.size) hs hn20 HX.out).mono ?_
 rintro e w2 ⟨A2, n2, c2, rfl, o, b2⟩
 obtain ⟨fp_u, S'⟩ := S.has b2 o c.size
 replace c := c.trans (b2.mono c.size)
 clear S; have S := S'; clear S' o b2 f0 f1 f2
 rw [HA.out] at S
 have H := jd S.first
 have f3 := lk S 1 0 rfl rfl
 have f4 := (S.at_ 1 rfl).free 0
 have f5 := lk S 1 1 rfl rfl
 have f6 := (S.at_ 1 rfl).free 1
 have f7 := lk S 1 2 rfl rfl
 have f8 := (S.at_ 1 rfl).free 2
 replace S := S.put 1 rfl 0 (.int .i64 x0)
 replace c := st c S (by omega)
 replace S := S.put 1 rfl 1 (.int .i64 x1)
 replace c := st c S (by omega)
 replace S := S.put 1 rfl 2 (.slice A2 n2 c2)
 replace c := st c S (by omega)
 have H := jd S.first
 have r0 := jd ((S.at_ 1 rfl).cell 0)
 have r1 := jd ((S.at_ 1 rfl).cell 1)
 have r2 := jd ((S.at_ 1 rfl).cell 2)
 have CC := jd c
 clear S c
 go_wp2
 exact bodyPost_ret (v := .agg #[.int .i64 x0, .int .i64 x1, .slice A2 n2 c2]) (by simp [results, Tryz.results246, go_sem, r0.out, r1.out, r2.out]) rfl ⟨_, _, _, rfl, H.out, CC.out⟩
set_option maxHeartbeats 12800000 in
theorem iGrown_any (x0 x1 : Int) (A : Option Addr) (n cc B : Nat) (l : List EntM) (A5 : Option Addr) (n5 c5 B5 : Nat) (ls : List EntM) (w : World) (h : Rd w B [entD l] [.slice A n cc]) (hB : B ≤ w.heap.size) (hs : entSz l ≤ 1048577) (h5 : Rd w B5 [entD ls] [.slice A5 n5 c5]) (hB5 : B5 ≤ w.heap.size) (hs5 : entSz ls ≤ 1048577) :
    Calls Tryz.prog 232 #[.agg #[.int .i64 x0, .int .i64 x1, .slice A n cc], .slice A5 n5 c5] w (MadeB w (growM ⟨x0, x1, l⟩ ls)) := by
 have HH := jd h
 obtain ⟨_, _, _, e, hl, _, hcm, hel⟩ := h.ents
 injection e with e1 e2 e3
 subst e1 e2 e3
 have hn : n ≤ 1048577 := by unfold entSz at hs; omega
 have HL := jd hl
 clear hel hcm h
 obtain ⟨_, _, _, e, hl5, _, _, hel5⟩ := h5.ents
 injection e with e1 e2 e3
 subst e1 e2 e3
 have hn5 : n5 ≤ 1048577 := by unfold entSz at hs5; omega
 have HL5 := jd hl5
 clear h5 hl5 hs5
 have S := Sep.nil w w.heap.size
 have c := Below.refl w.heap.size w
 replace S := S.boxAt c.size (w.heap.size) rfl #[.int .i64 x0, .int .i64 x1, .slice A n cc] 47
 replace c := al c S
 replace S := S.boxAt c.size (w.heap.size + 1) (by simp) #[.int .i64 0, .int .i64 0, .slice none 0 0] 47
 replace c := al c S
 go_enter Tryz.func232, Tryz.ntmps232
 have f0 := lk S 1 0 rfl rfl
 have f1 := lk S 1 1 rfl rfl
 have f2 := lk S 1 2 rfl rfl
 go_wp2_with fail
 generalize (w.alloc (.cells #[.int .i64 x0, .int .i64 x1, .slice A n cc] 47)).alloc (.cells #[.int .i64 0, .int .i64 0, .slice none 0 0] 47) = w1 at *
 refine (iBookOk_any x0 x1 A n cc B l _ (HH.out.keep (c.mono hB)) (Nat.le_trans hB c.size) hs).mono ?_
 rintro e w2 ⟨rfl, b2⟩
 replace c := c.trans (b2.mono c.size)
 replace S := S.keep b2
 clear b2 f0 f1 f2
 cases hok : bookB ⟨x0, x1, l⟩
 case false =>
  have HV := jd (show growM ⟨x0, x1, l⟩ ls = (book0, false) by unfold growM; rw [hok]; rfl)
  clear hel5
  have f3 := lk S 0 0 rfl rfl
  have f4 := (S.at_ 0 rfl).free 0
  have f5 := lk S 0 1 rfl rfl
  have f6 := (S.at_ 0 rfl).free 1
  have f7 := lk S 0 2 rfl rfl
  have f8 := (S.at_ 0 rfl).free 2
  replace S := S.put 0 rfl 0 (.int .i64 0)
  replace c := st c S (by omega)
  replace S := S.put 0 rfl 1 (.int .i64 0)
  replace c := st c S (by omega)
  replace S := S.put 0 rfl 2 (.slice none 0 0)
  replace c := st c S (by omega)
  clear hok
  have r0 := jd ((S.at_ 0 rfl).cell 0)
  have r1 := jd ((S.at_ 0 rfl).cell 1)
  have r2 := jd ((S.at_ 0 rfl).cell 2)
  have CC := jd c
  clear S c
  go_wp2
  exact bodyPost_ret (v := .tuple #[.agg #[.int .i64 0, .int .i64 0, .slice none 0 0], .bool false]) (by simp [results, Tryz.results232, go_sem, r0.out, r1.out, r2.out]) rfl ⟨_, _, _, _, _, by rw [HV.out], by rw [HV.out]; exact has_book0 _ _, CC.out⟩
 case true =>
  have hl20 : l.length ≤ 20 := bookB_len hok
  have HOK := jd hok
  have HGM := jd (show growM ⟨x0, x1, l⟩ ls = if ls.length ≤ 20 then (if growB ⟨x0, x1, l⟩ ls = true then (more ⟨x0, x1, l⟩ ls, true) else (⟨x0, x1, l⟩, false)) else (⟨x0, x1, l⟩, false) by unfold growM; rw [if_pos hok])
  clear hok
  have f3 := lk S 1 0 rfl rfl
  have f4 := lk S 1 1 rfl rfl
  have f5 := lk S 1 2 rfl rfl
  go_wp2_with fail
  refine (iCopied_any x0 x1 A n cc B l _ (HH.out.keep (c.mono hB)) (Nat.le_trans hB c.size) hs HOK.out).mono ?_
  rintro e w3 ⟨A2, n2, c2, rfl, o, b2⟩
  obtain ⟨fp_u, S'⟩ := S.has b2 o c.size
  replace c := c.trans (b2.mono c.size)
  clear S; have S := S'; clear S' o b2 f3 f4 f5
  replace S := S.boxAt c.size (w3.heap.size) rfl #[.int .i64 x0, .int .i64 x1, .slice A2 n2 c2] 47
  replace c := al c S
  replace S := S.pick 1 rfl
  go_wp2
  generalize w3.alloc (.cells #[.int .i64 x0, .int .i64 x1, .slice A2 n2 c2] 47) = w4 at *
  obtain ⟨qo, hqo⟩ : ∃ q, q = w3.heap.size := ⟨_, rfl⟩
  rw [← hqo] at S ⊢
  clear hqo
  have S0 := jd S
  have B0 := jd c
  clear S c
  have T0 := jd (show l = l ++ ls.take 0 by rw [List.take_zero, List.append_nil])
  go_loopw [17] (fun i wr => ∃ (j : Nat) (G : Option Addr) (m gc : Nat) (fp : List Nat), j ≤ n5 ∧ i = .int .i64 (j : Int) ∧ (∀ q, q < j → growAt ⟨x0, x1, l⟩ ls q = true) ∧ Sep wr w.heap.size [.own [entD (l ++ ls.take j)] [.slice G m gc] fp, .blk qo #[.int .i64 x0, .int .i64 x1, .slice G m gc] 47, .blk (w.heap.size + 1) #[.int .i64 0, .int .i64 0, .slice none 0 0] 47, .blk w.heap.size #[.int .i64 x0, .int .i64 x1, .slice A n cc] 47] ∧ Below w.heap.size w wr) (fun i _ => n5 - (intOf i).toNat)
  case atStart => exact ⟨0, _, _, _, _, Nat.zero_le _, rfl, fun q hq => absurd hq (by omega), by rw [← T0.out]; exact S0.out, B0.out⟩
  case round =>
   obtain ⟨j, G, m, gc, fp, hj, rfl, hall, S, c⟩ := hrel
   clear S0 B0
   have HA := jd hall
   have hml : m = l.length + j := by
    obtain ⟨_, _, _, e, h9, _⟩ := (S.own_ 0 rfl).rd.ents
    injection e with e1 e2 e3
    rw [e2, ← h9, List.length_append, List.length_take]
    have := HL5.out
    omega
   have hm : m ≤ 1048577 := by have h9 := grown_ok (l := ls) HOK.out j (by have := HL5.out; omega) hall; have h8 := bookB_len h9; have h7 : (l ++ ls.take j).length ≤ 20 := h8; rw [List.length_append, List.length_take] at h7; have := HL5.out; omega
   clear hml
   by_cases hlt : j < n5
   case neg =>
    obtain rfl : j = n5 := by omega
    have htk : ls.take j = ls := List.take_of_length_le (by rw [HL5.out]; exact Nat.le_refl _)
    have h20 : ls.length ≤ 20 := by have h9 := grown_ok (l := ls) HOK.out j (by have := HL5.out; omega) hall; rw [htk] at h9; have h8 : (l ++ ls).length ≤ 20 := bookB_len h9; rw [List.length_append] at h8; omega
    rw [htk] at S
    have HV := jd (show growM ⟨x0, x1, l⟩ ls = (more ⟨x0, x1, l⟩ ls, true) by rw [HGM.out, if_pos h20, if_pos ((growB_iff _ _).2 fun q hq => hall q (by have := HL5.out; omega))])
    clear hall hel5 htk h20
    have f6 := lk S 1 0 rfl rfl
    have f7 := lk S 1 1 rfl rfl
    have f8 := lk S 1 2 rfl rfl
    have f9 := lk S 2 0 rfl rfl
    have f10 := (S.at_ 2 rfl).free 0
    have f11 := lk S 2 1 rfl rfl
    have f12 := (S.at_ 2 rfl).free 1
    have f13 := lk S 2 2 rfl rfl
    have f14 := (S.at_ 2 rfl).free 2
    replace S := S.put 2 rfl 0 (.int .i64 x0)
    replace c := st c S (by omega)
    replace S := S.put 2 rfl 1 (.int .i64 x1)
    replace c := st c S (by omega)
    replace S := S.put 2 rfl 2 (.slice G m gc)
    replace c := st c S (by omega)
    have H := jd S.first
    have r0 := jd ((S.at_ 2 rfl).cell 0)
    have r1 := jd ((S.at_ 2 rfl).cell 1)
    have r2 := jd ((S.at_ 2 rfl).cell 2)
    have CC := jd c
    clear S c
    go_wp2
    exact bodyPost_ret (v := .tuple #[.agg #[.int .i64 x0, .int .i64 x1, .slice G m gc], .bool true]) (by simp [results, Tryz.results232, go_sem, r0.out, r1.out, r2.out]) rfl ⟨_, _, _, _, _, by rw [HV.out], by rw [HV.out]; exact has_mk H.out, CC.out⟩
   case pos =>
    obtain ⟨b, off, rfl, hb, hc⟩ := hel5 (by omega)
    have hjl : j < ls.length := by have := HL5.out; omega
    obtain ⟨hc0, hc1, hc2, hc3, hc4, hc5, hc6, hc7, hc8⟩ := hc j hjl
    have hok2 := grown_ok (l := ls) HOK.out j (by omega) hall
    obtain ⟨e0, he0⟩ : ∃ q, q = ls[j].idx := ⟨_, rfl⟩
    rw [← he0] at hc0
    obtain ⟨e1, he1⟩ : ∃ q, q = ls[j].tm := ⟨_, rfl⟩
    rw [← he1] at hc1
    obtain ⟨e2, he2⟩ : ∃ q, q = ls[j].cl := ⟨_, rfl⟩
    rw [← he2] at hc2
    obtain ⟨e3, he3⟩ : ∃ q, q = ls[j].sq := ⟨_, rfl⟩
    rw [← he3] at hc3
    obtain ⟨e4, he4⟩ : ∃ q, q = ls[j].kd := ⟨_, rfl⟩
    rw [← he4] at hc4
    obtain ⟨e5, he5⟩ : ∃ q, q = ls[j].oa := ⟨_, rfl⟩
    rw [← he5] at hc5
    obtain ⟨e6, he6⟩ : ∃ q, q = ls[j].ob := ⟨_, rfl⟩
    rw [← he6] at hc6
    obtain ⟨e7, he7⟩ : ∃ q, q = ls[j].oc := ⟨_, rfl⟩
    rw [← he7] at hc7
    obtain ⟨e8, he8⟩ : ∃ q, q = ls[j].od := ⟨_, rfl⟩
    rw [← he8] at hc8
    have hmk : ls[j] = ⟨e0, e1, e2, e3, e4, e5, e6, e7, e8⟩ := by rw [he0, he1, he2, he3, he4, he5, he6, he7, he8]
    have HTB := jd (show takeB ⟨x0, x1, l ++ ls.take j⟩ ⟨e0, e1, e2, e3, e4, e5, e6, e7, e8⟩ = growAt ⟨x0, x1, l⟩ ls j by
     rw [takeB_next (b := ⟨x0, x1, l ++ ls.take j⟩) hok2]
     unfold growAt
     rw [egetD hjl, hmk]
     rfl)
    have HY := jd (show 0 ≤ (endM ⟨x0, x1, l ++ ls.take j⟩).idx ∧ (endM ⟨x0, x1, l ++ ls.take j⟩).idx ≤ 1000000 by
     rw [endM_idx (b := ⟨x0, x1, l ++ ls.take j⟩) hok2]
     have h9 := book_max (b := ⟨x0, x1, l ++ ls.take j⟩) hok2
     have h8 : (0 : Int) ≤ x0 := ((bookB_mk' x0 x1 (l ++ ls.take j)).1 hok2).1.1
     unfold lastB at h9 ⊢
     refine ⟨?_, Int.le_trans h9 (by decide)⟩
     show 0 ≤ x0 + _
     omega)
    have HTK := jd (show ls.take (j + 1) = ls.take j ++ [⟨e0, e1, e2, e3, e4, e5, e6, e7, e8⟩] by rw [List.take_succ_eq_append_getElem hjl, hmk])
    have HGF := jd (show growAt ⟨x0, x1, l⟩ ls j = false → growM ⟨x0, x1, l⟩ ls = (⟨x0, x1, l⟩, false) from fun h9 => by
     rw [HGM.out]
     split
     · rw [if_neg (by rw [growB_step hjl h9]; decide)]
     · rfl)
    have hsz : entSz (l ++ ls.take j) ≤ 1048577 := by have h8 : (l ++ ls.take j).length ≤ 20 := bookB_len hok2; unfold entSz; omega
    have j0 : (0 : Int) ≤ (j : Int) := by omega
    have j1 : (j : Int) < (n5 : Int) := by omega
    clear hc hmk hok2 hel5 hjl he0 he1 he2 he3 he4 he5 he6 he7 he8
    have k0 := cu c hc0 (show b < _ by omega)
    have k1 := cu c hc1 (show b < _ by omega)
    have k2 := cu c hc2 (show b < _ by omega)
    have k3 := cu c hc3 (show b < _ by omega)
    have k4 := cu c hc4 (show b < _ by omega)
    have k5 := cu c hc5 (show b < _ by omega)
    have k6 := cu c hc6 (show b < _ by omega)
    have k7 := cu c hc7 (show b < _ by omega)
    have k8 := cu c hc8 (show b < _ by omega)
    clear hc0 hc1 hc2 hc3 hc4 hc5 hc6 hc7 hc8
    replace S := S.boxAt c.size (wr.heap.size) rfl #[.int .i64 e0, .int .i64 e1, .int .i64 e2, .int .i64 e3, .int .i64 e4, .int .i64 e5, .int .i64 e6, .int .i64 e7, .int .i64 e8] 87
    replace c := al c S
    have f6 := lk S 2 0 rfl rfl
    have f7 := lk S 2 1 rfl rfl
    have f8 := lk S 2 2 rfl rfl
    go_wp2_with fail
    generalize wr.alloc (.cells #[.int .i64 e0, .int .i64 e1, .int .i64 e2, .int .i64 e3, .int .i64 e4, .int .i64 e5, .int .i64 e6, .int .i64 e7, .int .i64 e8] 87) = w5 at *
    obtain ⟨qe, hqe⟩ : ∃ q, q = wr.heap.size := ⟨_, rfl⟩
    rw [← hqe] at S ⊢
    clear hqe
    refine (iTakes_any x0 x1 G m gc _ (l ++ ls.take j) e0 e1 e2 e3 e4 e5 e6 e7 e8 _ (S.own_ 1 rfl).rd (Nat.le_refl _) hsz HY.out).mono ?_
    rintro e w6 ⟨rfl, b2⟩
    replace c := c.trans (b2.mono c.size)
    replace S := S.keep b2
    clear b2 f6 f7 f8
    rw [HTB.out]
    cases hg : growAt ⟨x0, x1, l⟩ ls j
    case false =>
     have HV := jd (HGF.out hg)
     clear hg hall k0 k1 k2 k3 k4 k5 k6 k7 k8
     have f9 := lk S 4 0 rfl rfl
     have f10 := lk S 4 1 rfl rfl
     have f11 := lk S 4 2 rfl rfl
     go_wp2_with fail
     refine (iCopied_any x0 x1 A n cc B l _ (HH.out.keep (c.mono hB)) (Nat.le_trans hB c.size) hs HOK.out).mono ?_
     rintro e w7 ⟨A4, n4, c4, rfl, o, b2⟩
     obtain ⟨fp_cp, S'⟩ := S.has b2 o c.size
     replace c := c.trans (b2.mono c.size)
     clear S; have S := S'; clear S' o b2 f9 f10 f11
     have f12 := lk S 4 0 rfl rfl
     have f13 := (S.at_ 4 rfl).free 0
     have f14 := lk S 4 1 rfl rfl
     have f15 := (S.at_ 4 rfl).free 1
     have f16 := lk S 4 2 rfl rfl
     have f17 := (S.at_ 4 rfl).free 2
     replace S := S.put 4 rfl 0 (.int .i64 x0)
     replace c := st c S (by omega)
     replace S := S.put 4 rfl 1 (.int .i64 x1)
     replace c := st c S (by omega)
     replace S := S.put 4 rfl 2 (.slice A4 n4 c4)
     replace c := st c S (by omega)
     have H := jd S.first
     have r0 := jd ((S.at_ 4 rfl).cell 0)
     have r1 := jd ((S.at_ 4 rfl).cell 1)
     have r2 := jd ((S.at_ 4 rfl).cell 2)
     have CC := jd c
     clear S c
     go_wp2
     exact bodyPost_ret (v := .tuple #[.agg #[.int .i64 x0, .int .i64 x1, .slice A4 n4 c4], .bool false]) (by simp [results, Tryz.results232, go_sem, r0.out, r1.out, r2.out]) rfl ⟨_, _, _, _, _, by rw [HV.out], by rw [HV.out]; exact has_mk H.out, CC.out⟩
    case true =>
     have HN := jd (show ∀ q, q < j + 1 → growAt ⟨x0, x1, l⟩ ls q = true from fun q hq => by
      rcases Nat.lt_or_ge q j with h1 | h1
      · exact hall q h1
      · obtain rfl : q = j := by omega
        exact hg)
     clear hg hall k0 k1 k2 k3 k4 k5 k6 k7 k8
     have f9 := lk S 2 0 rfl rfl
     have f10 := lk S 2 1 rfl rfl
     have f11 := lk S 2 2 rfl rfl
     have f12 := lk S 0 0 rfl rfl
     have f13 := lk S 0 1 rfl rfl
     have f14 := lk S 0 2 rfl rfl
     have f15 := lk S 0 3 rfl rfl
     have f16 := lk S 0 4 rfl rfl
     have f17 := lk S 0 5 rfl rfl
     have f18 := lk S 0 6 rfl rfl
     have f19 := lk S 0 7 rfl rfl
     have f20 := lk S 0 8 rfl rfl
     obtain ⟨ql, hql⟩ : ∃ q, q = w6.heap.size := ⟨_, rfl⟩
     replace S := S.boxAt c.size (w6.heap.size) rfl #[.int .i64 e0, .int .i64 e1, .int .i64 e2, .int .i64 e3, .int .i64 e4, .int .i64 e5, .int .i64 e6, .int .i64 e7, .int .i64 e8] 87
     replace c := al c S
     have HC : ∀ i, i < 9 → (w6.alloc (.cells #[.int .i64 e0, .int .i64 e1, .int .i64 e2, .int .i64 e3, .int .i64 e4, .int .i64 e5, .int .i64 e6, .int .i64 e7, .int .i64 e8] 87)).cell? ⟨w6.heap.size, i, none⟩ = [Value.int .i64 e0, Value.int .i64 e1, Value.int .i64 e2, Value.int .i64 e3, Value.int .i64 e4, Value.int .i64 e5, Value.int .i64 e6, Value.int .i64 e7, Value.int .i64 e8][i]? := fun i hi => by
      have h1 := (S.at_ 0 rfl).cell i
      rw [h1]
      simp
     clear hql
     replace S := (S.tail).own0 (ds := entC (⟨e0, e1, e2, e3, e4, e5, e6, e7, e8⟩ : EntM)) (vs := [.int .i64 e0, .int .i64 e1, .int .i64 e2, .int .i64 e3, .int .i64 e4, .int .i64 e5, .int .i64 e6, .int .i64 e7, .int .i64 e8]) (.int (.int (.int (.int (.int (.int (.int (.int (.int (.nil))))))))))
     replace S := S.pick 2 rfl
     go_wp2_with (first
      | (at_builtin
         refine wpList_append_elem (l := l ++ ls.take j) (y := (⟨e0, e1, e2, e3, e4, e5, e6, e7, e8⟩ : EntM)) rfl (.tmp 28) (.tmp 30) (by rfl) Tryz.underlying27 infoEntry (by rfl) (by decide) entC_len (by rfl) (S.own_ 0 rfl) (S.nodup_own 0 rfl) (by rfl) HC (S.own_ 1 rfl) (S.nodup_own 1 rfl) S.apart (by omega) (by omega) ?_
         intro A3 c3 w3 fp3 o3 n3 s3 t3
         have S3 := S.merge t3 o3 n3 s3 c.size
         have g0 := (S3.at_ 2 rfl).cell 2
         have g1 := (S3.at_ 2 rfl).free 2))
     have c3' := c.trans (S.below 0 rfl t3 c.size)
     replace S3 := S3.put 2 rfl 2 (.slice A3 (m + 1) c3)
     replace c3' := c3'.setCell (p := ⟨qo, 2, none⟩) (S3.base_le 2 rfl) (.slice A3 (m + 1) c3)
     rw [List.append_assoc, ← HTK.out] at S3
     have S1 := jd (show Sep _ w.heap.size [.own [entD (l ++ ls.take (j + 1))] [.slice A3 (m + 1) c3] fp3, .blk qo #[.int .i64 x0, .int .i64 x1, .slice A3 (m + 1) c3] 47, .blk (w.heap.size + 1) #[.int .i64 0, .int .i64 0, .slice none 0 0] 47, .blk w.heap.size #[.int .i64 x0, .int .i64 x1, .slice A n cc] 47] from S3.sub (.cons_cons _ (.cons _ (.cons_cons _ (.cons_cons _ (.cons_cons _ (List.nil_sublist _)))))))
     have C1 := jd c3'
     clear S3 c3' g0 g1
     go_roundw
     case rel => exact ⟨j + 1, A3, m + 1, c3, fp3, by omega, by go_num, HN.out, S1.out, C1.out⟩
     case measure => simp [intOf]; omega
theorem grow_one (b : BookM) (e : EntM) : growM b [e] = appM b e := by
 unfold growM appM
 have h : growB b [e] = nextB b e := by
  unfold growB growAt
  simp [more_nil]
 rw [h, if_pos (show ([e] : List EntM).length ≤ 20 from by show 1 ≤ 20; decide)]
set_option maxHeartbeats 12800000 in
theorem iApp_any (x0 x1 : Int) (A : Option Addr) (n cc B : Nat) (l : List EntM) (e0 e1 e2 e3 e4 e5 e6 e7 e8 : Int) (w : World) (h : Rd w B [entD l] [.slice A n cc]) (hB : B ≤ w.heap.size) (hs : entSz l ≤ 1048577) :
    Calls Tryz.prog 192 #[.agg #[.int .i64 x0, .int .i64 x1, .slice A n cc], .agg #[.int .i64 e0, .int .i64 e1, .int .i64 e2, .int .i64 e3, .int .i64 e4, .int .i64 e5, .int .i64 e6, .int .i64 e7, .int .i64 e8]] w (MadeB w (appM ⟨x0, x1, l⟩ ⟨e0, e1, e2, e3, e4, e5, e6, e7, e8⟩)) := by
 have HH := jd h
 obtain ⟨_, _, _, e, hl, _, hcm, hel⟩ := h.ents
 injection e with e1 e2 e3
 subst e1 e2 e3
 have hn : n ≤ 1048577 := by unfold entSz at hs; omega
 have HL := jd hl
 clear hel hcm h hl hn
 rw [← grow_one]
 obtain ⟨bk, hbk⟩ : ∃ q, q = growM ⟨x0, x1, l⟩ [⟨e0, e1, e2, e3, e4, e5, e6, e7, e8⟩] := ⟨_, rfl⟩
 rw [← hbk]
 have HBK := jd hbk
 clear hbk
 have S := Sep.nil w w.heap.size
 have c := Below.refl w.heap.size w
 replace S := S.boxAt c.size (w.heap.size) rfl #[.int .i64 x0, .int .i64 x1, .slice A n cc] 47
 replace c := al c S
 replace S := S.boxAt c.size (w.heap.size + 1) (by simp) #[.int .i64 e0, .int .i64 e1, .int .i64 e2, .int .i64 e3, .int .i64 e4, .int .i64 e5, .int .i64 e6, .int .i64 e7, .int .i64 e8] 87
 replace c := al c S
 replace S := S.boxAt c.size (w.heap.size + 1 + 1) (by simp) #[.int .i64 0, .int .i64 0, .slice none 0 0] 47
 replace c := al c S
 replace S := S.boxAt c.size (w.heap.size + 1 + 1 + 1) (by simp) #[.int .i64 e0, .int .i64 e1, .int .i64 e2, .int .i64 e3, .int .i64 e4, .int .i64 e5, .int .i64 e6, .int .i64 e7, .int .i64 e8] 87
 replace c := al c S
 have HR : Rd ((((w.alloc (.cells #[.int .i64 x0, .int .i64 x1, .slice A n cc] 47)).alloc (.cells #[.int .i64 e0, .int .i64 e1, .int .i64 e2, .int .i64 e3, .int .i64 e4, .int .i64 e5, .int .i64 e6, .int .i64 e7, .int .i64 e8] 87)).alloc (.cells #[.int .i64 0, .int .i64 0, .slice none 0 0] 47)).alloc (.cells #[.int .i64 e0, .int .i64 e1, .int .i64 e2, .int .i64 e3, .int .i64 e4, .int .i64 e5, .int .i64 e6, .int .i64 e7, .int .i64 e8] 87)) ((((w.alloc (.cells #[.int .i64 x0, .int .i64 x1, .slice A n cc] 47)).alloc (.cells #[.int .i64 e0, .int .i64 e1, .int .i64 e2, .int .i64 e3, .int .i64 e4, .int .i64 e5, .int .i64 e6, .int .i64 e7, .int .i64 e8] 87)).alloc (.cells #[.int .i64 0, .int .i64 0, .slice none 0 0] 47)).alloc (.cells #[.int .i64 e0, .int .i64 e1, .int .i64 e2, .int .i64 e3, .int .i64 e4, .int .i64 e5, .int .i64 e6, .int .i64 e7, .int .i64 e8] 87)).heap.size [entD [(⟨e0, e1, e2, e3, e4, e5, e6, e7, e8⟩ : EntM)]] [.slice (some ⟨w.heap.size + 1 + 1 + 1, 0, none⟩) 1 1] := by
  refine Rd.of_lst (us := [.int .i64 e0, .int .i64 e1, .int .i64 e2, .int .i64 e3, .int .i64 e4, .int .i64 e5, .int .i64 e6, .int .i64 e7, .int .i64 e8]) entC_len rfl (by decide) (by decide) (fun _ => ⟨_, 0, rfl, (S.at_ 0 rfl).lt, fun j hj => ?_⟩) (.int (.int (.int (.int (.int (.int (.int (.int (.int (.nil))))))))))
  rw [Nat.zero_add]
  rw [(S.at_ 0 rfl).cell j]
  simp
 have HR := jd HR
 go_enter Tryz.func192, Tryz.ntmps192
 go_wp2_with fail
 generalize (((w.alloc (.cells #[.int .i64 x0, .int .i64 x1, .slice A n cc] 47)).alloc (.cells #[.int .i64 e0, .int .i64 e1, .int .i64 e2, .int .i64 e3, .int .i64 e4, .int .i64 e5, .int .i64 e6, .int .i64 e7, .int .i64 e8] 87)).alloc (.cells #[.int .i64 0, .int .i64 0, .slice none 0 0] 47)).alloc (.cells #[.int .i64 e0, .int .i64 e1, .int .i64 e2, .int .i64 e3, .int .i64 e4, .int .i64 e5, .int .i64 e6, .int .i64 e7, .int .i64 e8] 87) = w1 at *
 refine (iGrown_any x0 x1 A n cc B l _ 1 1 _ [(⟨e0, e1, e2, e3, e4, e5, e6, e7, e8⟩ : EntM)] _ (HH.out.keep (c.mono hB)) (Nat.le_trans hB c.size) hs HR.out (Nat.le_refl _) (show (1 : Nat) ≤ 1048577 by decide)).mono ?_
 rintro e w2 ⟨y0, y1, A2, n2, c2, rfl, o, b2⟩
 rw [← HBK.out] at o ⊢
 clear HBK HR
 obtain ⟨fp_u, S'⟩ := S.has b2 o c.size
 replace c := c.trans (b2.mono c.size)
 clear S; have S := S'; clear S' o b2 
 obtain ⟨bb, fl⟩ := bk
 simp only at S ⊢
 have f0 := lk S 2 0 rfl rfl
 have f1 := (S.at_ 2 rfl).free 0
 have f2 := lk S 2 1 rfl rfl
 have f3 := (S.at_ 2 rfl).free 1
 have f4 := lk S 2 2 rfl rfl
 have f5 := (S.at_ 2 rfl).free 2
 replace S := S.put 2 rfl 0 (.int .i64 y0)
 replace c := st c S (by omega)
 replace S := S.put 2 rfl 1 (.int .i64 y1)
 replace c := st c S (by omega)
 replace S := S.put 2 rfl 2 (.slice A2 n2 c2)
 replace c := st c S (by omega)
 have H := jd S.first
 have r0 := jd ((S.at_ 2 rfl).cell 0)
 have r1 := jd ((S.at_ 2 rfl).cell 1)
 have r2 := jd ((S.at_ 2 rfl).cell 2)
 have CC := jd c
 clear S c
 go_wp2
 exact bodyPost_ret (v := .tuple #[.agg #[.int .i64 y0, .int .i64 y1, .slice A2 n2 c2], .bool fl]) (by simp [results, Tryz.results192, go_sem, r0.out, r1.out, r2.out]) rfl ⟨_, _, _, _, _, rfl, H.out, CC.out⟩
end Go.Proofs.YtmjifhjhialcbaaGreat
namespace Go.Proofs.YtmjifhjhialcbaaGreat
set_option maxRecDepth 100000
set_option linter.unusedVariables false
open Go.RowKit
attribute [local go_sem] Oper.semAt_some
def SepG (w : World) (M : Nat) (P : List EntM → Prop) (its : List EntM → List Item) (pre : List EntM) (W : World) : Prop := P pre ∧ Sep W w.heap.size (its pre) ∧ Below w.heap.size w W ∧ M ≤ W.heap.size
theorem SepG.more {w W : World} {M : Nat} {P : List EntM → Prop} {its : List EntM → List Item} {pre : List EntM} (h : SepG w M P its pre W) (o : Obj) : SepG w M P its pre (W.alloc o) :=
 ⟨h.1, h.2.1.keep ((Below.refl _ _).alloc (Nat.le_refl _) _), h.2.2.1.alloc h.2.2.1.size _, Nat.le_trans h.2.2.2 (by simp)⟩
end Go.Proofs.YtmjifhjhialcbaaGreat
