/- Parts of my texts: RecI2 RecS3. -/
import Derived.Test.YtmjifhjhialcbaaGreatL34
namespace Go.Proofs.YtmjifhjhialcbaaGreat
set_option maxRecDepth 100000
set_option linter.unusedVariables false
open Go.RowKit
theorem has_split2 {w : World} {base : Nat} {b : BookM} {y0 y1 : Int} {v v2 : Value} {d2 : Dat} (h : Has w base (b.cells ++ [d2]) ([.int .i64 y0, .int .i64 y1, v] ++ [v2])) : y0 = b.base ∧ y1 = b.tm ∧ Has w base ([entD b.ents] ++ [d2]) ([v] ++ [v2]) := by
 obtain ⟨fp, o, h1, h2⟩ := h
 have o' : Ow w (.int b.base :: .int b.tm :: ([entD b.ents] ++ [d2])) [.int .i64 y0, .int .i64 y1, v, v2] fp := o
 obtain ⟨e0, o1⟩ := Ow.int_cons o'
 obtain ⟨e1, o2⟩ := Ow.int_cons o1
 injection e0 with _ e0
 injection e1 with _ e1
 exact ⟨e0, e1, fp, o2, h1, h2⟩
theorem Sep.cut2 {w : World} {base : Nat} {is : List Item} {d1 d2 : Dat} {v1 v2 : Value} {fp : List Nat} (h : Sep w base (.own ([d1] ++ [d2]) ([v1] ++ [v2]) fp :: is)) : ∃ f1 f2, Sep w base (.own [d2] [v2] f2 :: .own [d1] [v1] f1 :: is) := by
 obtain ⟨u1, u2, f1, f2, e, S⟩ := h.split
 have l1 : u1.length = 1 := (S.own_ 1 rfl).len
 have l2 : u2.length = 1 := (S.own_ 0 rfl).len
 match u1, l1, u2, l2, e with
 | [a], _, [b], _, e =>
  injection e with e1 e2
  injection e2 with e3 _
  subst e1 e3
  exact ⟨f1, f2, S⟩
set_option maxHeartbeats 12800000 in
theorem iBookFrom_any (q9 : Nat) (Aa0 : Option Addr) (na0 ca0 : Nat) (Aa1 : Option Addr) (na1 ca1 : Nat) (Aa2 : Option Addr) (na2 ca2 : Nat) (Aa3 : Option Addr) (na3 ca3 : Nat) (t : TwoM) (x0 x1 x2 : Int) (A : Option Addr) (n cc : Nat) (l : List MarkM) (w : World) (hq : Blk w q9 #[.slice Aa0 na0 ca0, .slice Aa1 na1 ca1, .slice Aa2 na2 ca2, .slice Aa3 na3 ca3] 35) (h : Rd w w.heap.size t.cells [.slice Aa0 na0 ca0, .slice Aa1 na1 ca1, .slice Aa2 na2 ca2, .slice Aa3 na3 ca3]) (hs : t.sz ≤ 1048576) (h2 : Rd w w.heap.size [mrkD l] [.slice A n cc]) (hk : keptB t = true) (hok : headOkB ⟨x0, x1, x2, l⟩ = true) :
    Calls Tryz.prog 88 #[.func (.func 148) #[] #[.pointer (some ⟨q9, 0, none⟩)], .agg #[.int .i64 x0, .int .i64 x1, .int .i64 x2, .slice A n cc]] w (MadeBk1 w (bookInM t ⟨x0, x1, x2, l⟩)) := by
 have HH := jd h
 have H2 := jd h2
 have HQB := jd hq
 have HQL := jd hq.lt
 have HKK := jd hk
 have HOK := jd hok
 clear h h2 hq hk hok
 have S := Sep.nil w w.heap.size
 have c := Below.refl w.heap.size w
 replace S := S.boxAt c.size (w.heap.size) rfl #[.int .i64 x0, .int .i64 x1, .int .i64 x2, .slice A n cc] 45
 replace c := al c S
 replace S := S.boxAt c.size (w.heap.size + 1) (by simp) #[.int .i64 0, .int .i64 0, .slice none 0 0] 47
 replace c := al c S
 go_enter Tryz.func88, Tryz.ntmps88
 go_wp2_with fail
 generalize (w.alloc (.cells #[.int .i64 x0, .int .i64 x1, .int .i64 x2, .slice A n cc] 45)).alloc (.cells #[.int .i64 0, .int .i64 0, .slice none 0 0] 47) = w1 at *
 refine wp_region_L (fun v => v.cell? ⟨w.heap.size, 0, none⟩ = some (.int .i64 x0) ∧ v.cell? ⟨w.heap.size, 1, none⟩ = some (.int .i64 x1) ∧ v.cell? ⟨w.heap.size, 2, none⟩ = some (.int .i64 x2) ∧ v.cell? ⟨w.heap.size, 3, none⟩ = some (.slice A n cc)) 9 (by kernel_rfl) ?_
 replace S := S.keep ((Below.refl _ _).drew)
 replace c := c.drew
 generalize w1.drew = w2 at *
 have HF : w2.cell? ⟨w.heap.size, 0, none⟩ = some (.int .i64 x0) ∧ w2.cell? ⟨w.heap.size, 1, none⟩ = some (.int .i64 x1) ∧ w2.cell? ⟨w.heap.size, 2, none⟩ = some (.int .i64 x2) ∧ w2.cell? ⟨w.heap.size, 3, none⟩ = some (.slice A n cc) := ⟨(S.at_ 1 rfl).cell 0, (S.at_ 1 rfl).cell 1, (S.at_ 1 rfl).cell 2, (S.at_ 1 rfl).cell 3⟩
 refine tk 0 (v := ?_) rfl rfl HF (.inl ⟨by rfl, ?_⟩) ?_
 rotate_left 1
 · (rintro v ⟨a0, a1, a2, a3⟩; go_simp; try with_reducible rfl)
 try simp only [Act.put]
 refine tk 1 (v := ?_) rfl rfl HF (.inl ⟨by rfl, ?_⟩) ?_
 rotate_left 1
 · (rintro v ⟨a0, a1, a2, a3⟩; go_simp; try with_reducible rfl)
 try simp only [Act.put]
 refine tk 2 (v := ?_) rfl rfl HF (.inl ⟨by rfl, ?_⟩) ?_
 rotate_left 1
 · (rintro v ⟨a0, a1, a2, a3⟩; go_simp; try with_reducible rfl)
 try simp only [Act.put]
 refine tk 3 (v := ?_) rfl rfl HF (.inl ⟨by rfl, ?_⟩) ?_
 rotate_left 1
 · (rintro v ⟨a0, a1, a2, a3⟩; go_simp; try with_reducible rfl)
 try simp only [Act.put]
 refine tk 4 (v := ?_) rfl rfl HF (.inl ⟨by rfl, ?_⟩) ?_
 rotate_left 1
 · (rintro v ⟨a0, a1, a2, a3⟩; go_simp; try with_reducible rfl)
 try simp only [Act.put]
 refine tk 5 (v := ?_) rfl rfl HF (.inl ⟨by rfl, ?_⟩) ?_
 rotate_left 1
 · (rintro v ⟨a0, a1, a2, a3⟩; go_simp; try with_reducible rfl)
 try simp only [Act.put]
 refine tk 6 (v := ?_) rfl rfl HF (.inl ⟨by rfl, ?_⟩) ?_
 rotate_left 1
 · (rintro v ⟨a0, a1, a2, a3⟩; go_simp; try with_reducible rfl)
 try simp only [Act.put]
 have HB0 := jd (show bookAt t ⟨x0, x1, x2, l⟩ 0 = ((⟨x1, x2, []⟩ : BookM), l) from rfl)
 refine wpAnyL_step (i := 7) (by kernel_rfl) rfl rfl ?_
 intro K hK
 go_simp
 replace S := S.boxAt c.size (w2.heap.size) rfl #[.int .i64 0, .int .i64 0, .slice none 0 0] 47
 replace c := al c S
 clear HF
 have HF : (w2.alloc (.cells #[.int .i64 0, .int .i64 0, .slice none 0 0] 47)).cell? ⟨w.heap.size, 0, none⟩ = some (.int .i64 x0) ∧ (w2.alloc (.cells #[.int .i64 0, .int .i64 0, .slice none 0 0] 47)).cell? ⟨w.heap.size, 1, none⟩ = some (.int .i64 x1) ∧ (w2.alloc (.cells #[.int .i64 0, .int .i64 0, .slice none 0 0] 47)).cell? ⟨w.heap.size, 2, none⟩ = some (.int .i64 x2) ∧ (w2.alloc (.cells #[.int .i64 0, .int .i64 0, .slice none 0 0] 47)).cell? ⟨w.heap.size, 3, none⟩ = some (.slice A n cc) := ⟨(S.at_ 2 rfl).cell 0, (S.at_ 2 rfl).cell 1, (S.at_ 2 rfl).cell 2, (S.at_ 2 rfl).cell 3⟩
 refine hK _ _ (fun _ => HF) ?_
 clear hK K
 try simp only [Act.put]
 generalize hw : w2.alloc (.cells #[.int .i64 0, .int .i64 0, .slice none 0 0] 47) = w3 at *
 clear hw
 obtain ⟨qb, hqb⟩ : ∃ q, q = w2.heap.size := ⟨_, rfl⟩
 rw [← hqb] at S ⊢
 clear hqb
 have f0 := lk S 0 0 rfl rfl
 have f1 := (S.at_ 0 rfl).free 0
 have f2 := lk S 0 1 rfl rfl
 have f3 := (S.at_ 0 rfl).free 1
 have f4 := lk S 0 2 rfl rfl
 have f5 := (S.at_ 0 rfl).free 2
 refine wpAnyL_step (i := 8) (by kernel_rfl) rfl rfl ?_
 intro K hK
 go_simp
 replace S := S.put 0 rfl 0 (.int .i64 x1)
 replace c := st c S (S.base_le 0 rfl)
 replace S := S.put 0 rfl 1 (.int .i64 x2)
 replace c := st c S (S.base_le 0 rfl)
 replace S := S.put 0 rfl 2 (.slice none 0 0)
 replace c := st c S (S.base_le 0 rfl)
 clear HF
 have HF : (((w3.setCell ⟨qb, 0, none⟩ (.int .i64 x1)).setCell ⟨qb, 1, none⟩ (.int .i64 x2)).setCell ⟨qb, 2, none⟩ (.slice none 0 0)).cell? ⟨w.heap.size, 0, none⟩ = some (.int .i64 x0) ∧ (((w3.setCell ⟨qb, 0, none⟩ (.int .i64 x1)).setCell ⟨qb, 1, none⟩ (.int .i64 x2)).setCell ⟨qb, 2, none⟩ (.slice none 0 0)).cell? ⟨w.heap.size, 1, none⟩ = some (.int .i64 x1) ∧ (((w3.setCell ⟨qb, 0, none⟩ (.int .i64 x1)).setCell ⟨qb, 1, none⟩ (.int .i64 x2)).setCell ⟨qb, 2, none⟩ (.slice none 0 0)).cell? ⟨w.heap.size, 2, none⟩ = some (.int .i64 x2) ∧ (((w3.setCell ⟨qb, 0, none⟩ (.int .i64 x1)).setCell ⟨qb, 1, none⟩ (.int .i64 x2)).setCell ⟨qb, 2, none⟩ (.slice none 0 0)).cell? ⟨w.heap.size, 3, none⟩ = some (.slice A n cc) := ⟨(S.at_ 2 rfl).cell 0, (S.at_ 2 rfl).cell 1, (S.at_ 2 rfl).cell 2, (S.at_ 2 rfl).cell 3⟩
 refine hK _ _ (fun _ => HF) ?_
 clear hK K
 try simp only [Act.put]
 generalize hw : ((w3.setCell ⟨qb, 0, none⟩ (.int .i64 x1)).setCell ⟨qb, 1, none⟩ (.int .i64 x2)).setCell ⟨qb, 2, none⟩ (.slice none 0 0) = w4 at *
 clear hw
 clear f0 f1 f2 f3 f4 f5
 refine wpAnyL_step (i := 9) (by kernel_rfl) rfl rfl ?_
 intro K hK
 go_simp
 refine hK _ _ (fun h => nomatch (show true = false from h)) ?_
 clear hK K
 try simp only [Act.put]
 refine wpAnyL_done (by kernel_rfl) ?_ _
 clear HF
 replace S := S.own0 (ow_nil_ents _)
 have S0 := jd S
 have B0 := jd c
 clear S c
 go_wp2
 go_loopw [6] (fun sv wr => ∃ (j : Nat) (le : List EntM) (ls : List MarkM) (G : Option Addr) (m gc : Nat) (As : Option Addr) (ns cs : Nat) (fe : List Nat), sv = .slice As ns cs ∧ le.length = j ∧ bookAt t ⟨x0, x1, x2, l⟩ j = ((⟨x1, x2, le⟩ : BookM), ls) ∧ Rd wr wr.heap.size [mrkD ls] [.slice As ns cs] ∧ Sep wr w.heap.size [.own [entD le] [.slice G m gc] fe, .blk qb #[.int .i64 x1, .int .i64 x2, .slice G m gc] 47, .blk (w.heap.size + 1) #[.int .i64 0, .int .i64 0, .slice none 0 0] 47, .blk w.heap.size #[.int .i64 x0, .int .i64 x1, .int .i64 x2, .slice A n cc] 45] ∧ Below w.heap.size w wr) (fun _ wr => match wr.cell? ⟨qb, 2, none⟩ with | some (.slice _ m _) => 21 - m | _ => 0)
 case atStart => exact ⟨0, [], l, none, 0, 0, A, n, cc, _, rfl, rfl, HB0.out, (H2.out.keep B0.out).up B0.out.size, S0.out, B0.out⟩
 case round =>
  obtain ⟨j, le, ls, G, m, gc, As, ns, cs, fe, rfl, hlj, hba, hrm, S, c⟩ := hrel
  clear S0 B0 HB0
  have hgood := bookAt_good (t := t) HOK.out j
  rw [hba] at hgood
  have HG := jd hgood
  have HBA := jd hba
  have HLJ := jd hlj
  have HRM := jd hrm
  have HM1 := jd ((S.at_ 1 rfl).cell 2)
  have hmj : m = j := by
   obtain ⟨_, _, _, e, hl, _⟩ := ((S.own_ 0 rfl).rd).ents
   injection e with e1 e2 e3
   omega
  subst hmj
  clear hgood hba hlj hrm
  have f6 := lk S 1 0 rfl rfl
  have f7 := lk S 1 1 rfl rfl
  have f8 := lk S 1 2 rfl rfl
  go_wp2_with fail
  refine (iNextFrom_any q9 Aa0 na0 ca0 Aa1 na1 ca1 Aa2 na2 ca2 Aa3 na3 ca3 t x1 x2 G m gc le As ns cs ls _ (HQB.out.keep c HQL.out) ((HH.out.keep c).up c.size) hs (S.own_ 0 rfl).rd HG.out.1 HRM.out (Nat.le_trans (seen_len HG.out.2) (by decide))).mono ?_
  rintro e w5 ⟨hcase, b2⟩
  rcases hcase with ⟨hn, rfl⟩ | ⟨E, y0, y1, Ay, ny, cy, Am, nm, cm, hn, rfl, o⟩
  · replace c := c.trans (b2.mono c.size)
    replace S := S.keep b2
    clear b2 HRM f6 f7 f8
    have hm21 : m ≤ 21 := by have h9 : le.length ≤ 20 := bookB_len HG.out.1; have := HLJ.out; omega
    have HV := jd (show bookInM t ⟨x0, x1, x2, l⟩ = (⟨x1, x2, le⟩ : BookM) from (bookIn_end HKK.out HOK.out hm21 (by rw [HBA.out]; exact hn)).trans (congrArg Prod.fst HBA.out))
    clear hm21 hn
    replace S := S.boxAt c.size (w5.heap.size) rfl #[.int .i64 0, .int .i64 0, .slice none 0 0] 47
    replace c := al c S
    have f9 := lk S 2 0 rfl rfl
    have f10 := lk S 2 1 rfl rfl
    have f11 := lk S 2 2 rfl rfl
    have f12 := lk S 3 0 rfl rfl
    have f13 := (S.at_ 3 rfl).free 0
    have f14 := lk S 3 1 rfl rfl
    have f15 := (S.at_ 3 rfl).free 1
    have f16 := lk S 3 2 rfl rfl
    have f17 := (S.at_ 3 rfl).free 2
    replace S := S.put 3 rfl 0 (.int .i64 x1)
    replace c := st c S (by omega)
    replace S := S.put 3 rfl 1 (.int .i64 x2)
    replace c := st c S (by omega)
    replace S := S.put 3 rfl 2 (.slice G m gc)
    replace c := st c S (by omega)
    replace S := S.pick 1 rfl
    have H := jd S.first
    have r0 := jd ((S.at_ 3 rfl).cell 0)
    have r1 := jd ((S.at_ 3 rfl).cell 1)
    have r2 := jd ((S.at_ 3 rfl).cell 2)
    have CC := jd c
    clear S c
    go_wp2
    exact bodyPost_ret (v := .agg #[.int .i64 x1, .int .i64 x2, .slice G m gc]) (by simp [results, Tryz.results88, go_sem, r0.out, r1.out, r2.out]) rfl ⟨_, _, _, _, _, rfl, by rw [HV.out]; exact has_mk H.out, CC.out⟩
  · obtain ⟨h1, h2, h3⟩ := next_step HBA.out hn
    have HB1 := jd h3
    rw [h1, h2] at o
    obtain ⟨hy0, hy1, o⟩ := has_split2 o
    have hy0 : y0 = x1 := hy0
    have hy1 : y1 = x2 := hy1
    subst hy0 hy1
    obtain ⟨fp_u, S'⟩ := S.has b2 o c.size
    replace c := c.trans (b2.mono c.size)
    clear S HRM hn h1 h2 h3 o b2 f6 f7 f8
    obtain ⟨fe2, fm2, S⟩ := Sep.cut2 S'
    clear S'
    replace S := S.boxAt c.size (w5.heap.size) rfl #[.int .i64 y0, .int .i64 y1, .slice Ay ny cy] 47
    replace c := al c S
    have f9 := lk S 0 0 rfl rfl
    have f10 := lk S 0 1 rfl rfl
    have f11 := lk S 0 2 rfl rfl
    have f12 := lk S 4 0 rfl rfl
    have f13 := (S.at_ 4 rfl).free 0
    have f14 := lk S 4 1 rfl rfl
    have f15 := (S.at_ 4 rfl).free 1
    have f16 := lk S 4 2 rfl rfl
    have f17 := (S.at_ 4 rfl).free 2
    replace S := S.put 4 rfl 0 (.int .i64 y0)
    replace c := st c S (S.base_le 4 rfl)
    replace S := S.put 4 rfl 1 (.int .i64 y1)
    replace c := st c S (S.base_le 4 rfl)
    replace S := S.put 4 rfl 2 (.slice Ay ny cy)
    replace c := st c S (S.base_le 4 rfl)
    replace S := S.sub (.cons _ (.cons_cons _ (.cons_cons _ (.cons _ (.cons_cons _ (.cons_cons _ (.cons_cons _ (List.nil_sublist _))))))))
    have HRM2 := jd ((S.own_ 0 rfl).rd)
    replace S := S.tail
    have HM2 := jd ((S.at_ 1 rfl).cell 2)
    have HNY := jd (show ny = m + 1 by
     obtain ⟨_, _, _, e, hl, _⟩ := ((S.own_ 0 rfl).rd).ents
     injection e with e1 e2 e3
     rw [List.length_append] at hl
     have := HLJ.out
     simp only [List.length_cons, List.length_nil] at hl
     omega)
    have HM20 := jd (show m ≤ 20 by have h9 : le.length ≤ 20 := bookB_len HG.out.1; have := HLJ.out; omega)
    have SS := jd S
    have CC := jd c
    clear S c
    go_wp2
    go_roundw
    case rel => exact ⟨m + 1, _, _, Ay, ny, cy, Am, nm, cm, _, rfl, by rw [List.length_append, HLJ.out]; rfl, HB1.out, HRM2.out, SS.out, CC.out⟩
    case measure =>
     rw [HM1.out]
     first | rw [HM2.out] | simp only [HM2.out]
     have := HNY.out
     have := HM20.out
     show 21 - ny < 21 - m
     omega
set_option maxHeartbeats 12800000 in
theorem iBookIn_any (Aa0 : Option Addr) (na0 ca0 : Nat) (Aa1 : Option Addr) (na1 ca1 : Nat) (Aa2 : Option Addr) (na2 ca2 : Nat) (Aa3 : Option Addr) (na3 ca3 : Nat) (t : TwoM) (x0 x1 x2 : Int) (A : Option Addr) (n cc : Nat) (l : List MarkM) (w : World) (h : Rd w w.heap.size t.cells [.slice Aa0 na0 ca0, .slice Aa1 na1 ca1, .slice Aa2 na2 ca2, .slice Aa3 na3 ca3]) (hs : t.sz ≤ 1048576) (h2 : Rd w w.heap.size [mrkD l] [.slice A n cc]) (hs2 : mrkSz l ≤ 1048576) :
    Calls Tryz.prog 34 #[.agg #[.slice Aa0 na0 ca0, .slice Aa1 na1 ca1, .slice Aa2 na2 ca2, .slice Aa3 na3 ca3], .agg #[.int .i64 x0, .int .i64 x1, .int .i64 x2, .slice A n cc]] w (MadeBk1 w (bookInM t ⟨x0, x1, x2, l⟩)) := by
 have HH := jd h
 have H2 := jd h2
 clear h h2
 have S := Sep.nil w w.heap.size
 have c := Below.refl w.heap.size w
 replace S := S.boxAt c.size (w.heap.size) rfl #[.slice Aa0 na0 ca0, .slice Aa1 na1 ca1, .slice Aa2 na2 ca2, .slice Aa3 na3 ca3] 35
 replace c := al c S
 replace S := S.boxAt c.size (w.heap.size + 1) (by simp) #[.int .i64 x0, .int .i64 x1, .int .i64 x2, .slice A n cc] 45
 replace c := al c S
 replace S := S.boxAt c.size (w.heap.size + 1 + 1) (by simp) #[.int .i64 0, .int .i64 0, .slice none 0 0] 47
 replace c := al c S
 go_enter Tryz.func34, Tryz.ntmps34
 have f0 := lk S 2 0 rfl rfl
 have f1 := lk S 2 1 rfl rfl
 have f2 := lk S 2 2 rfl rfl
 have f3 := lk S 2 3 rfl rfl
 go_wp2_with fail
 generalize ((w.alloc (.cells #[.slice Aa0 na0 ca0, .slice Aa1 na1 ca1, .slice Aa2 na2 ca2, .slice Aa3 na3 ca3] 35)).alloc (.cells #[.int .i64 x0, .int .i64 x1, .int .i64 x2, .slice A n cc] 45)).alloc (.cells #[.int .i64 0, .int .i64 0, .slice none 0 0] 47) = w1 at *
 refine (iKeptOk_any Aa0 na0 ca0 Aa1 na1 ca1 Aa2 na2 ca2 Aa3 na3 ca3 t _ _ (HH.out.keep c) c.size (by omega)).mono ?_
 rintro e w2 ⟨rfl, b2⟩
 replace c := c.trans (b2.mono c.size)
 replace S := S.keep b2
 clear b2 f0 f1 f2 f3
 cases hk : keptB t
 case false =>
  have HV := jd (show bookInM t ⟨x0, x1, x2, l⟩ = book0 by unfold bookInM; exact if_neg (by rw [hk]; rintro ⟨h9, _⟩; cases h9))
  have f4 := lk S 0 0 rfl rfl
  have f5 := (S.at_ 0 rfl).free 0
  have f6 := lk S 0 1 rfl rfl
  have f7 := (S.at_ 0 rfl).free 1
  have f8 := lk S 0 2 rfl rfl
  have f9 := (S.at_ 0 rfl).free 2
  replace S := S.put 0 rfl 0 (.int .i64 0)
  replace c := st c S (by omega)
  replace S := S.put 0 rfl 1 (.int .i64 0)
  replace c := st c S (by omega)
  replace S := S.put 0 rfl 2 (.slice none 0 0)
  replace c := st c S (by omega)
  have r0 := jd ((S.at_ 0 rfl).cell 0)
  have r1 := jd ((S.at_ 0 rfl).cell 1)
  have r2 := jd ((S.at_ 0 rfl).cell 2)
  have CC := jd c
  clear S c
  go_wp2
  exact bodyPost_ret (v := .agg #[.int .i64 0, .int .i64 0, .slice none 0 0]) (by simp [results, Tryz.results34, go_sem, r0.out, r1.out, r2.out]) rfl ⟨_, _, _, _, _, rfl, by rw [HV.out]; exact has_book0 _ _, CC.out⟩
 case true =>
  have f4 := lk S 1 0 rfl rfl
  have f5 := lk S 1 1 rfl rfl
  have f6 := lk S 1 2 rfl rfl
  have f7 := lk S 1 3 rfl rfl
  go_wp2_with fail
  refine (iHeadOk_any x0 x1 x2 A n cc _ l _ (H2.out.keep c) c.size (by omega)).mono ?_
  rintro e w3 ⟨rfl, b2⟩
  replace c := c.trans (b2.mono c.size)
  replace S := S.keep b2
  clear b2 f4 f5 f6 f7
  cases hok : headOkB ⟨x0, x1, x2, l⟩
  case false =>
   have HV := jd (show bookInM t ⟨x0, x1, x2, l⟩ = book0 by unfold bookInM; exact if_neg (by rw [hok]; rintro ⟨_, h9⟩; cases h9))
   have f8 := lk S 0 0 rfl rfl
   have f9 := (S.at_ 0 rfl).free 0
   have f10 := lk S 0 1 rfl rfl
   have f11 := (S.at_ 0 rfl).free 1
   have f12 := lk S 0 2 rfl rfl
   have f13 := (S.at_ 0 rfl).free 2
   replace S := S.put 0 rfl 0 (.int .i64 0)
   replace c := st c S (by omega)
   replace S := S.put 0 rfl 1 (.int .i64 0)
   replace c := st c S (by omega)
   replace S := S.put 0 rfl 2 (.slice none 0 0)
   replace c := st c S (by omega)
   have r0 := jd ((S.at_ 0 rfl).cell 0)
   have r1 := jd ((S.at_ 0 rfl).cell 1)
   have r2 := jd ((S.at_ 0 rfl).cell 2)
   have CC := jd c
   clear S c
   go_wp2
   exact bodyPost_ret (v := .agg #[.int .i64 0, .int .i64 0, .slice none 0 0]) (by simp [results, Tryz.results34, go_sem, r0.out, r1.out, r2.out]) rfl ⟨_, _, _, _, _, rfl, by rw [HV.out]; exact has_book0 _ _, CC.out⟩
  case true =>
   have HKK := jd hk
   have HOK := jd hok
   clear hk hok
   go_wp2_with fail
   refine wp_region_L (fun v => v.cell? ⟨w.heap.size, 0, none⟩ = some (.slice Aa0 na0 ca0) ∧ v.cell? ⟨w.heap.size, 1, none⟩ = some (.slice Aa1 na1 ca1) ∧ v.cell? ⟨w.heap.size, 2, none⟩ = some (.slice Aa2 na2 ca2) ∧ v.cell? ⟨w.heap.size, 3, none⟩ = some (.slice Aa3 na3 ca3) ∧ v.cell? ⟨w.heap.size + 1, 0, none⟩ = some (.int .i64 x0) ∧ v.cell? ⟨w.heap.size + 1, 1, none⟩ = some (.int .i64 x1) ∧ v.cell? ⟨w.heap.size + 1, 2, none⟩ = some (.int .i64 x2) ∧ v.cell? ⟨w.heap.size + 1, 3, none⟩ = some (.slice A n cc)) 4 (by kernel_rfl) ?_
   replace S := S.keep ((Below.refl _ _).drew)
   replace c := c.drew
   generalize w3.drew = w4 at *
   have HF : w4.cell? ⟨w.heap.size, 0, none⟩ = some (.slice Aa0 na0 ca0) ∧ w4.cell? ⟨w.heap.size, 1, none⟩ = some (.slice Aa1 na1 ca1) ∧ w4.cell? ⟨w.heap.size, 2, none⟩ = some (.slice Aa2 na2 ca2) ∧ w4.cell? ⟨w.heap.size, 3, none⟩ = some (.slice Aa3 na3 ca3) ∧ w4.cell? ⟨w.heap.size + 1, 0, none⟩ = some (.int .i64 x0) ∧ w4.cell? ⟨w.heap.size + 1, 1, none⟩ = some (.int .i64 x1) ∧ w4.cell? ⟨w.heap.size + 1, 2, none⟩ = some (.int .i64 x2) ∧ w4.cell? ⟨w.heap.size + 1, 3, none⟩ = some (.slice A n cc) := ⟨(S.at_ 2 rfl).cell 0, (S.at_ 2 rfl).cell 1, (S.at_ 2 rfl).cell 2, (S.at_ 2 rfl).cell 3, (S.at_ 1 rfl).cell 0, (S.at_ 1 rfl).cell 1, (S.at_ 1 rfl).cell 2, (S.at_ 1 rfl).cell 3⟩
   refine tk 0 (v := ?_) rfl rfl HF (.inl ⟨by rfl, ?_⟩) ?_
   rotate_left 1
   · (rintro v ⟨a0, a1, a2, a3, a4, a5, a6, a7⟩; go_simp; try with_reducible rfl)
   try simp only [Act.put]
   refine tk 2 (v := ?_) rfl rfl HF (.inl ⟨by rfl, ?_⟩) ?_
   rotate_left 1
   · (rintro v ⟨a0, a1, a2, a3, a4, a5, a6, a7⟩; go_simp; try with_reducible rfl)
   try simp only [Act.put]
   refine wpAnyL_step (i := 1) (by kernel_rfl) rfl rfl ?_
   intro K hK
   go_simp
   refine (iReaderOf_any Aa0 na0 ca0 Aa1 na1 ca1 Aa2 na2 ca2 Aa3 na3 ca3 _).mono ?_
   rintro e w9 ⟨rfl, rfl⟩
   replace S := S.boxAt c.size (w4.heap.size) rfl #[.slice Aa0 na0 ca0, .slice Aa1 na1 ca1, .slice Aa2 na2 ca2, .slice Aa3 na3 ca3] 35
   replace c := al c S
   clear HF
   have HF : (w4.alloc (.cells #[.slice Aa0 na0 ca0, .slice Aa1 na1 ca1, .slice Aa2 na2 ca2, .slice Aa3 na3 ca3] 35)).cell? ⟨w.heap.size, 0, none⟩ = some (.slice Aa0 na0 ca0) ∧ (w4.alloc (.cells #[.slice Aa0 na0 ca0, .slice Aa1 na1 ca1, .slice Aa2 na2 ca2, .slice Aa3 na3 ca3] 35)).cell? ⟨w.heap.size, 1, none⟩ = some (.slice Aa1 na1 ca1) ∧ (w4.alloc (.cells #[.slice Aa0 na0 ca0, .slice Aa1 na1 ca1, .slice Aa2 na2 ca2, .slice Aa3 na3 ca3] 35)).cell? ⟨w.heap.size, 2, none⟩ = some (.slice Aa2 na2 ca2) ∧ (w4.alloc (.cells #[.slice Aa0 na0 ca0, .slice Aa1 na1 ca1, .slice Aa2 na2 ca2, .slice Aa3 na3 ca3] 35)).cell? ⟨w.heap.size, 3, none⟩ = some (.slice Aa3 na3 ca3) ∧ (w4.alloc (.cells #[.slice Aa0 na0 ca0, .slice Aa1 na1 ca1, .slice Aa2 na2 ca2, .slice Aa3 na3 ca3] 35)).cell? ⟨w.heap.size + 1, 0, none⟩ = some (.int .i64 x0) ∧ (w4.alloc (.cells #[.slice Aa0 na0 ca0, .slice Aa1 na1 ca1, .slice Aa2 na2 ca2, .slice Aa3 na3 ca3] 35)).cell? ⟨w.heap.size + 1, 1, none⟩ = some (.int .i64 x1) ∧ (w4.alloc (.cells #[.slice Aa0 na0 ca0, .slice Aa1 na1 ca1, .slice Aa2 na2 ca2, .slice Aa3 na3 ca3] 35)).cell? ⟨w.heap.size + 1, 2, none⟩ = some (.int .i64 x2) ∧ (w4.alloc (.cells #[.slice Aa0 na0 ca0, .slice Aa1 na1 ca1, .slice Aa2 na2 ca2, .slice Aa3 na3 ca3] 35)).cell? ⟨w.heap.size + 1, 3, none⟩ = some (.slice A n cc) := ⟨(S.at_ 3 rfl).cell 0, (S.at_ 3 rfl).cell 1, (S.at_ 3 rfl).cell 2, (S.at_ 3 rfl).cell 3, (S.at_ 2 rfl).cell 0, (S.at_ 2 rfl).cell 1, (S.at_ 2 rfl).cell 2, (S.at_ 2 rfl).cell 3⟩
   refine hK _ _ (fun _ => HF) ?_
   clear hK K
   try simp only [Act.put]
   generalize hw : w4.alloc (.cells #[.slice Aa0 na0 ca0, .slice Aa1 na1 ca1, .slice Aa2 na2 ca2, .slice Aa3 na3 ca3] 35) = w5 at *
   clear hw
   obtain ⟨q9, hq9⟩ : ∃ q, q = w4.heap.size := ⟨_, rfl⟩
   rw [← hq9] at S ⊢
   clear hq9
   have hqb : Blk w5 q9 #[.slice Aa0 na0 ca0, .slice Aa1 na1 ca1, .slice Aa2 na2 ca2, .slice Aa3 na3 ca3] 35 := S.at_ 0 rfl
   refine wpAnyL_step (i := 3) (by kernel_rfl) rfl rfl ?_
   intro K hK
   go_simp
   refine (iBookFrom_any q9 Aa0 na0 ca0 Aa1 na1 ca1 Aa2 na2 ca2 Aa3 na3 ca3 t x0 x1 x2 A n cc l _ hqb ((HH.out.keep c).up c.size) hs ((H2.out.keep c).up c.size) HKK.out HOK.out).mono ?_
   rintro e w6 ⟨y0, y1, Ay, ny, cy, rfl, o, b⟩
   obtain ⟨fp_y, S'⟩ := S.has b o c.size
   replace c := c.trans (b.mono c.size)
   clear S; have S := S'; clear S' o b
   clear hqb
   clear HF
   have HF : w6.cell? ⟨w.heap.size, 0, none⟩ = some (.slice Aa0 na0 ca0) ∧ w6.cell? ⟨w.heap.size, 1, none⟩ = some (.slice Aa1 na1 ca1) ∧ w6.cell? ⟨w.heap.size, 2, none⟩ = some (.slice Aa2 na2 ca2) ∧ w6.cell? ⟨w.heap.size, 3, none⟩ = some (.slice Aa3 na3 ca3) ∧ w6.cell? ⟨w.heap.size + 1, 0, none⟩ = some (.int .i64 x0) ∧ w6.cell? ⟨w.heap.size + 1, 1, none⟩ = some (.int .i64 x1) ∧ w6.cell? ⟨w.heap.size + 1, 2, none⟩ = some (.int .i64 x2) ∧ w6.cell? ⟨w.heap.size + 1, 3, none⟩ = some (.slice A n cc) := ⟨(S.at_ 4 rfl).cell 0, (S.at_ 4 rfl).cell 1, (S.at_ 4 rfl).cell 2, (S.at_ 4 rfl).cell 3, (S.at_ 3 rfl).cell 0, (S.at_ 3 rfl).cell 1, (S.at_ 3 rfl).cell 2, (S.at_ 3 rfl).cell 3⟩
   refine hK _ _ (fun _ => HF) ?_
   clear hK K
   try simp only [Act.put]
   have f8 := lk S 2 0 rfl rfl
   have f9 := (S.at_ 2 rfl).free 0
   have f10 := lk S 2 1 rfl rfl
   have f11 := (S.at_ 2 rfl).free 1
   have f12 := lk S 2 2 rfl rfl
   have f13 := (S.at_ 2 rfl).free 2
   refine wpAnyL_step (i := 4) (by kernel_rfl) rfl rfl ?_
   intro K hK
   go_simp
   refine hK _ _ (fun h => nomatch (show true = false from h)) ?_
   clear hK K
   try simp only [Act.put]
   refine wpAnyL_done (by kernel_rfl) ?_ _
   replace S := S.put 2 rfl 0 (.int .i64 y0)
   replace c := st c S (by omega)
   replace S := S.put 2 rfl 1 (.int .i64 y1)
   replace c := st c S (by omega)
   replace S := S.put 2 rfl 2 (.slice Ay ny cy)
   replace c := st c S (by omega)
   clear HF
   replace S := S.pick 0 rfl
   have H := jd S.first
   have r0 := jd ((S.at_ 2 rfl).cell 0)
   have r1 := jd ((S.at_ 2 rfl).cell 1)
   have r2 := jd ((S.at_ 2 rfl).cell 2)
   have CC := jd c
   clear S c
   go_wp2
   exact bodyPost_ret (v := .agg #[.int .i64 y0, .int .i64 y1, .slice Ay ny cy]) (by simp [results, Tryz.results34, go_sem, r0.out, r1.out, r2.out]) rfl ⟨_, _, _, _, _, rfl, H.out, CC.out⟩
theorem has_recZ (w : World) (base : Nat) : Has w base (zeroT.cells ++ (headZ.cells ++ BookM.cells book0)) [.slice none 0 0, .slice none 0 0, .slice none 0 0, .slice none 0 0, .int .i64 0, .int .i64 0, .int .i64 0, .slice none 0 0, .int .i64 0, .int .i64 0, .slice none 0 0] := by
 obtain ⟨f1, o1, n1, g1⟩ := has_zeroT w base
 have o2 : Ow w (headZ.cells ++ BookM.cells book0) [.int .i64 0, .int .i64 0, .int .i64 0, .slice none 0 0, .int .i64 0, .int .i64 0, .slice none 0 0] ([] ++ []) :=
  .int (n := 0) (.int (n := 0) (.int (n := 0) ((ow_nil_mrksH w).append (.int (n := 0) (.int (n := 0) (ow_nil_ents w))))))
 exact ⟨f1 ++ ([] ++ []), o1.append o2, by simpa using n1, by simpa using g1⟩
theorem sep_rec {w : World} {base : Nat} {is : List Item} {d1 : List Dat} {v1 : List Value} {z0 z1 z2 : Int} {lz : List MarkM} {bk : BookM} {v2 v3 : Value} {f1 f2 f3 : List Nat} (h : Sep w base (.own [entD bk.ents] [v3] f3 :: .own [mrkD lz] [v2] f2 :: .own d1 v1 f1 :: is)) :
    Has w base (d1 ++ (HeadM.cells ⟨z0, z1, z2, lz⟩ ++ bk.cells)) (v1 ++ ([.int .i64 z0, .int .i64 z1, .int .i64 z2, v2] ++ [.int .i64 bk.base, .int .i64 bk.tm, v3])) := by
 have o3 : Ow w bk.cells [.int .i64 bk.base, .int .i64 bk.tm, v3] f3 := .int (n := bk.base) (.int (n := bk.tm) (h.own_ 0 rfl))
 have o2 : Ow w (HeadM.cells ⟨z0, z1, z2, lz⟩) [.int .i64 z0, .int .i64 z1, .int .i64 z2, v2] f2 := .int (n := z0) (.int (n := z1) (.int (n := z2) (h.own_ 1 rfl)))
 have o1 := h.own_ 2 rfl
 have hall : foots (.own [entD bk.ents] [v3] f3 :: .own [mrkD lz] [v2] f2 :: .own d1 v1 f1 :: is) = f3 ++ (f2 ++ (f1 ++ foots is)) := rfl
 have hnd := h.nodup
 rw [hall] at hnd
 refine ⟨f1 ++ (f2 ++ f3), o1.append (o2.append o3), ?_, fun p hp => h.ge p ?_⟩
 · have hp : (f3 ++ (f2 ++ (f1 ++ foots is))).Perm ((f1 ++ (f2 ++ f3)) ++ foots is) := by
     have q1 : (f3 ++ (f2 ++ (f1 ++ foots is))).Perm ((f2 ++ (f1 ++ foots is)) ++ f3) := List.perm_append_comm
     have q2 : ((f2 ++ (f1 ++ foots is)) ++ f3).Perm (((f1 ++ foots is) ++ f2) ++ f3) := List.Perm.append_right _ List.perm_append_comm
     have q3 : (((f1 ++ foots is) ++ f2) ++ f3).Perm ((f1 ++ (f2 ++ f3)) ++ foots is) := by
      rw [List.append_assoc, List.append_assoc, List.append_assoc]
      exact List.Perm.append_left _ List.perm_append_comm
     exact q1.trans (q2.trans q3)
   exact (List.nodup_append.1 (hp.nodup_iff.1 hnd)).1
 · rw [hall]
   simp only [List.mem_append] at hp ⊢
   rcases hp with hp | hp | hp
   · exact .inr (.inr (.inl hp))
   · exact .inr (.inl hp)
   · exact .inl hp
theorem head_num {h : HeadM} (ho : headOkB h = true) : 0 ≤ h.num ∧ h.num ≤ 2000 := by
 have := (headOkB_iff h).1 ho
 omega
theorem headIn_good {t : TwoM} {h : HeadM} (hh : headInM t = (h, true)) : keptB t = true ∧ headOkB h = true := by
 unfold headInM at hh
 split at hh
 next hk => exact ⟨hk, by have h9 := headTo_ok t 2 (by rw [hh]); rw [hh] at h9; exact h9⟩
 next => cases congrArg Prod.snd hh
theorem ent_range {e : EntM} (h : entB e = true) : 1 ≤ e.idx ∧ e.idx ≤ 2000 := ((entB_iff e).1 h).1
theorem rowsTo_le (h : HeadM) (l : List EntM) : ∀ j, j ≤ l.length → ∀ r ∈ rowsTo h l j, r.length ≤ 13
 | 0, _ => fun r hr => by
  have hr' : r ∈ (List.replicate 22 ([] : List Int)).set (h.num % 2).toNat (headRowM h) := hr
  rcases List.mem_or_eq_of_mem_set hr' with h9 | h9
  · rw [List.eq_of_mem_replicate h9]; exact Nat.zero_le _
  · rw [h9]; exact headRowM_len h
 | j + 1, hj => fun r hr => by
  rw [rowsTo_step h (show j < l.length by omega)] at hr
  rcases List.mem_or_eq_of_mem_set hr with h9 | h9
  · exact rowsTo_le h l j (by omega) r h9
  · rw [h9]; exact Nat.le_trans (slotRowM_len _) (by decide)
theorem rowsOf_le (h : HeadM) (b : BookM) : ∀ k (hk : k < (rowsOf h b).length), (rowsOf h b)[k].length ≤ 13 := fun k hk => by
 have := rowsTo_le h b.ents b.ents.length (Nat.le_refl _) (rowsOf h b)[k] (by rw [rowsTo_all]; exact List.getElem_mem hk)
 exact this
theorem ents_cells {w : World} {B : Nat} {l : List EntM} {lb lo n c : Nat} (h : Rd w B [entD l] [.slice (some ⟨lb, lo, none⟩) n c]) {j : Nat} (hj : j < l.length) : w.cell? ⟨lb, lo + j * 9, none⟩ = some (.int .i64 l[j].idx) ∧ w.cell? ⟨lb, lo + j * 9 + 1, none⟩ = some (.int .i64 l[j].tm) ∧ w.cell? ⟨lb, lo + j * 9 + 2, none⟩ = some (.int .i64 l[j].cl) ∧ w.cell? ⟨lb, lo + j * 9 + 3, none⟩ = some (.int .i64 l[j].sq) ∧ w.cell? ⟨lb, lo + j * 9 + 4, none⟩ = some (.int .i64 l[j].kd) ∧ w.cell? ⟨lb, lo + j * 9 + 5, none⟩ = some (.int .i64 l[j].oa) ∧ w.cell? ⟨lb, lo + j * 9 + 6, none⟩ = some (.int .i64 l[j].ob) ∧ w.cell? ⟨lb, lo + j * 9 + 7, none⟩ = some (.int .i64 l[j].oc) ∧ w.cell? ⟨lb, lo + j * 9 + 8, none⟩ = some (.int .i64 l[j].od) := by
 obtain ⟨_, _, _, e, hl, _, _, hel⟩ := h.ents
 injection e with e1 e2 e3
 subst e1 e2 e3
 obtain ⟨b, off, e, _, hc⟩ := hel (by omega)
 injection e with e
 injection e with e4 e5
 subst e4 e5
 exact hc j hj
theorem ents_is {w : World} {B : Nat} {l : List EntM} {lb lo n c : Nat} (h : Rd w B [entD l] [.slice (some ⟨lb, lo, none⟩) n c]) {j : Nat} (hj : j < l.length) {e0 e1 e2 e3 e4 e5 e6 e7 e8 : Int} (hE : l[j] = ⟨e0, e1, e2, e3, e4, e5, e6, e7, e8⟩) : w.cell? ⟨lb, lo + j * 9, none⟩ = some (.int .i64 e0) ∧ w.cell? ⟨lb, lo + j * 9 + 1, none⟩ = some (.int .i64 e1) ∧ w.cell? ⟨lb, lo + j * 9 + 2, none⟩ = some (.int .i64 e2) ∧ w.cell? ⟨lb, lo + j * 9 + 3, none⟩ = some (.int .i64 e3) ∧ w.cell? ⟨lb, lo + j * 9 + 4, none⟩ = some (.int .i64 e4) ∧ w.cell? ⟨lb, lo + j * 9 + 5, none⟩ = some (.int .i64 e5) ∧ w.cell? ⟨lb, lo + j * 9 + 6, none⟩ = some (.int .i64 e6) ∧ w.cell? ⟨lb, lo + j * 9 + 7, none⟩ = some (.int .i64 e7) ∧ w.cell? ⟨lb, lo + j * 9 + 8, none⟩ = some (.int .i64 e8) := by
 have h9 := ents_cells h hj
 rw [hE] at h9
 exact h9
section
variable {P : Program} {ops : Array Oper} {Q : Exit → Act → World → Prop} {md : Region.Mode} {F : World → Prop} {last : Nat}
end
end Go.Proofs.YtmjifhjhialcbaaGreat
