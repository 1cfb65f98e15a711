/- Parts of my texts: RecI2 RecI3 RecIC OpenG OpenR OpenMark. -/
import Derived.Test.YtmjifhjhialcbaaGreatK42
import Derived.ChangeArms
import Derived.ProofKit
namespace Go.Proofs.YtmjifhjhialcbaaGreat
set_option maxRecDepth 100000
set_option linter.unusedVariables false
open Go.RowKit
theorem has_split2 {w : World} {base : Nat} {b : BookM} {y0 y1 : Int} {v v2 : Value} {d2 : Dat} (h : Has w base (b.cells ++ [d2]) ([.int .i64 y0, .int .i64 y1, v] ++ [v2])) : y0 = b.base ∧ y1 = b.tm ∧ Has w base ([entD b.ents] ++ [d2]) ([v] ++ [v2]) := by
 obtain ⟨fp, o, h1, h2⟩ := h
 have o' : Ow w (.int b.base :: .int b.tm :: ([entD b.ents] ++ [d2])) [.int .i64 y0, .int .i64 y1, v, v2] fp := o
 obtain ⟨e0, o1⟩ := Ow.int_cons o'
 obtain ⟨e1, o2⟩ := Ow.int_cons o1
 injection e0 with _ e0
 injection e1 with _ e1
 exact ⟨e0, e1, fp, o2, h1, h2⟩
theorem Sep.cut2 {w : World} {base : Nat} {is : List Item} {d1 d2 : Dat} {v1 v2 : Value} {fp : List Nat} (h : Sep w base (.own ([d1] ++ [d2]) ([v1] ++ [v2]) fp :: is)) : ∃ f1 f2, Sep w base (.own [d2] [v2] f2 :: .own [d1] [v1] f1 :: is) := by
 obtain ⟨u1, u2, f1, f2, e, S⟩ := h.split
 have l1 : u1.length = 1 := (S.own_ 1 rfl).len
 have l2 : u2.length = 1 := (S.own_ 0 rfl).len
 match u1, l1, u2, l2, e with
 | [a], _, [b], _, e =>
  injection e with e1 e2
  injection e2 with e3 _
  subst e1 e3
  exact ⟨f1, f2, S⟩
set_option maxHeartbeats 12800000 in
theorem iBookFrom_any (q9 : Nat) (Aa0 : Option Addr) (na0 ca0 : Nat) (Aa1 : Option Addr) (na1 ca1 : Nat) (Aa2 : Option Addr) (na2 ca2 : Nat) (Aa3 : Option Addr) (na3 ca3 : Nat) (t : TwoM) (x0 x1 x2 : Int) (A : Option Addr) (n cc : Nat) (l : List MarkM) (w : World) (hq : Blk w q9 #[.slice Aa0 na0 ca0, .slice Aa1 na1 ca1, .slice Aa2 na2 ca2, .slice Aa3 na3 ca3] 35) (h : Rd w w.heap.size t.cells [.slice Aa0 na0 ca0, .slice Aa1 na1 ca1, .slice Aa2 na2 ca2, .slice Aa3 na3 ca3]) (hs : t.sz ≤ 1048576) (h2 : Rd w w.heap.size [mrkD l] [.slice A n cc]) (hk : keptB t = true) (hok : headOkB ⟨x0, x1, x2, l⟩ = true) :
    Calls Tryz.prog 88 #[.func (.func 148) #[] #[.pointer (some ⟨q9, 0, none⟩)], .agg #[.int .i64 x0, .int .i64 x1, .int .i64 x2, .slice A n cc]] w (MadeBk1 w (bookInM t ⟨x0, x1, x2, l⟩)) := by
 have HH := jd h
 have H2 := jd h2
 have HQB := jd hq
 have HQL := jd hq.lt
 have HKK := jd hk
 have HOK := jd hok
 clear h h2 hq hk hok
 have S := Sep.nil w w.heap.size
 have c := Below.refl w.heap.size w
 replace S := S.boxAt c.size (w.heap.size) rfl #[.int .i64 x0, .int .i64 x1, .int .i64 x2, .slice A n cc] 45
 replace c := al c S
 replace S := S.boxAt c.size (w.heap.size + 1) (by simp) #[.int .i64 0, .int .i64 0, .slice none 0 0] 47
 replace c := al c S
 go_enter Tryz.func88, Tryz.ntmps88
 go_wp2_with fail
 generalize (w.alloc (.cells #[.int .i64 x0, .int .i64 x1, .int .i64 x2, .slice A n cc] 45)).alloc (.cells #[.int .i64 0, .int .i64 0, .slice none 0 0] 47) = w1 at *
 refine wp_region_L (fun v => v.cell? ⟨w.heap.size, 0, none⟩ = some (.int .i64 x0) ∧ v.cell? ⟨w.heap.size, 1, none⟩ = some (.int .i64 x1) ∧ v.cell? ⟨w.heap.size, 2, none⟩ = some (.int .i64 x2) ∧ v.cell? ⟨w.heap.size, 3, none⟩ = some (.slice A n cc)) 9 (by kernel_rfl) ?_
 replace S := S.keep ((Below.refl _ _).drew)
 replace c := c.drew
 generalize w1.drew = w2 at *
 have HF : w2.cell? ⟨w.heap.size, 0, none⟩ = some (.int .i64 x0) ∧ w2.cell? ⟨w.heap.size, 1, none⟩ = some (.int .i64 x1) ∧ w2.cell? ⟨w.heap.size, 2, none⟩ = some (.int .i64 x2) ∧ w2.cell? ⟨w.heap.size, 3, none⟩ = some (.slice A n cc) := ⟨(S.at_ 1 rfl).cell 0, (S.at_ 1 rfl).cell 1, (S.at_ 1 rfl).cell 2, (S.at_ 1 rfl).cell 3⟩
 refine tk 0 (v := ?_) rfl rfl HF (.inl ⟨by rfl, ?_⟩) ?_
 rotate_left 1
 · (rintro v ⟨a0, a1, a2, a3⟩; go_simp; try with_reducible rfl)
 try simp only [Act.put]
 refine tk 1 (v := ?_) rfl rfl HF (.inl ⟨by rfl, ?_⟩) ?_
 rotate_left 1
 · (rintro v ⟨a0, a1, a2, a3⟩; go_simp; try with_reducible rfl)
 try simp only [Act.put]
 refine tk 2 (v := ?_) rfl rfl HF (.inl ⟨by rfl, ?_⟩) ?_
 rotate_left 1
 · (rintro v ⟨a0, a1, a2, a3⟩; go_simp; try with_reducible rfl)
 try simp only [Act.put]
 refine tk 3 (v := ?_) rfl rfl HF (.inl ⟨by rfl, ?_⟩) ?_
 rotate_left 1
 · (rintro v ⟨a0, a1, a2, a3⟩; go_simp; try with_reducible rfl)
 try simp only [Act.put]
 refine tk 4 (v := ?_) rfl rfl HF (.inl ⟨by rfl, ?_⟩) ?_
 rotate_left 1
 · (rintro v ⟨a0, a1, a2, a3⟩; go_simp; try with_reducible rfl)
 try simp only [Act.put]
 refine tk 5 (v := ?_) rfl rfl HF (.inl ⟨by rfl, ?_⟩) ?_
 rotate_left 1
 · (rintro v ⟨a0, a1, a2, a3⟩; go_simp; try with_reducible rfl)
 try simp only [Act.put]
 refine tk 6 (v := ?_) rfl rfl HF (.inl ⟨by rfl, ?_⟩) ?_
 rotate_left 1
 · (rintro v ⟨a0, a1, a2, a3⟩; go_simp; try with_reducible rfl)
 try simp only [Act.put]
 have HB0 := jd (show bookAt t ⟨x0, x1, x2, l⟩ 0 = ((⟨x1, x2, []⟩ : BookM), l) from rfl)
 refine wpAnyL_step (i := 7) (by kernel_rfl) rfl rfl ?_
 intro K hK
 go_simp
 replace S := S.boxAt c.size (w2.heap.size) rfl #[.int .i64 0, .int .i64 0, .slice none 0 0] 47
 replace c := al c S
 clear HF
 have HF : (w2.alloc (.cells #[.int .i64 0, .int .i64 0, .slice none 0 0] 47)).cell? ⟨w.heap.size, 0, none⟩ = some (.int .i64 x0) ∧ (w2.alloc (.cells #[.int .i64 0, .int .i64 0, .slice none 0 0] 47)).cell? ⟨w.heap.size, 1, none⟩ = some (.int .i64 x1) ∧ (w2.alloc (.cells #[.int .i64 0, .int .i64 0, .slice none 0 0] 47)).cell? ⟨w.heap.size, 2, none⟩ = some (.int .i64 x2) ∧ (w2.alloc (.cells #[.int .i64 0, .int .i64 0, .slice none 0 0] 47)).cell? ⟨w.heap.size, 3, none⟩ = some (.slice A n cc) := ⟨(S.at_ 2 rfl).cell 0, (S.at_ 2 rfl).cell 1, (S.at_ 2 rfl).cell 2, (S.at_ 2 rfl).cell 3⟩
 refine hK _ _ (fun _ => HF) ?_
 clear hK K
 try simp only [Act.put]
 generalize hw : w2.alloc (.cells #[.int .i64 0, .int .i64 0, .slice none 0 0] 47) = w3 at *
 clear hw
 obtain ⟨qb, hqb⟩ : ∃ q, q = w2.heap.size := ⟨_, rfl⟩
 rw [← hqb] at S ⊢
 clear hqb
 have f0 := lk S 0 0 rfl rfl
 have f1 := (S.at_ 0 rfl).free 0
 have f2 := lk S 0 1 rfl rfl
 have f3 := (S.at_ 0 rfl).free 1
 have f4 := lk S 0 2 rfl rfl
 have f5 := (S.at_ 0 rfl).free 2
 refine wpAnyL_step (i := 8) (by kernel_rfl) rfl rfl ?_
 intro K hK
 go_simp
 replace S := S.put 0 rfl 0 (.int .i64 x1)
 replace c := st c S (S.base_le 0 rfl)
 replace S := S.put 0 rfl 1 (.int .i64 x2)
 replace c := st c S (S.base_le 0 rfl)
 replace S := S.put 0 rfl 2 (.slice none 0 0)
 replace c := st c S (S.base_le 0 rfl)
 clear HF
 have HF : (((w3.setCell ⟨qb, 0, none⟩ (.int .i64 x1)).setCell ⟨qb, 1, none⟩ (.int .i64 x2)).setCell ⟨qb, 2, none⟩ (.slice none 0 0)).cell? ⟨w.heap.size, 0, none⟩ = some (.int .i64 x0) ∧ (((w3.setCell ⟨qb, 0, none⟩ (.int .i64 x1)).setCell ⟨qb, 1, none⟩ (.int .i64 x2)).setCell ⟨qb, 2, none⟩ (.slice none 0 0)).cell? ⟨w.heap.size, 1, none⟩ = some (.int .i64 x1) ∧ (((w3.setCell ⟨qb, 0, none⟩ (.int .i64 x1)).setCell ⟨qb, 1, none⟩ (.int .i64 x2)).setCell ⟨qb, 2, none⟩ (.slice none 0 0)).cell? ⟨w.heap.size, 2, none⟩ = some (.int .i64 x2) ∧ (((w3.setCell ⟨qb, 0, none⟩ (.int .i64 x1)).setCell ⟨qb, 1, none⟩ (.int .i64 x2)).setCell ⟨qb, 2, none⟩ (.slice none 0 0)).cell? ⟨w.heap.size, 3, none⟩ = some (.slice A n cc) := ⟨(S.at_ 2 rfl).cell 0, (S.at_ 2 rfl).cell 1, (S.at_ 2 rfl).cell 2, (S.at_ 2 rfl).cell 3⟩
 refine hK _ _ (fun _ => HF) ?_
 clear hK K
 try simp only [Act.put]
 generalize hw : ((w3.setCell ⟨qb, 0, none⟩ (.int .i64 x1)).setCell ⟨qb, 1, none⟩ (.int .i64 x2)).setCell ⟨qb, 2, none⟩ (.slice none 0 0) = w4 at *
 clear hw
 clear f0 f1 f2 f3 f4 f5
 refine wpAnyL_step (i := 9) (by kernel_rfl) rfl rfl ?_
 intro K hK
 go_simp
 refine hK _ _ (fun h => nomatch (show true = false from h)) ?_
 clear hK K
 try simp only [Act.put]
 refine wpAnyL_done (by kernel_rfl) ?_ _
 clear HF
 replace S := S.own0 (ow_nil_ents _)
 have S0 := jd S
 have B0 := jd c
 clear S c
 go_wp2
 go_loopw [6] (fun sv wr => ∃ (j : Nat) (le : List EntM) (ls : List MarkM) (G : Option Addr) (m gc : Nat) (As : Option Addr) (ns cs : Nat) (fe : List Nat), sv = .slice As ns cs ∧ le.length = j ∧ bookAt t ⟨x0, x1, x2, l⟩ j = ((⟨x1, x2, le⟩ : BookM), ls) ∧ Rd wr wr.heap.size [mrkD ls] [.slice As ns cs] ∧ Sep wr w.heap.size [.own [entD le] [.slice G m gc] fe, .blk qb #[.int .i64 x1, .int .i64 x2, .slice G m gc] 47, .blk (w.heap.size + 1) #[.int .i64 0, .int .i64 0, .slice none 0 0] 47, .blk w.heap.size #[.int .i64 x0, .int .i64 x1, .int .i64 x2, .slice A n cc] 45] ∧ Below w.heap.size w wr) (fun _ wr => match wr.cell? ⟨qb, 2, none⟩ with | some (.slice _ m _) => 21 - m | _ => 0)
 case atStart => exact ⟨0, [], l, none, 0, 0, A, n, cc, _, rfl, rfl, HB0.out, (H2.out.keep B0.out).up B0.out.size, S0.out, B0.out⟩
 case round =>
  obtain ⟨j, le, ls, G, m, gc, As, ns, cs, fe, rfl, hlj, hba, hrm, S, c⟩ := hrel
  clear S0 B0 HB0
  have hgood := bookAt_good (t := t) HOK.out j
  rw [hba] at hgood
  have HG := jd hgood
  have HBA := jd hba
  have HLJ := jd hlj
  have HRM := jd hrm
  have HM1 := jd ((S.at_ 1 rfl).cell 2)
  have hmj : m = j := by
   obtain ⟨_, _, _, e, hl, _⟩ := ((S.own_ 0 rfl).rd).ents
   injection e with e1 e2 e3
   omega
  subst hmj
  clear hgood hba hlj hrm
  have f6 := lk S 1 0 rfl rfl
  have f7 := lk S 1 1 rfl rfl
  have f8 := lk S 1 2 rfl rfl
  go_wp2_with fail
  refine (iNextFrom_any q9 Aa0 na0 ca0 Aa1 na1 ca1 Aa2 na2 ca2 Aa3 na3 ca3 t x1 x2 G m gc le As ns cs ls _ (HQB.out.keep c HQL.out) ((HH.out.keep c).up c.size) hs (S.own_ 0 rfl).rd HG.out.1 HRM.out (Nat.le_trans (seen_len HG.out.2) (by decide))).mono ?_
  rintro e w5 ⟨hcase, b2⟩
  rcases hcase with ⟨hn, rfl⟩ | ⟨E, y0, y1, Ay, ny, cy, Am, nm, cm, hn, rfl, o⟩
  · replace c := c.trans (b2.mono c.size)
    replace S := S.keep b2
    clear b2 HRM f6 f7 f8
    have hm21 : m ≤ 21 := by have h9 : le.length ≤ 20 := bookB_len HG.out.1; have := HLJ.out; omega
    have HV := jd (show bookInM t ⟨x0, x1, x2, l⟩ = (⟨x1, x2, le⟩ : BookM) from (bookIn_end HKK.out HOK.out hm21 (by rw [HBA.out]; exact hn)).trans (congrArg Prod.fst HBA.out))
    clear hm21 hn
    replace S := S.boxAt c.size (w5.heap.size) rfl #[.int .i64 0, .int .i64 0, .slice none 0 0] 47
    replace c := al c S
    have f9 := lk S 2 0 rfl rfl
    have f10 := lk S 2 1 rfl rfl
    have f11 := lk S 2 2 rfl rfl
    have f12 := lk S 3 0 rfl rfl
    have f13 := (S.at_ 3 rfl).free 0
    have f14 := lk S 3 1 rfl rfl
    have f15 := (S.at_ 3 rfl).free 1
    have f16 := lk S 3 2 rfl rfl
    have f17 := (S.at_ 3 rfl).free 2
    replace S := S.put 3 rfl 0 (.int .i64 x1)
    replace c := st c S (by omega)
    replace S := S.put 3 rfl 1 (.int .i64 x2)
    replace c := st c S (by omega)
    replace S := S.put 3 rfl 2 (.slice G m gc)
    replace c := st c S (by omega)
    replace S := S.pick 1 rfl
    have H := jd S.first
    have r0 := jd ((S.at_ 3 rfl).cell 0)
    have r1 := jd ((S.at_ 3 rfl).cell 1)
    have r2 := jd ((S.at_ 3 rfl).cell 2)
    have CC := jd c
    clear S c
    go_wp2
    exact bodyPost_ret (v := .agg #[.int .i64 x1, .int .i64 x2, .slice G m gc]) (by simp [results, Tryz.results88, go_sem, r0.out, r1.out, r2.out]) rfl ⟨_, _, _, _, _, rfl, by rw [HV.out]; exact has_mk H.out, CC.out⟩
  · obtain ⟨h1, h2, h3⟩ := next_step HBA.out hn
    have HB1 := jd h3
    rw [h1, h2] at o
    obtain ⟨hy0, hy1, o⟩ := has_split2 o
    have hy0 : y0 = x1 := hy0
    have hy1 : y1 = x2 := hy1
    subst hy0 hy1
    obtain ⟨fp_u, S'⟩ := S.has b2 o c.size
    replace c := c.trans (b2.mono c.size)
    clear S HRM hn h1 h2 h3 o b2 f6 f7 f8
    obtain ⟨fe2, fm2, S⟩ := Sep.cut2 S'
    clear S'
    replace S := S.boxAt c.size (w5.heap.size) rfl #[.int .i64 y0, .int .i64 y1, .slice Ay ny cy] 47
    replace c := al c S
    have f9 := lk S 0 0 rfl rfl
    have f10 := lk S 0 1 rfl rfl
    have f11 := lk S 0 2 rfl rfl
    have f12 := lk S 4 0 rfl rfl
    have f13 := (S.at_ 4 rfl).free 0
    have f14 := lk S 4 1 rfl rfl
    have f15 := (S.at_ 4 rfl).free 1
    have f16 := lk S 4 2 rfl rfl
    have f17 := (S.at_ 4 rfl).free 2
    replace S := S.put 4 rfl 0 (.int .i64 y0)
    replace c := st c S (S.base_le 4 rfl)
    replace S := S.put 4 rfl 1 (.int .i64 y1)
    replace c := st c S (S.base_le 4 rfl)
    replace S := S.put 4 rfl 2 (.slice Ay ny cy)
    replace c := st c S (S.base_le 4 rfl)
    replace S := S.sub (.cons _ (.cons_cons _ (.cons_cons _ (.cons _ (.cons_cons _ (.cons_cons _ (.cons_cons _ (List.nil_sublist _))))))))
    have HRM2 := jd ((S.own_ 0 rfl).rd)
    replace S := S.tail
    have HM2 := jd ((S.at_ 1 rfl).cell 2)
    have HNY := jd (show ny = m + 1 by
     obtain ⟨_, _, _, e, hl, _⟩ := ((S.own_ 0 rfl).rd).ents
     injection e with e1 e2 e3
     rw [List.length_append] at hl
     have := HLJ.out
     simp only [List.length_cons, List.length_nil] at hl
     omega)
    have HM20 := jd (show m ≤ 20 by have h9 : le.length ≤ 20 := bookB_len HG.out.1; have := HLJ.out; omega)
    have SS := jd S
    have CC := jd c
    clear S c
    go_wp2
    go_roundw
    case rel => exact ⟨m + 1, _, _, Ay, ny, cy, Am, nm, cm, _, rfl, by rw [List.length_append, HLJ.out]; rfl, HB1.out, HRM2.out, SS.out, CC.out⟩
    case measure =>
     rw [HM1.out]
     first | rw [HM2.out] | simp only [HM2.out]
     have := HNY.out
     have := HM20.out
     show 21 - ny < 21 - m
     omega
set_option maxHeartbeats 12800000 in
theorem iBookIn_any (Aa0 : Option Addr) (na0 ca0 : Nat) (Aa1 : Option Addr) (na1 ca1 : Nat) (Aa2 : Option Addr) (na2 ca2 : Nat) (Aa3 : Option Addr) (na3 ca3 : Nat) (t : TwoM) (x0 x1 x2 : Int) (A : Option Addr) (n cc : Nat) (l : List MarkM) (w : World) (h : Rd w w.heap.size t.cells [.slice Aa0 na0 ca0, .slice Aa1 na1 ca1, .slice Aa2 na2 ca2, .slice Aa3 na3 ca3]) (hs : t.sz ≤ 1048576) (h2 : Rd w w.heap.size [mrkD l] [.slice A n cc]) (hs2 : mrkSz l ≤ 1048576) :
    Calls Tryz.prog 34 #[.agg #[.slice Aa0 na0 ca0, .slice Aa1 na1 ca1, .slice Aa2 na2 ca2, .slice Aa3 na3 ca3], .agg #[.int .i64 x0, .int .i64 x1, .int .i64 x2, .slice A n cc]] w (MadeBk1 w (bookInM t ⟨x0, x1, x2, l⟩)) := by
 have HH := jd h
 have H2 := jd h2
 clear h h2
 have S := Sep.nil w w.heap.size
 have c := Below.refl w.heap.size w
 replace S := S.boxAt c.size (w.heap.size) rfl #[.slice Aa0 na0 ca0, .slice Aa1 na1 ca1, .slice Aa2 na2 ca2, .slice Aa3 na3 ca3] 35
 replace c := al c S
 replace S := S.boxAt c.size (w.heap.size + 1) (by simp) #[.int .i64 x0, .int .i64 x1, .int .i64 x2, .slice A n cc] 45
 replace c := al c S
 replace S := S.boxAt c.size (w.heap.size + 1 + 1) (by simp) #[.int .i64 0, .int .i64 0, .slice none 0 0] 47
 replace c := al c S
 go_enter Tryz.func34, Tryz.ntmps34
 have f0 := lk S 2 0 rfl rfl
 have f1 := lk S 2 1 rfl rfl
 have f2 := lk S 2 2 rfl rfl
 have f3 := lk S 2 3 rfl rfl
 go_wp2_with fail
 generalize ((w.alloc (.cells #[.slice Aa0 na0 ca0, .slice Aa1 na1 ca1, .slice Aa2 na2 ca2, .slice Aa3 na3 ca3] 35)).alloc (.cells #[.int .i64 x0, .int .i64 x1, .int .i64 x2, .slice A n cc] 45)).alloc (.cells #[.int .i64 0, .int .i64 0, .slice none 0 0] 47) = w1 at *
 refine (iKeptOk_any Aa0 na0 ca0 Aa1 na1 ca1 Aa2 na2 ca2 Aa3 na3 ca3 t _ _ (HH.out.keep c) c.size (by omega)).mono ?_
 rintro e w2 ⟨rfl, b2⟩
 replace c := c.trans (b2.mono c.size)
 replace S := S.keep b2
 clear b2 f0 f1 f2 f3
 cases hk : keptB t
 case false =>
  have HV := jd (show bookInM t ⟨x0, x1, x2, l⟩ = book0 by unfold bookInM; exact if_neg (by rw [hk]; rintro ⟨h9, _⟩; cases h9))
  have f4 := lk S 0 0 rfl rfl
  have f5 := (S.at_ 0 rfl).free 0
  have f6 := lk S 0 1 rfl rfl
  have f7 := (S.at_ 0 rfl).free 1
  have f8 := lk S 0 2 rfl rfl
  have f9 := (S.at_ 0 rfl).free 2
  replace S := S.put 0 rfl 0 (.int .i64 0)
  replace c := st c S (by omega)
  replace S := S.put 0 rfl 1 (.int .i64 0)
  replace c := st c S (by omega)
  replace S := S.put 0 rfl 2 (.slice none 0 0)
  replace c := st c S (by omega)
  have r0 := jd ((S.at_ 0 rfl).cell 0)
  have r1 := jd ((S.at_ 0 rfl).cell 1)
  have r2 := jd ((S.at_ 0 rfl).cell 2)
  have CC := jd c
  clear S c
  go_wp2
  exact bodyPost_ret (v := .agg #[.int .i64 0, .int .i64 0, .slice none 0 0]) (by simp [results, Tryz.results34, go_sem, r0.out, r1.out, r2.out]) rfl ⟨_, _, _, _, _, rfl, by rw [HV.out]; exact has_book0 _ _, CC.out⟩
 case true =>
  have f4 := lk S 1 0 rfl rfl
  have f5 := lk S 1 1 rfl rfl
  have f6 := lk S 1 2 rfl rfl
  have f7 := lk S 1 3 rfl rfl
  go_wp2_with fail
  refine (iHeadOk_any x0 x1 x2 A n cc _ l _ (H2.out.keep c) c.size (by omega)).mono ?_
  rintro e w3 ⟨rfl, b2⟩
  replace c := c.trans (b2.mono c.size)
  replace S := S.keep b2
  clear b2 f4 f5 f6 f7
  cases hok : headOkB ⟨x0, x1, x2, l⟩
  case false =>
   have HV := jd (show bookInM t ⟨x0, x1, x2, l⟩ = book0 by unfold bookInM; exact if_neg (by rw [hok]; rintro ⟨_, h9⟩; cases h9))
   have f8 := lk S 0 0 rfl rfl
   have f9 := (S.at_ 0 rfl).free 0
   have f10 := lk S 0 1 rfl rfl
   have f11 := (S.at_ 0 rfl).free 1
   have f12 := lk S 0 2 rfl rfl
   have f13 := (S.at_ 0 rfl).free 2
   replace S := S.put 0 rfl 0 (.int .i64 0)
   replace c := st c S (by omega)
   replace S := S.put 0 rfl 1 (.int .i64 0)
   replace c := st c S (by omega)
   replace S := S.put 0 rfl 2 (.slice none 0 0)
   replace c := st c S (by omega)
   have r0 := jd ((S.at_ 0 rfl).cell 0)
   have r1 := jd ((S.at_ 0 rfl).cell 1)
   have r2 := jd ((S.at_ 0 rfl).cell 2)
   have CC := jd c
   clear S c
   go_wp2
   exact bodyPost_ret (v := .agg #[.int .i64 0, .int .i64 0, .slice none 0 0]) (by simp [results, Tryz.results34, go_sem, r0.out, r1.out, r2.out]) rfl ⟨_, _, _, _, _, rfl, by rw [HV.out]; exact has_book0 _ _, CC.out⟩
  case true =>
   have HKK := jd hk
   have HOK := jd hok
   clear hk hok
   go_wp2_with fail
   refine wp_region_L (fun v => v.cell? ⟨w.heap.size, 0, none⟩ = some (.slice Aa0 na0 ca0) ∧ v.cell? ⟨w.heap.size, 1, none⟩ = some (.slice Aa1 na1 ca1) ∧ v.cell? ⟨w.heap.size, 2, none⟩ = some (.slice Aa2 na2 ca2) ∧ v.cell? ⟨w.heap.size, 3, none⟩ = some (.slice Aa3 na3 ca3) ∧ v.cell? ⟨w.heap.size + 1, 0, none⟩ = some (.int .i64 x0) ∧ v.cell? ⟨w.heap.size + 1, 1, none⟩ = some (.int .i64 x1) ∧ v.cell? ⟨w.heap.size + 1, 2, none⟩ = some (.int .i64 x2) ∧ v.cell? ⟨w.heap.size + 1, 3, none⟩ = some (.slice A n cc)) 4 (by kernel_rfl) ?_
   replace S := S.keep ((Below.refl _ _).drew)
   replace c := c.drew
   generalize w3.drew = w4 at *
   have HF : w4.cell? ⟨w.heap.size, 0, none⟩ = some (.slice Aa0 na0 ca0) ∧ w4.cell? ⟨w.heap.size, 1, none⟩ = some (.slice Aa1 na1 ca1) ∧ w4.cell? ⟨w.heap.size, 2, none⟩ = some (.slice Aa2 na2 ca2) ∧ w4.cell? ⟨w.heap.size, 3, none⟩ = some (.slice Aa3 na3 ca3) ∧ w4.cell? ⟨w.heap.size + 1, 0, none⟩ = some (.int .i64 x0) ∧ w4.cell? ⟨w.heap.size + 1, 1, none⟩ = some (.int .i64 x1) ∧ w4.cell? ⟨w.heap.size + 1, 2, none⟩ = some (.int .i64 x2) ∧ w4.cell? ⟨w.heap.size + 1, 3, none⟩ = some (.slice A n cc) := ⟨(S.at_ 2 rfl).cell 0, (S.at_ 2 rfl).cell 1, (S.at_ 2 rfl).cell 2, (S.at_ 2 rfl).cell 3, (S.at_ 1 rfl).cell 0, (S.at_ 1 rfl).cell 1, (S.at_ 1 rfl).cell 2, (S.at_ 1 rfl).cell 3⟩
   refine tk 0 (v := ?_) rfl rfl HF (.inl ⟨by rfl, ?_⟩) ?_
   rotate_left 1
   · (rintro v ⟨a0, a1, a2, a3, a4, a5, a6, a7⟩; go_simp; try with_reducible rfl)
   try simp only [Act.put]
   refine tk 2 (v := ?_) rfl rfl HF (.inl ⟨by rfl, ?_⟩) ?_
   rotate_left 1
   · (rintro v ⟨a0, a1, a2, a3, a4, a5, a6, a7⟩; go_simp; try with_reducible rfl)
   try simp only [Act.put]
   refine wpAnyL_step (i := 1) (by kernel_rfl) rfl rfl ?_
   intro K hK
   go_simp
   refine (iReaderOf_any Aa0 na0 ca0 Aa1 na1 ca1 Aa2 na2 ca2 Aa3 na3 ca3 _).mono ?_
   rintro e w9 ⟨rfl, rfl⟩
   replace S := S.boxAt c.size (w4.heap.size) rfl #[.slice Aa0 na0 ca0, .slice Aa1 na1 ca1, .slice Aa2 na2 ca2, .slice Aa3 na3 ca3] 35
   replace c := al c S
   clear HF
   have HF : (w4.alloc (.cells #[.slice Aa0 na0 ca0, .slice Aa1 na1 ca1, .slice Aa2 na2 ca2, .slice Aa3 na3 ca3] 35)).cell? ⟨w.heap.size, 0, none⟩ = some (.slice Aa0 na0 ca0) ∧ (w4.alloc (.cells #[.slice Aa0 na0 ca0, .slice Aa1 na1 ca1, .slice Aa2 na2 ca2, .slice Aa3 na3 ca3] 35)).cell? ⟨w.heap.size, 1, none⟩ = some (.slice Aa1 na1 ca1) ∧ (w4.alloc (.cells #[.slice Aa0 na0 ca0, .slice Aa1 na1 ca1, .slice Aa2 na2 ca2, .slice Aa3 na3 ca3] 35)).cell? ⟨w.heap.size, 2, none⟩ = some (.slice Aa2 na2 ca2) ∧ (w4.alloc (.cells #[.slice Aa0 na0 ca0, .slice Aa1 na1 ca1, .slice Aa2 na2 ca2, .slice Aa3 na3 ca3] 35)).cell? ⟨w.heap.size, 3, none⟩ = some (.slice Aa3 na3 ca3) ∧ (w4.alloc (.cells #[.slice Aa0 na0 ca0, .slice Aa1 na1 ca1, .slice Aa2 na2 ca2, .slice Aa3 na3 ca3] 35)).cell? ⟨w.heap.size + 1, 0, none⟩ = some (.int .i64 x0) ∧ (w4.alloc (.cells #[.slice Aa0 na0 ca0, .slice Aa1 na1 ca1, .slice Aa2 na2 ca2, .slice Aa3 na3 ca3] 35)).cell? ⟨w.heap.size + 1, 1, none⟩ = some (.int .i64 x1) ∧ (w4.alloc (.cells #[.slice Aa0 na0 ca0, .slice Aa1 na1 ca1, .slice Aa2 na2 ca2, .slice Aa3 na3 ca3] 35)).cell? ⟨w.heap.size + 1, 2, none⟩ = some (.int .i64 x2) ∧ (w4.alloc (.cells #[.slice Aa0 na0 ca0, .slice Aa1 na1 ca1, .slice Aa2 na2 ca2, .slice Aa3 na3 ca3] 35)).cell? ⟨w.heap.size + 1, 3, none⟩ = some (.slice A n cc) := ⟨(S.at_ 3 rfl).cell 0, (S.at_ 3 rfl).cell 1, (S.at_ 3 rfl).cell 2, (S.at_ 3 rfl).cell 3, (S.at_ 2 rfl).cell 0, (S.at_ 2 rfl).cell 1, (S.at_ 2 rfl).cell 2, (S.at_ 2 rfl).cell 3⟩
   refine hK _ _ (fun _ => HF) ?_
   clear hK K
   try simp only [Act.put]
   generalize hw : w4.alloc (.cells #[.slice Aa0 na0 ca0, .slice Aa1 na1 ca1, .slice Aa2 na2 ca2, .slice Aa3 na3 ca3] 35) = w5 at *
   clear hw
   obtain ⟨q9, hq9⟩ : ∃ q, q = w4.heap.size := ⟨_, rfl⟩
   rw [← hq9] at S ⊢
   clear hq9
   have hqb : Blk w5 q9 #[.slice Aa0 na0 ca0, .slice Aa1 na1 ca1, .slice Aa2 na2 ca2, .slice Aa3 na3 ca3] 35 := S.at_ 0 rfl
   refine wpAnyL_step (i := 3) (by kernel_rfl) rfl rfl ?_
   intro K hK
   go_simp
   refine (iBookFrom_any q9 Aa0 na0 ca0 Aa1 na1 ca1 Aa2 na2 ca2 Aa3 na3 ca3 t x0 x1 x2 A n cc l _ hqb ((HH.out.keep c).up c.size) hs ((H2.out.keep c).up c.size) HKK.out HOK.out).mono ?_
   rintro e w6 ⟨y0, y1, Ay, ny, cy, rfl, o, b⟩
   obtain ⟨fp_y, S'⟩ := S.has b o c.size
   replace c := c.trans (b.mono c.size)
   clear S; have S := S'; clear S' o b
   clear hqb
   clear HF
   have HF : w6.cell? ⟨w.heap.size, 0, none⟩ = some (.slice Aa0 na0 ca0) ∧ w6.cell? ⟨w.heap.size, 1, none⟩ = some (.slice Aa1 na1 ca1) ∧ w6.cell? ⟨w.heap.size, 2, none⟩ = some (.slice Aa2 na2 ca2) ∧ w6.cell? ⟨w.heap.size, 3, none⟩ = some (.slice Aa3 na3 ca3) ∧ w6.cell? ⟨w.heap.size + 1, 0, none⟩ = some (.int .i64 x0) ∧ w6.cell? ⟨w.heap.size + 1, 1, none⟩ = some (.int .i64 x1) ∧ w6.cell? ⟨w.heap.size + 1, 2, none⟩ = some (.int .i64 x2) ∧ w6.cell? ⟨w.heap.size + 1, 3, none⟩ = some (.slice A n cc) := ⟨(S.at_ 4 rfl).cell 0, (S.at_ 4 rfl).cell 1, (S.at_ 4 rfl).cell 2, (S.at_ 4 rfl).cell 3, (S.at_ 3 rfl).cell 0, (S.at_ 3 rfl).cell 1, (S.at_ 3 rfl).cell 2, (S.at_ 3 rfl).cell 3⟩
   refine hK _ _ (fun _ => HF) ?_
   clear hK K
   try simp only [Act.put]
   have f8 := lk S 2 0 rfl rfl
   have f9 := (S.at_ 2 rfl).free 0
   have f10 := lk S 2 1 rfl rfl
   have f11 := (S.at_ 2 rfl).free 1
   have f12 := lk S 2 2 rfl rfl
   have f13 := (S.at_ 2 rfl).free 2
   refine wpAnyL_step (i := 4) (by kernel_rfl) rfl rfl ?_
   intro K hK
   go_simp
   refine hK _ _ (fun h => nomatch (show true = false from h)) ?_
   clear hK K
   try simp only [Act.put]
   refine wpAnyL_done (by kernel_rfl) ?_ _
   replace S := S.put 2 rfl 0 (.int .i64 y0)
   replace c := st c S (by omega)
   replace S := S.put 2 rfl 1 (.int .i64 y1)
   replace c := st c S (by omega)
   replace S := S.put 2 rfl 2 (.slice Ay ny cy)
   replace c := st c S (by omega)
   clear HF
   replace S := S.pick 0 rfl
   have H := jd S.first
   have r0 := jd ((S.at_ 2 rfl).cell 0)
   have r1 := jd ((S.at_ 2 rfl).cell 1)
   have r2 := jd ((S.at_ 2 rfl).cell 2)
   have CC := jd c
   clear S c
   go_wp2
   exact bodyPost_ret (v := .agg #[.int .i64 y0, .int .i64 y1, .slice Ay ny cy]) (by simp [results, Tryz.results34, go_sem, r0.out, r1.out, r2.out]) rfl ⟨_, _, _, _, _, rfl, H.out, CC.out⟩
def MendAt (j : Nat) (w wr : World) (u : TwoM) (vs : List Value) (bx : List Item) : Prop := (j = 0 ∧ Rd w w.heap.size u.cells vs ∧ Sep wr w.heap.size bx) ∨ ∃ fp, Sep wr w.heap.size (.own u.cells vs fp :: bx)
theorem MendAt.rd {j : Nat} {w wr : World} {u : TwoM} {vs : List Value} {bx : List Item} (h : MendAt j w wr u vs bx) (c : Below w.heap.size w wr) : Rd wr wr.heap.size u.cells vs := by
 rcases h with ⟨_, h, _⟩ | ⟨_, S⟩
 · exact (h.keep c).up c.size
 · exact (S.own_ 0 rfl).rd
theorem MendAt.own {j : Nat} {w wr : World} {u : TwoM} {vs : List Value} {bx : List Item} (h : MendAt j w wr u vs bx) (hj : 0 < j) : ∃ fp, Sep wr w.heap.size (.own u.cells vs fp :: bx) := by
 rcases h with ⟨h0, _, _⟩ | h
 · omega
 · exact h
theorem iBookIn_c : CBookIn 34 := fun Aa0 na0 ca0 Aa1 na1 ca1 Aa2 na2 ca2 Aa3 na3 ca3 t x0 x1 x2 A n cc l w h hs h2 hs2 => iBookIn_any Aa0 na0 ca0 Aa1 na1 ca1 Aa2 na2 ca2 Aa3 na3 ca3 t x0 x1 x2 A n cc l w h hs h2 hs2
def Opens (P : Program) (t : TypeId) (k : Nat) (S : List Dat → Prop) : Prop :=
 P.cellsOf t = k ∧ ∀ (H : Type) (enc : TypeId × Value → H) (w : World) (base : Nat) (spare : Nat → Bool) (held : Bool) (fuel : Nat) (cs : List Value) (x : DataW H × List MemPlace),
  DataW.trod enc P w base spare held fuel t cs = some x → cs.length = k ∧ ∃ ds, S ds ∧ Rd w w.heap.size ds cs
def OpensF (P : Program) (fs : List Field) (off k : Nat) (S : List Dat → Prop) : Prop :=
 ∀ (H : Type) (enc : TypeId × Value → H) (w : World) (base : Nat) (spare : Nat → Bool) (held : Bool) (fuel : Nat) (cs : List Value),
  off + k ≤ cs.length → (∀ f ∈ fs, ∃ x, DataW.trod enc P w base spare held fuel f.type ((cs.drop f.offset).take (P.cellsOf f.type)) = some x) →
  ∃ ds, S ds ∧ Rd w w.heap.size ds ((cs.drop off).take k)
section
variable {P : Program} {t : TypeId}
theorem opens_int (ht : P.underlying t = some (.int .i64)) (hc : P.cellsOf t = 1) : Opens P t 1 (fun ds => ∃ n : Int, ds = [.int n] ∧ (Lit.int .i64 n).wf = true) := by
 refine ⟨hc, fun H enc w base spare held fuel cs x h => ?_⟩
 obtain ⟨n, rfl, _, hw⟩ := DataW.trod_int ht h
 exact ⟨rfl, _, ⟨n, rfl, hw⟩, .int .nil⟩
theorem cells_at {w : World} {base k : Nat} {a : Addr} {ci : List Value} (h : w.cells? base a k = some ci) : ci.length = k ∧ ∀ i, i < k → w.cell? (a.add i) = ci[i]? := by
 unfold World.cells? at h
 split at h
 · refine ⟨by simpa using mapM_some_length h, fun i hi => mapM_some_get h i i (by simp [hi])⟩
 · cases h
theorem add_add (a : Addr) (m n : Nat) (h : a.spot = none) : (a.add m).add n = ⟨a.block, a.off + (m + n), none⟩ := by
 obtain ⟨b, o, s⟩ := a
 subst h
 unfold Addr.add
 by_cases hm : m = 0
 · subst hm
   by_cases hn : n = 0
   · subst hn; rfl
   · simp [hn]
 · by_cases hn : n = 0
   · subst hn; simp [hm]
   · simp [hm, hn, Nat.add_assoc]
theorem spot_none {w : World} {a : Addr} {v : Value} (h : w.cell? a = some v) : a.spot = none := by
 unfold World.cell? at h
 split at h
 · cases hs : a.spot with
   | none => rfl
   | some s => simp [hs] at h
 · cases h
theorem opens_slice {α : Type} {f : α → List Dat} {e e' : TypeId} {k : Nat} (ht : P.underlying t = some (.slice e)) (he : Opens P e k (fun ds => ∃ x, ds = f x)) (k0 : 0 < k) (hk : ∀ x, (f x).length = k) (hc : P.cellsOf t = 1) :
    Opens P t 1 (fun ds => ∃ l : List α, ds = [lst e' k f l]) := by
 refine ⟨hc, fun H enc w base spare held fuel cs x h => ?_⟩
 rcases DataW.trod_slice ht h with ⟨rfl, _⟩ | ⟨a, len, cap, elems, rest, n, _, rfl, _, _, hl, hm, hel, hall, _⟩
 · exact ⟨rfl, _, ⟨[], rfl⟩, .row (n := 0) (us := []) (by simp) (Nat.le_refl _) (Nat.zero_le _) (fun h => absurd h (by omega)) .nil .nil⟩
 · rw [he.1] at hall
   have each : ∀ i, i < len → ∃ (y : α) (ci : List Value), ci.length = k ∧ Rd w w.heap.size (f y) ci ∧ ∀ q, q < k → w.cell? ((a.add (i * k)).add q) = ci[q]? := by
    intro i hi
    have h1 := hall i hi
    rw [List.getElem?_eq_getElem (by omega), Option.bind_eq_some_iff] at h1
    obtain ⟨ci, h2, h3⟩ := h1
    obtain ⟨hlen, ds, ⟨y, rfl⟩, hr⟩ := he.2 H enc w base spare held n ci _ h3
    exact ⟨y, ci, hlen, hr, (cells_at h2).2⟩
   have gath : ∀ m, m ≤ len → ∃ (l : List α) (us : List Value), l.length = m ∧ us.length = m * k ∧ Rd w w.heap.size (l.flatMap f) us ∧ ∀ i, i < m → ∀ q, q < k → w.cell? ((a.add (i * k)).add q) = us[i * k + q]? := by
    intro m
    induction m with
    | zero => intro _; exact ⟨[], [], rfl, by simp, .nil, fun i hi => absurd hi (by omega)⟩
    | succ m ih =>
     intro hm
     obtain ⟨l, us, h1, h2, h3, h4⟩ := ih (by omega)
     obtain ⟨y, ci, h5, h6, h7⟩ := each m (by omega)
     refine ⟨l ++ [y], us ++ ci, by simp [h1], by rw [List.length_append, h2, h5, Nat.add_mul, Nat.one_mul], ?_, fun i hi q hq => ?_⟩
     · have := h3.append h6
       simpa using this
     · by_cases him : i < m
       · rw [h4 i him q hq, List.getElem?_append_left]
         have : (i + 1) * k ≤ m * k := Nat.mul_le_mul_right k (by omega)
         rw [Nat.add_mul, Nat.one_mul] at this
         omega
       · have : i = m := by omega
         subst this
         rw [h7 q hq, List.getElem?_append_right (by omega), h2, Nat.add_sub_cancel_left]
   obtain ⟨l, us, h1, h2, h3, h4⟩ := gath len (Nat.le_refl _)
   refine ⟨rfl, _, ⟨l, rfl⟩, .row (us := us) (by rw [flatMap_len hk, h1]) hl hm (fun hn => ?_) h3 .nil⟩
   have h5 := h4 0 hn 0 k0
   have hus : 0 * k + 0 < us.length := by rw [h2, Nat.zero_mul]; exact Nat.mul_pos hn k0
   rw [List.getElem?_eq_getElem hus] at h5
   have hs : a.spot = none := by
    have := spot_none h5
    simpa [Addr.add] using this
   refine ⟨a.block, a.off, ?_, ?_, fun j hj => ?_⟩
   · obtain ⟨b, o, s⟩ := a
     simp only at hs
     subst hs
     rfl
   · have := World.block_lt_of_cell? w _ h5
     simpa [Addr.add] using this
   · have hdm : j / k < len := Nat.div_lt_of_lt_mul (by rw [Nat.mul_comm]; exact hj)
     have h6 := h4 (j / k) hdm (j % k) (Nat.mod_lt _ k0)
     rw [add_add _ _ _ hs] at h6
     have e : j / k * k + j % k = j := by rw [Nat.mul_comm]; exact Nat.div_add_mod j k
     rw [e] at h6
     exact h6
theorem opensF_nil (off : Nat) : OpensF P [] off 0 (fun ds => ds = []) := fun H enc w base spare held fuel cs _ _ => ⟨[], rfl, by simp; exact .nil⟩
theorem opensF_cons {f : Field} {fs : List Field} {off k1 k2 : Nat} {S1 S2 : List Dat → Prop} (ho : f.offset = off) (h1 : Opens P f.type k1 S1) (h2 : OpensF P fs (off + k1) k2 S2) :
    OpensF P (f :: fs) off (k1 + k2) (fun ds => ∃ d1 d2, S1 d1 ∧ S2 d2 ∧ ds = d1 ++ d2) := by
 intro H enc w base spare held fuel cs hl hall
 obtain ⟨x, hx⟩ := hall f (by simp)
 rw [h1.1, ho] at hx
 obtain ⟨_, d1, s1, r1⟩ := h1.2 H enc w base spare held fuel _ x hx
 obtain ⟨d2, s2, r2⟩ := h2 H enc w base spare held fuel cs (by omega) (fun g hg => hall g (by simp [hg]))
 refine ⟨d1 ++ d2, ⟨d1, d2, s1, s2, rfl⟩, ?_⟩
 have e : (cs.drop off).take (k1 + k2) = (cs.drop off).take k1 ++ (cs.drop (off + k1)).take k2 := by
  rw [List.take_add, List.drop_drop]
 rw [e]
 exact r1.append r2
theorem opens_struct {fs : Array Field} {k : Nat} {S : List Dat → Prop} (ht : P.underlying t = some (.struct fs)) (hf : OpensF P fs.toList 0 k S) (hc : P.cellsOf t = k) : Opens P t k S := by
 refine ⟨hc, fun H enc w base spare held fuel cs x h => ?_⟩
 obtain ⟨xs, n, _, _, hl, hxl, hall⟩ := DataW.trod_struct ht h
 rw [hc] at hl
 obtain ⟨ds, s, r⟩ := hf H enc w base spare held n cs (by omega) (fun f hm => by
  obtain ⟨i, hi⟩ := List.getElem?_of_mem hm
  have hi' : fs[i]? = some f := by simpa using hi
  have hlt : i < xs.length := by
   rw [hxl]
   exact (Array.getElem?_eq_some_iff.1 hi').1
  exact ⟨xs[i], by rw [hall i f hi', List.getElem?_eq_getElem hlt]⟩)
 rw [List.drop_zero, List.take_of_length_le (by omega)] at r
 exact ⟨hl, ds, s, r⟩
end
end Go.Proofs.YtmjifhjhialcbaaGreat
namespace Go.Proofs.YtmjifhjhialcbaaGreat
set_option maxRecDepth 100000
set_option linter.unusedVariables false
open Go.RowKit Go.ChangeShapes Go.WideShapes Go.ChangeAt
theorem Opens.mono {P : Program} {t : TypeId} {k : Nat} {S S' : List Dat → Prop} (h : Opens P t k S) (hs : ∀ ds, S ds → S' ds) : Opens P t k S' :=
 ⟨h.1, fun H enc w base spare held fuel cs x hx => by
  obtain ⟨hl, ds, s, r⟩ := h.2 H enc w base spare held fuel cs x hx
  exact ⟨hl, ds, hs ds s, r⟩⟩
theorem opens_i64 : Opens Tryz.prog 2 1 (fun ds => ∃ n : Int, ds = [Dat.int n]) :=
 (opens_int Tryz.underlying2 (by kernel_rfl)).mono fun _ ⟨n, e, _⟩ => ⟨n, e⟩
theorem opens_row : Opens Tryz.prog 39 1 (fun ds => ∃ xs : List Int, ds = rowC xs) :=
 opens_slice Tryz.underlying39 opens_i64 Nat.one_pos (fun _ => rfl) (by kernel_rfl)
theorem array_list {α : Type} {cs : Array α} {n : Nat} (h : cs.size = n) : ∃ l : List α, l.length = n ∧ cs = l.toArray := ⟨cs.toList, by simpa using h, by simp⟩
end Go.Proofs.YtmjifhjhialcbaaGreat
namespace Go.Proofs.YtmjifhjhialcbaaGreat
set_option maxRecDepth 100000
set_option linter.unusedVariables false
open Go.RowKit Go.ChangeShapes Go.WideShapes Go.ChangeAt
theorem opens_mrk : Opens Tryz.prog 168 3 (fun ds => ∃ x : MarkM, ds = mrkC x) :=
 (opens_struct Tryz.underlying168 (opensF_cons rfl opens_i64 (opensF_cons rfl opens_i64 (opensF_cons rfl opens_i64 (opensF_nil _)))) (by kernel_rfl)).mono fun _ h => by
  obtain ⟨_, _, ⟨q0, rfl⟩, ⟨_, _, ⟨q1, rfl⟩, ⟨_, _, ⟨q2, rfl⟩, rfl, rfl⟩, rfl⟩, rfl⟩ := h
  exact ⟨⟨q0, q1, q2⟩, rfl⟩
theorem opens_mrks : Opens Tryz.prog 67 1 (fun ds => ∃ l : List MarkM, ds = [mrkD l]) :=
 opens_slice Tryz.underlying67 opens_mrk (by decide) mrkC_len (by kernel_rfl)
end Go.Proofs.YtmjifhjhialcbaaGreat
