/- Parts of my texts: HeadI6. -/
import Derived.Test.YtmjifhjhialcbaaT36
namespace Go.Proofs.Ytmjifhjhialcbaa
set_option maxRecDepth 100000
set_option linter.unusedVariables false
open Go.RowKit
def keptRowM (t : TwoM) (i : Int) (r : List Int) : TwoM × Bool := if keptB t = true then (if r = [] then (t, false) else bothWrote t i r) else (zeroT, false)
theorem keptHead_row (t : TwoM) (h : HeadM) : keptHeadM t h = keptRowM t (h.num.tmod 2) (headRowM h) := by
 unfold keptHeadM keptRowM
 split
 next =>
  cases hb : headOkB h
  · rw [if_neg (by decide), if_pos (by unfold headRowM; rw [hb]; rfl)]
  · rw [if_pos rfl, if_neg (by unfold headRowM; rw [hb, if_pos rfl]; simp)]
    have h1 := ((headOkB_iff h).1 hb).2.1.1
    rw [Int.tmod_eq_emod_of_nonneg h1]
 next => rfl
set_option maxHeartbeats 12800000 in
theorem iKeptRow_any (Aa0 : Option Addr) (na0 ca0 : Nat) (Aa1 : Option Addr) (na1 ca1 : Nat) (Aa2 : Option Addr) (na2 ca2 : Nat) (Aa3 : Option Addr) (na3 ca3 : Nat) (t : TwoM) (i : Int) (E : Option Addr) (o co : Nat) (r : List Int) (w : World) (h : Rd w w.heap.size t.cells [.slice Aa0 na0 ca0, .slice Aa1 na1 ca1, .slice Aa2 na2 ca2, .slice Aa3 na3 ca3]) (hs : t.sz ≤ 1048576) (h2 : Rd w w.heap.size (rowCells r) [.slice E o co]) (hs2 : r.length ≤ 1048576) (hE : r = [] → E = none) :
    Calls Try.prog 48 #[.agg #[.slice Aa0 na0 ca0, .slice Aa1 na1 ca1, .slice Aa2 na2 ca2, .slice Aa3 na3 ca3], .int .i64 i, .slice E o co] w (MadeTB w (keptRowM t i r)) := by
 have HH := jd h
 have H2 := jd h2
 have HE := jd hE
 clear h h2 hE
 have S := Sep.nil w w.heap.size
 have c := Below.refl w.heap.size w
 replace S := S.boxAt c.size (w.heap.size) rfl #[.slice Aa0 na0 ca0, .slice Aa1 na1 ca1, .slice Aa2 na2 ca2, .slice Aa3 na3 ca3] 60
 replace c := al c S
 replace S := S.boxAt c.size (w.heap.size + 1) (by simp) #[.slice none 0 0, .slice none 0 0, .slice none 0 0, .slice none 0 0] 60
 replace c := al c S
 go_enter Try.func48, Try.ntmps48
 have f0 := lk S 1 0 rfl rfl
 have f1 := lk S 1 1 rfl rfl
 have f2 := lk S 1 2 rfl rfl
 have f3 := lk S 1 3 rfl rfl
 go_wp2_with fail
 generalize (w.alloc (.cells #[.slice Aa0 na0 ca0, .slice Aa1 na1 ca1, .slice Aa2 na2 ca2, .slice Aa3 na3 ca3] 60)).alloc (.cells #[.slice none 0 0, .slice none 0 0, .slice none 0 0, .slice none 0 0] 60) = w1 at *
 refine (iKeptOk_any Aa0 na0 ca0 Aa1 na1 ca1 Aa2 na2 ca2 Aa3 na3 ca3 t _ _ (HH.out.keep c) c.size (by omega)).mono ?_
 rintro e w2 ⟨rfl, b2⟩
 replace c := c.trans (b2.mono c.size)
 replace S := S.keep b2
 clear b2 f0 f1 f2 f3
 cases hk : keptB t
 case false =>
  have HV := jd (show keptRowM t i r = (zeroT, false) by unfold keptRowM; rw [hk]; rfl)
  clear hk
  have f4 := lk S 0 0 rfl rfl
  have f5 := (S.at_ 0 rfl).free 0
  have f6 := lk S 0 1 rfl rfl
  have f7 := (S.at_ 0 rfl).free 1
  have f8 := lk S 0 2 rfl rfl
  have f9 := (S.at_ 0 rfl).free 2
  have f10 := lk S 0 3 rfl rfl
  have f11 := (S.at_ 0 rfl).free 3
  replace S := S.put 0 rfl 0 (.slice none 0 0)
  replace c := st c S (by omega)
  replace S := S.put 0 rfl 1 (.slice none 0 0)
  replace c := st c S (by omega)
  replace S := S.put 0 rfl 2 (.slice none 0 0)
  replace c := st c S (by omega)
  replace S := S.put 0 rfl 3 (.slice none 0 0)
  replace c := st c S (by omega)
  have H := jd (has_zeroT ((((w2.setCell ⟨w.heap.size + 1, 0, none⟩ (.slice none 0 0)).setCell ⟨w.heap.size + 1, 1, none⟩ (.slice none 0 0)).setCell ⟨w.heap.size + 1, 2, none⟩ (.slice none 0 0)).setCell ⟨w.heap.size + 1, 3, none⟩ (.slice none 0 0)) w.heap.size)
  have r0 := jd ((S.at_ 0 rfl).cell 0)
  have r1 := jd ((S.at_ 0 rfl).cell 1)
  have r2 := jd ((S.at_ 0 rfl).cell 2)
  have r3 := jd ((S.at_ 0 rfl).cell 3)
  have CC := jd c
  clear S c
  go_wp2
  exact bodyPost_ret (v := .tuple #[.agg #[.slice none 0 0, .slice none 0 0, .slice none 0 0, .slice none 0 0], .bool false]) (by simp [results, Try.results48, go_sem, r0.out, r1.out, r2.out, r3.out]) rfl ⟨_, _, _, _, _, _, _, _, _, _, _, _, by rw [HV.out], by rw [HV.out]; exact H.out, CC.out⟩
 case true =>
  by_cases hr : r = []
  case pos =>
   have HV := jd (show keptRowM t i r = (t, false) by unfold keptRowM; rw [if_pos hk, if_pos hr])
   obtain rfl : E = none := HE.out hr
   have hnil : ∀ w9, Sem.run Try.prog (binOp BinOp.eql 30 (.slice none o co) (.slice none 0 0)) w9 = .ok (.bool true) w9 := fun _ => by kernel_rfl
   clear hk hr
   have f4 := lk S 1 0 rfl rfl
   have f5 := lk S 1 1 rfl rfl
   have f6 := lk S 1 2 rfl rfl
   have f7 := lk S 1 3 rfl rfl
   go_wp2_with fail
   refine (iCopyT_any Aa0 na0 ca0 Aa1 na1 ca1 Aa2 na2 ca2 Aa3 na3 ca3 t _ ((HH.out.keep c).up c.size) hs).mono ?_
   rintro e w3 ⟨Au0, nu0, cu0, Au1, nu1, cu1, Au2, nu2, cu2, Au3, nu3, cu3, rfl, o9, b⟩
   obtain ⟨fp_u, S'⟩ := S.has b o9 c.size
   replace c := c.trans (b.mono c.size)
   clear S; have S := S'; clear S' o9 b f4 f5 f6 f7
   have f8 := lk S 1 0 rfl rfl
   have f9 := (S.at_ 1 rfl).free 0
   have f10 := lk S 1 1 rfl rfl
   have f11 := (S.at_ 1 rfl).free 1
   have f12 := lk S 1 2 rfl rfl
   have f13 := (S.at_ 1 rfl).free 2
   have f14 := lk S 1 3 rfl rfl
   have f15 := (S.at_ 1 rfl).free 3
   replace S := S.put 1 rfl 0 (.slice Au0 nu0 cu0)
   replace c := st c S (by omega)
   replace S := S.put 1 rfl 1 (.slice Au1 nu1 cu1)
   replace c := st c S (by omega)
   replace S := S.put 1 rfl 2 (.slice Au2 nu2 cu2)
   replace c := st c S (by omega)
   replace S := S.put 1 rfl 3 (.slice Au3 nu3 cu3)
   replace c := st c S (by omega)
   replace S := S.pick 0 rfl
   have H := jd (S.first)
   have r0 := jd ((S.at_ 1 rfl).cell 0)
   have r1 := jd ((S.at_ 1 rfl).cell 1)
   have r2 := jd ((S.at_ 1 rfl).cell 2)
   have r3 := jd ((S.at_ 1 rfl).cell 3)
   have CC := jd c
   clear S c
   go_wp2
   exact bodyPost_ret (v := .tuple #[.agg #[.slice Au0 nu0 cu0, .slice Au1 nu1 cu1, .slice Au2 nu2 cu2, .slice Au3 nu3 cu3], .bool false]) (by simp [results, Try.results48, go_sem, r0.out, r1.out, r2.out, r3.out]) rfl ⟨_, _, _, _, _, _, _, _, _, _, _, _, by rw [HV.out], by rw [HV.out]; exact H.out, CC.out⟩
  case neg =>
   have HV := jd (show keptRowM t i r = bothWrote t i r by unfold keptRowM; rw [if_pos hk, if_neg hr])
   obtain ⟨As, rfl⟩ : ∃ As, E = some As := by
    obtain ⟨_, _, _, e, hi, _, _⟩ := H2.out.irow
    injection e with e1 e2 e3
    subst e1 e2 e3
    have hl := hi.1
    obtain ⟨b, off, h1, _⟩ := hi.2 (by have := List.length_pos_iff.2 hr; omega)
    exact ⟨_, h1⟩
   have hnil : ∀ w9, Sem.run Try.prog (binOp BinOp.eql 30 (.slice (some As) o co) (.slice none 0 0)) w9 = .ok (.bool false) w9 := fun _ => by kernel_rfl
   clear hk hr
   have f4 := lk S 1 0 rfl rfl
   have f5 := lk S 1 1 rfl rfl
   have f6 := lk S 1 2 rfl rfl
   have f7 := lk S 1 3 rfl rfl
   go_wp2_with fail
   refine (iBothWrote_any Aa0 na0 ca0 Aa1 na1 ca1 Aa2 na2 ca2 Aa3 na3 ca3 t i (some As) o co r _ ((HH.out.keep c).up c.size) hs ((H2.out.keep c).up c.size) hs2).mono ?_
   rintro e w3 ⟨Az0, nz0, cz0, Az1, nz1, cz1, Az2, nz2, cz2, Az3, nz3, cz3, rfl, o9, b⟩
   obtain ⟨fp_z, S'⟩ := S.has b o9 c.size
   replace c := c.trans (b.mono c.size)
   clear S; have S := S'; clear S' o9 b f4 f5 f6 f7
   rw [← HV.out] at S ⊢
   have f8 := lk S 1 0 rfl rfl
   have f9 := (S.at_ 1 rfl).free 0
   have f10 := lk S 1 1 rfl rfl
   have f11 := (S.at_ 1 rfl).free 1
   have f12 := lk S 1 2 rfl rfl
   have f13 := (S.at_ 1 rfl).free 2
   have f14 := lk S 1 3 rfl rfl
   have f15 := (S.at_ 1 rfl).free 3
   replace S := S.put 1 rfl 0 (.slice Az0 nz0 cz0)
   replace c := st c S (by omega)
   replace S := S.put 1 rfl 1 (.slice Az1 nz1 cz1)
   replace c := st c S (by omega)
   replace S := S.put 1 rfl 2 (.slice Az2 nz2 cz2)
   replace c := st c S (by omega)
   replace S := S.put 1 rfl 3 (.slice Az3 nz3 cz3)
   replace c := st c S (by omega)
   replace S := S.pick 0 rfl
   have H := jd S.first
   have r0 := jd ((S.at_ 1 rfl).cell 0)
   have r1 := jd ((S.at_ 1 rfl).cell 1)
   have r2 := jd ((S.at_ 1 rfl).cell 2)
   have r3 := jd ((S.at_ 1 rfl).cell 3)
   have CC := jd c
   clear S c
   go_wp2
   exact bodyPost_ret (v := .tuple #[.agg #[.slice Az0 nz0 cz0, .slice Az1 nz1 cz1, .slice Az2 nz2 cz2, .slice Az3 nz3 cz3], .bool (keptRowM t i r).2]) (by simp [results, Try.results48, go_sem, r0.out, r1.out, r2.out, r3.out]) rfl ⟨_, _, _, _, _, _, _, _, _, _, _, _, rfl, H.out, CC.out⟩
set_option maxHeartbeats 6400000 in
theorem iNewKept_any (w : World) : Calls Try.prog 23 #[] w (MadeT w newKeptM) := by
 have HRL := jd (headRowM_len headZ)
 have S := Sep.nil w w.heap.size
 have c := Below.refl w.heap.size w
 replace S := S.boxAt c.size (w.heap.size) rfl #[.slice none 0 0, .slice none 0 0, .slice none 0 0, .slice none 0 0] 60
 replace c := al c S
 go_enter Try.func23, Try.ntmps23
 go_wp2_with fail
 generalize w.alloc (.cells #[.slice none 0 0, .slice none 0 0, .slice none 0 0, .slice none 0 0] 60) = w1 at *
 refine (iNewTwo_any 22 _).mono ?_
 rintro e w2 ⟨Au0, nu0, cu0, Au1, nu1, cu1, Au2, nu2, cu2, Au3, nu3, cu3, rfl, o, b⟩
 obtain ⟨fp_u, S'⟩ := S.has b o c.size
 replace c := c.trans (b.mono c.size)
 clear S; have S := S'; clear S' o b
 go_wp2_with fail
 refine (iHeadSector_any 0 0 0 none 0 0 _).mono ?_
 rintro e w3 ⟨rfl, b2⟩
 replace c := c.trans (b2.mono c.size)
 replace S := S.keep b2
 clear b2
 rw [show ((0 : Int).tmod 2) = 0 from rfl]
 go_wp2_with fail
 refine (iHeadRow_any 0 0 0 none 0 0 _ [] _ (ow_nil_mrksH _).rd (Nat.le_refl _) (by decide)).mono ?_
 rintro e w4 ⟨A2, n2, c2, rfl, _, o, b⟩
 obtain ⟨fp_h, S'⟩ := S.has b o c.size
 replace c := c.trans (b.mono c.size)
 clear S; have S := S'; clear S' o b
 go_wp2_with fail
 refine (iMendedAt_any Au0 nu0 cu0 Au1 nu1 cu1 Au2 nu2 cu2 Au3 nu3 cu3 (newTwo 22) 0 A2 n2 c2 (headRowM headZ) _ (S.own_ 1 rfl).rd (by decide) (S.own_ 0 rfl).rd (by have := HRL.out; omega)).mono ?_
 rintro e w5 ⟨Az0, nz0, cz0, Az1, nz1, cz1, Az2, nz2, cz2, Az3, nz3, cz3, rfl, o, b⟩
 obtain ⟨fp_z, S'⟩ := S.has b o c.size
 replace c := c.trans (b.mono c.size)
 clear S; have S := S'; clear S' o b
 have f0 := lk S 3 0 rfl rfl
 have f1 := (S.at_ 3 rfl).free 0
 have f2 := lk S 3 1 rfl rfl
 have f3 := (S.at_ 3 rfl).free 1
 have f4 := lk S 3 2 rfl rfl
 have f5 := (S.at_ 3 rfl).free 2
 have f6 := lk S 3 3 rfl rfl
 have f7 := (S.at_ 3 rfl).free 3
 replace S := S.put 3 rfl 0 (.slice Az0 nz0 cz0)
 replace c := st c S (by omega)
 replace S := S.put 3 rfl 1 (.slice Az1 nz1 cz1)
 replace c := st c S (by omega)
 replace S := S.put 3 rfl 2 (.slice Az2 nz2 cz2)
 replace c := st c S (by omega)
 replace S := S.put 3 rfl 3 (.slice Az3 nz3 cz3)
 replace c := st c S (by omega)
 replace S := S.pick 0 rfl
 have H := jd S.first
 have r0 := jd ((S.at_ 3 rfl).cell 0)
 have r1 := jd ((S.at_ 3 rfl).cell 1)
 have r2 := jd ((S.at_ 3 rfl).cell 2)
 have r3 := jd ((S.at_ 3 rfl).cell 3)
 have CC := jd c
 clear S c
 go_wp2
 exact bodyPost_ret (v := .agg #[.slice Az0 nz0 cz0, .slice Az1 nz1 cz1, .slice Az2 nz2 cz2, .slice Az3 nz3 cz3]) (by simp [results, Try.results23, go_sem, r0.out, r1.out, r2.out, r3.out]) rfl ⟨_, _, _, _, _, _, _, _, _, _, _, _, rfl, H.out, CC.out⟩
set_option maxHeartbeats 12800000 in
theorem iKeptHead_any (Aa0 : Option Addr) (na0 ca0 : Nat) (Aa1 : Option Addr) (na1 ca1 : Nat) (Aa2 : Option Addr) (na2 ca2 : Nat) (Aa3 : Option Addr) (na3 ca3 : Nat) (t : TwoM) (x0 x1 x2 : Int) (A : Option Addr) (n cc : Nat) (l : List MarkM) (w : World) (h : Rd w w.heap.size t.cells [.slice Aa0 na0 ca0, .slice Aa1 na1 ca1, .slice Aa2 na2 ca2, .slice Aa3 na3 ca3]) (hs : t.sz ≤ 1048576) (h2 : Rd w w.heap.size [mrkD l] [.slice A n cc]) (hs2 : mrkSz l ≤ 1048576) :
    Calls Try.prog 22 #[.agg #[.slice Aa0 na0 ca0, .slice Aa1 na1 ca1, .slice Aa2 na2 ca2, .slice Aa3 na3 ca3], .agg #[.int .i64 x0, .int .i64 x1, .int .i64 x2, .slice A n cc]] w (MadeTB w (keptHeadM t ⟨x0, x1, x2, l⟩)) := by
 have HH := jd h
 clear h
 have H2 := jd h2
 clear h2
 have S := Sep.nil w w.heap.size
 have c := Below.refl w.heap.size w
 replace S := S.boxAt c.size (w.heap.size) rfl #[.slice Aa0 na0 ca0, .slice Aa1 na1 ca1, .slice Aa2 na2 ca2, .slice Aa3 na3 ca3] 60
 replace c := al c S
 replace S := S.boxAt c.size (w.heap.size + 1) (by simp) #[.int .i64 x0, .int .i64 x1, .int .i64 x2, .slice A n cc] 40
 replace c := al c S
 replace S := S.boxAt c.size (w.heap.size + 1 + 1) (by simp) #[.slice none 0 0, .slice none 0 0, .slice none 0 0, .slice none 0 0] 60
 replace c := al c S
 have HV := jd (show keptHeadM t ⟨x0, x1, x2, l⟩ = keptRowM t (x0.tmod 2) (headRowM ⟨x0, x1, x2, l⟩) from keptHead_row _ _)
 have HRL := jd (headRowM_len ⟨x0, x1, x2, l⟩)
 go_enter Try.func22, Try.ntmps22
 go_wp2_with fail
 generalize ((w.alloc (.cells #[.slice Aa0 na0 ca0, .slice Aa1 na1 ca1, .slice Aa2 na2 ca2, .slice Aa3 na3 ca3] 60)).alloc (.cells #[.int .i64 x0, .int .i64 x1, .int .i64 x2, .slice A n cc] 40)).alloc (.cells #[.slice none 0 0, .slice none 0 0, .slice none 0 0, .slice none 0 0] 60) = w1 at *
 refine wp_region_L (fun v => v.cell? ⟨w.heap.size, 0, none⟩ = some (.slice Aa0 na0 ca0) ∧ v.cell? ⟨w.heap.size, 1, none⟩ = some (.slice Aa1 na1 ca1) ∧ v.cell? ⟨w.heap.size, 2, none⟩ = some (.slice Aa2 na2 ca2) ∧ v.cell? ⟨w.heap.size, 3, none⟩ = some (.slice Aa3 na3 ca3) ∧ v.cell? ⟨w.heap.size + 1, 0, none⟩ = some (.int .i64 x0) ∧ v.cell? ⟨w.heap.size + 1, 1, none⟩ = some (.int .i64 x1) ∧ v.cell? ⟨w.heap.size + 1, 2, none⟩ = some (.int .i64 x2) ∧ v.cell? ⟨w.heap.size + 1, 3, none⟩ = some (.slice A n cc)) 9 (by kernel_rfl) ?_
 replace S := S.keep ((Below.refl _ _).drew)
 replace c := c.drew
 generalize w1.drew = w2 at *
 have HF : w2.cell? ⟨w.heap.size, 0, none⟩ = some (.slice Aa0 na0 ca0) ∧ w2.cell? ⟨w.heap.size, 1, none⟩ = some (.slice Aa1 na1 ca1) ∧ w2.cell? ⟨w.heap.size, 2, none⟩ = some (.slice Aa2 na2 ca2) ∧ w2.cell? ⟨w.heap.size, 3, none⟩ = some (.slice Aa3 na3 ca3) ∧ w2.cell? ⟨w.heap.size + 1, 0, none⟩ = some (.int .i64 x0) ∧ w2.cell? ⟨w.heap.size + 1, 1, none⟩ = some (.int .i64 x1) ∧ w2.cell? ⟨w.heap.size + 1, 2, none⟩ = some (.int .i64 x2) ∧ w2.cell? ⟨w.heap.size + 1, 3, none⟩ = some (.slice A n cc) := ⟨(S.at_ 2 rfl).cell 0, (S.at_ 2 rfl).cell 1, (S.at_ 2 rfl).cell 2, (S.at_ 2 rfl).cell 3, (S.at_ 1 rfl).cell 0, (S.at_ 1 rfl).cell 1, (S.at_ 1 rfl).cell 2, (S.at_ 1 rfl).cell 3⟩
 refine tk 0 (v := ?_) rfl rfl HF (.inl ⟨by rfl, ?_⟩) ?_
 rotate_left 1
 · (rintro v ⟨a0, a1, a2, a3, a4, a5, a6, a7⟩; go_simp; try with_reducible rfl)
 try simp only [Act.put]
 refine tk 1 (v := ?_) rfl rfl HF (.inl ⟨by rfl, ?_⟩) ?_
 rotate_left 1
 · (rintro v ⟨a0, a1, a2, a3, a4, a5, a6, a7⟩; go_simp; try with_reducible rfl)
 try simp only [Act.put]
 refine tk 3 (v := ?_) rfl rfl HF (.inl ⟨by rfl, ?_⟩) ?_
 rotate_left 1
 · (rintro v ⟨a0, a1, a2, a3, a4, a5, a6, a7⟩; go_simp; try with_reducible rfl)
 try simp only [Act.put]
 refine wpAnyL_step (i := 2) (by kernel_rfl) rfl rfl ?_
 intro K hK
 go_simp
 refine (iHeadSector_any x0 x1 x2 A n cc _).mono ?_
 rintro e w3 ⟨rfl, b2⟩
 replace c := c.trans (b2.mono c.size)
 replace S := S.keep b2
 clear b2
 clear HF
 have HF : w3.cell? ⟨w.heap.size, 0, none⟩ = some (.slice Aa0 na0 ca0) ∧ w3.cell? ⟨w.heap.size, 1, none⟩ = some (.slice Aa1 na1 ca1) ∧ w3.cell? ⟨w.heap.size, 2, none⟩ = some (.slice Aa2 na2 ca2) ∧ w3.cell? ⟨w.heap.size, 3, none⟩ = some (.slice Aa3 na3 ca3) ∧ w3.cell? ⟨w.heap.size + 1, 0, none⟩ = some (.int .i64 x0) ∧ w3.cell? ⟨w.heap.size + 1, 1, none⟩ = some (.int .i64 x1) ∧ w3.cell? ⟨w.heap.size + 1, 2, none⟩ = some (.int .i64 x2) ∧ w3.cell? ⟨w.heap.size + 1, 3, none⟩ = some (.slice A n cc) := ⟨(S.at_ 2 rfl).cell 0, (S.at_ 2 rfl).cell 1, (S.at_ 2 rfl).cell 2, (S.at_ 2 rfl).cell 3, (S.at_ 1 rfl).cell 0, (S.at_ 1 rfl).cell 1, (S.at_ 1 rfl).cell 2, (S.at_ 1 rfl).cell 3⟩
 refine hK _ _ (fun _ => HF) ?_
 clear hK K
 try simp only [Act.put]
 refine wpAnyL_step (i := 4) (by kernel_rfl) rfl rfl ?_
 intro K hK
 go_simp
 refine (iHeadRow_any x0 x1 x2 A n cc _ l _ (H2.out.keep c) c.size (by omega)).mono ?_
 rintro e w4 ⟨A2, n2, c2, rfl, hnil, o, b⟩
 obtain ⟨fp_u, S'⟩ := S.has b o c.size
 replace c := c.trans (b.mono c.size)
 clear S; have S := S'; clear S' o b
 clear HF
 have HF : w4.cell? ⟨w.heap.size, 0, none⟩ = some (.slice Aa0 na0 ca0) ∧ w4.cell? ⟨w.heap.size, 1, none⟩ = some (.slice Aa1 na1 ca1) ∧ w4.cell? ⟨w.heap.size, 2, none⟩ = some (.slice Aa2 na2 ca2) ∧ w4.cell? ⟨w.heap.size, 3, none⟩ = some (.slice Aa3 na3 ca3) ∧ w4.cell? ⟨w.heap.size + 1, 0, none⟩ = some (.int .i64 x0) ∧ w4.cell? ⟨w.heap.size + 1, 1, none⟩ = some (.int .i64 x1) ∧ w4.cell? ⟨w.heap.size + 1, 2, none⟩ = some (.int .i64 x2) ∧ w4.cell? ⟨w.heap.size + 1, 3, none⟩ = some (.slice A n cc) := ⟨(S.at_ 3 rfl).cell 0, (S.at_ 3 rfl).cell 1, (S.at_ 3 rfl).cell 2, (S.at_ 3 rfl).cell 3, (S.at_ 2 rfl).cell 0, (S.at_ 2 rfl).cell 1, (S.at_ 2 rfl).cell 2, (S.at_ 2 rfl).cell 3⟩
 refine hK _ _ (fun _ => HF) ?_
 clear hK K
 try simp only [Act.put]
 refine wpAnyL_step (i := 5) (by kernel_rfl) rfl rfl ?_
 intro K hK
 go_simp
 refine (iKeptRow_any Aa0 na0 ca0 Aa1 na1 ca1 Aa2 na2 ca2 Aa3 na3 ca3 t (x0.tmod 2) A2 n2 c2 (headRowM ⟨x0, x1, x2, l⟩) _ ((HH.out.keep c).up c.size) hs (S.own_ 0 rfl).rd (by have := HRL.out; omega) hnil).mono ?_
 rintro e w5 ⟨Az0, nz0, cz0, Az1, nz1, cz1, Az2, nz2, cz2, Az3, nz3, cz3, rfl, o, b⟩
 obtain ⟨fp_z, S'⟩ := S.has b o c.size
 replace c := c.trans (b.mono c.size)
 clear S; have S := S'; clear S' o b
 rw [← HV.out] at S ⊢
 clear HF
 have HF : w5.cell? ⟨w.heap.size, 0, none⟩ = some (.slice Aa0 na0 ca0) ∧ w5.cell? ⟨w.heap.size, 1, none⟩ = some (.slice Aa1 na1 ca1) ∧ w5.cell? ⟨w.heap.size, 2, none⟩ = some (.slice Aa2 na2 ca2) ∧ w5.cell? ⟨w.heap.size, 3, none⟩ = some (.slice Aa3 na3 ca3) ∧ w5.cell? ⟨w.heap.size + 1, 0, none⟩ = some (.int .i64 x0) ∧ w5.cell? ⟨w.heap.size + 1, 1, none⟩ = some (.int .i64 x1) ∧ w5.cell? ⟨w.heap.size + 1, 2, none⟩ = some (.int .i64 x2) ∧ w5.cell? ⟨w.heap.size + 1, 3, none⟩ = some (.slice A n cc) := ⟨(S.at_ 4 rfl).cell 0, (S.at_ 4 rfl).cell 1, (S.at_ 4 rfl).cell 2, (S.at_ 4 rfl).cell 3, (S.at_ 3 rfl).cell 0, (S.at_ 3 rfl).cell 1, (S.at_ 3 rfl).cell 2, (S.at_ 3 rfl).cell 3⟩
 refine hK _ _ (fun _ => HF) ?_
 clear hK K
 try simp only [Act.put]
 refine wpAnyL_pure (i := 6) (v := ?_) rfl rfl (by kernel_rfl) (by kernel_rfl) (by kernel_rfl) (fun _ _ _ h => h) HF (Or.inl ⟨by rfl, ?_⟩) ?_
 rotate_left 1
 · (intro v _; go_simp; try with_reducible rfl)
 try simp only [Act.put]
 refine wpAnyL_pure (i := 7) (v := ?_) rfl rfl (by kernel_rfl) (by kernel_rfl) (by kernel_rfl) (fun _ _ _ h => h) HF (Or.inl ⟨by rfl, ?_⟩) ?_
 rotate_left 1
 · (intro v _; go_simp; try with_reducible rfl)
 try simp only [Act.put]
 have f0 := lk S 2 0 rfl rfl
 have f1 := (S.at_ 2 rfl).free 0
 have f2 := lk S 2 1 rfl rfl
 have f3 := (S.at_ 2 rfl).free 1
 have f4 := lk S 2 2 rfl rfl
 have f5 := (S.at_ 2 rfl).free 2
 have f6 := lk S 2 3 rfl rfl
 have f7 := (S.at_ 2 rfl).free 3
 refine wpAnyL_step (i := 8) (by kernel_rfl) rfl rfl ?_
 intro K hK
 go_simp
 replace S := S.put 2 rfl 0 (.slice Az0 nz0 cz0)
 replace c := st c S (by omega)
 replace S := S.put 2 rfl 1 (.slice Az1 nz1 cz1)
 replace c := st c S (by omega)
 replace S := S.put 2 rfl 2 (.slice Az2 nz2 cz2)
 replace c := st c S (by omega)
 replace S := S.put 2 rfl 3 (.slice Az3 nz3 cz3)
 replace c := st c S (by omega)
 clear HF
 have HF : ((((w5.setCell ⟨w.heap.size + 1 + 1, 0, none⟩ (.slice Az0 nz0 cz0)).setCell ⟨w.heap.size + 1 + 1, 1, none⟩ (.slice Az1 nz1 cz1)).setCell ⟨w.heap.size + 1 + 1, 2, none⟩ (.slice Az2 nz2 cz2)).setCell ⟨w.heap.size + 1 + 1, 3, none⟩ (.slice Az3 nz3 cz3)).cell? ⟨w.heap.size, 0, none⟩ = some (.slice Aa0 na0 ca0) ∧ ((((w5.setCell ⟨w.heap.size + 1 + 1, 0, none⟩ (.slice Az0 nz0 cz0)).setCell ⟨w.heap.size + 1 + 1, 1, none⟩ (.slice Az1 nz1 cz1)).setCell ⟨w.heap.size + 1 + 1, 2, none⟩ (.slice Az2 nz2 cz2)).setCell ⟨w.heap.size + 1 + 1, 3, none⟩ (.slice Az3 nz3 cz3)).cell? ⟨w.heap.size, 1, none⟩ = some (.slice Aa1 na1 ca1) ∧ ((((w5.setCell ⟨w.heap.size + 1 + 1, 0, none⟩ (.slice Az0 nz0 cz0)).setCell ⟨w.heap.size + 1 + 1, 1, none⟩ (.slice Az1 nz1 cz1)).setCell ⟨w.heap.size + 1 + 1, 2, none⟩ (.slice Az2 nz2 cz2)).setCell ⟨w.heap.size + 1 + 1, 3, none⟩ (.slice Az3 nz3 cz3)).cell? ⟨w.heap.size, 2, none⟩ = some (.slice Aa2 na2 ca2) ∧ ((((w5.setCell ⟨w.heap.size + 1 + 1, 0, none⟩ (.slice Az0 nz0 cz0)).setCell ⟨w.heap.size + 1 + 1, 1, none⟩ (.slice Az1 nz1 cz1)).setCell ⟨w.heap.size + 1 + 1, 2, none⟩ (.slice Az2 nz2 cz2)).setCell ⟨w.heap.size + 1 + 1, 3, none⟩ (.slice Az3 nz3 cz3)).cell? ⟨w.heap.size, 3, none⟩ = some (.slice Aa3 na3 ca3) ∧ ((((w5.setCell ⟨w.heap.size + 1 + 1, 0, none⟩ (.slice Az0 nz0 cz0)).setCell ⟨w.heap.size + 1 + 1, 1, none⟩ (.slice Az1 nz1 cz1)).setCell ⟨w.heap.size + 1 + 1, 2, none⟩ (.slice Az2 nz2 cz2)).setCell ⟨w.heap.size + 1 + 1, 3, none⟩ (.slice Az3 nz3 cz3)).cell? ⟨w.heap.size + 1, 0, none⟩ = some (.int .i64 x0) ∧ ((((w5.setCell ⟨w.heap.size + 1 + 1, 0, none⟩ (.slice Az0 nz0 cz0)).setCell ⟨w.heap.size + 1 + 1, 1, none⟩ (.slice Az1 nz1 cz1)).setCell ⟨w.heap.size + 1 + 1, 2, none⟩ (.slice Az2 nz2 cz2)).setCell ⟨w.heap.size + 1 + 1, 3, none⟩ (.slice Az3 nz3 cz3)).cell? ⟨w.heap.size + 1, 1, none⟩ = some (.int .i64 x1) ∧ ((((w5.setCell ⟨w.heap.size + 1 + 1, 0, none⟩ (.slice Az0 nz0 cz0)).setCell ⟨w.heap.size + 1 + 1, 1, none⟩ (.slice Az1 nz1 cz1)).setCell ⟨w.heap.size + 1 + 1, 2, none⟩ (.slice Az2 nz2 cz2)).setCell ⟨w.heap.size + 1 + 1, 3, none⟩ (.slice Az3 nz3 cz3)).cell? ⟨w.heap.size + 1, 2, none⟩ = some (.int .i64 x2) ∧ ((((w5.setCell ⟨w.heap.size + 1 + 1, 0, none⟩ (.slice Az0 nz0 cz0)).setCell ⟨w.heap.size + 1 + 1, 1, none⟩ (.slice Az1 nz1 cz1)).setCell ⟨w.heap.size + 1 + 1, 2, none⟩ (.slice Az2 nz2 cz2)).setCell ⟨w.heap.size + 1 + 1, 3, none⟩ (.slice Az3 nz3 cz3)).cell? ⟨w.heap.size + 1, 3, none⟩ = some (.slice A n cc) := ⟨(S.at_ 4 rfl).cell 0, (S.at_ 4 rfl).cell 1, (S.at_ 4 rfl).cell 2, (S.at_ 4 rfl).cell 3, (S.at_ 3 rfl).cell 0, (S.at_ 3 rfl).cell 1, (S.at_ 3 rfl).cell 2, (S.at_ 3 rfl).cell 3⟩
 refine hK _ _ (fun _ => HF) ?_
 clear hK K
 try simp only [Act.put]
 generalize hw : (((w5.setCell ⟨w.heap.size + 1 + 1, 0, none⟩ (.slice Az0 nz0 cz0)).setCell ⟨w.heap.size + 1 + 1, 1, none⟩ (.slice Az1 nz1 cz1)).setCell ⟨w.heap.size + 1 + 1, 2, none⟩ (.slice Az2 nz2 cz2)).setCell ⟨w.heap.size + 1 + 1, 3, none⟩ (.slice Az3 nz3 cz3) = w6 at *
 clear hw
 clear f0 f1 f2 f3 f4 f5 f6 f7
 refine wpAnyL_step (i := 9) (by kernel_rfl) rfl rfl ?_
 intro K hK
 go_simp
 refine hK _ _ (fun h => nomatch (show true = false from h)) ?_
 clear hK K
 try simp only [Act.put]
 refine wpAnyL_done (by kernel_rfl) ?_ _
 clear HF hnil
 replace S := S.pick 0 rfl
 have H := jd S.first
 have r0 := jd ((S.at_ 2 rfl).cell 0)
 have r1 := jd ((S.at_ 2 rfl).cell 1)
 have r2 := jd ((S.at_ 2 rfl).cell 2)
 have r3 := jd ((S.at_ 2 rfl).cell 3)
 have CC := jd c
 clear S c
 go_wp2
 exact bodyPost_ret (v := .tuple #[.agg #[.slice Az0 nz0 cz0, .slice Az1 nz1 cz1, .slice Az2 nz2 cz2, .slice Az3 nz3 cz3], .bool (keptHeadM t ⟨x0, x1, x2, l⟩).2]) (by simp [results, Try.results22, go_sem, r0.out, r1.out, r2.out, r3.out]) rfl ⟨_, _, _, _, _, _, _, _, _, _, _, _, rfl, H.out, CC.out⟩
end Go.Proofs.Ytmjifhjhialcbaa
