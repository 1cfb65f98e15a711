/- Parts of my texts: RecI1. -/
import Derived.Test.YtmjifhjhialcbaaGreatK36
import Derived.Test.YtmjifhjhialcbaaGreatK41
namespace Go.Proofs.YtmjifhjhialcbaaGreat
set_option maxRecDepth 100000
set_option linter.unusedVariables false
open Go.RowKit
def NextPost (t : TwoM) (b : BookM) (s : List MarkM) (w : World) (e : Ending) (w' : World) : Prop :=
 (((nextM t b s).2 = false ∧ e = .returned (.tuple #[.agg #[.int .i64 0, .int .i64 0, .slice none 0 0], .slice none 0 0, .bool false])) ∨
  ∃ (E : EntM) (y0 y1 : Int) (Ay : Option Addr) (ny cy : Nat) (Am : Option Addr) (nm cm : Nat), nextM t b s = (E, true) ∧ e = .returned (.tuple #[.agg #[.int .i64 y0, .int .i64 y1, .slice Ay ny cy], .slice Am nm cm, .bool true]) ∧ Has w' w.heap.size ((appM b E).1.cells ++ [mrkD (markedM s E).1]) ([.int .i64 y0, .int .i64 y1, .slice Ay ny cy] ++ [.slice Am nm cm])) ∧ Below w.heap.size w w'
theorem iRowSlot_at (A : Option Addr) (n cc B : Nat) (d : List Int) (w : World) (h : Rd w B (rowCells d) [.slice A n cc]) (hB : B ≤ w.heap.size) :
    Calls Tryz.prog 191 #[.slice A n cc] w fun e w' => ∃ (z0 z1 z2 z3 z4 z5 z6 z7 z8 : Int) (ok : Bool), rowSlotM d = ((⟨z0, z1, z2, z3, z4, z5, z6, z7, z8⟩ : EntM), ok) ∧ e = .returned (.tuple #[.agg #[.int .i64 z0, .int .i64 z1, .int .i64 z2, .int .i64 z3, .int .i64 z4, .int .i64 z5, .int .i64 z6, .int .i64 z7, .int .i64 z8], .bool ok]) ∧ Below w.heap.size w w' := by
 refine (iRowSlot_any A n cc B d w h hB).mono ?_
 rintro e w' ⟨rfl, b⟩
 exact ⟨_, _, _, _, _, _, _, _, _, _, rfl, rfl, b⟩
set_option maxHeartbeats 12800000 in
theorem iNextFrom_any (q9 : Nat) (Aa0 : Option Addr) (na0 ca0 : Nat) (Aa1 : Option Addr) (na1 ca1 : Nat) (Aa2 : Option Addr) (na2 ca2 : Nat) (Aa3 : Option Addr) (na3 ca3 : Nat) (t : TwoM) (x0 x1 : Int) (A : Option Addr) (n cc : Nat) (l : List EntM) (As : Option Addr) (ns cs : Nat) (s : List MarkM) (w : World) (hq : Blk w q9 #[.slice Aa0 na0 ca0, .slice Aa1 na1 ca1, .slice Aa2 na2 ca2, .slice Aa3 na3 ca3] 35) (h : Rd w w.heap.size t.cells [.slice Aa0 na0 ca0, .slice Aa1 na1 ca1, .slice Aa2 na2 ca2, .slice Aa3 na3 ca3]) (hs : t.sz ≤ 1048576) (h2 : Rd w w.heap.size [entD l] [.slice A n cc]) (hb : bookB ⟨x0, x1, l⟩ = true) (h3 : Rd w w.heap.size [mrkD s] [.slice As ns cs]) (hs3 : mrkSz s ≤ 1048577) :
    Calls Tryz.prog 147 #[.func (.func 148) #[] #[.pointer (some ⟨q9, 0, none⟩)], .agg #[.int .i64 x0, .int .i64 x1, .slice A n cc], .slice As ns cs] w (NextPost t ⟨x0, x1, l⟩ s w) := by
 have HH := jd h
 have H2 := jd h2
 have H3 := jd h3
 have HQB := jd hq
 have HQL := jd hq.lt
 obtain ⟨_, _, _, e, hl, _, hcm, hel⟩ := h2.ents
 injection e with e1 e2 e3
 subst e1 e2 e3
 have hx := ((bookB_iff ⟨x0, x1, l⟩).1 hb).1
 have hl20 : l.length ≤ 20 := bookB_len hb
 have hn20 : n ≤ 20 := by omega
 have hs2 : entSz l ≤ 1048577 := by unfold entSz; omega
 have HX := jd (show 0 ≤ x0 ∧ x0 ≤ 2000 from hx)
 obtain ⟨p, hp⟩ : ∃ p, p = x0 + (n : Int) := ⟨_, rfl⟩
 have HLM := jd (show lastM ⟨x0, x1, l⟩ = p by rw [hp]; unfold lastM lastB; rw [if_pos hb, show ((⟨x0, x1, l⟩ : BookM).ents.length : Int) = (n : Int) from congrArg _ hl])
 obtain ⟨q, hq9⟩ : ∃ q, q = p + 1 := ⟨_, rfl⟩
 have HQ := jd (show lastB ⟨x0, x1, l⟩ + 1 = q by rw [hq9, hp]; unfold lastB; rw [show ((⟨x0, x1, l⟩ : BookM).ents.length : Int) = (n : Int) from congrArg _ hl])
 have ew : IntKind.i64.wrap (p + 1) = q := by have := HX.out; rw [IntKind.wrap_i64]; omega
 have HNX := jd (show nextM t ⟨x0, x1, l⟩ s = pickM ⟨x0, x1, l⟩ s (rightAt t (slotOfM q)) by unfold nextM; rw [HQ.out])
 clear hel hcm h h2 h3 hl hb hx hq hq9 hp
 have S := Sep.nil w w.heap.size
 have c := Below.refl w.heap.size w
 replace S := S.boxAt c.size (w.heap.size) rfl #[.int .i64 x0, .int .i64 x1, .slice A n cc] 47
 replace c := al c S
 replace S := S.boxAt c.size (w.heap.size + 1) (by simp) #[.int .i64 0, .int .i64 0, .slice none 0 0] 47
 replace c := al c S
 go_enter Tryz.func147, Tryz.ntmps147
 have f0 := lk S 1 0 rfl rfl
 have f1 := lk S 1 1 rfl rfl
 have f2 := lk S 1 2 rfl rfl
 go_wp2_with fail
 generalize (w.alloc (.cells #[.int .i64 x0, .int .i64 x1, .slice A n cc] 47)).alloc (.cells #[.int .i64 0, .int .i64 0, .slice none 0 0] 47) = w1 at *
 refine (iLastOf_any x0 x1 A n cc _ l _ (H2.out.keep c) c.size hs2).mono ?_
 rintro e w2 ⟨rfl, b2⟩
 replace c := c.trans (b2.mono c.size)
 replace S := S.keep b2
 clear b2 f0 f1 f2
 rw [HLM.out]
 go_wp2_with fail
 refine (iSlotOf_any q _).mono ?_
 rintro e w3 ⟨rfl, b2⟩
 replace c := c.trans (b2.mono c.size)
 replace S := S.keep b2
 clear b2
 go_wp2_with fail
 refine (iReader_any q9 Aa0 na0 ca0 Aa1 na1 ca1 Aa2 na2 ca2 Aa3 na3 ca3 t (slotOfM q) _ (HQB.out.keep c HQL.out) ((HH.out.keep c).up c.size) hs).mono ?_
 rintro e w4 ⟨Ar, nr, cr, rfl, o, b⟩
 obtain ⟨fp_ro, S'⟩ := S.has b o c.size
 replace c := c.trans (b.mono c.size)
 clear S; have S := S'; clear S' o b
 have HR2 := jd (rightAt_len t (slotOfM q))
 generalize rightAt t (slotOfM q) = R at *
 have hrl : R.length = nr := by
  obtain ⟨_, _, _, e, hl, _⟩ := Rd.kept (S.own_ 0 rfl).rd
  injection e with e1 e2 e3
  rw [hl, e2]
 have HRN := jd hrl
 have hn2 : nr ≤ 2 := by have := HR2.out; omega
 have S1 := jd S
 have B1 := jd c
 clear S c hrl
 go_wp2
 go_loopw [24] (fun iv wr => ∃ (i : Nat), i ≤ nr ∧ iv = .int .i64 (i : Int) ∧ nextM t ⟨x0, x1, l⟩ s = pickM ⟨x0, x1, l⟩ s (R.drop i) ∧ Sep wr w.heap.size [.own [keptD R] [.slice Ar nr cr] fp_ro, .blk (w.heap.size + 1) #[.int .i64 0, .int .i64 0, .slice none 0 0] 47, .blk w.heap.size #[.int .i64 x0, .int .i64 x1, .slice A n cc] 47] ∧ Below w.heap.size w wr) (fun iv _ => nr - (intOf iv).toNat)
 case atStart => exact ⟨0, Nat.zero_le _, rfl, HNX.out, S1.out, B1.out⟩
 case round =>
  obtain ⟨i, hi, rfl, hb9, S, c⟩ := hrel
  clear S1 B1 HNX
  by_cases hik : i < nr
  case neg =>
   have HV := jd (show nextM t ⟨x0, x1, l⟩ s = (ent0, false) by rw [hb9, List.drop_eq_nil_of_le (by have := HRN.out; omega)]; rfl)
   clear hb9
   have f3 := lk S 1 0 rfl rfl
   have f4 := (S.at_ 1 rfl).free 0
   have f5 := lk S 1 1 rfl rfl
   have f6 := (S.at_ 1 rfl).free 1
   have f7 := lk S 1 2 rfl rfl
   have f8 := (S.at_ 1 rfl).free 2
   replace S := S.put 1 rfl 0 (.int .i64 0)
   replace c := st c S (by omega)
   replace S := S.put 1 rfl 1 (.int .i64 0)
   replace c := st c S (by omega)
   replace S := S.put 1 rfl 2 (.slice none 0 0)
   replace c := st c S (by omega)
   have r0 := jd ((S.at_ 1 rfl).cell 0)
   have r1 := jd ((S.at_ 1 rfl).cell 1)
   have r2 := jd ((S.at_ 1 rfl).cell 2)
   have CC := jd c
   clear S c
   go_wp2
   exact bodyPost_ret (v := .tuple #[.agg #[.int .i64 0, .int .i64 0, .slice none 0 0], .slice none 0 0, .bool false]) (by simp [results, Tryz.results147, go_sem, r0.out, r1.out, r2.out]) rfl ⟨.inl ⟨by rw [HV.out], rfl⟩, CC.out⟩
  case pos =>
   have hil : i < R.length := by have := HRN.out; omega
   obtain ⟨_, _, _, e, _, _, _, hel⟩ := Rd.kept (S.own_ 0 rfl).rd
   injection e with e1 e2 e3
   subst e1 e2 e3
   obtain ⟨bb, off, rfl, hbb, hcc⟩ := hel (by omega)
   obtain ⟨A9, m9, c9, hcell, hrow, hmc, hcM⟩ := hcc i hil
   have hrd : Rd wr wr.heap.size (rowCells R[i]) [.slice A9 m9 c9] := hrow.rd hmc hcM
   obtain ⟨d, hd⟩ : ∃ d, d = R[i] := ⟨_, rfl⟩
   have HNO := jd (show fitsM ⟨x0, x1, l⟩ s d = false → nextM t ⟨x0, x1, l⟩ s = pickM ⟨x0, x1, l⟩ s (R.drop (i + 1)) from fun h9 => by rw [hb9]; exact pick_skip hil (by rw [← hd]; exact h9))
   have HYES := jd (show fitsM ⟨x0, x1, l⟩ s d = true → nextM t ⟨x0, x1, l⟩ s = ((rowSlotM d).1, true) from fun h9 => by rw [hb9, hd]; exact pick_take hil (by rw [← hd]; exact h9))
   rw [← hd] at hrd
   have HRD := jd hrd
   have i0 : (0 : Int) ≤ (i : Int) := by omega
   have i1 : (i : Int) < (nr : Int) := by omega
   clear hel hcc hrow hmc hcM hrd hd hb9 hil
   go_wp2_with fail
   refine (iRowSlot_at A9 m9 c9 _ d _ HRD.out (Nat.le_refl _)).mono ?_
   rintro e w5 ⟨z0, z1, z2, z3, z4, z5, z6, z7, z8, ok, hrh, rfl, b9⟩
   replace c := c.trans (b9.mono c.size)
   replace S := S.keep b9
   clear b9
   clear hcell HRD
   have HFS := jd (show fitsM ⟨x0, x1, l⟩ s d = (ok && ((appM ⟨x0, x1, l⟩ ⟨z0, z1, z2, z3, z4, z5, z6, z7, z8⟩).2 && (markedM s ⟨z0, z1, z2, z3, z4, z5, z6, z7, z8⟩).2)) by rw [fits_two, hrh])
   have HRH := jd hrh
   clear hrh
   replace S := S.boxAt c.size (w5.heap.size) rfl #[.int .i64 z0, .int .i64 z1, .int .i64 z2, .int .i64 z3, .int .i64 z4, .int .i64 z5, .int .i64 z6, .int .i64 z7, .int .i64 z8] 87
   replace c := al c S
   cases ok
   case false =>
    have HN := jd (HNO.out (by rw [HFS.out]; rfl))
    clear HYES HFS HRH
    replace S := S.sub (.cons _ (.cons_cons _ (.cons_cons _ (.cons_cons _ (List.nil_sublist _)))))
    have SS := jd S
    have CC := jd c
    clear S c
    go_wp2
    go_roundw
    case rel => exact ⟨i + 1, by omega, by go_num, HN.out, SS.out, CC.out⟩
    case measure => simp [intOf] <;> omega
   case true =>
    have f3 := lk S 0 0 rfl rfl
    have f4 := lk S 0 1 rfl rfl
    have f5 := lk S 0 2 rfl rfl
    have f6 := lk S 0 3 rfl rfl
    have f7 := lk S 0 4 rfl rfl
    have f8 := lk S 0 5 rfl rfl
    have f9 := lk S 0 6 rfl rfl
    have f10 := lk S 0 7 rfl rfl
    have f11 := lk S 0 8 rfl rfl
    have f12 := lk S 3 0 rfl rfl
    have f13 := lk S 3 1 rfl rfl
    have f14 := lk S 3 2 rfl rfl
    obtain ⟨ga, hga⟩ : ∃ g, g = (appM ⟨x0, x1, l⟩ ⟨z0, z1, z2, z3, z4, z5, z6, z7, z8⟩).2 := ⟨_, rfl⟩
    obtain ⟨gm, hgm⟩ : ∃ g, g = (markedM s ⟨z0, z1, z2, z3, z4, z5, z6, z7, z8⟩).2 := ⟨_, rfl⟩
    have HFG := jd (show fitsM ⟨x0, x1, l⟩ s d = (ga && gm) by rw [HFS.out, ← hga, ← hgm]; rfl)
    clear HFS
    have HGA := jd hga
    have HGM := jd hgm
    clear hga hgm
    go_wp2_with fail
    generalize w5.alloc (.cells #[.int .i64 z0, .int .i64 z1, .int .i64 z2, .int .i64 z3, .int .i64 z4, .int .i64 z5, .int .i64 z6, .int .i64 z7, .int .i64 z8] 87) = w6 at *
    refine (iApp_any x0 x1 A n cc _ l z0 z1 z2 z3 z4 z5 z6 z7 z8 _ (H2.out.keep c) c.size hs2).mono ?_
    rintro e w7 ⟨y0, y1, Ay, ny, cy, rfl, o, b⟩
    obtain ⟨fp_y, S'⟩ := S.has b o c.size
    replace c := c.trans (b.mono c.size)
    clear S; have S := S'; clear S' o b f3 f4 f5 f6 f7 f8 f9 f10 f11 f12 f13 f14
    rw [← HGA.out]
    replace S := S.boxAt c.size (w7.heap.size) rfl #[.int .i64 y0, .int .i64 y1, .slice Ay ny cy] 47
    replace c := al c S
    obtain ⟨qe, hqe⟩ : ∃ q, q = w5.heap.size := ⟨_, rfl⟩
    rw [← hqe] at S ⊢
    clear hqe
    have f15 := lk S 2 0 rfl rfl
    have f16 := lk S 2 1 rfl rfl
    have f17 := lk S 2 2 rfl rfl
    have f18 := lk S 2 3 rfl rfl
    have f19 := lk S 2 4 rfl rfl
    have f20 := lk S 2 5 rfl rfl
    have f21 := lk S 2 6 rfl rfl
    have f22 := lk S 2 7 rfl rfl
    have f23 := lk S 2 8 rfl rfl
    go_wp2_with fail
    generalize w7.alloc (.cells #[.int .i64 y0, .int .i64 y1, .slice Ay ny cy] 47) = w8 at *
    obtain ⟨qg, hqg⟩ : ∃ q, q = w7.heap.size := ⟨_, rfl⟩
    rw [← hqg] at S ⊢
    clear hqg
    clear f15 f16 f17 f18 f19 f20 f21 f22 f23
    refine (iMarked_any As ns cs _ s z0 z1 z2 z3 z4 z5 z6 z7 z8 _ (H3.out.keep c) c.size hs3).mono ?_
    rintro e w9 ⟨Am, nm, cm, rfl, o, b⟩
    obtain ⟨fp_m, S'⟩ := S.has b o c.size
    replace c := c.trans (b.mono c.size)
    clear S; have S := S'; clear S' o b
    rw [← HGM.out]
    cases ga
    case false =>
     have HN := jd (HNO.out (by rw [HFG.out]; rfl))
     clear HYES HRH HFG HGA HGM
     replace S := S.sub (.cons _ (.cons _ (.cons _ (.cons _ (.cons_cons _ (.cons_cons _ (.cons_cons _ (List.nil_sublist _))))))))
     have SS := jd S
     have CC := jd c
     clear S c
     go_wp2
     go_roundw
     case rel => exact ⟨i + 1, by omega, by go_num, HN.out, SS.out, CC.out⟩
     case measure => simp [intOf] <;> omega
    case true =>
     cases gm
     case false =>
      have HN := jd (HNO.out (by rw [HFG.out]; rfl))
      clear HYES HRH HFG HGA HGM
      replace S := S.sub (.cons _ (.cons _ (.cons _ (.cons _ (.cons_cons _ (.cons_cons _ (.cons_cons _ (List.nil_sublist _))))))))
      have SS := jd S
      have CC := jd c
      clear S c
      go_wp2
      go_roundw
      case rel => exact ⟨i + 1, by omega, by go_num, HN.out, SS.out, CC.out⟩
      case measure => simp [intOf] <;> omega
     case true =>
      have HV := jd (show nextM t ⟨x0, x1, l⟩ s = ((⟨z0, z1, z2, z3, z4, z5, z6, z7, z8⟩ : EntM), true) by rw [HYES.out (by rw [HFG.out]; rfl), HRH.out])
      clear HYES HFG HRH HNO
      have f24 := lk S 1 0 rfl rfl
      have f25 := lk S 1 1 rfl rfl
      have f26 := lk S 1 2 rfl rfl
      have f27 := lk S 5 0 rfl rfl
      have f28 := (S.at_ 5 rfl).free 0
      have f29 := lk S 5 1 rfl rfl
      have f30 := (S.at_ 5 rfl).free 1
      have f31 := lk S 5 2 rfl rfl
      have f32 := (S.at_ 5 rfl).free 2
      replace S := S.put 5 rfl 0 (.int .i64 y0)
      replace c := st c S (by omega)
      replace S := S.put 5 rfl 1 (.int .i64 y1)
      replace c := st c S (by omega)
      replace S := S.put 5 rfl 2 (.slice Ay ny cy)
      replace c := st c S (by omega)
      replace S := S.pick 2 rfl
      replace S := S.pick 1 rfl
      have H := jd S.pair
      have r0 := jd ((S.at_ 5 rfl).cell 0)
      have r1 := jd ((S.at_ 5 rfl).cell 1)
      have r2 := jd ((S.at_ 5 rfl).cell 2)
      have CC := jd c
      clear S c
      go_wp2
      exact bodyPost_ret (v := .tuple #[.agg #[.int .i64 y0, .int .i64 y1, .slice Ay ny cy], .slice Am nm cm, .bool true]) (by simp [results, Tryz.results147, go_sem, r0.out, r1.out, r2.out]) rfl ⟨.inr ⟨_, _, _, _, _, _, _, _, _, HV.out, rfl, H.out⟩, CC.out⟩
end Go.Proofs.YtmjifhjhialcbaaGreat
