/- Parts of my texts: RecI3. -/
import Derived.Test.YtmjifhjhialcbaaGreatL35
namespace Go.Proofs.YtmjifhjhialcbaaGreat
set_option maxRecDepth 100000
set_option linter.unusedVariables false
open Go.RowKit
def MendAt (j : Nat) (w wr : World) (u : TwoM) (vs : List Value) (bx : List Item) : Prop := (j = 0 ∧ Rd w w.heap.size u.cells vs ∧ Sep wr w.heap.size bx) ∨ ∃ fp, Sep wr w.heap.size (.own u.cells vs fp :: bx)
theorem MendAt.rd {j : Nat} {w wr : World} {u : TwoM} {vs : List Value} {bx : List Item} (h : MendAt j w wr u vs bx) (c : Below w.heap.size w wr) : Rd wr wr.heap.size u.cells vs := by
 rcases h with ⟨_, h, _⟩ | ⟨_, S⟩
 · exact (h.keep c).up c.size
 · exact (S.own_ 0 rfl).rd
theorem MendAt.sep {j : Nat} {w wr : World} {u : TwoM} {vs : List Value} {bx : List Item} (h : MendAt j w wr u vs bx) : Sep wr w.heap.size bx := by
 rcases h with ⟨_, _, S⟩ | ⟨_, S⟩
 · exact S
 · exact S.tail
theorem MendAt.own {j : Nat} {w wr : World} {u : TwoM} {vs : List Value} {bx : List Item} (h : MendAt j w wr u vs bx) (hj : 0 < j) : ∃ fp, Sep wr w.heap.size (.own u.cells vs fp :: bx) := by
 rcases h with ⟨h0, _, _⟩ | h
 · omega
 · exact h
set_option maxHeartbeats 25600000 in
theorem iRewritten_any (Aa0 : Option Addr) (na0 ca0 : Nat) (Aa1 : Option Addr) (na1 ca1 : Nat) (Aa2 : Option Addr) (na2 ca2 : Nat) (Aa3 : Option Addr) (na3 ca3 : Nat) (t : TwoM) (x0 x1 x2 : Int) (Ah : Option Addr) (nh ch : Nat) (lh : List MarkM) (bk : BookM) (Ay : Option Addr) (ny cy : Nat) (w : World) (h : Rd w w.heap.size t.cells [.slice Aa0 na0 ca0, .slice Aa1 na1 ca1, .slice Aa2 na2 ca2, .slice Aa3 na3 ca3]) (hk : keptB t = true) (h2 : Rd w w.heap.size [mrkD lh] [.slice Ah nh ch]) (hok : headOkB ⟨x0, x1, x2, lh⟩ = true) (h3 : Rd w w.heap.size [entD bk.ents] [.slice Ay ny cy]) (hb : bookB bk = true) :
    Calls Tryz.prog 61 #[.agg #[.slice Aa0 na0 ca0, .slice Aa1 na1 ca1, .slice Aa2 na2 ca2, .slice Aa3 na3 ca3], .agg #[.int .i64 x0, .int .i64 x1, .int .i64 x2, .slice Ah nh ch], .agg #[.int .i64 bk.base, .int .i64 bk.tm, .slice Ay ny cy]] w (MadeT w (mendTo t (rowsOf ⟨x0, x1, x2, lh⟩ bk) 22)) := by
 have HH := jd h
 have HKO := jd hk
 have H2 := jd h2
 have HOK := jd hok
 have H3 := jd h3
 have HGB := jd hb
 have HNUM := jd (head_num hok)
 have HLZ := jd (show mrkSz lh ≤ 1048576 from Nat.le_trans (seen_len ((headOkB_iff _).1 hok).2.2.2.2.1) (by decide))
 clear h hk h2 hok h3 hb
 have S := Sep.nil w w.heap.size
 have c := Below.refl w.heap.size w
 replace S := S.boxAt c.size (w.heap.size) rfl #[.slice Aa0 na0 ca0, .slice Aa1 na1 ca1, .slice Aa2 na2 ca2, .slice Aa3 na3 ca3] 35
 replace c := al c S
 replace S := S.boxAt c.size (w.heap.size + 1) (by simp) #[.int .i64 x0, .int .i64 x1, .int .i64 x2, .slice Ah nh ch] 45
 replace c := al c S
 replace S := S.boxAt c.size (w.heap.size + 1 + 1) (by simp) #[.int .i64 bk.base, .int .i64 bk.tm, .slice Ay ny cy] 47
 replace c := al c S
 replace S := S.boxAt c.size (w.heap.size + 1 + 1 + 1) (by simp) #[.slice none 0 0, .slice none 0 0, .slice none 0 0, .slice none 0 0] 35
 replace c := al c S
 go_enter Tryz.func61, Tryz.ntmps61
 have hmk := run_make_k (P := Tryz.prog) 30 39 (.slice none 0 0) #[.slice none 0 0] 1 24 Tryz.underlying30 infoRow rfl .i64 .i64 22 (by omega) (by omega)
 rw [Nat.mul_one] at hmk
 have hmd := ow_made (w := (((w.alloc (.cells #[.slice Aa0 na0 ca0, .slice Aa1 na1 ca1, .slice Aa2 na2 ca2, .slice Aa3 na3 ca3] 35)).alloc (.cells #[.int .i64 x0, .int .i64 x1, .int .i64 x2, .slice Ah nh ch] 45)).alloc (.cells #[.int .i64 bk.base, .int .i64 bk.tm, .slice Ay ny cy] 47)).alloc (.cells #[.slice none 0 0, .slice none 0 0, .slice none 0 0, .slice none 0 0] 35)) (e := 39) (f := rowC) (x0 := ([] : List Int)) (zc := #[.slice none 0 0]) (k := 1) rfl (by decide) 22 (by decide) ow_nil_row
 rw [Nat.mul_one] at hmd
 have hmb := (Below.refl _ ((((w.alloc (.cells #[.slice Aa0 na0 ca0, .slice Aa1 na1 ca1, .slice Aa2 na2 ca2, .slice Aa3 na3 ca3] 35)).alloc (.cells #[.int .i64 x0, .int .i64 x1, .int .i64 x2, .slice Ah nh ch] 45)).alloc (.cells #[.int .i64 bk.base, .int .i64 bk.tm, .slice Ay ny cy] 47)).alloc (.cells #[.slice none 0 0, .slice none 0 0, .slice none 0 0, .slice none 0 0] 35))).alloc (Nat.le_refl _) (.cells (madeCells #[.slice none 0 0] 22) 39)
 obtain ⟨fp_R, SM⟩ := S.has hmb ⟨_, hmd, by simp, fun p hp => by have h9 : p = ((((w.alloc (.cells #[.slice Aa0 na0 ca0, .slice Aa1 na1 ca1, .slice Aa2 na2 ca2, .slice Aa3 na3 ca3] 35)).alloc (.cells #[.int .i64 x0, .int .i64 x1, .int .i64 x2, .slice Ah nh ch] 45)).alloc (.cells #[.int .i64 bk.base, .int .i64 bk.tm, .slice Ay ny cy] 47)).alloc (.cells #[.slice none 0 0, .slice none 0 0, .slice none 0 0, .slice none 0 0] 35)).heap.size := (by simpa using hp); omega⟩ c.size
 replace c := c.trans (hmb.mono c.size)
 have hge : ((((w.alloc (.cells #[.slice Aa0 na0 ca0, .slice Aa1 na1 ca1, .slice Aa2 na2 ca2, .slice Aa3 na3 ca3] 35)).alloc (.cells #[.int .i64 x0, .int .i64 x1, .int .i64 x2, .slice Ah nh ch] 45)).alloc (.cells #[.int .i64 bk.base, .int .i64 bk.tm, .slice Ay ny cy] 47)).alloc (.cells #[.slice none 0 0, .slice none 0 0, .slice none 0 0, .slice none 0 0] 35)).heap.size = w.heap.size + 1 + 1 + 1 + 1 := by simp
 rw [hge] at SM
 have hmk2 : (Instr.makeSlice 30 (.int .i64 22) (.int .i64 22)).run Tryz.prog ((((w.alloc (.cells #[.slice Aa0 na0 ca0, .slice Aa1 na1 ca1, .slice Aa2 na2 ca2, .slice Aa3 na3 ca3] 35)).alloc (.cells #[.int .i64 x0, .int .i64 x1, .int .i64 x2, .slice Ah nh ch] 45)).alloc (.cells #[.int .i64 bk.base, .int .i64 bk.tm, .slice Ay ny cy] 47)).alloc (.cells #[.slice none 0 0, .slice none 0 0, .slice none 0 0, .slice none 0 0] 35)) = .ok (.slice (some ⟨w.heap.size + 1 + 1 + 1 + 1, 0, none⟩) 22 22) (((((w.alloc (.cells #[.slice Aa0 na0 ca0, .slice Aa1 na1 ca1, .slice Aa2 na2 ca2, .slice Aa3 na3 ca3] 35)).alloc (.cells #[.int .i64 x0, .int .i64 x1, .int .i64 x2, .slice Ah nh ch] 45)).alloc (.cells #[.int .i64 bk.base, .int .i64 bk.tm, .slice Ay ny cy] 47)).alloc (.cells #[.slice none 0 0, .slice none 0 0, .slice none 0 0, .slice none 0 0] 35)).alloc (.cells (madeCells #[.slice none 0 0] 22) 39)) := by have h9 := hmk ((((w.alloc (.cells #[.slice Aa0 na0 ca0, .slice Aa1 na1 ca1, .slice Aa2 na2 ca2, .slice Aa3 na3 ca3] 35)).alloc (.cells #[.int .i64 x0, .int .i64 x1, .int .i64 x2, .slice Ah nh ch] 45)).alloc (.cells #[.int .i64 bk.base, .int .i64 bk.tm, .slice Ay ny cy] 47)).alloc (.cells #[.slice none 0 0, .slice none 0 0, .slice none 0 0, .slice none 0 0] 35)); rw [hge] at h9; exact h9
 clear S hmd hmb hmk; have S := SM; clear SM
 go_wp2_with fail
 generalize ((((w.alloc (.cells #[.slice Aa0 na0 ca0, .slice Aa1 na1 ca1, .slice Aa2 na2 ca2, .slice Aa3 na3 ca3] 35)).alloc (.cells #[.int .i64 x0, .int .i64 x1, .int .i64 x2, .slice Ah nh ch] 45)).alloc (.cells #[.int .i64 bk.base, .int .i64 bk.tm, .slice Ay ny cy] 47)).alloc (.cells #[.slice none 0 0, .slice none 0 0, .slice none 0 0, .slice none 0 0] 35)).alloc (.cells (madeCells #[.slice none 0 0] 22) 39) = w1 at *
 clear hmk2 hge
 obtain ⟨gr, hgr⟩ : ∃ g, g = w.heap.size + 1 + 1 + 1 + 1 := ⟨_, rfl⟩
 rw [← hgr] at S ⊢
 clear hgr
 obtain ⟨X, hX, hX2⟩ : ∃ X : Nat, (X : Int) = x0 % 2 ∧ X < 2 := ⟨(x0 % 2).toNat, by omega, by omega⟩
 have ht : x0.tmod 2 = (X : Int) := by rw [hX]; exact Int.tmod_eq_emod_of_nonneg HNUM.out.1
 have HX2 := jd hX2
 have HX := jd (show (x0 % 2).toNat = X by omega)
 have xx0 : (0 : Int) ≤ (X : Int) := by omega
 have xx1 : (X : Int) < (22 : Int) := by omega
 clear hX hX2
 refine wp_region_L (fun v => v.cell? ⟨w.heap.size + 1, 0, none⟩ = some (.int .i64 x0) ∧ v.cell? ⟨w.heap.size + 1, 1, none⟩ = some (.int .i64 x1) ∧ v.cell? ⟨w.heap.size + 1, 2, none⟩ = some (.int .i64 x2) ∧ v.cell? ⟨w.heap.size + 1, 3, none⟩ = some (.slice Ah nh ch)) 6 (by kernel_rfl) ?_
 replace S := S.keep ((Below.refl _ _).drew)
 replace c := c.drew
 generalize w1.drew = w2 at *
 have HF : w2.cell? ⟨w.heap.size + 1, 0, none⟩ = some (.int .i64 x0) ∧ w2.cell? ⟨w.heap.size + 1, 1, none⟩ = some (.int .i64 x1) ∧ w2.cell? ⟨w.heap.size + 1, 2, none⟩ = some (.int .i64 x2) ∧ w2.cell? ⟨w.heap.size + 1, 3, none⟩ = some (.slice Ah nh ch) := ⟨(S.at_ 3 rfl).cell 0, (S.at_ 3 rfl).cell 1, (S.at_ 3 rfl).cell 2, (S.at_ 3 rfl).cell 3⟩
 refine tk 0 (v := ?_) rfl rfl HF (.inl ⟨by rfl, ?_⟩) ?_
 rotate_left 1
 · (rintro v ⟨a0, a1, a2, a3⟩; go_simp; try with_reducible rfl)
 try simp only [Act.put]
 refine tk 1 (v := ?_) rfl rfl HF (.inl ⟨by rfl, ?_⟩) ?_
 rotate_left 1
 · (rintro v ⟨a0, a1, a2, a3⟩; go_simp; try with_reducible rfl)
 try simp only [Act.put]
 refine tk 3 (v := ?_) rfl rfl HF (.inl ⟨by rfl, ?_⟩) ?_
 rotate_left 1
 · (rintro v ⟨a0, a1, a2, a3⟩; go_simp; try with_reducible rfl)
 try simp only [Act.put]
 refine wpAnyL_step (i := 2) (by kernel_rfl) rfl rfl ?_
 intro K hK
 go_simp
 refine (iHeadSector_any x0 x1 x2 Ah nh ch _).mono ?_
 rintro e w3 ⟨rfl, b2⟩
 replace c := c.trans (b2.mono c.size)
 replace S := S.keep b2
 clear b2
 rw [ht]
 clear HF
 have HF : w3.cell? ⟨w.heap.size + 1, 0, none⟩ = some (.int .i64 x0) ∧ w3.cell? ⟨w.heap.size + 1, 1, none⟩ = some (.int .i64 x1) ∧ w3.cell? ⟨w.heap.size + 1, 2, none⟩ = some (.int .i64 x2) ∧ w3.cell? ⟨w.heap.size + 1, 3, none⟩ = some (.slice Ah nh ch) := ⟨(S.at_ 3 rfl).cell 0, (S.at_ 3 rfl).cell 1, (S.at_ 3 rfl).cell 2, (S.at_ 3 rfl).cell 3⟩
 refine hK _ _ (fun _ => HF) ?_
 clear hK K
 try simp only [Act.put]
 refine wpAnyL_step (i := 4) (by kernel_rfl) rfl rfl ?_
 intro K hK
 go_simp
 refine (iHeadRow_any x0 x1 x2 Ah nh ch _ lh _ ((H2.out.keep c).up c.size) (Nat.le_refl _) (Nat.le_trans HLZ.out (by decide))).mono ?_
 rintro e w4 ⟨Aw, nw, cw, rfl, _, o, b⟩
 obtain ⟨fp_v, S'⟩ := S.has b o c.size
 replace c := c.trans (b.mono c.size)
 clear S; have S := S'; clear S' o b
 clear HF
 have HF : w4.cell? ⟨w.heap.size + 1, 0, none⟩ = some (.int .i64 x0) ∧ w4.cell? ⟨w.heap.size + 1, 1, none⟩ = some (.int .i64 x1) ∧ w4.cell? ⟨w.heap.size + 1, 2, none⟩ = some (.int .i64 x2) ∧ w4.cell? ⟨w.heap.size + 1, 3, none⟩ = some (.slice Ah nh ch) := ⟨(S.at_ 4 rfl).cell 0, (S.at_ 4 rfl).cell 1, (S.at_ 4 rfl).cell 2, (S.at_ 4 rfl).cell 3⟩
 refine hK _ _ (fun _ => HF) ?_
 clear hK K
 try simp only [Act.put]
 refine wpAnyL_step (i := 5) (by kernel_rfl) rfl rfl ?_
 intro K hK
 go_simp
 refine hK _ _ (fun _ => HF) ?_
 clear hK K
 try simp only [Act.put]
 refine wpAnyL_step (i := 6) (by kernel_rfl) rfl rfl ?_
 intro K hK
 clear HF
 replace S := S.pick 0 rfl
 replace S := S.pick 1 rfl
 obtain ⟨fp_S, S3, t3⟩ := Sep.store (k := 1) (j := X) rowC_len (by decide) S (by rw [List.length_replicate]; have := HX2.out; omega) c.size
 rw [Nat.mul_one] at S3 t3
 obtain ⟨es, he, hcell, hfr⟩ := Sep.slot (k := 1) (j := X) rowC_len (by decide) S (by rw [List.length_replicate]; have := HX2.out; omega)
 match es, he with
 | [y9], _ =>
 have ck := hcell 0 (by decide)
 rw [Nat.add_zero, Nat.mul_one] at ck
 have ck0 : w4.cell? ⟨gr, X, none⟩ = some y9 := ck
 have fk := hfr (X)
 replace c := c.trans (S.below 0 rfl t3 c.size)
 have S4 : Sep (w4.setCell ⟨gr, X, none⟩ (.slice Aw nw cw)) _ _ := S3
 have c4 : Below _ _ (w4.setCell ⟨gr, X, none⟩ (.slice Aw nw cw)) := c
 clear S c; have S := S4; have c := c4
 clear S3 S4 c4 t3 hcell ck
 go_simp
 refine hK _ _ (fun h => nomatch (show true = false from h)) ?_
 clear hK K
 try simp only [Act.put]
 refine wpAnyL_done (by kernel_rfl) ?_ _
 generalize w4.setCell ⟨gr, X, none⟩ (.slice Aw nw cw) = w5 at *
 clear ck0 fk
 clear ht xx0 xx1
 have HR0 := jd (show (List.replicate 22 ([] : List Int)).set X (headRowM ⟨x0, x1, x2, lh⟩) = rowsTo ⟨x0, x1, x2, lh⟩ bk.ents 0 by unfold rowsTo; rw [HX.out]; rfl)
 rw [HR0.out] at S
 clear HR0 HX HX2
 obtain ⟨_, _, _, e, hln, _, _, hel⟩ := H3.out.ents
 injection e with e1 e2 e3
 subst e1 e2 e3
 have HLN := jd hln
 have hn20 : ny ≤ 20 := by have h9 := bookB_len HGB.out; omega
 have HSH := jd (show bk.ents.length = 0 ∨ ∃ lb lo, Ay = some ⟨lb, lo, none⟩ from (Nat.eq_zero_or_pos bk.ents.length).imp id fun h9 => by obtain ⟨lb, lo, h8, _⟩ := hel (by omega); exact ⟨lb, lo, h8⟩)
 clear hel hln
 have f0 := lk S 2 0 rfl rfl
 have f1 := lk S 2 1 rfl rfl
 have f2 := lk S 2 2 rfl rfl
 have S0 := jd S
 have B0 := jd c
 clear S c
 go_wp2
 clear f0 f1 f2
 go_loopw [22] (fun iv wr => ∃ (i : Nat) (fR : List Nat), i ≤ ny ∧ iv = .int .i64 (i : Int) ∧ Sep wr w.heap.size [.own [keptD (rowsTo ⟨x0, x1, x2, lh⟩ bk.ents i)] [.slice (some ⟨gr, 0, none⟩) 22 22] fR, .blk (w.heap.size + 1 + 1 + 1) #[.slice none 0 0, .slice none 0 0, .slice none 0 0, .slice none 0 0] 35, .blk (w.heap.size + 1 + 1) #[.int .i64 bk.base, .int .i64 bk.tm, .slice Ay ny cy] 47, .blk (w.heap.size + 1) #[.int .i64 x0, .int .i64 x1, .int .i64 x2, .slice Ah nh ch] 45, .blk (w.heap.size) #[.slice Aa0 na0 ca0, .slice Aa1 na1 ca1, .slice Aa2 na2 ca2, .slice Aa3 na3 ca3] 35] ∧ Below w.heap.size w wr) (fun iv _ => ny - (intOf iv).toNat)
 case atStart => exact ⟨0, _, Nat.zero_le _, rfl, S0.out, B0.out⟩
 case round =>
  obtain ⟨i, fR, hi, rfl, S, c⟩ := hrel
  clear S0 B0
  by_cases hik : i < ny
  case pos =>
   have hil : i < bk.ents.length := by have := HLN.out; omega
   have HIL := jd hil
   obtain ⟨lb, lo, rfl⟩ : ∃ lb lo, Ay = some ⟨lb, lo, none⟩ := HSH.out.elim (fun h9 => absurd h9 (by omega)) id
   have hlen := rowsTo_len ⟨x0, x1, x2, lh⟩ bk.ents i (Nat.le_of_lt hil)
   have HLE := jd hlen
   have hent := (entsB_all ((bookB_iff _).1 HGB.out).2.2.2.2.1 hil).1
   have hrg : 1 ≤ bk.ents[i].idx ∧ bk.ents[i].idx ≤ 2000 := ent_range hent
   have hsl := slot_lt hrg
   clear hent hrg hlen
   obtain ⟨E, hE⟩ : ∃ E, E = bk.ents[i] := ⟨_, rfl⟩
   have HRS := jd (show rowsTo ⟨x0, x1, x2, lh⟩ bk.ents (i + 1) = (rowsTo ⟨x0, x1, x2, lh⟩ bk.ents i).set (slotOfM E.idx).toNat (slotRowM E) by subst hE; exact rowsTo_step _ HIL.out)
   replace hsl : 2 ≤ (slotOfM E.idx).toNat ∧ (slotOfM E.idx).toNat < 22 ∧ ((slotOfM E.idx).toNat : Int) = slotOfM E.idx := by subst hE; exact hsl
   have HME := jd hE.symm
   clear hE
   obtain ⟨e0, e1, e2, e3, e4, e5, e6, e7, e8⟩ := E
   obtain ⟨Y, hY⟩ : ∃ Y, Y = (slotOfM e0).toNat := ⟨_, rfl⟩
   have hY1 : (Y : Int) = slotOfM e0 := by rw [hY]; exact hsl.2.2
   have hY2 : Y < 22 := by rw [hY]; exact hsl.2.1
   have HY1 := jd hY1
   have HY2 := jd hY2
   have HRS2 := jd (show (rowsTo ⟨x0, x1, x2, lh⟩ bk.ents i).set Y (slotRowM ⟨e0, e1, e2, e3, e4, e5, e6, e7, e8⟩) = rowsTo ⟨x0, x1, x2, lh⟩ bk.ents (i + 1) by rw [HRS.out, hY])
   have y0 : (0 : Int) ≤ (Y : Int) := by omega
   have y1 : (Y : Int) < (22 : Int) := by omega
   have i0 : (0 : Int) ≤ (i : Int) := by omega
   have i1 : (i : Int) < (ny : Int) := by omega
   clear hY hY1 hY2 hsl HRS hil
   obtain ⟨hc0, hc1, hc2, hc3, hc4, hc5, hc6, hc7, hc8⟩ := ents_is (H3.out.keep c) HIL.out HME.out
   replace S := S.boxAt c.size (wr.heap.size) rfl #[.int .i64 e0, .int .i64 e1, .int .i64 e2, .int .i64 e3, .int .i64 e4, .int .i64 e5, .int .i64 e6, .int .i64 e7, .int .i64 e8] 87
   replace c := al c S
   go_wp2_with fail
   generalize wr.alloc (.cells #[.int .i64 e0, .int .i64 e1, .int .i64 e2, .int .i64 e3, .int .i64 e4, .int .i64 e5, .int .i64 e6, .int .i64 e7, .int .i64 e8] 87) = w6 at *
   obtain ⟨qe, hqe⟩ : ∃ q, q = wr.heap.size := ⟨_, rfl⟩
   rw [← hqe] at S ⊢
   clear hqe hc0 hc1 hc2 hc3 hc4 hc5 hc6 hc7 hc8
   refine wp_region_L (fun v => v.cell? ⟨qe, 0, none⟩ = some (.int .i64 e0) ∧ v.cell? ⟨qe, 1, none⟩ = some (.int .i64 e1) ∧ v.cell? ⟨qe, 2, none⟩ = some (.int .i64 e2) ∧ v.cell? ⟨qe, 3, none⟩ = some (.int .i64 e3) ∧ v.cell? ⟨qe, 4, none⟩ = some (.int .i64 e4) ∧ v.cell? ⟨qe, 5, none⟩ = some (.int .i64 e5) ∧ v.cell? ⟨qe, 6, none⟩ = some (.int .i64 e6) ∧ v.cell? ⟨qe, 7, none⟩ = some (.int .i64 e7) ∧ v.cell? ⟨qe, 8, none⟩ = some (.int .i64 e8)) 7 (by kernel_rfl) ?_
   replace S := S.keep ((Below.refl _ _).drew)
   replace c := c.drew
   generalize w6.drew = w7 at *
   have HF : w7.cell? ⟨qe, 0, none⟩ = some (.int .i64 e0) ∧ w7.cell? ⟨qe, 1, none⟩ = some (.int .i64 e1) ∧ w7.cell? ⟨qe, 2, none⟩ = some (.int .i64 e2) ∧ w7.cell? ⟨qe, 3, none⟩ = some (.int .i64 e3) ∧ w7.cell? ⟨qe, 4, none⟩ = some (.int .i64 e4) ∧ w7.cell? ⟨qe, 5, none⟩ = some (.int .i64 e5) ∧ w7.cell? ⟨qe, 6, none⟩ = some (.int .i64 e6) ∧ w7.cell? ⟨qe, 7, none⟩ = some (.int .i64 e7) ∧ w7.cell? ⟨qe, 8, none⟩ = some (.int .i64 e8) := ⟨(S.at_ 0 rfl).cell 0, (S.at_ 0 rfl).cell 1, (S.at_ 0 rfl).cell 2, (S.at_ 0 rfl).cell 3, (S.at_ 0 rfl).cell 4, (S.at_ 0 rfl).cell 5, (S.at_ 0 rfl).cell 6, (S.at_ 0 rfl).cell 7, (S.at_ 0 rfl).cell 8⟩
   refine tk 0 (v := ?_) rfl rfl HF (.inl ⟨by rfl, ?_⟩) ?_
   rotate_left 1
   · (rintro v ⟨a0, a1, a2, a3, a4, a5, a6, a7, a8⟩; go_simp; try with_reducible rfl)
   try simp only [Act.put]
   refine tk 1 (v := ?_) rfl rfl HF (.inl ⟨by rfl, ?_⟩) ?_
   rotate_left 1
   · (rintro v ⟨a0, a1, a2, a3, a4, a5, a6, a7, a8⟩; go_simp; try with_reducible rfl)
   try simp only [Act.put]
   refine tk 2 (v := ?_) rfl rfl HF (.inl ⟨by rfl, ?_⟩) ?_
   rotate_left 1
   · (rintro v ⟨a0, a1, a2, a3, a4, a5, a6, a7, a8⟩; go_simp; try with_reducible rfl)
   try simp only [Act.put]
   refine tk 4 (v := ?_) rfl rfl HF (.inl ⟨by rfl, ?_⟩) ?_
   rotate_left 1
   · (rintro v ⟨a0, a1, a2, a3, a4, a5, a6, a7, a8⟩; go_simp; try with_reducible rfl)
   try simp only [Act.put]
   refine wpAnyL_step (i := 3) (by kernel_rfl) rfl rfl ?_
   intro K hK
   go_simp
   refine (iSlotOf_any e0 _).mono ?_
   rintro e w8 ⟨rfl, b2⟩
   replace c := c.trans (b2.mono c.size)
   replace S := S.keep b2
   clear b2
   rw [← HY1.out]
   clear HF
   have HF : w8.cell? ⟨qe, 0, none⟩ = some (.int .i64 e0) ∧ w8.cell? ⟨qe, 1, none⟩ = some (.int .i64 e1) ∧ w8.cell? ⟨qe, 2, none⟩ = some (.int .i64 e2) ∧ w8.cell? ⟨qe, 3, none⟩ = some (.int .i64 e3) ∧ w8.cell? ⟨qe, 4, none⟩ = some (.int .i64 e4) ∧ w8.cell? ⟨qe, 5, none⟩ = some (.int .i64 e5) ∧ w8.cell? ⟨qe, 6, none⟩ = some (.int .i64 e6) ∧ w8.cell? ⟨qe, 7, none⟩ = some (.int .i64 e7) ∧ w8.cell? ⟨qe, 8, none⟩ = some (.int .i64 e8) := ⟨(S.at_ 0 rfl).cell 0, (S.at_ 0 rfl).cell 1, (S.at_ 0 rfl).cell 2, (S.at_ 0 rfl).cell 3, (S.at_ 0 rfl).cell 4, (S.at_ 0 rfl).cell 5, (S.at_ 0 rfl).cell 6, (S.at_ 0 rfl).cell 7, (S.at_ 0 rfl).cell 8⟩
   refine hK _ _ (fun _ => HF) ?_
   clear hK K
   try simp only [Act.put]
   refine wpAnyL_step (i := 5) (by kernel_rfl) rfl rfl ?_
   intro K hK
   go_simp
   refine (iSlotRow_any e0 e1 e2 e3 e4 e5 e6 e7 e8 _).mono ?_
   rintro e w9 ⟨Aw, nw, cw, rfl, _, o, b⟩
   obtain ⟨fp_v, S'⟩ := S.has b o c.size
   replace c := c.trans (b.mono c.size)
   clear S; have S := S'; clear S' o b
   clear HF
   have HF : w9.cell? ⟨qe, 0, none⟩ = some (.int .i64 e0) ∧ w9.cell? ⟨qe, 1, none⟩ = some (.int .i64 e1) ∧ w9.cell? ⟨qe, 2, none⟩ = some (.int .i64 e2) ∧ w9.cell? ⟨qe, 3, none⟩ = some (.int .i64 e3) ∧ w9.cell? ⟨qe, 4, none⟩ = some (.int .i64 e4) ∧ w9.cell? ⟨qe, 5, none⟩ = some (.int .i64 e5) ∧ w9.cell? ⟨qe, 6, none⟩ = some (.int .i64 e6) ∧ w9.cell? ⟨qe, 7, none⟩ = some (.int .i64 e7) ∧ w9.cell? ⟨qe, 8, none⟩ = some (.int .i64 e8) := ⟨(S.at_ 1 rfl).cell 0, (S.at_ 1 rfl).cell 1, (S.at_ 1 rfl).cell 2, (S.at_ 1 rfl).cell 3, (S.at_ 1 rfl).cell 4, (S.at_ 1 rfl).cell 5, (S.at_ 1 rfl).cell 6, (S.at_ 1 rfl).cell 7, (S.at_ 1 rfl).cell 8⟩
   refine hK _ _ (fun _ => HF) ?_
   clear hK K
   try simp only [Act.put]
   refine wpAnyL_step (i := 6) (by kernel_rfl) rfl rfl ?_
   intro K hK
   go_simp
   refine hK _ _ (fun _ => HF) ?_
   clear hK K
   try simp only [Act.put]
   refine wpAnyL_step (i := 7) (by kernel_rfl) rfl rfl ?_
   intro K hK
   clear HF
   replace S := S.pick 0 rfl
   replace S := S.pick 2 rfl
   obtain ⟨fp_S, S3, t3⟩ := Sep.store (k := 1) (j := Y) rowC_len (by decide) S (by rw [HLE.out]; exact HY2.out) c.size
   rw [Nat.mul_one] at S3 t3
   obtain ⟨es, he, hcell, hfr⟩ := Sep.slot (k := 1) (j := Y) rowC_len (by decide) S (by rw [HLE.out]; exact HY2.out)
   match es, he with
   | [y9], _ =>
   have ck := hcell 0 (by decide)
   rw [Nat.add_zero, Nat.mul_one] at ck
   have ck0 : w9.cell? ⟨gr, Y, none⟩ = some y9 := ck
   have fk := hfr (Y)
   replace c := c.trans (S.below 0 rfl t3 c.size)
   have S4 : Sep (w9.setCell ⟨gr, Y, none⟩ (.slice Aw nw cw)) _ _ := S3
   have c4 : Below _ _ (w9.setCell ⟨gr, Y, none⟩ (.slice Aw nw cw)) := c
   clear S c; have S := S4; have c := c4
   clear S3 S4 c4 t3 hcell ck
   go_simp
   refine hK _ _ (fun h => nomatch (show true = false from h)) ?_
   clear hK K
   try simp only [Act.put]
   refine wpAnyL_done (by kernel_rfl) ?_ _
   generalize w9.setCell ⟨gr, Y, none⟩ (.slice Aw nw cw) = w10 at *
   clear ck0 fk
   replace S := S.sub (.cons_cons _ (.cons _ (.cons_cons _ (.cons_cons _ (.cons_cons _ (.cons_cons _ (List.nil_sublist _)))))))
   rw [HRS2.out] at S
   clear HRS2 HME y0 y1
   have SS := jd S
   have CC := jd c
   clear S c
   go_wp2
   go_roundw
   case rel => exact ⟨i + 1, _, by omega, by go_num, SS.out, CC.out⟩
   case measure => simp [intOf] <;> omega
  case neg =>
   obtain rfl : ny = i := by omega
   have hra : rowsTo ⟨x0, x1, x2, lh⟩ bk.ents ny = rowsOf ⟨x0, x1, x2, lh⟩ bk := by have h9 := rowsTo_all ⟨x0, x1, x2, lh⟩ bk; rw [HLN.out] at h9; exact h9
   rw [hra] at S
   have HRL := jd (rowsOf_len ⟨x0, x1, x2, lh⟩ bk)
   have HRB := jd (rowsOf_le ⟨x0, x1, x2, lh⟩ bk)
   have HKS := jd (fun k => mendTo_ok HKO.out (rowsOf ⟨x0, x1, x2, lh⟩ bk) k)
   clear hra hik hi
   generalize rowsOf ⟨x0, x1, x2, lh⟩ bk = RW at *
   have S0 := jd S
   have B0 := jd c
   clear S c
   go_wp2
   go_loopw [36] (fun kv wr => ∃ (k : Nat) (Ao0 : Option Addr) (no0 co0 : Nat) (Ao1 : Option Addr) (no1 co1 : Nat) (Ao2 : Option Addr) (no2 co2 : Nat) (Ao3 : Option Addr) (no3 co3 : Nat), k ≤ 22 ∧ kv = .int .i64 (k : Int) ∧ MendAt k w wr (mendTo t RW k) [.slice Ao0 no0 co0, .slice Ao1 no1 co1, .slice Ao2 no2 co2, .slice Ao3 no3 co3] [.own [keptD RW] [.slice (some ⟨gr, 0, none⟩) 22 22] fR, .blk (w.heap.size + 1 + 1 + 1) #[.slice none 0 0, .slice none 0 0, .slice none 0 0, .slice none 0 0] 35, .blk (w.heap.size + 1 + 1) #[.int .i64 bk.base, .int .i64 bk.tm, .slice Ay ny cy] 47, .blk (w.heap.size + 1) #[.int .i64 x0, .int .i64 x1, .int .i64 x2, .slice Ah nh ch] 45, .blk (w.heap.size) #[.slice Ao0 no0 co0, .slice Ao1 no1 co1, .slice Ao2 no2 co2, .slice Ao3 no3 co3] 35] ∧ Below w.heap.size w wr) (fun kv _ => 22 - (intOf kv).toNat)
   case atStart => exact ⟨0, Aa0, na0, ca0, Aa1, na1, ca1, Aa2, na2, ca2, Aa3, na3, ca3, Nat.zero_le _, rfl, Or.inl ⟨rfl, HH.out, S0.out⟩, B0.out⟩
   case round =>
    obtain ⟨k, Ao0, no0, co0, Ao1, no1, co1, Ao2, no2, co2, Ao3, no3, co3, hk, rfl, hma, c⟩ := hrel
    clear S0 B0
    have HRT := jd (hma.rd c)
    by_cases hk2 : k < 22
    case neg =>
     have hk22 : k = 22 := by omega
     obtain ⟨TR, hTR⟩ : ∃ T, T = mendTo t RW k := ⟨_, rfl⟩
     have HV := jd (show mendTo t RW 22 = TR by rw [hTR, hk22])
     rw [← hTR] at hma
     obtain ⟨fo, S⟩ := hma.own (by omega)
     have hd1 : ¬ ((k : Int) < 22) := by omega
     have hd2 : decide ((k : Int) < 22) = false := decide_eq_false hd1
     clear hTR hk22 hk hk2 hma HRT
     have f3 := lk S 5 0 rfl rfl
     have f4 := lk S 5 1 rfl rfl
     have f5 := lk S 5 2 rfl rfl
     have f6 := lk S 5 3 rfl rfl
     have f7 := lk S 2 0 rfl rfl
     have f8 := (S.at_ 2 rfl).free 0
     have f9 := lk S 2 1 rfl rfl
     have f10 := (S.at_ 2 rfl).free 1
     have f11 := lk S 2 2 rfl rfl
     have f12 := (S.at_ 2 rfl).free 2
     have f13 := lk S 2 3 rfl rfl
     have f14 := (S.at_ 2 rfl).free 3
     replace S := S.put 2 rfl 0 (.slice Ao0 no0 co0)
     replace c := st c S (by omega)
     replace S := S.put 2 rfl 1 (.slice Ao1 no1 co1)
     replace c := st c S (by omega)
     replace S := S.put 2 rfl 2 (.slice Ao2 no2 co2)
     replace c := st c S (by omega)
     replace S := S.put 2 rfl 3 (.slice Ao3 no3 co3)
     replace c := st c S (by omega)
     have H := jd S.first
     have r0 := jd ((S.at_ 2 rfl).cell 0)
     have r1 := jd ((S.at_ 2 rfl).cell 1)
     have r2 := jd ((S.at_ 2 rfl).cell 2)
     have r3 := jd ((S.at_ 2 rfl).cell 3)
     have CC := jd c
     clear S c
     go_wp2
     exact bodyPost_ret (v := .agg #[.slice Ao0 no0 co0, .slice Ao1 no1 co1, .slice Ao2 no2 co2, .slice Ao3 no3 co3]) (by simp [results, Tryz.results61, go_sem, r0.out, r1.out, r2.out, r3.out]) rfl ⟨_, _, _, _, _, _, _, _, _, _, _, _, rfl, by rw [HV.out]; exact H.out, CC.out⟩
    case pos =>
     have S := hma.sep
     clear hma
     have hkl : k < RW.length := by have := HRL.out; omega
     have hrl := HRB.out k hkl
     have hko := HKS.out k
     have HKO2 := jd (Nat.le_trans (ok_two_sz ((keptB_iff _).1 hko).1) (show 9800 ≤ 1048576 by decide))
     obtain ⟨_, _, _, e, _, _, _, hel⟩ := Rd.kept (S.own_ 0 rfl).rd
     injection e with e1 e2 e3
     subst e1 e2 e3
     obtain ⟨bb, off, hbo, hbb, hcc⟩ := hel (by omega)
     injection hbo with hbo
     injection hbo with hb1 hb2 _
     subst hb1 hb2
     obtain ⟨A9, m9, c9, hcell, hrow, hmc, hcM⟩ := hcc k hkl
     have hrd : Rd wr wr.heap.size (rowCells RW[k]) [.slice A9 m9 c9] := hrow.rd hmc hcM
     have HMS := jd (show mendTo t RW (k + 1) = mendedAt (mendTo t RW k) (k : Int) RW[k] by show mendedAt _ _ _ = _; rw [List.getD_eq_getElem?_getD, List.getElem?_eq_getElem hkl]; rfl)
     obtain ⟨d, hd⟩ : ∃ d, d = RW[k] := ⟨_, rfl⟩
     rw [← hd] at hrd HMS hrl
     have HRD := jd hrd
     have HRL2 := jd hrl
     have k0 : (0 : Int) ≤ (k : Int) := by omega
     have k1 : (k : Int) < (22 : Int) := by omega
     rw [Nat.zero_add] at hcell
     clear hel hcc hrow hmc hcM hrd hd hkl hrl hko
     have f3 := lk S 4 0 rfl rfl
     have f4 := lk S 4 1 rfl rfl
     have f5 := lk S 4 2 rfl rfl
     have f6 := lk S 4 3 rfl rfl
     go_wp2_with fail
     clear hcell
     refine (iMendedAt_any Ao0 no0 co0 Ao1 no1 co1 Ao2 no2 co2 Ao3 no3 co3 (mendTo t RW k) (k : Int) A9 m9 c9 d _ HRT.out HKO2.out HRD.out (Nat.le_trans HRL2.out (by decide))).mono ?_
     rintro e w6 ⟨Ap0, np0, cp0, Ap1, np1, cp1, Ap2, np2, cp2, Ap3, np3, cp3, rfl, o, b⟩
     obtain ⟨fp_p, S'⟩ := S.has b o c.size
     replace c := c.trans (b.mono c.size)
     clear S; have S := S'; clear S' o b f3 f4 f5 f6
     rw [← HMS.out] at S
     have f7 := lk S 5 0 rfl rfl
     have f8 := (S.at_ 5 rfl).free 0
     have f9 := lk S 5 1 rfl rfl
     have f10 := (S.at_ 5 rfl).free 1
     have f11 := lk S 5 2 rfl rfl
     have f12 := (S.at_ 5 rfl).free 2
     have f13 := lk S 5 3 rfl rfl
     have f14 := (S.at_ 5 rfl).free 3
     replace S := S.put 5 rfl 0 (.slice Ap0 np0 cp0)
     replace c := st c S (by omega)
     replace S := S.put 5 rfl 1 (.slice Ap1 np1 cp1)
     replace c := st c S (by omega)
     replace S := S.put 5 rfl 2 (.slice Ap2 np2 cp2)
     replace c := st c S (by omega)
     replace S := S.put 5 rfl 3 (.slice Ap3 np3 cp3)
     replace c := st c S (by omega)
     have SS := jd S
     have CC := jd c
     clear S c HRT
     go_wp2
     go_roundw
     case rel => exact ⟨k + 1, _, _, _, _, _, _, _, _, _, _, _, _, by omega, by go_num, Or.inr ⟨_, SS.out⟩, CC.out⟩
     case measure => simp [intOf] <;> omega
end Go.Proofs.YtmjifhjhialcbaaGreat
