/- Parts of my texts: KS6. -/
import Derived.Test.YtecihkkagpbkdaaK11
namespace Go.Proofs.Ytecihkkagpbkdaa
set_option maxRecDepth 100000
set_option linter.unusedVariables false
open Go.RowKit
theorem kept_some {w : World} {l : List (List Int)} {G : Option Addr} {j g : Nat} {fp : List Nat} (h : Ow w [keptD l] [.slice G j g] fp) (hl : 0 < l.length) : ∃ g0, G = some ⟨g0, 0, none⟩ := by
 obtain ⟨us, fp1, h1, _, _⟩ := h.lst (k := 1) rowC_len (by decide)
 rcases h1.2 with ⟨_, h0⟩ | ⟨g0, _, _, e, _⟩
 · omega
 · injection e with e; exact ⟨g0, e⟩
theorem has_kept_nil {w : World} {base : Nat} {l : List (List Int)} {v : Value} (h : Has w base [keptD l] [v]) : Has w base [keptD l, waitD []] [v, .slice none 0 0] := by
 obtain ⟨fp, ho, hn, hg⟩ := h
 have := ho.append (ow_nil_wait w)
 rw [List.append_nil] at this
 exact ⟨fp, this, hn, hg⟩
theorem fell_keep {all : Bool} {fate : Int} {k : List (List Int)} {X : Nat} {r : List Int} (h : all = true ∨ fate = 1) : fell all fate k ((X : Int), r) = k.set X r := by
 unfold fell; rw [if_pos h]; rfl
theorem fell_torn {fate : Int} {k : List (List Int)} {X : Nat} {r : List Int} (h : fate = 2) : fell false fate k ((X : Int), r) = k.set X (torn r (k.getD X [])) := by
 unfold fell; rw [if_neg (by rintro (h1 | h1); cases h1; omega), if_pos h]; rfl
theorem fell_lost {fate : Int} {k : List (List Int)} {p : Int × List Int} (h1 : fate ≠ 1) (h2 : fate ≠ 2) : fell false fate k p = k := by
 unfold fell; rw [if_neg (by rintro (h | h); cases h; exact h1 h), if_neg h2]
set_option maxHeartbeats 12800000 in
theorem sFall_any (A : Option Addr) (n c : Nat) (A' : Option Addr) (n' c' : Nat) (d : DiskM) (E : Option Addr) (o co : Nat) (fs : List Int) (all : Bool) (w : World) (h : Rd w w.heap.size d.cells [.slice A n c, .slice A' n' c']) (hs : d.sz ≤ 1048577) (h2 : IRow w w.heap.size E o fs) (hs2 : o ≤ 1048577) (hd : diskOk d = true) :
    Calls Try.prog 146 #[.agg #[.slice A n c, .slice A' n' c'], .slice E o co, .bool all] w (MadeD w (fall all d fs)) := by
 obtain ⟨_, _, _, _, _, _, e, e', q1, q2⟩ := h.disk
 injection e with e1 e2 e3
 subst e1 e2 e3
 injection e' with e1 e2 e3
 subst e1 e2 e3
 obtain ⟨_, _, _, e, hl1, _⟩ := q1.kept
 injection e with e1 e2 e3
 subst e1 e2 e3
 obtain ⟨_, _, _, e, hl2, _, _, hel2⟩ := q2.wait
 injection e with e1 e2 e3
 subst e1 e2 e3
 have hok := diskOk_iff.1 hd
 have hn1 : 1 ≤ n := by have := hok.1.1; omega
 have hn40 : n ≤ 40 := by have := hok.1.2; omega
 have hn60 : n' ≤ 60 := by have := hok.2.1; omega
 have HOK := jd (ok_wait hd)
 have HK0 := jd (ok_kept_len hd)
 have HL1 := jd hl1
 have HL2 := jd hl2
 have HO := jd h2.1
 obtain ⟨w0, hw0⟩ : ∃ w0, w0 = (w.alloc (.cells #[.slice A n c, .slice A' n' c'] 32)).alloc (.cells #[.slice none 0 0, .slice none 0 0] 32) := ⟨_, rfl⟩
 have S : Sep w0 w.heap.size [.blk (w.heap.size + 1) #[.slice none 0 0, .slice none 0 0] 32, .blk w.heap.size #[.slice A n c, .slice A' n' c'] 32] := by
  rw [hw0]
  have := ((Sep.nil w w.heap.size).box (Nat.le_refl _) #[.slice A n c, .slice A' n' c'] 32).box (by simp) #[.slice none 0 0, .slice none 0 0] 32
  simpa using this
 have c0 : Below w.heap.size w w0 := by
  rw [hw0]
  exact ((Below.refl _ w).alloc (Nat.le_refl _) _).alloc (by simp) _
 have HW := jd hw0
 clear hw0 q1 q2 hl1 hl2 hok hd
 go_enter Try.func146, Try.ntmps146
 go_wp2_with fail
 rw [← HW.out]
 refine (sCopyD_any _ _ d _ ((h.keep c0).up c0.size) hs).mono ?_
 rintro e w2 ⟨G, j, g, H, q0, hc, rfl, ow, b⟩
 obtain ⟨fp0, S'⟩ := S.has b ow c0.size
 replace c0 := c0.trans (b.mono c0.size)
 clear S ow b h
 obtain ⟨v1, v2, fk, fw, ev, SX⟩ := Sep.split (d1 := [keptD d.kept]) (d2 := [waitD d.wait]) S'
 obtain ⟨ev1, ev2⟩ : v1 = [.slice G j g] ∧ v2 = [.slice H q0 hc] := by
  have l1 := (SX.own_ 1 rfl).len
  have l2 := (SX.own_ 0 rfl).len
  match v1, v2, l1, l2 with
  | [y1], [y2], _, _ =>
   injection ev with a1 a2
   injection a2 with a2 _
   subst a1 a2
   exact ⟨rfl, rfl⟩
 subst ev1 ev2
 obtain ⟨g0, rfl⟩ := kept_some (SX.own_ 1 rfl) (by have := HL1.out; omega)
 obtain rfl : n = j := by rw [← keptD_len (SX.own_ 1 rfl)]; exact HL1.out.symm
 have S1 := (SX.tail.box c0.size #[.slice (some ⟨g0, 0, none⟩) n g, .slice none 0 0] 32).swap
 have zw2 := c0.size
 replace c0 := c0.alloc c0.size (.cells #[.slice (some ⟨g0, 0, none⟩) n g, .slice none 0 0] 32)
 have S1' := jd S1
 have C1 := jd c0
 have hfd : ∀ w9 : World, (Instr.field 32 (.agg #[.slice (some ⟨g0, 0, none⟩) n g, .slice H q0 hc]) 0).run Try.prog w9 = .ok (.slice (some ⟨g0, 0, none⟩) n g) w9 := fun _ => by kernel_rfl
 clear SX S' S1 c0 ev
 go_wp2
 clear hfd
 go_loopw [8] (fun i wr => ∃ (q : Nat) (fp : List Nat), q ≤ n' ∧ i = .int .i64 (q : Int) ∧ Sep wr w.heap.size [.own [keptD (fellTo all fs d.kept d.wait q)] [.slice (some ⟨g0, 0, none⟩) n g] fp, .blk w2.heap.size #[.slice (some ⟨g0, 0, none⟩) n g, .slice none 0 0] 32, .blk (w.heap.size + 1) #[.slice none 0 0, .slice none 0 0] 32, .blk w.heap.size #[.slice A n c, .slice A' n' c'] 32] ∧ Below w.heap.size w wr) (fun i _ => n' - (intOf i).toNat)
 case atStart => exact ⟨0, fk, Nat.zero_le _, rfl, S1'.out, C1.out⟩
 case round =>
  obtain ⟨q, fp, hq, rfl, S, hbel⟩ := hrel
  clear S1' C1
  have zw := hbel.size
  have k0 := lk S 3 1 rfl rfl
  by_cases hlt : q < n'
  · obtain ⟨b, off, rfl, hb, hcc⟩ := hel2 (by omega)
    have hjl : q < d.wait.length := by have := HL2.out; omega
    obtain ⟨A1, m1, d1, hcell, hcell2, hrow, hm1, hm2⟩ := hcc q hjl
    obtain ⟨⟨x0, x1⟩, x48⟩ := HOK.out _ (List.getElem_mem hjl)
    obtain ⟨X, hXe⟩ := Int.eq_ofNat_of_zero_le x0
    have hX : X < n := by have := HL1.out; omega
    have hm : m1 ≤ 1048577 := by have := hrow.1; omega
    obtain ⟨xr, hxr⟩ : ∃ xr, xr = d.wait[q].2 := ⟨_, rfl⟩
    rw [hXe] at hcell
    rw [← hxr] at hrow
    have hwq : d.wait.getD q (0, []) = ((X : Int), xr) := by
     simp only [List.getD, List.getElem?_eq_getElem hjl, Option.getD_some]
     rw [← hXe, hxr]
    have HN0 := jd (show fellTo all fs d.kept d.wait (q + 1) = fell all (fs.getD q 0) (fellTo all fs d.kept d.wait q) ((X : Int), xr) by rw [fellTo, hwq])
    have HKL := jd (show (fellTo all fs d.kept d.wait q).length = n by rw [fellTo_len]; exact HL1.out)
    have HK48 := jd (fellTo_rows (all := all) (fs := fs) HK0.out (fun p hp => (HOK.out p hp).2) q)
    have ce := (hbel.cell (p := ⟨b, off + q * 2, none⟩) hb).trans hcell
    have ce2 := (hbel.cell (p := ⟨b, off + q * 2 + 1, none⟩) hb).trans hcell2
    have i0 : (0 : Int) ≤ (q : Int) := by omega
    have i1 : (q : Int) < (n' : Int) := by omega
    have j0 : (0 : Int) ≤ (X : Int) := by omega
    have j1 : (X : Int) < (n : Int) := by omega
    have hfr0 := h2.below hbel
    have SB := S.box zw #[.int .i64 (X : Int), .slice A1 m1 d1] 129
    have cb := hbel.alloc zw (.cells #[.int .i64 (X : Int), .slice A1 m1 d1] 129)
    have f0 : (wr.alloc (.cells #[.int .i64 (X : Int), .slice A1 m1 d1] 129)).cell? ⟨w2.heap.size, 0, none⟩ = some (.slice (some ⟨g0, 0, none⟩) n g) := (SB.at_ 2 rfl).cell 0
    have f1 : (wr.alloc (.cells #[.int .i64 (X : Int), .slice A1 m1 d1] 129)).cell? ⟨wr.heap.size, 0, none⟩ = some (.int .i64 (X : Int)) := (SB.at_ 0 rfl).cell 0
    have f2 : (wr.alloc (.cells #[.int .i64 (X : Int), .slice A1 m1 d1] 129)).cell? ⟨wr.heap.size, 1, none⟩ = some (.slice A1 m1 d1) := (SB.at_ 0 rfl).cell 1
    have hr := jd ((hrow.below cb).up cb.size)
    obtain ⟨_, _, _, e9, _, _, _, hok9⟩ := (SB.own_ 1 rfl).rd.kept
    injection e9 with e9a e9b e9c
    subst e9a e9b e9c
    have zwa := cb.size
    have SH := jd SB
    have BH := jd cb
    have hff : q < o → ∃ b9 off9, E = some ⟨b9, off9, none⟩ ∧ (wr.alloc (.cells #[.int .i64 (X : Int), .slice A1 m1 d1] 129)).cell? ⟨b9, off9 + q, none⟩ = some (.int .i64 (fs.getD q 0)) := fun hqo => by
     obtain ⟨b9, off9, e9, hb9, hc9⟩ := h2.2 (by omega)
     exact ⟨b9, off9, e9, (cb.cell (p := ⟨b9, off9 + q, none⟩) hb9).trans (hc9 q hqo)⟩
    clear hcc hrow hcell hcell2 hel2 hbel S SB cb hXe hxr hwq x0 x1 x48 hfr0
    by_cases hqo : q < o
    · obtain ⟨b9, off9, rfl, cf⟩ := hff hqo
      have io : (q : Int) < (o : Int) := by omega
      generalize hft : fs.getD q 0 = ft at *
      clear hff hft
      cases all
      · by_cases h1 : ft = 1
        · have HN := jd (show _ = (fellTo false fs d.kept d.wait q).set X xr from HN0.out.trans (fell_keep (.inr h1)))
          subst h1
          clear hok9
          go_wp2_with fail
          generalize wr.alloc (.cells #[.int .i64 (X : Int), .slice A1 m1 d1] 129) = wa at *
          refine wp_region_L (fun v => v.cell? ⟨w2.heap.size, 0, none⟩ = some (.slice (some ⟨g0, 0, none⟩) n g) ∧ v.cell? ⟨wr.heap.size, 0, none⟩ = some (.int .i64 (X : Int)) ∧ v.cell? ⟨wr.heap.size, 1, none⟩ = some (.slice A1 m1 d1)) 8 (by kernel_rfl) ?_
          have HF : wa.drew.cell? ⟨w2.heap.size, 0, none⟩ = some (.slice (some ⟨g0, 0, none⟩) n g) ∧ wa.drew.cell? ⟨wr.heap.size, 0, none⟩ = some (.int .i64 (X : Int)) ∧ wa.drew.cell? ⟨wr.heap.size, 1, none⟩ = some (.slice A1 m1 d1) := ⟨f0, f1, f2⟩
          refine tk 0 (v := ?_) rfl rfl HF (.inl ⟨by rfl, ?_⟩) ?_
          rotate_left 1
          · (rintro v ⟨a0, a1, a2⟩; go_simp; try with_reducible rfl)
          try simp only [Act.put]
          refine tk 1 (v := ?_) rfl rfl HF (.inl ⟨by rfl, ?_⟩) ?_
          rotate_left 1
          · (rintro v ⟨a0, a1, a2⟩; go_simp; try with_reducible rfl)
          try simp only [Act.put]
          refine tk 2 (v := ?_) rfl rfl HF (.inl ⟨by rfl, ?_⟩) ?_
          rotate_left 1
          · (rintro v ⟨a0, a1, a2⟩; go_simp; try with_reducible rfl)
          try simp only [Act.put]
          refine tk 3 (v := ?_) rfl rfl HF (.inl ⟨by rfl, ?_⟩) ?_
          rotate_left 1
          · (rintro v ⟨a0, a1, a2⟩; go_simp; try with_reducible rfl)
          try simp only [Act.put]
          refine tk 4 (v := ?_) rfl rfl HF (.inl ⟨by rfl, ?_⟩) ?_
          rotate_left 1
          · (rintro v ⟨a0, a1, a2⟩; go_simp; try with_reducible rfl)
          try simp only [Act.put]
          refine tk 5 (v := ?_) rfl rfl HF (.inl ⟨by rfl, ?_⟩) ?_
          rotate_left 1
          · (rintro v ⟨a0, a1, a2⟩; go_simp; try with_reducible rfl)
          try simp only [Act.put]
          refine wpAnyL_step (i := 6) (by kernel_rfl) rfl rfl ?_
          intro K hK
          go_simp
          refine (sCopy_any A1 m1 d1 xr wa.drew hr.out hm).mono ?_
          rintro e w5 ⟨R, rn, rc, rfl, o1, b1⟩
          obtain ⟨fr, S2⟩ := (SH.out.keep ((Below.refl _ _).drew)).has b1 o1.has zwa
          have zz : w.heap.size ≤ w5.heap.size := Nat.le_trans zwa b1.size
          have HF1 : w5.cell? ⟨w2.heap.size, 0, none⟩ = some (.slice (some ⟨g0, 0, none⟩) n g) ∧ w5.cell? ⟨wr.heap.size, 0, none⟩ = some (.int .i64 (X : Int)) ∧ w5.cell? ⟨wr.heap.size, 1, none⟩ = some (.slice A1 m1 d1) := ⟨(S2.at_ 3 rfl).cell 0, (S2.at_ 1 rfl).cell 0, (S2.at_ 1 rfl).cell 1⟩
          have B2 := BH.out.drew.trans (b1.mono zwa)
          obtain ⟨fp', S3, t3⟩ := Sep.store (k := 1) (j := X) rowC_len (by decide) S2.third (by rw [HKL.out]; exact hX) zz
          rw [Nat.mul_one] at S3 t3
          have B3 := jd (B2.trans (S2.third.below 0 rfl t3 zz))
          obtain ⟨es, he, hcell, hfr⟩ := Sep.slot (k := 1) (j := X) rowC_len (by decide) S2.third (by rw [HKL.out]; exact hX)
          match es, he with
          | [y0], _ =>
          have ck := hcell 0 (by decide)
          rw [Nat.add_zero, Nat.mul_one] at ck
          have ck0 : w5.cell? ⟨g0, X, none⟩ = some y0 := ck
          have fk := hfr X
          have S4 := jd (show Sep (w5.setCell ⟨g0, X, none⟩ (.slice R rn rc)) w.heap.size [.own [keptD ((fellTo false fs d.kept d.wait q).set X xr)] [.slice (some ⟨g0, 0, none⟩) n g] fp', .blk w2.heap.size #[.slice (some ⟨g0, 0, none⟩) n g, .slice none 0 0] 32, .blk (w.heap.size + 1) #[.slice none 0 0, .slice none 0 0] 32, .blk w.heap.size #[.slice A n c, .slice (some ⟨b, off, none⟩) n' c'] 32] from S3.swap.tail)
          refine hK _ _ (fun _ => HF1) ?_
          clear S2 S3 t3 o1 b1 hcell hfr ck B2
          clear hK K
          try simp only [Act.put]
          refine wpAnyL_step (i := 7) (by kernel_rfl) rfl rfl ?_
          intro K hK
          go_simp
          refine hK _ _ (fun _ => HF1) ?_
          clear hK K
          try simp only [Act.put]
          refine wpAnyL_step (i := 8) (by kernel_rfl) rfl rfl ?_
          intro K hK
          go_simp
          refine hK _ _ (fun h => nomatch (show true = false from h)) ?_
          clear hK K
          try simp only [Act.put]
          refine wpAnyL_done (by kernel_rfl) ?_ _
          go_wp2
          go_roundw
          case rel => exact ⟨q + 1, fp', by omega, by go_num, by rw [HN.out]; exact S4.out, B3.out⟩
          case measure => simp [intOf]; omega
        by_cases h2f : ft = 2
        · have HN := jd (show _ = (fellTo false fs d.kept d.wait q).set X (torn xr ((fellTo false fs d.kept d.wait q).getD X [])) from HN0.out.trans (fell_torn h2f))
          subst h2f
          obtain ⟨g9, off9, e9, hg9, hk9⟩ := hok9 (by omega)
          injection e9 with e9
          injection e9 with e9a e9b
          subst e9a e9b
          obtain ⟨E1, eo, ec, hce1, hrow1, hce2, hce3⟩ := hk9 X (by rw [HKL.out]; exact hX)
          rw [Nat.zero_add] at hce1
          have hlo : eo ≤ 48 := by rw [← hrow1.1]; exact HK48.out _ (List.getElem_mem _)
          have hgd : (fellTo false fs d.kept d.wait q)[X]'(by rw [HKL.out]; exact hX) = (fellTo false fs d.kept d.wait q).getD X [] := by simp [List.getD, List.getElem?_eq_getElem (show X < (fellTo false fs d.kept d.wait q).length by rw [HKL.out]; exact hX)]
          rw [hgd] at hrow1
          have f3 := hce1
          have hr1 := jd hrow1
          clear hgd hce1 hrow1 hk9
          go_wp2_with fail
          generalize wr.alloc (.cells #[.int .i64 (X : Int), .slice A1 m1 d1] 129) = wa at *
          refine wp_region_L (fun v => v.cell? ⟨w2.heap.size, 0, none⟩ = some (.slice (some ⟨g0, 0, none⟩) n g) ∧ v.cell? ⟨wr.heap.size, 0, none⟩ = some (.int .i64 (X : Int)) ∧ v.cell? ⟨wr.heap.size, 1, none⟩ = some (.slice A1 m1 d1) ∧ v.cell? ⟨g0, X, none⟩ = some (.slice E1 eo ec)) 14 (by kernel_rfl) ?_
          have HF : wa.drew.cell? ⟨w2.heap.size, 0, none⟩ = some (.slice (some ⟨g0, 0, none⟩) n g) ∧ wa.drew.cell? ⟨wr.heap.size, 0, none⟩ = some (.int .i64 (X : Int)) ∧ wa.drew.cell? ⟨wr.heap.size, 1, none⟩ = some (.slice A1 m1 d1) ∧ wa.drew.cell? ⟨g0, X, none⟩ = some (.slice E1 eo ec) := ⟨f0, f1, f2, f3⟩
          refine tk 0 (v := ?_) rfl rfl HF (.inl ⟨by rfl, ?_⟩) ?_
          rotate_left 1
          · (rintro v ⟨a0, a1, a2, a3⟩; go_simp; try with_reducible rfl)
          try simp only [Act.put]
          refine tk 1 (v := ?_) rfl rfl HF (.inl ⟨by rfl, ?_⟩) ?_
          rotate_left 1
          · (rintro v ⟨a0, a1, a2, a3⟩; go_simp; try with_reducible rfl)
          try simp only [Act.put]
          refine tk 2 (v := ?_) rfl rfl HF (.inl ⟨by rfl, ?_⟩) ?_
          rotate_left 1
          · (rintro v ⟨a0, a1, a2, a3⟩; go_simp; try with_reducible rfl)
          try simp only [Act.put]
          refine tk 3 (v := ?_) rfl rfl HF (.inl ⟨by rfl, ?_⟩) ?_
          rotate_left 1
          · (rintro v ⟨a0, a1, a2, a3⟩; go_simp; try with_reducible rfl)
          try simp only [Act.put]
          refine tk 4 (v := ?_) rfl rfl HF (.inl ⟨by rfl, ?_⟩) ?_
          rotate_left 1
          · (rintro v ⟨a0, a1, a2, a3⟩; go_simp; try with_reducible rfl)
          try simp only [Act.put]
          refine tk 5 (v := ?_) rfl rfl HF (.inl ⟨by rfl, ?_⟩) ?_
          rotate_left 1
          · (rintro v ⟨a0, a1, a2, a3⟩; go_simp; try with_reducible rfl)
          try simp only [Act.put]
          refine tk 6 (v := ?_) rfl rfl HF (.inl ⟨by rfl, ?_⟩) ?_
          rotate_left 1
          · (rintro v ⟨a0, a1, a2, a3⟩; go_simp; try with_reducible rfl)
          try simp only [Act.put]
          refine tk 7 (v := ?_) rfl rfl HF (.inl ⟨by rfl, ?_⟩) ?_
          rotate_left 1
          · (rintro v ⟨a0, a1, a2, a3⟩; go_simp; try with_reducible rfl)
          try simp only [Act.put]
          refine tk 8 (v := ?_) rfl rfl HF (.inl ⟨by rfl, ?_⟩) ?_
          rotate_left 1
          · (rintro v ⟨a0, a1, a2, a3⟩; go_simp; try with_reducible rfl)
          try simp only [Act.put]
          refine tk 9 (v := ?_) rfl rfl HF (.inl ⟨by rfl, ?_⟩) ?_
          rotate_left 1
          · (rintro v ⟨a0, a1, a2, a3⟩; go_simp; try with_reducible rfl)
          try simp only [Act.put]
          refine tk 10 (v := ?_) rfl rfl HF (.inl ⟨by rfl, ?_⟩) ?_
          rotate_left 1
          · (rintro v ⟨a0, a1, a2, a3⟩; go_simp; try with_reducible rfl)
          try simp only [Act.put]
          refine tk 11 (v := ?_) rfl rfl HF (.inl ⟨by rfl, ?_⟩) ?_
          rotate_left 1
          · (rintro v ⟨a0, a1, a2, a3⟩; go_simp; try with_reducible rfl)
          try simp only [Act.put]
          refine wpAnyL_step (i := 12) (by kernel_rfl) rfl rfl ?_
          intro K hK
          go_simp
          refine (sTorn_any A1 m1 d1 xr E1 eo ec _ wa.drew hr.out (by omega) hm1 hm2 hr1.out (by omega) hce2 hce3).mono ?_
          rintro e w5 ⟨R, rn, rc, rfl, o1, b1⟩
          obtain ⟨fr, S2⟩ := (SH.out.keep ((Below.refl _ _).drew)).has b1 o1.has zwa
          have zz : w.heap.size ≤ w5.heap.size := Nat.le_trans zwa b1.size
          have HF1 : w5.cell? ⟨w2.heap.size, 0, none⟩ = some (.slice (some ⟨g0, 0, none⟩) n g) ∧ w5.cell? ⟨wr.heap.size, 0, none⟩ = some (.int .i64 (X : Int)) ∧ w5.cell? ⟨wr.heap.size, 1, none⟩ = some (.slice A1 m1 d1) ∧ w5.cell? ⟨g0, X, none⟩ = some (.slice E1 eo ec) := ⟨(S2.at_ 3 rfl).cell 0, (S2.at_ 1 rfl).cell 0, (S2.at_ 1 rfl).cell 1, (b1.cell (p := ⟨g0, X, none⟩) hg9).trans f3⟩
          have B2 := BH.out.drew.trans (b1.mono zwa)
          obtain ⟨fp', S3, t3⟩ := Sep.store (k := 1) (j := X) rowC_len (by decide) S2.third (by rw [HKL.out]; exact hX) zz
          rw [Nat.mul_one] at S3 t3
          have B3 := jd (B2.trans (S2.third.below 0 rfl t3 zz))
          obtain ⟨es, he, hcell, hfr⟩ := Sep.slot (k := 1) (j := X) rowC_len (by decide) S2.third (by rw [HKL.out]; exact hX)
          have ck0 := HF1.2.2.2
          have fk := hfr X
          have S4 := jd (show Sep (w5.setCell ⟨g0, X, none⟩ (.slice R rn rc)) w.heap.size [.own [keptD ((fellTo false fs d.kept d.wait q).set X (torn xr ((fellTo false fs d.kept d.wait q).getD X [])))] [.slice (some ⟨g0, 0, none⟩) n g] fp', .blk w2.heap.size #[.slice (some ⟨g0, 0, none⟩) n g, .slice none 0 0] 32, .blk (w.heap.size + 1) #[.slice none 0 0, .slice none 0 0] 32, .blk w.heap.size #[.slice A n c, .slice (some ⟨b, off, none⟩) n' c'] 32] from S3.swap.tail)
          refine hK _ _ (fun _ => HF1) ?_
          clear S2 S3 t3 o1 b1 hcell hfr B2
          clear hK K
          try simp only [Act.put]
          refine wpAnyL_step (i := 13) (by kernel_rfl) rfl rfl ?_
          intro K hK
          go_simp
          refine hK _ _ (fun _ => HF1) ?_
          clear hK K
          try simp only [Act.put]
          refine wpAnyL_step (i := 14) (by kernel_rfl) rfl rfl ?_
          intro K hK
          go_simp
          refine hK _ _ (fun h => nomatch (show true = false from h)) ?_
          clear hK K
          try simp only [Act.put]
          refine wpAnyL_done (by kernel_rfl) ?_ _
          go_wp2
          go_roundw
          case rel => exact ⟨q + 1, fp', by omega, by go_num, by rw [HN.out]; exact S4.out, B3.out⟩
          case measure => simp [intOf]; omega
        · have HN := jd (show _ = fellTo false fs d.kept d.wait q from HN0.out.trans (fell_lost h1 h2f))
          have e1 : decide (ft = 1) = false := by simp [h1]
          have e2 : decide (ft = 2) = false := by simp [h2f]
          clear hok9
          have S4 := jd SH.out.tail
          clear f0 f1 f2
          go_wp2
          go_roundw
          case rel => exact ⟨q + 1, fp, by omega, by go_num, by rw [HN.out]; exact S4.out, BH.out⟩
          case measure => simp [intOf]; omega
      · have HN := jd (show _ = (fellTo true fs d.kept d.wait q).set X xr from HN0.out.trans (fell_keep (.inl rfl)))
        clear hok9
        go_wp2_with fail
        generalize wr.alloc (.cells #[.int .i64 (X : Int), .slice A1 m1 d1] 129) = wa at *
        refine wp_region_L (fun v => v.cell? ⟨w2.heap.size, 0, none⟩ = some (.slice (some ⟨g0, 0, none⟩) n g) ∧ v.cell? ⟨wr.heap.size, 0, none⟩ = some (.int .i64 (X : Int)) ∧ v.cell? ⟨wr.heap.size, 1, none⟩ = some (.slice A1 m1 d1)) 8 (by kernel_rfl) ?_
        have HF : wa.drew.cell? ⟨w2.heap.size, 0, none⟩ = some (.slice (some ⟨g0, 0, none⟩) n g) ∧ wa.drew.cell? ⟨wr.heap.size, 0, none⟩ = some (.int .i64 (X : Int)) ∧ wa.drew.cell? ⟨wr.heap.size, 1, none⟩ = some (.slice A1 m1 d1) := ⟨f0, f1, f2⟩
        refine tk 0 (v := ?_) rfl rfl HF (.inl ⟨by rfl, ?_⟩) ?_
        rotate_left 1
        · (rintro v ⟨a0, a1, a2⟩; go_simp; try with_reducible rfl)
        try simp only [Act.put]
        refine tk 1 (v := ?_) rfl rfl HF (.inl ⟨by rfl, ?_⟩) ?_
        rotate_left 1
        · (rintro v ⟨a0, a1, a2⟩; go_simp; try with_reducible rfl)
        try simp only [Act.put]
        refine tk 2 (v := ?_) rfl rfl HF (.inl ⟨by rfl, ?_⟩) ?_
        rotate_left 1
        · (rintro v ⟨a0, a1, a2⟩; go_simp; try with_reducible rfl)
        try simp only [Act.put]
        refine tk 3 (v := ?_) rfl rfl HF (.inl ⟨by rfl, ?_⟩) ?_
        rotate_left 1
        · (rintro v ⟨a0, a1, a2⟩; go_simp; try with_reducible rfl)
        try simp only [Act.put]
        refine tk 4 (v := ?_) rfl rfl HF (.inl ⟨by rfl, ?_⟩) ?_
        rotate_left 1
        · (rintro v ⟨a0, a1, a2⟩; go_simp; try with_reducible rfl)
        try simp only [Act.put]
        refine tk 5 (v := ?_) rfl rfl HF (.inl ⟨by rfl, ?_⟩) ?_
        rotate_left 1
        · (rintro v ⟨a0, a1, a2⟩; go_simp; try with_reducible rfl)
        try simp only [Act.put]
        refine wpAnyL_step (i := 6) (by kernel_rfl) rfl rfl ?_
        intro K hK
        go_simp
        refine (sCopy_any A1 m1 d1 xr wa.drew hr.out hm).mono ?_
        rintro e w5 ⟨R, rn, rc, rfl, o1, b1⟩
        obtain ⟨fr, S2⟩ := (SH.out.keep ((Below.refl _ _).drew)).has b1 o1.has zwa
        have zz : w.heap.size ≤ w5.heap.size := Nat.le_trans zwa b1.size
        have HF1 : w5.cell? ⟨w2.heap.size, 0, none⟩ = some (.slice (some ⟨g0, 0, none⟩) n g) ∧ w5.cell? ⟨wr.heap.size, 0, none⟩ = some (.int .i64 (X : Int)) ∧ w5.cell? ⟨wr.heap.size, 1, none⟩ = some (.slice A1 m1 d1) := ⟨(S2.at_ 3 rfl).cell 0, (S2.at_ 1 rfl).cell 0, (S2.at_ 1 rfl).cell 1⟩
        have B2 := BH.out.drew.trans (b1.mono zwa)
        obtain ⟨fp', S3, t3⟩ := Sep.store (k := 1) (j := X) rowC_len (by decide) S2.third (by rw [HKL.out]; exact hX) zz
        rw [Nat.mul_one] at S3 t3
        have B3 := jd (B2.trans (S2.third.below 0 rfl t3 zz))
        obtain ⟨es, he, hcell, hfr⟩ := Sep.slot (k := 1) (j := X) rowC_len (by decide) S2.third (by rw [HKL.out]; exact hX)
        match es, he with
        | [y0], _ =>
        have ck := hcell 0 (by decide)
        rw [Nat.add_zero, Nat.mul_one] at ck
        have ck0 : w5.cell? ⟨g0, X, none⟩ = some y0 := ck
        have fk := hfr X
        have S4 := jd (show Sep (w5.setCell ⟨g0, X, none⟩ (.slice R rn rc)) w.heap.size [.own [keptD ((fellTo true fs d.kept d.wait q).set X xr)] [.slice (some ⟨g0, 0, none⟩) n g] fp', .blk w2.heap.size #[.slice (some ⟨g0, 0, none⟩) n g, .slice none 0 0] 32, .blk (w.heap.size + 1) #[.slice none 0 0, .slice none 0 0] 32, .blk w.heap.size #[.slice A n c, .slice (some ⟨b, off, none⟩) n' c'] 32] from S3.swap.tail)
        refine hK _ _ (fun _ => HF1) ?_
        clear S2 S3 t3 o1 b1 hcell hfr ck B2
        clear hK K
        try simp only [Act.put]
        refine wpAnyL_step (i := 7) (by kernel_rfl) rfl rfl ?_
        intro K hK
        go_simp
        refine hK _ _ (fun _ => HF1) ?_
        clear hK K
        try simp only [Act.put]
        refine wpAnyL_step (i := 8) (by kernel_rfl) rfl rfl ?_
        intro K hK
        go_simp
        refine hK _ _ (fun h => nomatch (show true = false from h)) ?_
        clear hK K
        try simp only [Act.put]
        refine wpAnyL_done (by kernel_rfl) ?_ _
        go_wp2
        go_roundw
        case rel => exact ⟨q + 1, fp', by omega, by go_num, by rw [HN.out]; exact S4.out, B3.out⟩
        case measure => simp [intOf]; omega
    · have io : ¬ ((q : Int) < (o : Int)) := by omega
      have hft : fs.getD q 0 = 0 := by simp [List.getD, List.getElem?_eq_none (show fs.length ≤ q by have := HO.out; omega)]
      rw [hft] at HN0
      clear hff hft hok9
      cases all
      · have HN := jd (show _ = fellTo false fs d.kept d.wait q from HN0.out.trans (fell_lost (by decide) (by decide)))
        have S4 := jd SH.out.tail
        clear f0 f1 f2
        go_wp2
        go_roundw
        case rel => exact ⟨q + 1, fp, by omega, by go_num, by rw [HN.out]; exact S4.out, BH.out⟩
        case measure => simp [intOf]; omega
      · have HN := jd (show _ = (fellTo true fs d.kept d.wait q).set X xr from HN0.out.trans (fell_keep (.inl rfl)))
        go_wp2_with fail
        generalize wr.alloc (.cells #[.int .i64 (X : Int), .slice A1 m1 d1] 129) = wa at *
        refine wp_region_L (fun v => v.cell? ⟨w2.heap.size, 0, none⟩ = some (.slice (some ⟨g0, 0, none⟩) n g) ∧ v.cell? ⟨wr.heap.size, 0, none⟩ = some (.int .i64 (X : Int)) ∧ v.cell? ⟨wr.heap.size, 1, none⟩ = some (.slice A1 m1 d1)) 8 (by kernel_rfl) ?_
        have HF : wa.drew.cell? ⟨w2.heap.size, 0, none⟩ = some (.slice (some ⟨g0, 0, none⟩) n g) ∧ wa.drew.cell? ⟨wr.heap.size, 0, none⟩ = some (.int .i64 (X : Int)) ∧ wa.drew.cell? ⟨wr.heap.size, 1, none⟩ = some (.slice A1 m1 d1) := ⟨f0, f1, f2⟩
        refine tk 0 (v := ?_) rfl rfl HF (.inl ⟨by rfl, ?_⟩) ?_
        rotate_left 1
        · (rintro v ⟨a0, a1, a2⟩; go_simp; try with_reducible rfl)
        try simp only [Act.put]
        refine tk 1 (v := ?_) rfl rfl HF (.inl ⟨by rfl, ?_⟩) ?_
        rotate_left 1
        · (rintro v ⟨a0, a1, a2⟩; go_simp; try with_reducible rfl)
        try simp only [Act.put]
        refine tk 2 (v := ?_) rfl rfl HF (.inl ⟨by rfl, ?_⟩) ?_
        rotate_left 1
        · (rintro v ⟨a0, a1, a2⟩; go_simp; try with_reducible rfl)
        try simp only [Act.put]
        refine tk 3 (v := ?_) rfl rfl HF (.inl ⟨by rfl, ?_⟩) ?_
        rotate_left 1
        · (rintro v ⟨a0, a1, a2⟩; go_simp; try with_reducible rfl)
        try simp only [Act.put]
        refine tk 4 (v := ?_) rfl rfl HF (.inl ⟨by rfl, ?_⟩) ?_
        rotate_left 1
        · (rintro v ⟨a0, a1, a2⟩; go_simp; try with_reducible rfl)
        try simp only [Act.put]
        refine tk 5 (v := ?_) rfl rfl HF (.inl ⟨by rfl, ?_⟩) ?_
        rotate_left 1
        · (rintro v ⟨a0, a1, a2⟩; go_simp; try with_reducible rfl)
        try simp only [Act.put]
        refine wpAnyL_step (i := 6) (by kernel_rfl) rfl rfl ?_
        intro K hK
        go_simp
        refine (sCopy_any A1 m1 d1 xr wa.drew hr.out hm).mono ?_
        rintro e w5 ⟨R, rn, rc, rfl, o1, b1⟩
        obtain ⟨fr, S2⟩ := (SH.out.keep ((Below.refl _ _).drew)).has b1 o1.has zwa
        have zz : w.heap.size ≤ w5.heap.size := Nat.le_trans zwa b1.size
        have HF1 : w5.cell? ⟨w2.heap.size, 0, none⟩ = some (.slice (some ⟨g0, 0, none⟩) n g) ∧ w5.cell? ⟨wr.heap.size, 0, none⟩ = some (.int .i64 (X : Int)) ∧ w5.cell? ⟨wr.heap.size, 1, none⟩ = some (.slice A1 m1 d1) := ⟨(S2.at_ 3 rfl).cell 0, (S2.at_ 1 rfl).cell 0, (S2.at_ 1 rfl).cell 1⟩
        have B2 := BH.out.drew.trans (b1.mono zwa)
        obtain ⟨fp', S3, t3⟩ := Sep.store (k := 1) (j := X) rowC_len (by decide) S2.third (by rw [HKL.out]; exact hX) zz
        rw [Nat.mul_one] at S3 t3
        have B3 := jd (B2.trans (S2.third.below 0 rfl t3 zz))
        obtain ⟨es, he, hcell, hfr⟩ := Sep.slot (k := 1) (j := X) rowC_len (by decide) S2.third (by rw [HKL.out]; exact hX)
        match es, he with
        | [y0], _ =>
        have ck := hcell 0 (by decide)
        rw [Nat.add_zero, Nat.mul_one] at ck
        have ck0 : w5.cell? ⟨g0, X, none⟩ = some y0 := ck
        have fk := hfr X
        have S4 := jd (show Sep (w5.setCell ⟨g0, X, none⟩ (.slice R rn rc)) w.heap.size [.own [keptD ((fellTo true fs d.kept d.wait q).set X xr)] [.slice (some ⟨g0, 0, none⟩) n g] fp', .blk w2.heap.size #[.slice (some ⟨g0, 0, none⟩) n g, .slice none 0 0] 32, .blk (w.heap.size + 1) #[.slice none 0 0, .slice none 0 0] 32, .blk w.heap.size #[.slice A n c, .slice (some ⟨b, off, none⟩) n' c'] 32] from S3.swap.tail)
        refine hK _ _ (fun _ => HF1) ?_
        clear S2 S3 t3 o1 b1 hcell hfr ck B2
        clear hK K
        try simp only [Act.put]
        refine wpAnyL_step (i := 7) (by kernel_rfl) rfl rfl ?_
        intro K hK
        go_simp
        refine hK _ _ (fun _ => HF1) ?_
        clear hK K
        try simp only [Act.put]
        refine wpAnyL_step (i := 8) (by kernel_rfl) rfl rfl ?_
        intro K hK
        go_simp
        refine hK _ _ (fun h => nomatch (show true = false from h)) ?_
        clear hK K
        try simp only [Act.put]
        refine wpAnyL_done (by kernel_rfl) ?_ _
        go_wp2
        go_roundw
        case rel => exact ⟨q + 1, fp', by omega, by go_num, by rw [HN.out]; exact S4.out, B3.out⟩
        case measure => simp [intOf]; omega
  · have hi2 : ¬ ((q : Int) < (n' : Int)) := by omega
    have o0 := lk S 1 0 rfl rfl
    have o1 := lk S 1 1 rfl rfl
    have p0 := lk S 2 0 rfl rfl
    have p1 := lk S 2 1 rfl rfl
    have f0 := (S.at_ 2 rfl).free 0
    have f1 := (S.at_ 2 rfl).free 1
    have eq : q = d.wait.length := by have := HL2.out; omega
    have S5 := jd (show Has _ w.heap.size (fall all d fs).cells [.slice (some ⟨g0, 0, none⟩) n g, .slice none 0 0] from by
     have h9 := has_kept_nil ((S.put 2 rfl 0 (.slice (some ⟨g0, 0, none⟩) n g)).put 2 rfl 1 (.slice none 0 0)).first
     rw [eq] at h9
     exact h9)
    have B5 := jd ((hbel.setCell (p := ⟨w.heap.size + 1, 0, none⟩) (by simp) (.slice (some ⟨g0, 0, none⟩) n g)).setCell (p := ⟨w.heap.size + 1, 1, none⟩) (by simp) (.slice none 0 0))
    clear S hbel eq
    go_wp2
    exact bodyPost_ret (v := .agg #[.slice (some ⟨g0, 0, none⟩) n g, .slice none 0 0]) (by simp [results, Try.results146, go_sem, p0, p1]) rfl ⟨_, n, g, none, 0, 0, rfl, S5.out, B5.out⟩
set_option maxHeartbeats 3200000 in
theorem sSynced_any (A : Option Addr) (n c : Nat) (A' : Option Addr) (n' c' : Nat) (d : DiskM) (w : World) (h : Rd w w.heap.size d.cells [.slice A n c, .slice A' n' c']) (hs : d.sz ≤ 1048576) :
    Calls Try.prog 118 #[.agg #[.slice A n c, .slice A' n' c']] w (MadeD w (synced d)) := by
 obtain ⟨w0, hw0⟩ : ∃ w0, w0 = (w.alloc (.cells #[.slice A n c, .slice A' n' c'] 32)).alloc (.cells #[.slice none 0 0, .slice none 0 0] 32) := ⟨_, rfl⟩
 have S : Sep w0 w.heap.size [.blk (w.heap.size + 1) #[.slice none 0 0, .slice none 0 0] 32, .blk w.heap.size #[.slice A n c, .slice A' n' c'] 32] := by
  rw [hw0]
  have := ((Sep.nil w w.heap.size).box (Nat.le_refl _) #[.slice A n c, .slice A' n' c'] 32).box (by simp) #[.slice none 0 0, .slice none 0 0] 32
  simpa using this
 have c0 : Below w.heap.size w w0 := by
  rw [hw0]
  exact ((Below.refl _ w).alloc (Nat.le_refl _) _).alloc (by simp) _
 have HW := jd hw0
 clear hw0
 cases hd : diskOk d
 · have HR := jd (show synced d = zeroD by simp [synced, hd])
   go_enter Try.func118, Try.ntmps118
   go_wp2_with fail
   rw [← HW.out]
   refine (sDiskOk_any _ _ d _ _ (h.keep c0) c0.size (by omega)).mono ?_
   rintro e w1 ⟨rfl, b⟩
   rw [hd]
   replace c0 := c0.trans (b.mono c0.size)
   replace S := S.keep b
   clear b
   have p0 := lk S 0 0 rfl rfl
   have p1 := lk S 0 1 rfl rfl
   have f0 := (S.at_ 0 rfl).free 0
   have f1 := (S.at_ 0 rfl).free 1
   have B5 := jd ((c0.setCell (p := ⟨w.heap.size + 1, 0, none⟩) (by simp) (.slice none 0 0)).setCell (p := ⟨w.heap.size + 1, 1, none⟩) (by simp) (.slice none 0 0))
   clear S c0
   go_wp2
   refine bodyPost_ret (v := .agg #[.slice none 0 0, .slice none 0 0]) (by simp [results, Try.results118, go_sem, p0, p1]) rfl ⟨none, 0, 0, none, 0, 0, rfl, ?_, B5.out⟩
   rw [HR.out]
   exact has_zero _ _
 · have HR := jd (show synced d = fall true d [] by simp [synced, hd])
   go_enter Try.func118, Try.ntmps118
   go_wp2_with fail
   rw [← HW.out]
   refine (sDiskOk_any _ _ d _ _ (h.keep c0) c0.size (by omega)).mono ?_
   rintro e w1 ⟨rfl, b⟩
   rw [hd]
   replace c0 := c0.trans (b.mono c0.size)
   replace S := S.keep b
   clear b
   have k0 := lk S 1 0 rfl rfl
   have k1 := lk S 1 1 rfl rfl
   have S2 := S.box c0.size #[] 2
   have oe := own_empty w1
   have c2 := c0.alloc c0.size (.cells #[] 2)
   go_wp2_with fail
   generalize w1.alloc (.cells #[] 2) = w2 at *
   refine (sFall_any A n c A' n' c' d _ 0 0 [] true _ ((h.keep c2).up c2.size) (by omega) oe.irow (by omega) hd).mono ?_
   rintro e w3 ⟨G, j, g, H, q, hc, rfl, ow, b⟩
   obtain ⟨fp, S'⟩ := S2.has b ow c2.size
   have c3 := c2.trans (b.mono c2.size)
   clear S S2 ow b c0 c2 oe k0 k1
   have p0 : w3.cell? ⟨w.heap.size + 1, 0, none⟩ = some (.slice none 0 0) := (S'.at_ 2 rfl).cell 0
   have p1 : w3.cell? ⟨w.heap.size + 1, 1, none⟩ = some (.slice none 0 0) := (S'.at_ 2 rfl).cell 1
   have f0 := (S'.at_ 2 rfl).free 0
   have f1 := (S'.at_ 2 rfl).free 1
   have S5 := jd ((S'.put 2 rfl 0 (.slice G j g)).put 2 rfl 1 (.slice H q hc)).first
   have B5 := jd ((c3.setCell (p := ⟨w.heap.size + 1, 0, none⟩) (by simp) (.slice G j g)).setCell (p := ⟨w.heap.size + 1, 1, none⟩) (by simp) (.slice H q hc))
   clear S' c3
   go_wp2
   refine bodyPost_ret (v := .agg #[.slice G j g, .slice H q hc]) (by simp [results, Try.results118, go_sem, p0, p1]) rfl ⟨G, j, g, H, q, hc, rfl, ?_, B5.out⟩
   rw [HR.out]
   exact S5.out
end Go.Proofs.Ytecihkkagpbkdaa
namespace Go.Proofs.Ytecihkkagpbkdaa
set_option maxRecDepth 100000
open Go.RowKit
end Go.Proofs.Ytecihkkagpbkdaa
