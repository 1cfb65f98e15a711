/-
  The model of chapter 3: a crash, write by write; and a sync.
  The model of chapter 3: a number that has rotted.
-/
import Derived.Test.YtejcpoidoekleaaKS2
import Derived.Test.YtejcpoidoekleaaKD
import Derived.Test.YtejcpoidoekleaaKA
namespace Go.Proofs.Ytejcpoidoekleaa
set_option maxRecDepth 100000
open Go.RowKit

theorem kept_some {w : World} {l : List (List Int)} {G : Option Addr} {j g : Nat} {fp : List Nat} (h : Ow w [keptD l] [.slice G j g] fp) (hl : 0 < l.length) : ∃ g0, G = some ⟨g0, 0, none⟩ := by
  obtain ⟨us, fp1, h1, _, _⟩ := h.lst (k := 1) rowC_len (by decide)
  rcases h1.2 with ⟨_, h0⟩ | ⟨g0, _, _, e, _⟩
  · omega
  · injection e with e; exact ⟨g0, e⟩

theorem has_kept_nil {w : World} {base : Nat} {l : List (List Int)} {v : Value} (h : Has w base [keptD l] [v]) : Has w base [keptD l, waitD []] [v, .slice none 0 0] := by
  obtain ⟨fp, ho, hn, hg⟩ := h
  have := ho.append (ow_nil_wait w)
  rw [List.append_nil] at this
  exact ⟨fp, this, hn, hg⟩
theorem fell_keep {all : Bool} {fate : Int} {k : List (List Int)} {X : Nat} {r : List Int} (h : all = true ∨ fate = 1) : fell all fate k ((X : Int), r) = k.set X r := by
  unfold fell; rw [if_pos h]; rfl
theorem fell_torn {fate : Int} {k : List (List Int)} {X : Nat} {r : List Int} (h : fate = 2) : fell false fate k ((X : Int), r) = k.set X (torn r (k.getD X [])) := by
  unfold fell; rw [if_neg (by rintro (h1 | h1); cases h1; omega), if_pos h]; rfl
theorem fell_lost {fate : Int} {k : List (List Int)} {p : Int × List Int} (h1 : fate ≠ 1) (h2 : fate ≠ 2) : fell false fate k p = k := by
  unfold fell; rw [if_neg (by rintro (h | h); cases h; exact h1 h), if_neg h2]

set_option maxHeartbeats 12800000 in
theorem sFall_any (A : Option Addr) (n c : Nat) (A' : Option Addr) (n' c' : Nat) (d : DiskM) (E : Option Addr) (o co : Nat) (fs : List Int) (all : Bool) (w : World) (h : Rd w w.heap.size d.cells [.slice A n c, .slice A' n' c']) (hs : d.sz ≤ 1048577) (h2 : IRow w w.heap.size E o fs) (hs2 : o ≤ 1048577) (hd : diskOk d = true) :
    Calls Try.prog 110 #[.agg #[.slice A n c, .slice A' n' c'], .slice E o co, .bool all] w (MadeD w (fall all d fs)) := by
  obtain ⟨_, _, _, _, _, _, e, e', q1, q2⟩ := h.disk
  injection e with e1 e2 e3
  subst e1 e2 e3
  injection e' with e1 e2 e3
  subst e1 e2 e3
  obtain ⟨_, _, _, e, hl1, _⟩ := q1.kept
  injection e with e1 e2 e3
  subst e1 e2 e3
  obtain ⟨_, _, _, e, hl2, _, _, hel2⟩ := q2.wait
  injection e with e1 e2 e3
  subst e1 e2 e3
  have hok := diskOk_iff.1 hd
  have hn1 : 1 ≤ n := by have := hok.1.1; omega
  have hn40 : n ≤ 40 := by have := hok.1.2; omega
  have hn60 : n' ≤ 60 := by have := hok.2.1; omega
  have HOK := Lib.hid (ok_wait hd)
  have HK0 := Lib.hid (ok_kept_len hd)
  have HL1 := Lib.hid hl1
  have HL2 := Lib.hid hl2
  have HO := Lib.hid h2.1
  obtain ⟨w0, hw0⟩ : ∃ w0, w0 = (w.alloc (.cells #[.slice A n c, .slice A' n' c'] 30)).alloc (.cells #[.slice none 0 0, .slice none 0 0] 30) := ⟨_, rfl⟩
  have S : Sep w0 w.heap.size [.blk (w.heap.size + 1) #[.slice none 0 0, .slice none 0 0] 30, .blk w.heap.size #[.slice A n c, .slice A' n' c'] 30] := by
    rw [hw0]
    have := ((Sep.nil w w.heap.size).box (Nat.le_refl _) #[.slice A n c, .slice A' n' c'] 30).box (by simp) #[.slice none 0 0, .slice none 0 0] 30
    simpa using this
  have c0 : Below w.heap.size w w0 := by
    rw [hw0]
    exact ((Below.refl _ w).alloc (Nat.le_refl _) _).alloc (by simp) _
  have HW := Lib.hid hw0
  clear hw0 q1 q2 hl1 hl2 hok hd
  go_enter Try.func110, Try.ntmps110
  go_wp2_with fail
  rw [← HW.out]
  refine (sCopyD_any _ _ d _ ((h.keep c0).up c0.size) hs).mono ?_
  rintro e w2 ⟨G, j, g, H, q0, hc, rfl, ow, b⟩
  obtain ⟨fp0, S'⟩ := S.has b ow c0.size
  replace c0 := c0.trans (b.mono c0.size)
  clear S ow b h
  obtain ⟨v1, v2, fk, fw, ev, SX⟩ := Sep.split (d1 := [keptD d.kept]) (d2 := [waitD d.wait]) S'
  obtain ⟨ev1, ev2⟩ : v1 = [.slice G j g] ∧ v2 = [.slice H q0 hc] := by
    have l1 := (SX.own_ 1 rfl).len
    have l2 := (SX.own_ 0 rfl).len
    match v1, v2, l1, l2 with
    | [y1], [y2], _, _ =>
      injection ev with a1 a2
      injection a2 with a2 _
      subst a1 a2
      exact ⟨rfl, rfl⟩
  subst ev1 ev2
  obtain ⟨g0, rfl⟩ := kept_some (SX.own_ 1 rfl) (by have := HL1.out; omega)
  obtain rfl : n = j := by rw [← keptD_len (SX.own_ 1 rfl)]; exact HL1.out.symm
  have S1 := (SX.tail.box c0.size #[.slice (some ⟨g0, 0, none⟩) n g, .slice none 0 0] 30).swap
  have zw2 := c0.size
  replace c0 := c0.alloc c0.size (.cells #[.slice (some ⟨g0, 0, none⟩) n g, .slice none 0 0] 30)
  have S1' := Lib.hid S1
  have C1 := Lib.hid c0
  have hfd : ∀ w9 : World, (Instr.field 30 (.agg #[.slice (some ⟨g0, 0, none⟩) n g, .slice H q0 hc]) 0).run Try.prog w9 = .ok (.slice (some ⟨g0, 0, none⟩) n g) w9 := fun _ => by kernel_rfl
  clear SX S' S1 c0 ev
  go_wp2
  clear hfd
  go_loopw [8] (fun i wr => ∃ (q : Nat) (fp : List Nat), q ≤ n' ∧ i = .int .i64 (q : Int) ∧ Sep wr w.heap.size [.own [keptD (fellTo all fs d.kept d.wait q)] [.slice (some ⟨g0, 0, none⟩) n g] fp, .blk w2.heap.size #[.slice (some ⟨g0, 0, none⟩) n g, .slice none 0 0] 30, .blk (w.heap.size + 1) #[.slice none 0 0, .slice none 0 0] 30, .blk w.heap.size #[.slice A n c, .slice A' n' c'] 30] ∧ Below w.heap.size w wr) (fun i _ => n' - (intOf i).toNat)
  case atStart => exact ⟨0, fk, Nat.zero_le _, rfl, S1'.out, C1.out⟩
  case round =>
    obtain ⟨q, fp, hq, rfl, S, hbel⟩ := hrel
    clear S1' C1
    have zw := hbel.size
    have k0 : wr.cell? ⟨w.heap.size, 1, none⟩ = some (.slice A' n' c') := (S.at_ 3 rfl).cell 1
    by_cases hlt : q < n'
    · obtain ⟨b, off, rfl, hb, hcc⟩ := hel2 (by omega)
      have hjl : q < d.wait.length := by have := HL2.out; omega
      obtain ⟨A1, m1, d1, hcell, hcell2, hrow, hm1, hm2⟩ := hcc q hjl
      obtain ⟨⟨x0, x1⟩, x48⟩ := HOK.out _ (List.getElem_mem hjl)
      obtain ⟨X, hXe⟩ := Int.eq_ofNat_of_zero_le x0
      have hX : X < n := by have := HL1.out; omega
      have hm : m1 ≤ 1048577 := by have := hrow.1; omega
      obtain ⟨xr, hxr⟩ : ∃ xr, xr = d.wait[q].2 := ⟨_, rfl⟩
      rw [hXe] at hcell
      rw [← hxr] at hrow
      have hwq : d.wait.getD q (0, []) = ((X : Int), xr) := by
        simp only [List.getD, List.getElem?_eq_getElem hjl, Option.getD_some]
        rw [← hXe, hxr]
      have HN0 := Lib.hid (show fellTo all fs d.kept d.wait (q + 1) = fell all (fs.getD q 0) (fellTo all fs d.kept d.wait q) ((X : Int), xr) by rw [fellTo, hwq])
      have HKL := Lib.hid (show (fellTo all fs d.kept d.wait q).length = n by rw [fellTo_len]; exact HL1.out)
      have HK48 := Lib.hid (fellTo_rows (all := all) (fs := fs) HK0.out (fun p hp => (HOK.out p hp).2) q)
      have ce := (hbel.cell (p := ⟨b, off + q * 2, none⟩) hb).trans hcell
      have ce2 := (hbel.cell (p := ⟨b, off + q * 2 + 1, none⟩) hb).trans hcell2
      have i0 : (0 : Int) ≤ (q : Int) := by omega
      have i1 : (q : Int) < (n' : Int) := by omega
      have j0 : (0 : Int) ≤ (X : Int) := by omega
      have j1 : (X : Int) < (n : Int) := by omega
      have hfr0 := h2.below hbel
      have SB := S.box zw #[.int .i64 (X : Int), .slice A1 m1 d1] 49
      have cb := hbel.alloc zw (.cells #[.int .i64 (X : Int), .slice A1 m1 d1] 49)
      have f0 : (wr.alloc (.cells #[.int .i64 (X : Int), .slice A1 m1 d1] 49)).cell? ⟨w2.heap.size, 0, none⟩ = some (.slice (some ⟨g0, 0, none⟩) n g) := (SB.at_ 2 rfl).cell 0
      have f1 : (wr.alloc (.cells #[.int .i64 (X : Int), .slice A1 m1 d1] 49)).cell? ⟨wr.heap.size, 0, none⟩ = some (.int .i64 (X : Int)) := (SB.at_ 0 rfl).cell 0
      have f2 : (wr.alloc (.cells #[.int .i64 (X : Int), .slice A1 m1 d1] 49)).cell? ⟨wr.heap.size, 1, none⟩ = some (.slice A1 m1 d1) := (SB.at_ 0 rfl).cell 1
      have hr := Lib.hid ((hrow.below cb).up cb.size)
      obtain ⟨_, _, _, e9, _, _, _, hok9⟩ := (SB.own_ 1 rfl).rd.kept
      injection e9 with e9a e9b e9c
      subst e9a e9b e9c
      have zwa := cb.size
      have SH := Lib.hid SB
      have BH := Lib.hid cb
      have hff : q < o → ∃ b9 off9, E = some ⟨b9, off9, none⟩ ∧ (wr.alloc (.cells #[.int .i64 (X : Int), .slice A1 m1 d1] 49)).cell? ⟨b9, off9 + q, none⟩ = some (.int .i64 (fs.getD q 0)) := fun hqo => by
        obtain ⟨b9, off9, e9, hb9, hc9⟩ := h2.2 (by omega)
        exact ⟨b9, off9, e9, (cb.cell (p := ⟨b9, off9 + q, none⟩) hb9).trans (hc9 q hqo)⟩
      clear hcc hrow hcell hcell2 hel2 hbel S SB cb hXe hxr hwq x0 x1 x48 hfr0
      by_cases hqo : q < o
      · obtain ⟨b9, off9, rfl, cf⟩ := hff hqo
        have io : (q : Int) < (o : Int) := by omega
        generalize hft : fs.getD q 0 = ft at *
        clear hff hft
        cases all
        · by_cases h1 : ft = 1
          · have HN := Lib.hid (show _ = (fellTo false fs d.kept d.wait q).set X xr from HN0.out.trans (fell_keep (.inr h1)))
            subst h1
            clear hok9
            go_wp2_with fail
            generalize wr.alloc (.cells #[.int .i64 (X : Int), .slice A1 m1 d1] 49) = wa at *
            refine wp_region_L (fun v => v.cell? ⟨w2.heap.size, 0, none⟩ = some (.slice (some ⟨g0, 0, none⟩) n g) ∧ v.cell? ⟨wr.heap.size, 0, none⟩ = some (.int .i64 (X : Int)) ∧ v.cell? ⟨wr.heap.size, 1, none⟩ = some (.slice A1 m1 d1)) 8 (by kernel_rfl) ?_
            have HF : wa.drew.cell? ⟨w2.heap.size, 0, none⟩ = some (.slice (some ⟨g0, 0, none⟩) n g) ∧ wa.drew.cell? ⟨wr.heap.size, 0, none⟩ = some (.int .i64 (X : Int)) ∧ wa.drew.cell? ⟨wr.heap.size, 1, none⟩ = some (.slice A1 m1 d1) := ⟨f0, f1, f2⟩
            refine wpAnyL_take (i := 0) (v := ?_) rfl rfl (by kernel_rfl) (by kernel_rfl) (by kernel_rfl) (by kernel_rfl) (by kernel_rfl) (fun _ _ _ h => h) HF (Or.inl ⟨by rfl, ?_⟩) ?_
            rotate_left 1
            · (rintro v ⟨a0, a1, a2⟩; go_simp; try with_reducible rfl)
            try simp only [Act.put]
            refine wpAnyL_take (i := 1) (v := ?_) rfl rfl (by kernel_rfl) (by kernel_rfl) (by kernel_rfl) (by kernel_rfl) (by kernel_rfl) (fun _ _ _ h => h) HF (Or.inl ⟨by rfl, ?_⟩) ?_
            rotate_left 1
            · (rintro v ⟨a0, a1, a2⟩; go_simp; try with_reducible rfl)
            try simp only [Act.put]
            refine wpAnyL_take (i := 2) (v := ?_) rfl rfl (by kernel_rfl) (by kernel_rfl) (by kernel_rfl) (by kernel_rfl) (by kernel_rfl) (fun _ _ _ h => h) HF (Or.inl ⟨by rfl, ?_⟩) ?_
            rotate_left 1
            · (rintro v ⟨a0, a1, a2⟩; go_simp; try with_reducible rfl)
            try simp only [Act.put]
            refine wpAnyL_take (i := 3) (v := ?_) rfl rfl (by kernel_rfl) (by kernel_rfl) (by kernel_rfl) (by kernel_rfl) (by kernel_rfl) (fun _ _ _ h => h) HF (Or.inl ⟨by rfl, ?_⟩) ?_
            rotate_left 1
            · (rintro v ⟨a0, a1, a2⟩; go_simp; try with_reducible rfl)
            try simp only [Act.put]
            refine wpAnyL_take (i := 4) (v := ?_) rfl rfl (by kernel_rfl) (by kernel_rfl) (by kernel_rfl) (by kernel_rfl) (by kernel_rfl) (fun _ _ _ h => h) HF (Or.inl ⟨by rfl, ?_⟩) ?_
            rotate_left 1
            · (rintro v ⟨a0, a1, a2⟩; go_simp; try with_reducible rfl)
            try simp only [Act.put]
            refine wpAnyL_take (i := 5) (v := ?_) rfl rfl (by kernel_rfl) (by kernel_rfl) (by kernel_rfl) (by kernel_rfl) (by kernel_rfl) (fun _ _ _ h => h) HF (Or.inl ⟨by rfl, ?_⟩) ?_
            rotate_left 1
            · (rintro v ⟨a0, a1, a2⟩; go_simp; try with_reducible rfl)
            try simp only [Act.put]
            refine wpAnyL_step (i := 6) (by kernel_rfl) rfl rfl ?_
            intro K hK
            go_simp
            refine (sCopy_any A1 m1 d1 xr wa.drew hr.out hm).mono ?_
            rintro e w5 ⟨R, rn, rc, rfl, o1, b1⟩
            obtain ⟨fr, S2⟩ := (SH.out.keep ((Below.refl _ _).drew)).has b1 o1.has zwa
            have zz : w.heap.size ≤ w5.heap.size := Nat.le_trans zwa b1.size
            have HF1 : w5.cell? ⟨w2.heap.size, 0, none⟩ = some (.slice (some ⟨g0, 0, none⟩) n g) ∧ w5.cell? ⟨wr.heap.size, 0, none⟩ = some (.int .i64 (X : Int)) ∧ w5.cell? ⟨wr.heap.size, 1, none⟩ = some (.slice A1 m1 d1) := ⟨(S2.at_ 3 rfl).cell 0, (S2.at_ 1 rfl).cell 0, (S2.at_ 1 rfl).cell 1⟩
            have B2 := BH.out.drew.trans (b1.mono zwa)
            obtain ⟨fp', S3, t3⟩ := Sep.store (k := 1) (j := X) rowC_len (by decide) S2.third (by rw [HKL.out]; exact hX) zz
            rw [Nat.mul_one] at S3 t3
            have B3 := Lib.hid (B2.trans (S2.third.below 0 rfl t3 zz))
            obtain ⟨es, he, hcell, hfr⟩ := Sep.slot (k := 1) (j := X) rowC_len (by decide) S2.third (by rw [HKL.out]; exact hX)
            match es, he with
            | [y0], _ =>
            have ck := hcell 0 (by decide)
            rw [Nat.add_zero, Nat.mul_one] at ck
            have ck0 : w5.cell? ⟨g0, X, none⟩ = some y0 := ck
            have fk := hfr X
            have S4 := Lib.hid (show Sep (w5.setCell ⟨g0, X, none⟩ (.slice R rn rc)) w.heap.size [.own [keptD ((fellTo false fs d.kept d.wait q).set X xr)] [.slice (some ⟨g0, 0, none⟩) n g] fp', .blk w2.heap.size #[.slice (some ⟨g0, 0, none⟩) n g, .slice none 0 0] 30, .blk (w.heap.size + 1) #[.slice none 0 0, .slice none 0 0] 30, .blk w.heap.size #[.slice A n c, .slice (some ⟨b, off, none⟩) n' c'] 30] from S3.swap.tail)
            refine hK _ _ (fun _ => HF1) ?_
            clear S2 S3 t3 o1 b1 hcell hfr ck B2
            clear hK K
            try simp only [Act.put]
            refine wpAnyL_step (i := 7) (by kernel_rfl) rfl rfl ?_
            intro K hK
            go_simp
            refine hK _ _ (fun _ => HF1) ?_
            clear hK K
            try simp only [Act.put]
            refine wpAnyL_step (i := 8) (by kernel_rfl) rfl rfl ?_
            intro K hK
            go_simp
            refine hK _ _ (fun h => nomatch (show true = false from h)) ?_
            clear hK K
            try simp only [Act.put]
            refine wpAnyL_done (by kernel_rfl) ?_ _
            go_wp2
            go_roundw
            case rel => exact ⟨q + 1, fp', by omega, by go_num, by rw [HN.out]; exact S4.out, B3.out⟩
            case measure => simp [intOf]; omega
          by_cases h2f : ft = 2
          · have HN := Lib.hid (show _ = (fellTo false fs d.kept d.wait q).set X (torn xr ((fellTo false fs d.kept d.wait q).getD X [])) from HN0.out.trans (fell_torn h2f))
            subst h2f
            obtain ⟨g9, off9, e9, hg9, hk9⟩ := hok9 (by omega)
            injection e9 with e9
            injection e9 with e9a e9b
            subst e9a e9b
            obtain ⟨E1, eo, ec, hce1, hrow1, hce2, hce3⟩ := hk9 X (by rw [HKL.out]; exact hX)
            rw [Nat.zero_add] at hce1
            have hlo : eo ≤ 48 := by rw [← hrow1.1]; exact HK48.out _ (List.getElem_mem _)
            have hgd : (fellTo false fs d.kept d.wait q)[X]'(by rw [HKL.out]; exact hX) = (fellTo false fs d.kept d.wait q).getD X [] := by simp [List.getD, List.getElem?_eq_getElem (show X < (fellTo false fs d.kept d.wait q).length by rw [HKL.out]; exact hX)]
            rw [hgd] at hrow1
            have f3 := hce1
            have hr1 := Lib.hid hrow1
            clear hgd hce1 hrow1 hk9
            go_wp2_with fail
            generalize wr.alloc (.cells #[.int .i64 (X : Int), .slice A1 m1 d1] 49) = wa at *
            refine wp_region_L (fun v => v.cell? ⟨w2.heap.size, 0, none⟩ = some (.slice (some ⟨g0, 0, none⟩) n g) ∧ v.cell? ⟨wr.heap.size, 0, none⟩ = some (.int .i64 (X : Int)) ∧ v.cell? ⟨wr.heap.size, 1, none⟩ = some (.slice A1 m1 d1) ∧ v.cell? ⟨g0, X, none⟩ = some (.slice E1 eo ec)) 14 (by kernel_rfl) ?_
            have HF : wa.drew.cell? ⟨w2.heap.size, 0, none⟩ = some (.slice (some ⟨g0, 0, none⟩) n g) ∧ wa.drew.cell? ⟨wr.heap.size, 0, none⟩ = some (.int .i64 (X : Int)) ∧ wa.drew.cell? ⟨wr.heap.size, 1, none⟩ = some (.slice A1 m1 d1) ∧ wa.drew.cell? ⟨g0, X, none⟩ = some (.slice E1 eo ec) := ⟨f0, f1, f2, f3⟩
            refine wpAnyL_take (i := 0) (v := ?_) rfl rfl (by kernel_rfl) (by kernel_rfl) (by kernel_rfl) (by kernel_rfl) (by kernel_rfl) (fun _ _ _ h => h) HF (Or.inl ⟨by rfl, ?_⟩) ?_
            rotate_left 1
            · (rintro v ⟨a0, a1, a2, a3⟩; go_simp; try with_reducible rfl)
            try simp only [Act.put]
            refine wpAnyL_take (i := 1) (v := ?_) rfl rfl (by kernel_rfl) (by kernel_rfl) (by kernel_rfl) (by kernel_rfl) (by kernel_rfl) (fun _ _ _ h => h) HF (Or.inl ⟨by rfl, ?_⟩) ?_
            rotate_left 1
            · (rintro v ⟨a0, a1, a2, a3⟩; go_simp; try with_reducible rfl)
            try simp only [Act.put]
            refine wpAnyL_take (i := 2) (v := ?_) rfl rfl (by kernel_rfl) (by kernel_rfl) (by kernel_rfl) (by kernel_rfl) (by kernel_rfl) (fun _ _ _ h => h) HF (Or.inl ⟨by rfl, ?_⟩) ?_
            rotate_left 1
            · (rintro v ⟨a0, a1, a2, a3⟩; go_simp; try with_reducible rfl)
            try simp only [Act.put]
            refine wpAnyL_take (i := 3) (v := ?_) rfl rfl (by kernel_rfl) (by kernel_rfl) (by kernel_rfl) (by kernel_rfl) (by kernel_rfl) (fun _ _ _ h => h) HF (Or.inl ⟨by rfl, ?_⟩) ?_
            rotate_left 1
            · (rintro v ⟨a0, a1, a2, a3⟩; go_simp; try with_reducible rfl)
            try simp only [Act.put]
            refine wpAnyL_take (i := 4) (v := ?_) rfl rfl (by kernel_rfl) (by kernel_rfl) (by kernel_rfl) (by kernel_rfl) (by kernel_rfl) (fun _ _ _ h => h) HF (Or.inl ⟨by rfl, ?_⟩) ?_
            rotate_left 1
            · (rintro v ⟨a0, a1, a2, a3⟩; go_simp; try with_reducible rfl)
            try simp only [Act.put]
            refine wpAnyL_take (i := 5) (v := ?_) rfl rfl (by kernel_rfl) (by kernel_rfl) (by kernel_rfl) (by kernel_rfl) (by kernel_rfl) (fun _ _ _ h => h) HF (Or.inl ⟨by rfl, ?_⟩) ?_
            rotate_left 1
            · (rintro v ⟨a0, a1, a2, a3⟩; go_simp; try with_reducible rfl)
            try simp only [Act.put]
            refine wpAnyL_take (i := 6) (v := ?_) rfl rfl (by kernel_rfl) (by kernel_rfl) (by kernel_rfl) (by kernel_rfl) (by kernel_rfl) (fun _ _ _ h => h) HF (Or.inl ⟨by rfl, ?_⟩) ?_
            rotate_left 1
            · (rintro v ⟨a0, a1, a2, a3⟩; go_simp; try with_reducible rfl)
            try simp only [Act.put]
            refine wpAnyL_take (i := 7) (v := ?_) rfl rfl (by kernel_rfl) (by kernel_rfl) (by kernel_rfl) (by kernel_rfl) (by kernel_rfl) (fun _ _ _ h => h) HF (Or.inl ⟨by rfl, ?_⟩) ?_
            rotate_left 1
            · (rintro v ⟨a0, a1, a2, a3⟩; go_simp; try with_reducible rfl)
            try simp only [Act.put]
            refine wpAnyL_take (i := 8) (v := ?_) rfl rfl (by kernel_rfl) (by kernel_rfl) (by kernel_rfl) (by kernel_rfl) (by kernel_rfl) (fun _ _ _ h => h) HF (Or.inl ⟨by rfl, ?_⟩) ?_
            rotate_left 1
            · (rintro v ⟨a0, a1, a2, a3⟩; go_simp; try with_reducible rfl)
            try simp only [Act.put]
            refine wpAnyL_take (i := 9) (v := ?_) rfl rfl (by kernel_rfl) (by kernel_rfl) (by kernel_rfl) (by kernel_rfl) (by kernel_rfl) (fun _ _ _ h => h) HF (Or.inl ⟨by rfl, ?_⟩) ?_
            rotate_left 1
            · (rintro v ⟨a0, a1, a2, a3⟩; go_simp; try with_reducible rfl)
            try simp only [Act.put]
            refine wpAnyL_take (i := 10) (v := ?_) rfl rfl (by kernel_rfl) (by kernel_rfl) (by kernel_rfl) (by kernel_rfl) (by kernel_rfl) (fun _ _ _ h => h) HF (Or.inl ⟨by rfl, ?_⟩) ?_
            rotate_left 1
            · (rintro v ⟨a0, a1, a2, a3⟩; go_simp; try with_reducible rfl)
            try simp only [Act.put]
            refine wpAnyL_take (i := 11) (v := ?_) rfl rfl (by kernel_rfl) (by kernel_rfl) (by kernel_rfl) (by kernel_rfl) (by kernel_rfl) (fun _ _ _ h => h) HF (Or.inl ⟨by rfl, ?_⟩) ?_
            rotate_left 1
            · (rintro v ⟨a0, a1, a2, a3⟩; go_simp; try with_reducible rfl)
            try simp only [Act.put]
            refine wpAnyL_step (i := 12) (by kernel_rfl) rfl rfl ?_
            intro K hK
            go_simp
            refine (sTorn_any A1 m1 d1 xr E1 eo ec _ wa.drew hr.out (by omega) hm1 hm2 hr1.out (by omega) hce2 hce3).mono ?_
            rintro e w5 ⟨R, rn, rc, rfl, o1, b1⟩
            obtain ⟨fr, S2⟩ := (SH.out.keep ((Below.refl _ _).drew)).has b1 o1.has zwa
            have zz : w.heap.size ≤ w5.heap.size := Nat.le_trans zwa b1.size
            have HF1 : w5.cell? ⟨w2.heap.size, 0, none⟩ = some (.slice (some ⟨g0, 0, none⟩) n g) ∧ w5.cell? ⟨wr.heap.size, 0, none⟩ = some (.int .i64 (X : Int)) ∧ w5.cell? ⟨wr.heap.size, 1, none⟩ = some (.slice A1 m1 d1) ∧ w5.cell? ⟨g0, X, none⟩ = some (.slice E1 eo ec) := ⟨(S2.at_ 3 rfl).cell 0, (S2.at_ 1 rfl).cell 0, (S2.at_ 1 rfl).cell 1, (b1.cell (p := ⟨g0, X, none⟩) hg9).trans f3⟩
            have B2 := BH.out.drew.trans (b1.mono zwa)
            obtain ⟨fp', S3, t3⟩ := Sep.store (k := 1) (j := X) rowC_len (by decide) S2.third (by rw [HKL.out]; exact hX) zz
            rw [Nat.mul_one] at S3 t3
            have B3 := Lib.hid (B2.trans (S2.third.below 0 rfl t3 zz))
            obtain ⟨es, he, hcell, hfr⟩ := Sep.slot (k := 1) (j := X) rowC_len (by decide) S2.third (by rw [HKL.out]; exact hX)
            have ck0 := HF1.2.2.2
            have fk := hfr X
            have S4 := Lib.hid (show Sep (w5.setCell ⟨g0, X, none⟩ (.slice R rn rc)) w.heap.size [.own [keptD ((fellTo false fs d.kept d.wait q).set X (torn xr ((fellTo false fs d.kept d.wait q).getD X [])))] [.slice (some ⟨g0, 0, none⟩) n g] fp', .blk w2.heap.size #[.slice (some ⟨g0, 0, none⟩) n g, .slice none 0 0] 30, .blk (w.heap.size + 1) #[.slice none 0 0, .slice none 0 0] 30, .blk w.heap.size #[.slice A n c, .slice (some ⟨b, off, none⟩) n' c'] 30] from S3.swap.tail)
            refine hK _ _ (fun _ => HF1) ?_
            clear S2 S3 t3 o1 b1 hcell hfr B2
            clear hK K
            try simp only [Act.put]
            refine wpAnyL_step (i := 13) (by kernel_rfl) rfl rfl ?_
            intro K hK
            go_simp
            refine hK _ _ (fun _ => HF1) ?_
            clear hK K
            try simp only [Act.put]
            refine wpAnyL_step (i := 14) (by kernel_rfl) rfl rfl ?_
            intro K hK
            go_simp
            refine hK _ _ (fun h => nomatch (show true = false from h)) ?_
            clear hK K
            try simp only [Act.put]
            refine wpAnyL_done (by kernel_rfl) ?_ _
            go_wp2
            go_roundw
            case rel => exact ⟨q + 1, fp', by omega, by go_num, by rw [HN.out]; exact S4.out, B3.out⟩
            case measure => simp [intOf]; omega
          · have HN := Lib.hid (show _ = fellTo false fs d.kept d.wait q from HN0.out.trans (fell_lost h1 h2f))
            have e1 : decide (ft = 1) = false := by simp [h1]
            have e2 : decide (ft = 2) = false := by simp [h2f]
            clear hok9
            have S4 := Lib.hid SH.out.tail
            clear f0 f1 f2
            go_wp2
            go_roundw
            case rel => exact ⟨q + 1, fp, by omega, by go_num, by rw [HN.out]; exact S4.out, BH.out⟩
            case measure => simp [intOf]; omega
        · have HN := Lib.hid (show _ = (fellTo true fs d.kept d.wait q).set X xr from HN0.out.trans (fell_keep (.inl rfl)))
          clear hok9
          go_wp2_with fail
          generalize wr.alloc (.cells #[.int .i64 (X : Int), .slice A1 m1 d1] 49) = wa at *
          refine wp_region_L (fun v => v.cell? ⟨w2.heap.size, 0, none⟩ = some (.slice (some ⟨g0, 0, none⟩) n g) ∧ v.cell? ⟨wr.heap.size, 0, none⟩ = some (.int .i64 (X : Int)) ∧ v.cell? ⟨wr.heap.size, 1, none⟩ = some (.slice A1 m1 d1)) 8 (by kernel_rfl) ?_
          have HF : wa.drew.cell? ⟨w2.heap.size, 0, none⟩ = some (.slice (some ⟨g0, 0, none⟩) n g) ∧ wa.drew.cell? ⟨wr.heap.size, 0, none⟩ = some (.int .i64 (X : Int)) ∧ wa.drew.cell? ⟨wr.heap.size, 1, none⟩ = some (.slice A1 m1 d1) := ⟨f0, f1, f2⟩
          refine wpAnyL_take (i := 0) (v := ?_) rfl rfl (by kernel_rfl) (by kernel_rfl) (by kernel_rfl) (by kernel_rfl) (by kernel_rfl) (fun _ _ _ h => h) HF (Or.inl ⟨by rfl, ?_⟩) ?_
          rotate_left 1
          · (rintro v ⟨a0, a1, a2⟩; go_simp; try with_reducible rfl)
          try simp only [Act.put]
          refine wpAnyL_take (i := 1) (v := ?_) rfl rfl (by kernel_rfl) (by kernel_rfl) (by kernel_rfl) (by kernel_rfl) (by kernel_rfl) (fun _ _ _ h => h) HF (Or.inl ⟨by rfl, ?_⟩) ?_
          rotate_left 1
          · (rintro v ⟨a0, a1, a2⟩; go_simp; try with_reducible rfl)
          try simp only [Act.put]
          refine wpAnyL_take (i := 2) (v := ?_) rfl rfl (by kernel_rfl) (by kernel_rfl) (by kernel_rfl) (by kernel_rfl) (by kernel_rfl) (fun _ _ _ h => h) HF (Or.inl ⟨by rfl, ?_⟩) ?_
          rotate_left 1
          · (rintro v ⟨a0, a1, a2⟩; go_simp; try with_reducible rfl)
          try simp only [Act.put]
          refine wpAnyL_take (i := 3) (v := ?_) rfl rfl (by kernel_rfl) (by kernel_rfl) (by kernel_rfl) (by kernel_rfl) (by kernel_rfl) (fun _ _ _ h => h) HF (Or.inl ⟨by rfl, ?_⟩) ?_
          rotate_left 1
          · (rintro v ⟨a0, a1, a2⟩; go_simp; try with_reducible rfl)
          try simp only [Act.put]
          refine wpAnyL_take (i := 4) (v := ?_) rfl rfl (by kernel_rfl) (by kernel_rfl) (by kernel_rfl) (by kernel_rfl) (by kernel_rfl) (fun _ _ _ h => h) HF (Or.inl ⟨by rfl, ?_⟩) ?_
          rotate_left 1
          · (rintro v ⟨a0, a1, a2⟩; go_simp; try with_reducible rfl)
          try simp only [Act.put]
          refine wpAnyL_take (i := 5) (v := ?_) rfl rfl (by kernel_rfl) (by kernel_rfl) (by kernel_rfl) (by kernel_rfl) (by kernel_rfl) (fun _ _ _ h => h) HF (Or.inl ⟨by rfl, ?_⟩) ?_
          rotate_left 1
          · (rintro v ⟨a0, a1, a2⟩; go_simp; try with_reducible rfl)
          try simp only [Act.put]
          refine wpAnyL_step (i := 6) (by kernel_rfl) rfl rfl ?_
          intro K hK
          go_simp
          refine (sCopy_any A1 m1 d1 xr wa.drew hr.out hm).mono ?_
          rintro e w5 ⟨R, rn, rc, rfl, o1, b1⟩
          obtain ⟨fr, S2⟩ := (SH.out.keep ((Below.refl _ _).drew)).has b1 o1.has zwa
          have zz : w.heap.size ≤ w5.heap.size := Nat.le_trans zwa b1.size
          have HF1 : w5.cell? ⟨w2.heap.size, 0, none⟩ = some (.slice (some ⟨g0, 0, none⟩) n g) ∧ w5.cell? ⟨wr.heap.size, 0, none⟩ = some (.int .i64 (X : Int)) ∧ w5.cell? ⟨wr.heap.size, 1, none⟩ = some (.slice A1 m1 d1) := ⟨(S2.at_ 3 rfl).cell 0, (S2.at_ 1 rfl).cell 0, (S2.at_ 1 rfl).cell 1⟩
          have B2 := BH.out.drew.trans (b1.mono zwa)
          obtain ⟨fp', S3, t3⟩ := Sep.store (k := 1) (j := X) rowC_len (by decide) S2.third (by rw [HKL.out]; exact hX) zz
          rw [Nat.mul_one] at S3 t3
          have B3 := Lib.hid (B2.trans (S2.third.below 0 rfl t3 zz))
          obtain ⟨es, he, hcell, hfr⟩ := Sep.slot (k := 1) (j := X) rowC_len (by decide) S2.third (by rw [HKL.out]; exact hX)
          match es, he with
          | [y0], _ =>
          have ck := hcell 0 (by decide)
          rw [Nat.add_zero, Nat.mul_one] at ck
          have ck0 : w5.cell? ⟨g0, X, none⟩ = some y0 := ck
          have fk := hfr X
          have S4 := Lib.hid (show Sep (w5.setCell ⟨g0, X, none⟩ (.slice R rn rc)) w.heap.size [.own [keptD ((fellTo true fs d.kept d.wait q).set X xr)] [.slice (some ⟨g0, 0, none⟩) n g] fp', .blk w2.heap.size #[.slice (some ⟨g0, 0, none⟩) n g, .slice none 0 0] 30, .blk (w.heap.size + 1) #[.slice none 0 0, .slice none 0 0] 30, .blk w.heap.size #[.slice A n c, .slice (some ⟨b, off, none⟩) n' c'] 30] from S3.swap.tail)
          refine hK _ _ (fun _ => HF1) ?_
          clear S2 S3 t3 o1 b1 hcell hfr ck B2
          clear hK K
          try simp only [Act.put]
          refine wpAnyL_step (i := 7) (by kernel_rfl) rfl rfl ?_
          intro K hK
          go_simp
          refine hK _ _ (fun _ => HF1) ?_
          clear hK K
          try simp only [Act.put]
          refine wpAnyL_step (i := 8) (by kernel_rfl) rfl rfl ?_
          intro K hK
          go_simp
          refine hK _ _ (fun h => nomatch (show true = false from h)) ?_
          clear hK K
          try simp only [Act.put]
          refine wpAnyL_done (by kernel_rfl) ?_ _
          go_wp2
          go_roundw
          case rel => exact ⟨q + 1, fp', by omega, by go_num, by rw [HN.out]; exact S4.out, B3.out⟩
          case measure => simp [intOf]; omega
      · have io : ¬ ((q : Int) < (o : Int)) := by omega
        have hft : fs.getD q 0 = 0 := by simp [List.getD, List.getElem?_eq_none (show fs.length ≤ q by have := HO.out; omega)]
        rw [hft] at HN0
        clear hff hft hok9
        cases all
        · have HN := Lib.hid (show _ = fellTo false fs d.kept d.wait q from HN0.out.trans (fell_lost (by decide) (by decide)))
          have S4 := Lib.hid SH.out.tail
          clear f0 f1 f2
          go_wp2
          go_roundw
          case rel => exact ⟨q + 1, fp, by omega, by go_num, by rw [HN.out]; exact S4.out, BH.out⟩
          case measure => simp [intOf]; omega
        · have HN := Lib.hid (show _ = (fellTo true fs d.kept d.wait q).set X xr from HN0.out.trans (fell_keep (.inl rfl)))
          go_wp2_with fail
          generalize wr.alloc (.cells #[.int .i64 (X : Int), .slice A1 m1 d1] 49) = wa at *
          refine wp_region_L (fun v => v.cell? ⟨w2.heap.size, 0, none⟩ = some (.slice (some ⟨g0, 0, none⟩) n g) ∧ v.cell? ⟨wr.heap.size, 0, none⟩ = some (.int .i64 (X : Int)) ∧ v.cell? ⟨wr.heap.size, 1, none⟩ = some (.slice A1 m1 d1)) 8 (by kernel_rfl) ?_
          have HF : wa.drew.cell? ⟨w2.heap.size, 0, none⟩ = some (.slice (some ⟨g0, 0, none⟩) n g) ∧ wa.drew.cell? ⟨wr.heap.size, 0, none⟩ = some (.int .i64 (X : Int)) ∧ wa.drew.cell? ⟨wr.heap.size, 1, none⟩ = some (.slice A1 m1 d1) := ⟨f0, f1, f2⟩
          refine wpAnyL_take (i := 0) (v := ?_) rfl rfl (by kernel_rfl) (by kernel_rfl) (by kernel_rfl) (by kernel_rfl) (by kernel_rfl) (fun _ _ _ h => h) HF (Or.inl ⟨by rfl, ?_⟩) ?_
          rotate_left 1
          · (rintro v ⟨a0, a1, a2⟩; go_simp; try with_reducible rfl)
          try simp only [Act.put]
          refine wpAnyL_take (i := 1) (v := ?_) rfl rfl (by kernel_rfl) (by kernel_rfl) (by kernel_rfl) (by kernel_rfl) (by kernel_rfl) (fun _ _ _ h => h) HF (Or.inl ⟨by rfl, ?_⟩) ?_
          rotate_left 1
          · (rintro v ⟨a0, a1, a2⟩; go_simp; try with_reducible rfl)
          try simp only [Act.put]
          refine wpAnyL_take (i := 2) (v := ?_) rfl rfl (by kernel_rfl) (by kernel_rfl) (by kernel_rfl) (by kernel_rfl) (by kernel_rfl) (fun _ _ _ h => h) HF (Or.inl ⟨by rfl, ?_⟩) ?_
          rotate_left 1
          · (rintro v ⟨a0, a1, a2⟩; go_simp; try with_reducible rfl)
          try simp only [Act.put]
          refine wpAnyL_take (i := 3) (v := ?_) rfl rfl (by kernel_rfl) (by kernel_rfl) (by kernel_rfl) (by kernel_rfl) (by kernel_rfl) (fun _ _ _ h => h) HF (Or.inl ⟨by rfl, ?_⟩) ?_
          rotate_left 1
          · (rintro v ⟨a0, a1, a2⟩; go_simp; try with_reducible rfl)
          try simp only [Act.put]
          refine wpAnyL_take (i := 4) (v := ?_) rfl rfl (by kernel_rfl) (by kernel_rfl) (by kernel_rfl) (by kernel_rfl) (by kernel_rfl) (fun _ _ _ h => h) HF (Or.inl ⟨by rfl, ?_⟩) ?_
          rotate_left 1
          · (rintro v ⟨a0, a1, a2⟩; go_simp; try with_reducible rfl)
          try simp only [Act.put]
          refine wpAnyL_take (i := 5) (v := ?_) rfl rfl (by kernel_rfl) (by kernel_rfl) (by kernel_rfl) (by kernel_rfl) (by kernel_rfl) (fun _ _ _ h => h) HF (Or.inl ⟨by rfl, ?_⟩) ?_
          rotate_left 1
          · (rintro v ⟨a0, a1, a2⟩; go_simp; try with_reducible rfl)
          try simp only [Act.put]
          refine wpAnyL_step (i := 6) (by kernel_rfl) rfl rfl ?_
          intro K hK
          go_simp
          refine (sCopy_any A1 m1 d1 xr wa.drew hr.out hm).mono ?_
          rintro e w5 ⟨R, rn, rc, rfl, o1, b1⟩
          obtain ⟨fr, S2⟩ := (SH.out.keep ((Below.refl _ _).drew)).has b1 o1.has zwa
          have zz : w.heap.size ≤ w5.heap.size := Nat.le_trans zwa b1.size
          have HF1 : w5.cell? ⟨w2.heap.size, 0, none⟩ = some (.slice (some ⟨g0, 0, none⟩) n g) ∧ w5.cell? ⟨wr.heap.size, 0, none⟩ = some (.int .i64 (X : Int)) ∧ w5.cell? ⟨wr.heap.size, 1, none⟩ = some (.slice A1 m1 d1) := ⟨(S2.at_ 3 rfl).cell 0, (S2.at_ 1 rfl).cell 0, (S2.at_ 1 rfl).cell 1⟩
          have B2 := BH.out.drew.trans (b1.mono zwa)
          obtain ⟨fp', S3, t3⟩ := Sep.store (k := 1) (j := X) rowC_len (by decide) S2.third (by rw [HKL.out]; exact hX) zz
          rw [Nat.mul_one] at S3 t3
          have B3 := Lib.hid (B2.trans (S2.third.below 0 rfl t3 zz))
          obtain ⟨es, he, hcell, hfr⟩ := Sep.slot (k := 1) (j := X) rowC_len (by decide) S2.third (by rw [HKL.out]; exact hX)
          match es, he with
          | [y0], _ =>
          have ck := hcell 0 (by decide)
          rw [Nat.add_zero, Nat.mul_one] at ck
          have ck0 : w5.cell? ⟨g0, X, none⟩ = some y0 := ck
          have fk := hfr X
          have S4 := Lib.hid (show Sep (w5.setCell ⟨g0, X, none⟩ (.slice R rn rc)) w.heap.size [.own [keptD ((fellTo true fs d.kept d.wait q).set X xr)] [.slice (some ⟨g0, 0, none⟩) n g] fp', .blk w2.heap.size #[.slice (some ⟨g0, 0, none⟩) n g, .slice none 0 0] 30, .blk (w.heap.size + 1) #[.slice none 0 0, .slice none 0 0] 30, .blk w.heap.size #[.slice A n c, .slice (some ⟨b, off, none⟩) n' c'] 30] from S3.swap.tail)
          refine hK _ _ (fun _ => HF1) ?_
          clear S2 S3 t3 o1 b1 hcell hfr ck B2
          clear hK K
          try simp only [Act.put]
          refine wpAnyL_step (i := 7) (by kernel_rfl) rfl rfl ?_
          intro K hK
          go_simp
          refine hK _ _ (fun _ => HF1) ?_
          clear hK K
          try simp only [Act.put]
          refine wpAnyL_step (i := 8) (by kernel_rfl) rfl rfl ?_
          intro K hK
          go_simp
          refine hK _ _ (fun h => nomatch (show true = false from h)) ?_
          clear hK K
          try simp only [Act.put]
          refine wpAnyL_done (by kernel_rfl) ?_ _
          go_wp2
          go_roundw
          case rel => exact ⟨q + 1, fp', by omega, by go_num, by rw [HN.out]; exact S4.out, B3.out⟩
          case measure => simp [intOf]; omega
    · have hi2 : ¬ ((q : Int) < (n' : Int)) := by omega
      have o0 : wr.cell? ⟨w2.heap.size, 0, none⟩ = some (.slice (some ⟨g0, 0, none⟩) n g) := (S.at_ 1 rfl).cell 0
      have o1 : wr.cell? ⟨w2.heap.size, 1, none⟩ = some (.slice none 0 0) := (S.at_ 1 rfl).cell 1
      have p0 : wr.cell? ⟨w.heap.size + 1, 0, none⟩ = some (.slice none 0 0) := (S.at_ 2 rfl).cell 0
      have p1 : wr.cell? ⟨w.heap.size + 1, 1, none⟩ = some (.slice none 0 0) := (S.at_ 2 rfl).cell 1
      have f0 := (S.at_ 2 rfl).free 0
      have f1 := (S.at_ 2 rfl).free 1
      have eq : q = d.wait.length := by have := HL2.out; omega
      have S5 := Lib.hid (show Has _ w.heap.size (fall all d fs).cells [.slice (some ⟨g0, 0, none⟩) n g, .slice none 0 0] from by
        have h9 := has_kept_nil ((S.put 2 rfl 0 (.slice (some ⟨g0, 0, none⟩) n g)).put 2 rfl 1 (.slice none 0 0)).first
        rw [eq] at h9
        exact h9)
      have B5 := Lib.hid ((hbel.setCell (p := ⟨w.heap.size + 1, 0, none⟩) (by simp) (.slice (some ⟨g0, 0, none⟩) n g)).setCell (p := ⟨w.heap.size + 1, 1, none⟩) (by simp) (.slice none 0 0))
      clear S hbel eq
      go_wp2
      exact bodyPost_ret (v := .agg #[.slice (some ⟨g0, 0, none⟩) n g, .slice none 0 0]) (by simp [results, Try.results110, go_sem, p0, p1]) rfl ⟨_, n, g, none, 0, 0, rfl, S5.out, B5.out⟩

set_option maxHeartbeats 3200000 in
theorem sSynced_any (A : Option Addr) (n c : Nat) (A' : Option Addr) (n' c' : Nat) (d : DiskM) (w : World) (h : Rd w w.heap.size d.cells [.slice A n c, .slice A' n' c']) (hs : d.sz ≤ 1048576) :
    Calls Try.prog 81 #[.agg #[.slice A n c, .slice A' n' c']] w (MadeD w (synced d)) := by
  obtain ⟨w0, hw0⟩ : ∃ w0, w0 = (w.alloc (.cells #[.slice A n c, .slice A' n' c'] 30)).alloc (.cells #[.slice none 0 0, .slice none 0 0] 30) := ⟨_, rfl⟩
  have S : Sep w0 w.heap.size [.blk (w.heap.size + 1) #[.slice none 0 0, .slice none 0 0] 30, .blk w.heap.size #[.slice A n c, .slice A' n' c'] 30] := by
    rw [hw0]
    have := ((Sep.nil w w.heap.size).box (Nat.le_refl _) #[.slice A n c, .slice A' n' c'] 30).box (by simp) #[.slice none 0 0, .slice none 0 0] 30
    simpa using this
  have c0 : Below w.heap.size w w0 := by
    rw [hw0]
    exact ((Below.refl _ w).alloc (Nat.le_refl _) _).alloc (by simp) _
  have HW := Lib.hid hw0
  clear hw0
  cases hd : diskOk d
  · have HR := Lib.hid (show synced d = zeroD by simp [synced, hd])
    go_enter Try.func81, Try.ntmps81
    go_wp2_with fail
    rw [← HW.out]
    refine (sDiskOk_any _ _ d _ _ (h.keep c0) c0.size (by omega)).mono ?_
    rintro e w1 ⟨rfl, b⟩
    rw [hd]
    replace c0 := c0.trans (b.mono c0.size)
    replace S := S.keep b
    clear b
    have p0 : w1.cell? ⟨w.heap.size + 1, 0, none⟩ = some (.slice none 0 0) := (S.at_ 0 rfl).cell 0
    have p1 : w1.cell? ⟨w.heap.size + 1, 1, none⟩ = some (.slice none 0 0) := (S.at_ 0 rfl).cell 1
    have f0 := (S.at_ 0 rfl).free 0
    have f1 := (S.at_ 0 rfl).free 1
    have B5 := Lib.hid ((c0.setCell (p := ⟨w.heap.size + 1, 0, none⟩) (by simp) (.slice none 0 0)).setCell (p := ⟨w.heap.size + 1, 1, none⟩) (by simp) (.slice none 0 0))
    clear S c0
    go_wp2
    refine bodyPost_ret (v := .agg #[.slice none 0 0, .slice none 0 0]) (by simp [results, Try.results81, go_sem, p0, p1]) rfl ⟨none, 0, 0, none, 0, 0, rfl, ?_, B5.out⟩
    rw [HR.out]
    exact has_zero _ _
  · have HR := Lib.hid (show synced d = fall true d [] by simp [synced, hd])
    go_enter Try.func81, Try.ntmps81
    go_wp2_with fail
    rw [← HW.out]
    refine (sDiskOk_any _ _ d _ _ (h.keep c0) c0.size (by omega)).mono ?_
    rintro e w1 ⟨rfl, b⟩
    rw [hd]
    replace c0 := c0.trans (b.mono c0.size)
    replace S := S.keep b
    clear b
    have k0 : w1.cell? ⟨w.heap.size, 0, none⟩ = some (.slice A n c) := (S.at_ 1 rfl).cell 0
    have k1 : w1.cell? ⟨w.heap.size, 1, none⟩ = some (.slice A' n' c') := (S.at_ 1 rfl).cell 1
    have S2 := S.box c0.size #[] 2
    have oe := own_empty w1
    have c2 := c0.alloc c0.size (.cells #[] 2)
    go_wp2_with fail
    generalize w1.alloc (.cells #[] 2) = w2 at *
    refine (sFall_any A n c A' n' c' d _ 0 0 [] true _ ((h.keep c2).up c2.size) (by omega) oe.irow (by omega) hd).mono ?_
    rintro e w3 ⟨G, j, g, H, q, hc, rfl, ow, b⟩
    obtain ⟨fp, S'⟩ := S2.has b ow c2.size
    have c3 := c2.trans (b.mono c2.size)
    clear S S2 ow b c0 c2 oe k0 k1
    have p0 : w3.cell? ⟨w.heap.size + 1, 0, none⟩ = some (.slice none 0 0) := (S'.at_ 2 rfl).cell 0
    have p1 : w3.cell? ⟨w.heap.size + 1, 1, none⟩ = some (.slice none 0 0) := (S'.at_ 2 rfl).cell 1
    have f0 := (S'.at_ 2 rfl).free 0
    have f1 := (S'.at_ 2 rfl).free 1
    have S5 := Lib.hid ((S'.put 2 rfl 0 (.slice G j g)).put 2 rfl 1 (.slice H q hc)).first
    have B5 := Lib.hid ((c3.setCell (p := ⟨w.heap.size + 1, 0, none⟩) (by simp) (.slice G j g)).setCell (p := ⟨w.heap.size + 1, 1, none⟩) (by simp) (.slice H q hc))
    clear S' c3
    go_wp2
    refine bodyPost_ret (v := .agg #[.slice G j g, .slice H q hc]) (by simp [results, Try.results81, go_sem, p0, p1]) rfl ⟨G, j, g, H, q, hc, rfl, ?_, B5.out⟩
    rw [HR.out]
    exact S5.out

set_option maxHeartbeats 3200000 in
theorem sFallen_any (A : Option Addr) (n c : Nat) (A' : Option Addr) (n' c' : Nat) (d : DiskM) (E : Option Addr) (o co : Nat) (fs : List Int) (w : World) (h : Rd w w.heap.size d.cells [.slice A n c, .slice A' n' c']) (hs : d.sz ≤ 1048576) (h2 : Rd w w.heap.size (rowCells fs) [.slice E o co]) (hs2 : fs.length ≤ 1048576) :
    Calls Try.prog 82 #[.agg #[.slice A n c, .slice A' n' c'], .slice E o co] w (MadeD w (fallen d fs)) := by
  obtain ⟨_, _, _, e, h2i, _⟩ := h2.irow
  injection e with e1 e2 e3
  subst e1 e2 e3
  have ho : o ≤ 1048576 := by have := h2i.1; omega
  obtain ⟨w0, hw0⟩ : ∃ w0, w0 = (w.alloc (.cells #[.slice A n c, .slice A' n' c'] 30)).alloc (.cells #[.slice none 0 0, .slice none 0 0] 30) := ⟨_, rfl⟩
  have S : Sep w0 w.heap.size [.blk (w.heap.size + 1) #[.slice none 0 0, .slice none 0 0] 30, .blk w.heap.size #[.slice A n c, .slice A' n' c'] 30] := by
    rw [hw0]
    have := ((Sep.nil w w.heap.size).box (Nat.le_refl _) #[.slice A n c, .slice A' n' c'] 30).box (by simp) #[.slice none 0 0, .slice none 0 0] 30
    simpa using this
  have c0 : Below w.heap.size w w0 := by
    rw [hw0]
    exact ((Below.refl _ w).alloc (Nat.le_refl _) _).alloc (by simp) _
  have HW := Lib.hid hw0
  clear hw0
  cases hd : diskOk d
  · have HR := Lib.hid (show fallen d fs = zeroD by simp [fallen, hd])
    go_enter Try.func82, Try.ntmps82
    go_wp2_with fail
    rw [← HW.out]
    refine (sDiskOk_any _ _ d _ _ (h.keep c0) c0.size (by omega)).mono ?_
    rintro e w1 ⟨rfl, b⟩
    rw [hd]
    replace c0 := c0.trans (b.mono c0.size)
    replace S := S.keep b
    clear b
    have p0 : w1.cell? ⟨w.heap.size + 1, 0, none⟩ = some (.slice none 0 0) := (S.at_ 0 rfl).cell 0
    have p1 : w1.cell? ⟨w.heap.size + 1, 1, none⟩ = some (.slice none 0 0) := (S.at_ 0 rfl).cell 1
    have f0 := (S.at_ 0 rfl).free 0
    have f1 := (S.at_ 0 rfl).free 1
    have B5 := Lib.hid ((c0.setCell (p := ⟨w.heap.size + 1, 0, none⟩) (by simp) (.slice none 0 0)).setCell (p := ⟨w.heap.size + 1, 1, none⟩) (by simp) (.slice none 0 0))
    clear S c0
    go_wp2
    refine bodyPost_ret (v := .agg #[.slice none 0 0, .slice none 0 0]) (by simp [results, Try.results82, go_sem, p0, p1]) rfl ⟨none, 0, 0, none, 0, 0, rfl, ?_, B5.out⟩
    rw [HR.out]
    exact has_zero _ _
  · have HR := Lib.hid (show fallen d fs = fall false d fs by simp [fallen, hd])
    go_enter Try.func82, Try.ntmps82
    go_wp2_with fail
    rw [← HW.out]
    refine (sDiskOk_any _ _ d _ _ (h.keep c0) c0.size (by omega)).mono ?_
    rintro e w1 ⟨rfl, b⟩
    rw [hd]
    replace c0 := c0.trans (b.mono c0.size)
    replace S := S.keep b
    clear b
    have k0 : w1.cell? ⟨w.heap.size, 0, none⟩ = some (.slice A n c) := (S.at_ 1 rfl).cell 0
    have k1 : w1.cell? ⟨w.heap.size, 1, none⟩ = some (.slice A' n' c') := (S.at_ 1 rfl).cell 1
    go_wp2_with fail
    refine (sFall_any A n c A' n' c' d E o co fs false _ ((h.keep c0).up c0.size) (by omega) ((h2i.below c0).up c0.size) (by omega) hd).mono ?_
    rintro e w3 ⟨G, j, g, H, q, hc, rfl, ow, b⟩
    obtain ⟨fp, S'⟩ := S.has b ow c0.size
    have c3 := c0.trans (b.mono c0.size)
    clear S ow b c0 k0 k1
    have p0 : w3.cell? ⟨w.heap.size + 1, 0, none⟩ = some (.slice none 0 0) := (S'.at_ 1 rfl).cell 0
    have p1 : w3.cell? ⟨w.heap.size + 1, 1, none⟩ = some (.slice none 0 0) := (S'.at_ 1 rfl).cell 1
    have f0 := (S'.at_ 1 rfl).free 0
    have f1 := (S'.at_ 1 rfl).free 1
    have S5 := Lib.hid ((S'.put 1 rfl 0 (.slice G j g)).put 1 rfl 1 (.slice H q hc)).first
    have B5 := Lib.hid ((c3.setCell (p := ⟨w.heap.size + 1, 0, none⟩) (by simp) (.slice G j g)).setCell (p := ⟨w.heap.size + 1, 1, none⟩) (by simp) (.slice H q hc))
    clear S' c3
    go_wp2
    refine bodyPost_ret (v := .agg #[.slice G j g, .slice H q hc]) (by simp [results, Try.results82, go_sem, p0, p1]) rfl ⟨G, j, g, H, q, hc, rfl, ?_, B5.out⟩
    rw [HR.out]
    exact S5.out

end Go.Proofs.Ytejcpoidoekleaa

namespace Go.Proofs.Ytejcpoidoekleaa
set_option maxRecDepth 100000
open Go.RowKit

set_option maxHeartbeats 6400000 in
theorem sRotted_any (A : Option Addr) (n c : Nat) (A' : Option Addr) (n' c' : Nat) (d : DiskM) (at_ i x : Int) (w : World) (h : Rd w w.heap.size d.cells [.slice A n c, .slice A' n' c']) (hs : d.sz ≤ 1048576) :
    Calls Try.prog 112 #[.agg #[.slice A n c, .slice A' n' c'], .int .i64 at_, .int .i64 i, .int .i64 x] w fun e w' => ∃ (B1 : Option Addr) (b1 b2 : Nat) (B2 : Option Addr) (b3 b4 : Nat), e = .returned (.tuple #[.agg #[.slice B1 b1 b2, .slice B2 b3 b4], .bool (rotted d at_ i x).2]) ∧ Has w' w.heap.size (rotted d at_ i x).1.cells [.slice B1 b1 b2, .slice B2 b3 b4] ∧ Below w.heap.size w w' := by
  obtain ⟨_, _, _, _, _, _, e, e', q1, q2⟩ := h.disk
  injection e with e1 e2 e3
  subst e1 e2 e3
  injection e' with e1 e2 e3
  subst e1 e2 e3
  obtain ⟨_, _, _, e, hl1, _, _, hel1⟩ := q1.kept
  injection e with e1 e2 e3
  subst e1 e2 e3
  have hn : n ≤ 1048576 := by unfold DiskM.sz rowsSz at hs; omega
  have HL1 := Lib.hid hl1
  obtain ⟨w0, hw0⟩ : ∃ w0, w0 = (w.alloc (.cells #[.slice A n c, .slice A' n' c'] 30)).alloc (.cells #[.slice none 0 0, .slice none 0 0] 30) := ⟨_, rfl⟩
  have S : Sep w0 w.heap.size [.blk (w.heap.size + 1) #[.slice none 0 0, .slice none 0 0] 30, .blk w.heap.size #[.slice A n c, .slice A' n' c'] 30] := by
    rw [hw0]
    have := ((Sep.nil w w.heap.size).box (Nat.le_refl _) #[.slice A n c, .slice A' n' c'] 30).box (by simp) #[.slice none 0 0, .slice none 0 0] 30
    simpa using this
  have c0 : Below w.heap.size w w0 := by
    rw [hw0]
    exact ((Below.refl _ w).alloc (Nat.le_refl _) _).alloc (by simp) _
  have HW := Lib.hid hw0
  clear hw0 q1 q2 hl1
  cases hd : diskOk d
  · have HR := Lib.hid (show rotted d at_ i x = (zeroD, false) by simp [rotted, hd])
    clear hel1
    go_enter Try.func112, Try.ntmps112
    go_wp2_with fail
    rw [← HW.out]
    refine (sDiskOk_any _ _ d _ _ (h.keep c0) c0.size (by omega)).mono ?_
    rintro e w1 ⟨rfl, b⟩
    rw [hd]
    replace c0 := c0.trans (b.mono c0.size)
    replace S := S.keep b
    clear b
    have p0 : w1.cell? ⟨w.heap.size + 1, 0, none⟩ = some (.slice none 0 0) := (S.at_ 0 rfl).cell 0
    have p1 : w1.cell? ⟨w.heap.size + 1, 1, none⟩ = some (.slice none 0 0) := (S.at_ 0 rfl).cell 1
    have f0 := (S.at_ 0 rfl).free 0
    have f1 := (S.at_ 0 rfl).free 1
    have B5 := Lib.hid ((c0.setCell (p := ⟨w.heap.size + 1, 0, none⟩) (by simp) (.slice none 0 0)).setCell (p := ⟨w.heap.size + 1, 1, none⟩) (by simp) (.slice none 0 0))
    clear S c0
    go_wp2
    refine bodyPost_ret (v := .tuple #[.agg #[.slice none 0 0, .slice none 0 0], .bool false]) (by simp [results, Try.results112, go_sem, p0, p1]) rfl ⟨none, 0, 0, none, 0, 0, by rw [HR.out], ?_, B5.out⟩
    rw [HR.out]
    exact has_zero _ _
  cases hh : hasS d at_
  · have HR := Lib.hid (show rotted d at_ i x = (d, false) by simp [rotted, hd, hh])
    clear hel1
    go_enter Try.func112, Try.ntmps112
    go_wp2_with fail
    rw [← HW.out]
    refine (sDiskOk_any _ _ d _ _ (h.keep c0) c0.size (by omega)).mono ?_
    rintro e w1 ⟨rfl, b⟩
    rw [hd]
    replace c0 := c0.trans (b.mono c0.size)
    replace S := S.keep b
    clear b
    have k0 : w1.cell? ⟨w.heap.size, 0, none⟩ = some (.slice A n c) := (S.at_ 1 rfl).cell 0
    have k1 : w1.cell? ⟨w.heap.size, 1, none⟩ = some (.slice A' n' c') := (S.at_ 1 rfl).cell 1
    go_wp2_with fail
    refine (sCopyD_any _ _ d _ ((h.keep c0).up c0.size) (by omega)).mono ?_
    rintro e w2 ⟨G, j, g, H, q, hc, rfl, o, b⟩
    obtain ⟨fp, S'⟩ := S.has b o c0.size
    replace c0 := c0.trans (b.mono c0.size)
    clear S; have S := S'; clear S' o b k0 k1
    have zw2 := c0.size
    replace S := S.box c0.size #[.slice G j g, .slice H q hc] 30
    replace c0 := c0.alloc c0.size (.cells #[.slice G j g, .slice H q hc] 30)
    have k0 : (w2.alloc (.cells #[.slice G j g, .slice H q hc] 30)).cell? ⟨w.heap.size, 0, none⟩ = some (.slice A n c) := (S.at_ 3 rfl).cell 0
    have k1 : (w2.alloc (.cells #[.slice G j g, .slice H q hc] 30)).cell? ⟨w.heap.size, 1, none⟩ = some (.slice A' n' c') := (S.at_ 3 rfl).cell 1
    go_wp2_with fail
    generalize w2.alloc (.cells #[.slice G j g, .slice H q hc] 30) = w3 at *
    refine (sHas_any A A' n c n' c' d _ _ HL1.out (by omega)).mono ?_
    rintro e w4 ⟨rfl, b⟩
    rw [hh]
    replace c0 := c0.trans (b.mono c0.size)
    replace S := S.keep b
    clear b k0 k1
    have o0 : w4.cell? ⟨w2.heap.size, 0, none⟩ = some (.slice G j g) := (S.at_ 0 rfl).cell 0
    have o1 : w4.cell? ⟨w2.heap.size, 1, none⟩ = some (.slice H q hc) := (S.at_ 0 rfl).cell 1
    have p0 : w4.cell? ⟨w.heap.size + 1, 0, none⟩ = some (.slice none 0 0) := (S.at_ 2 rfl).cell 0
    have p1 : w4.cell? ⟨w.heap.size + 1, 1, none⟩ = some (.slice none 0 0) := (S.at_ 2 rfl).cell 1
    have f0 := (S.at_ 2 rfl).free 0
    have f1 := (S.at_ 2 rfl).free 1
    have S5 := Lib.hid (((S.put 2 rfl 0 (.slice G j g)).put 2 rfl 1 (.slice H q hc)).drop 1).first
    have B5 := Lib.hid ((c0.setCell (p := ⟨w.heap.size + 1, 0, none⟩) (by simp) (.slice G j g)).setCell (p := ⟨w.heap.size + 1, 1, none⟩) (by simp) (.slice H q hc))
    clear S c0
    go_wp2
    refine bodyPost_ret (v := .tuple #[.agg #[.slice G j g, .slice H q hc], .bool false]) (by simp [results, Try.results112, go_sem, p0, p1]) rfl ⟨G, j, g, H, q, hc, by rw [HR.out], ?_, B5.out⟩
    rw [HR.out]
    exact S5.out
  obtain ⟨z0, z1⟩ : 0 ≤ at_ ∧ at_ ≤ (n : Int) - 1 := by
    have := hh
    unfold hasS at this
    rw [HL1.out] at this
    simpa using this
  obtain ⟨X, rfl⟩ := Int.eq_ofNat_of_zero_le z0
  have hjl : X < d.kept.length := by have := HL1.out; omega
  have HGD := Lib.hid (show d.kept.getD X [] = d.kept[X] by simp [List.getD, List.getElem?_eq_getElem hjl])
  by_cases hi : 0 ≤ i ∧ i < ((d.kept.getD X []).length : Int)
  · by_cases hx : 0 ≤ x ∧ x ≤ 1000000000
    · have HR := Lib.hid (show rotted d (X : Int) i x = (⟨d.kept.set X ((d.kept.getD X []).set i.toNat x), d.wait⟩, true) by
        unfold rotted
        rw [if_pos hd, if_pos ⟨hh, hi, hx⟩]
        rfl)
      obtain ⟨b9, off9, rfl, hb9, hcc⟩ := hel1 (by omega)
      obtain ⟨A1, m1, d1, hcell, hrow, hm1, hm2⟩ := hcc X hjl
      have hm48 : m1 ≤ 48 := by rw [← hrow.1]; exact ok_kept_len hd _ (List.getElem_mem hjl)
      have hlen : ((d.kept.getD X []).length : Int) = (m1 : Int) := by rw [HGD.out, hrow.1]
      have a0 : (0 : Int) ≤ (X : Int) := by omega
      have a1 : (X : Int) < (n : Int) := by omega
      clear hcc hel1
      obtain ⟨I, rfl⟩ := Int.eq_ofNat_of_zero_le hi.1
      rw [Int.toNat_natCast] at HR
      have hIm : I < m1 := by have := hi.2; omega
      have HI := Lib.hid (show (decide ((0 : Int) ≤ (I : Int)) && decide ((I : Int) ≤ (m1 : Int) - 1)) = true by simp; omega)
      have HNN := Lib.hid (show (decide ((0 : Int) ≤ x) && decide (x ≤ 1000000000)) = true by simp [hx.1, hx.2])
      go_enter Try.func112, Try.ntmps112
      go_wp2_with fail
      rw [← HW.out]
      refine (sDiskOk_any _ _ d _ _ (h.keep c0) c0.size (by omega)).mono ?_
      rintro e w1 ⟨rfl, b⟩
      rw [hd]
      replace c0 := c0.trans (b.mono c0.size)
      replace S := S.keep b
      clear b
      have k0 : w1.cell? ⟨w.heap.size, 0, none⟩ = some (.slice (some ⟨b9, off9, none⟩) n c) := (S.at_ 1 rfl).cell 0
      have k1 : w1.cell? ⟨w.heap.size, 1, none⟩ = some (.slice A' n' c') := (S.at_ 1 rfl).cell 1
      go_wp2_with fail
      refine (sCopyD_any _ _ d _ ((h.keep c0).up c0.size) (by omega)).mono ?_
      rintro e w2 ⟨G, j, g, H, q, hc, rfl, o, b⟩
      obtain ⟨fp, S'⟩ := S.has b o c0.size
      replace c0 := c0.trans (b.mono c0.size)
      clear S; have S := S'; clear S' o b k0 k1
      have zw2 := c0.size
      replace S := S.box c0.size #[.slice G j g, .slice H q hc] 30
      replace c0 := c0.alloc c0.size (.cells #[.slice G j g, .slice H q hc] 30)
      have k0 : (w2.alloc (.cells #[.slice G j g, .slice H q hc] 30)).cell? ⟨w.heap.size, 0, none⟩ = some (.slice (some ⟨b9, off9, none⟩) n c) := (S.at_ 3 rfl).cell 0
      have k1 : (w2.alloc (.cells #[.slice G j g, .slice H q hc] 30)).cell? ⟨w.heap.size, 1, none⟩ = some (.slice A' n' c') := (S.at_ 3 rfl).cell 1
      go_wp2_with fail
      generalize w2.alloc (.cells #[.slice G j g, .slice H q hc] 30) = w3 at *
      refine (sHas_any _ A' n c n' c' d _ _ HL1.out (by omega)).mono ?_
      rintro e w4 ⟨rfl, b⟩
      rw [hh]
      replace c0 := c0.trans (b.mono c0.size)
      replace S := S.keep b
      clear b k0 k1
      have k0 : w4.cell? ⟨w.heap.size, 0, none⟩ = some (.slice (some ⟨b9, off9, none⟩) n c) := (S.at_ 3 rfl).cell 0
      have k2 : w4.cell? ⟨b9, off9 + X, none⟩ = some (.slice A1 m1 d1) := (c0.cell (p := ⟨b9, off9 + X, none⟩) hb9).trans hcell
      go_wp2_with fail
      refine (in_any _ _ _ _).mono ?_
      rintro e w5 ⟨rfl, rfl⟩
      rw [HI.out]
      go_wp2_with fail
      refine (in_any _ _ _ _).mono ?_
      rintro e w5 ⟨rfl, rfl⟩
      rw [HNN.out]
      have o0 : w4.cell? ⟨w2.heap.size, 0, none⟩ = some (.slice G j g) := (S.at_ 0 rfl).cell 0
      have o1 : w4.cell? ⟨w2.heap.size, 1, none⟩ = some (.slice H q hc) := (S.at_ 0 rfl).cell 1
      have p0 : w4.cell? ⟨w.heap.size + 1, 0, none⟩ = some (.slice none 0 0) := (S.at_ 2 rfl).cell 0
      have p1 : w4.cell? ⟨w.heap.size + 1, 1, none⟩ = some (.slice none 0 0) := (S.at_ 2 rfl).cell 1
      have f0 := (S.at_ 2 rfl).free 0
      have f1 := (S.at_ 2 rfl).free 1
      obtain ⟨v1, v2, fk, fw, ev, SX⟩ := Sep.split (d1 := [keptD d.kept]) (d2 := [waitD d.wait]) S.swap
      obtain ⟨ev1, ev2⟩ : v1 = [.slice G j g] ∧ v2 = [.slice H q hc] := by
        have l1 := (SX.own_ 1 rfl).len
        have l2 := (SX.own_ 0 rfl).len
        match v1, v2, l1, l2 with
        | [y1], [y2], _, _ =>
          injection ev with a1 a2
          injection a2 with a2 _
          subst a1 a2
          exact ⟨rfl, rfl⟩
      subst ev1 ev2
      have SY := SX.swap
      obtain ⟨g0, cg, es, f2, ee, _, _, he, hcl, hfr, hel, hnd2, hg2, hgf, hsub, hin, _⟩ := Ow.elem (k := 1) rowC_len (by decide) (SY.own_ 0 rfl) (SY.nodup_own 0 rfl) (j := X) hjl
      injection ee with e1 e2 e3
      subst e1 e3
      match es, he with
      | [y0], _ =>
      obtain ⟨R1, rn, rc, rfl, o1', rfl⟩ := hel.own
      have rnl : rn = m1 := by rw [← o1'.len, ← hrow.1]
      subst rnl
      have cy := hcl 0 (by decide)
      rw [Nat.add_zero, Nat.mul_one] at cy
      have cy0 : w4.cell? ⟨g0, X, none⟩ = some (.slice R1 rn rc) := cy
      obtain ⟨r0, rfl, _⟩ := o1'.at_ (by omega)
      have co := o1'.cell_ (j := I) hIm
      have fo : w4.frozen? ⟨r0, I, none⟩ = false := World.ownsRow.frozenAt o1' I
      have op := o1'.put_ I x
      have tt : Touch (Value.slice (some ⟨r0, 0, none⟩) rn rc).ownBlock.toList w4 (w4.setCell ⟨r0, I, none⟩ (.int .i64 x)) := Touch.of_set (by simp [Value.ownBlock])
      have okk := hin _ _ tt op.ow
      have S6 := SY.mark 0 rfl (tt.mono hsub) okk
      have c6 := c0.trans (SY.below 0 rfl (tt.mono hsub) c0.size)
      have u0 : (w4.setCell ⟨r0, I, none⟩ (.int .i64 x)).cell? ⟨w2.heap.size, 0, none⟩ = some (.slice (some ⟨g0, 0, none⟩) j g) := (S6.at_ 2 rfl).cell 0
      have u1 : (w4.setCell ⟨r0, I, none⟩ (.int .i64 x)).cell? ⟨w2.heap.size, 1, none⟩ = some (.slice H q hc) := (S6.at_ 2 rfl).cell 1
      have u2 : (w4.setCell ⟨r0, I, none⟩ (.int .i64 x)).cell? ⟨w.heap.size + 1, 0, none⟩ = some (.slice none 0 0) := (S6.at_ 3 rfl).cell 0
      have u3 : (w4.setCell ⟨r0, I, none⟩ (.int .i64 x)).cell? ⟨w.heap.size + 1, 1, none⟩ = some (.slice none 0 0) := (S6.at_ 3 rfl).cell 1
      have y2 := (S6.at_ 3 rfl).free 0
      have y3 := (S6.at_ 3 rfl).free 1
      have S7 := Lib.hid ((S6.put 3 rfl 0 (.slice (some ⟨g0, 0, none⟩) j g)).put 3 rfl 1 (.slice H q hc)).swap.pair
      have B7 := Lib.hid ((c6.setCell (p := ⟨w.heap.size + 1, 0, none⟩) (by simp) (.slice (some ⟨g0, 0, none⟩) j g)).setCell (p := ⟨w.heap.size + 1, 1, none⟩) (by simp) (.slice H q hc))
      have b0 : (0 : Int) ≤ (I : Int) := by omega
      have b1 : (I : Int) < (rn : Int) := by omega
      have hjn : (X : Int) < (j : Int) := by have := keptD_len (SY.own_ 0 rfl); have := HL1.out; omega
      have HGK := Lib.hid (show d.kept[X] = d.kept.getD X [] from HGD.out.symm)
      clear S SX SY S6 c0 c6 ev hin hsub hgf hg2 hnd2 hfr hcl hel okk op tt o1' cy f0 f1 p0 p1 e2 hrow
      go_wp2
      refine bodyPost_ret (v := .tuple #[.agg #[.slice (some ⟨g0, 0, none⟩) j g, .slice H q hc], .bool true]) (by simp [results, Try.results112, go_sem, u2, u3]) rfl ⟨_, j, g, H, q, hc, by rw [HR.out], ?_, B7.out⟩
      rw [HR.out, ← HGK.out]
      exact S7.out
    · have HR := Lib.hid (show rotted d (X : Int) i x = (d, false) by
        unfold rotted
        rw [if_pos hd, if_neg (fun h9 => hx h9.2.2)])
      obtain ⟨b9, off9, rfl, hb9, hcc⟩ := hel1 (by omega)
      obtain ⟨A1, m1, d1, hcell, hrow, hm1, hm2⟩ := hcc X hjl
      have hm48 : m1 ≤ 48 := by rw [← hrow.1]; exact ok_kept_len hd _ (List.getElem_mem hjl)
      have hlen : ((d.kept.getD X []).length : Int) = (m1 : Int) := by rw [HGD.out, hrow.1]
      have a0 : (0 : Int) ≤ (X : Int) := by omega
      have a1 : (X : Int) < (n : Int) := by omega
      clear hcc hel1
      have HI := Lib.hid (show (decide ((0 : Int) ≤ i) && decide (i ≤ (m1 : Int) - 1)) = true by
        have h8 := hi.1
        have h9 := hi.2
        simp only [Bool.and_eq_true, decide_eq_true_eq]
        omega)
      have HNN := Lib.hid (show (decide ((0 : Int) ≤ x) && decide (x ≤ 1000000000)) = false by
        cases h9 : (decide ((0 : Int) ≤ x) && decide (x ≤ 1000000000))
        · rfl
        · exact absurd (by simpa using h9) hx)
      go_enter Try.func112, Try.ntmps112
      go_wp2_with fail
      rw [← HW.out]
      refine (sDiskOk_any _ _ d _ _ (h.keep c0) c0.size (by omega)).mono ?_
      rintro e w1 ⟨rfl, b⟩
      rw [hd]
      replace c0 := c0.trans (b.mono c0.size)
      replace S := S.keep b
      clear b
      have k0 : w1.cell? ⟨w.heap.size, 0, none⟩ = some (.slice (some ⟨b9, off9, none⟩) n c) := (S.at_ 1 rfl).cell 0
      have k1 : w1.cell? ⟨w.heap.size, 1, none⟩ = some (.slice A' n' c') := (S.at_ 1 rfl).cell 1
      go_wp2_with fail
      refine (sCopyD_any _ _ d _ ((h.keep c0).up c0.size) (by omega)).mono ?_
      rintro e w2 ⟨G, j, g, H, q, hc, rfl, o, b⟩
      obtain ⟨fp, S'⟩ := S.has b o c0.size
      replace c0 := c0.trans (b.mono c0.size)
      clear S; have S := S'; clear S' o b k0 k1
      have zw2 := c0.size
      replace S := S.box c0.size #[.slice G j g, .slice H q hc] 30
      replace c0 := c0.alloc c0.size (.cells #[.slice G j g, .slice H q hc] 30)
      have k0 : (w2.alloc (.cells #[.slice G j g, .slice H q hc] 30)).cell? ⟨w.heap.size, 0, none⟩ = some (.slice (some ⟨b9, off9, none⟩) n c) := (S.at_ 3 rfl).cell 0
      have k1 : (w2.alloc (.cells #[.slice G j g, .slice H q hc] 30)).cell? ⟨w.heap.size, 1, none⟩ = some (.slice A' n' c') := (S.at_ 3 rfl).cell 1
      go_wp2_with fail
      generalize w2.alloc (.cells #[.slice G j g, .slice H q hc] 30) = w3 at *
      refine (sHas_any _ A' n c n' c' d _ _ HL1.out (by omega)).mono ?_
      rintro e w4 ⟨rfl, b⟩
      rw [hh]
      replace c0 := c0.trans (b.mono c0.size)
      replace S := S.keep b
      clear b k0 k1
      have k0 : w4.cell? ⟨w.heap.size, 0, none⟩ = some (.slice (some ⟨b9, off9, none⟩) n c) := (S.at_ 3 rfl).cell 0
      have k2 : w4.cell? ⟨b9, off9 + X, none⟩ = some (.slice A1 m1 d1) := (c0.cell (p := ⟨b9, off9 + X, none⟩) hb9).trans hcell
      go_wp2_with fail
      refine (in_any _ _ _ _).mono ?_
      rintro e w5 ⟨rfl, rfl⟩
      rw [HI.out]
      go_wp2_with fail
      refine (in_any _ _ _ _).mono ?_
      rintro e w5 ⟨rfl, rfl⟩
      rw [HNN.out]
      have o0 : w4.cell? ⟨w2.heap.size, 0, none⟩ = some (.slice G j g) := (S.at_ 0 rfl).cell 0
      have o1 : w4.cell? ⟨w2.heap.size, 1, none⟩ = some (.slice H q hc) := (S.at_ 0 rfl).cell 1
      have p0 : w4.cell? ⟨w.heap.size + 1, 0, none⟩ = some (.slice none 0 0) := (S.at_ 2 rfl).cell 0
      have p1 : w4.cell? ⟨w.heap.size + 1, 1, none⟩ = some (.slice none 0 0) := (S.at_ 2 rfl).cell 1
      have f0 := (S.at_ 2 rfl).free 0
      have f1 := (S.at_ 2 rfl).free 1
      have S5 := Lib.hid (((S.put 2 rfl 0 (.slice G j g)).put 2 rfl 1 (.slice H q hc)).drop 1).first
      have B5 := Lib.hid ((c0.setCell (p := ⟨w.heap.size + 1, 0, none⟩) (by simp) (.slice G j g)).setCell (p := ⟨w.heap.size + 1, 1, none⟩) (by simp) (.slice H q hc))
      clear S c0
      go_wp2
      refine bodyPost_ret (v := .tuple #[.agg #[.slice G j g, .slice H q hc], .bool false]) (by simp [results, Try.results112, go_sem, p0, p1]) rfl ⟨G, j, g, H, q, hc, by rw [HR.out], ?_, B5.out⟩
      rw [HR.out]
      exact S5.out
  · have HR := Lib.hid (show rotted d (X : Int) i x = (d, false) by
      unfold rotted
      rw [if_pos hd, if_neg (fun h9 => hi h9.2.1)])
    obtain ⟨b9, off9, rfl, hb9, hcc⟩ := hel1 (by omega)
    obtain ⟨A1, m1, d1, hcell, hrow, hm1, hm2⟩ := hcc X hjl
    have hm48 : m1 ≤ 48 := by rw [← hrow.1]; exact ok_kept_len hd _ (List.getElem_mem hjl)
    have hlen : ((d.kept.getD X []).length : Int) = (m1 : Int) := by rw [HGD.out, hrow.1]
    have a0 : (0 : Int) ≤ (X : Int) := by omega
    have a1 : (X : Int) < (n : Int) := by omega
    clear hcc hel1
    have HI := Lib.hid (show (decide ((0 : Int) ≤ i) && decide (i ≤ (m1 : Int) - 1)) = false by
      cases h9 : (decide ((0 : Int) ≤ i) && decide (i ≤ (m1 : Int) - 1))
      · rfl
      · simp only [Bool.and_eq_true, decide_eq_true_eq] at h9
        exact absurd ⟨h9.1, by omega⟩ hi)
    go_enter Try.func112, Try.ntmps112
    go_wp2_with fail
    rw [← HW.out]
    refine (sDiskOk_any _ _ d _ _ (h.keep c0) c0.size (by omega)).mono ?_
    rintro e w1 ⟨rfl, b⟩
    rw [hd]
    replace c0 := c0.trans (b.mono c0.size)
    replace S := S.keep b
    clear b
    have k0 : w1.cell? ⟨w.heap.size, 0, none⟩ = some (.slice (some ⟨b9, off9, none⟩) n c) := (S.at_ 1 rfl).cell 0
    have k1 : w1.cell? ⟨w.heap.size, 1, none⟩ = some (.slice A' n' c') := (S.at_ 1 rfl).cell 1
    go_wp2_with fail
    refine (sCopyD_any _ _ d _ ((h.keep c0).up c0.size) (by omega)).mono ?_
    rintro e w2 ⟨G, j, g, H, q, hc, rfl, o, b⟩
    obtain ⟨fp, S'⟩ := S.has b o c0.size
    replace c0 := c0.trans (b.mono c0.size)
    clear S; have S := S'; clear S' o b k0 k1
    have zw2 := c0.size
    replace S := S.box c0.size #[.slice G j g, .slice H q hc] 30
    replace c0 := c0.alloc c0.size (.cells #[.slice G j g, .slice H q hc] 30)
    have k0 : (w2.alloc (.cells #[.slice G j g, .slice H q hc] 30)).cell? ⟨w.heap.size, 0, none⟩ = some (.slice (some ⟨b9, off9, none⟩) n c) := (S.at_ 3 rfl).cell 0
    have k1 : (w2.alloc (.cells #[.slice G j g, .slice H q hc] 30)).cell? ⟨w.heap.size, 1, none⟩ = some (.slice A' n' c') := (S.at_ 3 rfl).cell 1
    go_wp2_with fail
    generalize w2.alloc (.cells #[.slice G j g, .slice H q hc] 30) = w3 at *
    refine (sHas_any _ A' n c n' c' d _ _ HL1.out (by omega)).mono ?_
    rintro e w4 ⟨rfl, b⟩
    rw [hh]
    replace c0 := c0.trans (b.mono c0.size)
    replace S := S.keep b
    clear b k0 k1
    have k0 : w4.cell? ⟨w.heap.size, 0, none⟩ = some (.slice (some ⟨b9, off9, none⟩) n c) := (S.at_ 3 rfl).cell 0
    have k2 : w4.cell? ⟨b9, off9 + X, none⟩ = some (.slice A1 m1 d1) := (c0.cell (p := ⟨b9, off9 + X, none⟩) hb9).trans hcell
    go_wp2_with fail
    refine (in_any _ _ _ _).mono ?_
    rintro e w5 ⟨rfl, rfl⟩
    rw [HI.out]
    have o0 : w4.cell? ⟨w2.heap.size, 0, none⟩ = some (.slice G j g) := (S.at_ 0 rfl).cell 0
    have o1 : w4.cell? ⟨w2.heap.size, 1, none⟩ = some (.slice H q hc) := (S.at_ 0 rfl).cell 1
    have p0 : w4.cell? ⟨w.heap.size + 1, 0, none⟩ = some (.slice none 0 0) := (S.at_ 2 rfl).cell 0
    have p1 : w4.cell? ⟨w.heap.size + 1, 1, none⟩ = some (.slice none 0 0) := (S.at_ 2 rfl).cell 1
    have f0 := (S.at_ 2 rfl).free 0
    have f1 := (S.at_ 2 rfl).free 1
    have S5 := Lib.hid (((S.put 2 rfl 0 (.slice G j g)).put 2 rfl 1 (.slice H q hc)).drop 1).first
    have B5 := Lib.hid ((c0.setCell (p := ⟨w.heap.size + 1, 0, none⟩) (by simp) (.slice G j g)).setCell (p := ⟨w.heap.size + 1, 1, none⟩) (by simp) (.slice H q hc))
    clear S c0
    go_wp2
    refine bodyPost_ret (v := .tuple #[.agg #[.slice G j g, .slice H q hc], .bool false]) (by simp [results, Try.results112, go_sem, p0, p1]) rfl ⟨G, j, g, H, q, hc, by rw [HR.out], ?_, B5.out⟩
    rw [HR.out]
    exact S5.out

end Go.Proofs.Ytejcpoidoekleaa
