/-
  The model's draw of a valid pair of disks in new memory.
-/
import Derived.Test.YtejcpoidoekleaaDr
import Derived.Test.YtejcpoidoekleaaTwoS2
import Derived.Test.YtejcpoidoekleaaKT
import Derived.Test.YtejcpoidoekleaaKS6
namespace Go.Proofs.Ytejcpoidoekleaa
set_option maxRecDepth 100000
open Go.RowKit

theorem rotted_ok {d : DiskM} (h : diskOk d = true) (a i n : Int) : diskOk (rotted d a i n).1 = true := by
  unfold rotted
  rw [if_pos h]
  split
  · rename_i hc
    obtain ⟨h1, h2, h3, h4⟩ := diskOk_iff.1 h
    refine diskOk_iff.2 ⟨by simpa using h1, h2, ?_, ?_⟩
    · rw [List.all_eq_true] at h3 ⊢
      refine mem_set_ok h3 ?_
      have hr := getD_ok h3 a.toNat
      rw [rowOk_iff] at hr ⊢
      refine ⟨by simpa using hr.1, fun x hx => ?_⟩
      rcases List.mem_or_eq_of_mem_set hx with hx | hx
      · exact hr.2 x hx
      · subst hx
        simp [numOk, hc.2.2.1, hc.2.2.2]
    · rw [List.all_eq_true] at h4 ⊢
      intro p hp
      have := h4 p hp
      simpa [wrOk, hasS] using this
  · exact h
theorem rotted_len {d : DiskM} (h : diskOk d = true) (a i n : Int) : (rotted d a i n).1.kept.length = d.kept.length := by
  unfold rotted
  rw [if_pos h]
  split <;> simp
theorem bothRotted_ok {t : TwoM} (h : twoOk t = true) (a i n : Int) : twoOk ⟨t.a, (rotted t.b a i n).1⟩ = true := by
  obtain ⟨h1, h2, h3⟩ := twoOk_iff.1 h
  exact twoOk_iff.2 ⟨h1, rotted_ok h2 a i n, by rw [rotted_len h2]; exact h3⟩

/-- Some valid pair in new memory is handed back; nothing but the cursor p is written. -/
def DrawnTwo (w : World) (B p : Nat) (e : Ending) (w' : World) : Prop :=
  ∃ t A0 n0 c0 A1 n1 c1 A2 n2 c2 A3 n3 c3, e = .returned (.agg #[.slice A0 n0 c0, .slice A1 n1 c1, .slice A2 n2 c2, .slice A3 n3 c3]) ∧ twoOk t = true ∧ Has w' w.heap.size t.cells [.slice A0 n0 c0, .slice A1 n1 c1, .slice A2 n2 c2, .slice A3 n3 c3] ∧ Cur w' B p ∧ w.grownBy w' (some p)

set_option maxHeartbeats 12800000 in
theorem drawTwo_any (B p : Nat) (w : World) (hc : Cur w B p) :
    Calls Try.prog 91 #[.pointer (some ⟨p, 0, none⟩)] w (DrawnTwo w B p) := by
  have X := Dr.start hc
  replace X := X.boxAt (w.heap.size) rfl #[.slice none 0 0, .slice none 0 0, .slice none 0 0, .slice none 0 0] 32
  go_enter Try.func91, Try.ntmps91
  go_wp2_with fail
  generalize w.alloc (.cells #[.slice none 0 0, .slice none 0 0, .slice none 0 0, .slice none 0 0] 32) = w1 at *
  refine (below_any B p _ X.cur 4 (by omega) (by omega)).mono ?_
  rintro e w2 ⟨x, ⟨x0, x1⟩, rfl, cu, gr⟩
  replace X := X.draw cu gr
  clear cu gr
  go_wp2_with fail
  refine (sNewTwo_any (1 + x) _).mono ?_
  rintro e w3 ⟨Au0, nu0, cu0, Au1, nu1, cu1, Au2, nu2, cu2, Au3, nu3, cu3, rfl, o, b⟩
  obtain ⟨fp_own, X'⟩ := X.has b o
  clear X; have X := X'; clear X' b o
  have hd0 : twoOk (newTwo (1 + x)) = true := newTwo_ok (by unfold secOk; simp; omega)
  generalize newTwo (1 + x) = tt at *
  replace X := X.boxAt (w3.heap.size) rfl #[.slice Au0 nu0 cu0, .slice Au1 nu1 cu1, .slice Au2 nu2 cu2, .slice Au3 nu3 cu3] 32
  go_wp2_with fail
  generalize w3.alloc (.cells #[.slice Au0 nu0 cu0, .slice Au1 nu1 cu1, .slice Au2 nu2 cu2, .slice Au3 nu3 cu3] 32) = w4 at *
  generalize w3.heap.size = r1 at *
  refine (below_any B p _ X.cur 8 (by omega) (by omega)).mono ?_
  rintro e w5 ⟨y, ⟨y0, y1⟩, rfl, cu, gr⟩
  replace X := X.draw cu gr
  clear cu gr
  have X0 := Lib.hid X
  clear X
  obtain ⟨y, rfl⟩ := Int.eq_ofNat_of_zero_le y0
  go_wp2
  go_loopw [4] (fun i wr => ∃ (k : Nat) (t : TwoM) (At0 : Option Addr) (nt0 ct0 : Nat) (At1 : Option Addr) (nt1 ct1 : Nat) (At2 : Option Addr) (nt2 ct2 : Nat) (At3 : Option Addr) (nt3 ct3 : Nat) (fp : List Nat), i = .int .i64 (k : Int) ∧ k ≤ 7 ∧ twoOk t = true ∧ Dr w wr B p [.blk r1 #[.slice At0 nt0 ct0, .slice At1 nt1 ct1, .slice At2 nt2 ct2, .slice At3 nt3 ct3] 32, .own t.cells [.slice At0 nt0 ct0, .slice At1 nt1 ct1, .slice At2 nt2 ct2, .slice At3 nt3 ct3] fp, .blk w.heap.size #[.slice none 0 0, .slice none 0 0, .slice none 0 0, .slice none 0 0] 32]) (fun i _ => (intOf i).toNat)
  case atStart => exact ⟨y, tt, Au0, nu0, cu0, Au1, nu1, cu1, Au2, nu2, cu2, Au3, nu3, cu3, fp_own, rfl, by omega, hd0, X0.out⟩
  case round =>
    obtain ⟨k, t, At0, nt0, ct0, At1, nt1, ct1, At2, nt2, ct2, At3, nt3, ct3, fp, rfl, hk, hok, X⟩ := hrel
    clear X0 hd0 fp_own
    rcases k with _ | k2
    · have f0 : wr.cell? ⟨r1, 0, none⟩ = some (.slice At0 nt0 ct0) := (X.sep.at_ 0 rfl).cell 0
      have f1 : wr.cell? ⟨r1, 1, none⟩ = some (.slice At1 nt1 ct1) := (X.sep.at_ 0 rfl).cell 1
      have f2 : wr.cell? ⟨r1, 2, none⟩ = some (.slice At2 nt2 ct2) := (X.sep.at_ 0 rfl).cell 2
      have f3 : wr.cell? ⟨r1, 3, none⟩ = some (.slice At3 nt3 ct3) := (X.sep.at_ 0 rfl).cell 3
      have f4 : wr.cell? ⟨w.heap.size, 0, none⟩ = some (.slice none 0 0) := (X.sep.at_ 2 rfl).cell 0
      have f5 := (X.sep.at_ 2 rfl).free 0
      have f6 : wr.cell? ⟨w.heap.size, 1, none⟩ = some (.slice none 0 0) := (X.sep.at_ 2 rfl).cell 1
      have f7 := (X.sep.at_ 2 rfl).free 1
      have f8 : wr.cell? ⟨w.heap.size, 2, none⟩ = some (.slice none 0 0) := (X.sep.at_ 2 rfl).cell 2
      have f9 := (X.sep.at_ 2 rfl).free 2
      have f10 : wr.cell? ⟨w.heap.size, 3, none⟩ = some (.slice none 0 0) := (X.sep.at_ 2 rfl).cell 3
      have f11 := (X.sep.at_ 2 rfl).free 3
      replace X := X.put 2 rfl 0 (.slice At0 nt0 ct0)
      replace X := X.put 2 rfl 1 (.slice At1 nt1 ct1)
      replace X := X.put 2 rfl 2 (.slice At2 nt2 ct2)
      replace X := X.put 2 rfl 3 (.slice At3 nt3 ct3)
      replace X := X.with_ (X.sep.sub (.cons _ (.cons_cons _ (List.nil_sublist _))))
      have H := Lib.hid X.sep.first
      have C := Lib.hid X.cur
      have G := Lib.hid X.grown
      clear X
      go_wp2
      exact bodyPost_ret (v := .agg #[.slice At0 nt0 ct0, .slice At1 nt1 ct1, .slice At2 nt2 ct2, .slice At3 nt3 ct3]) (by simp [results, Try.results91, go_sem, f4, f6, f8, f10]) rfl ⟨t, _, _, _, _, _, _, _, _, _, _, _, _, rfl, hok, H.out, C.out, G.out⟩
    · have i0 : (0 : Int) < (k2 : Int) + 1 := by omega
      have hsz := ok_two_sz hok
      obtain ⟨ok1, ok2, ok3⟩ := twoOk_iff.1 hok
      have hl0 : t.a.kept.length = nt0 := rdKeptLen (X.sep.own_ 1 rfl).rd.halves.1
      have hj1 : 1 ≤ nt0 := by have := (diskOk_iff.1 ok1).1.1; omega
      have hj40 : nt0 ≤ 40 := by have := (diskOk_iff.1 ok1).1.2; omega
      clear hl0
      go_wp2_with fail
      refine wp_region_L (fun v => v.cell? ⟨r1, 0, none⟩ = some (.slice At0 nt0 ct0) ∧ v.cell? ⟨r1, 1, none⟩ = some (.slice At1 nt1 ct1) ∧ v.cell? ⟨r1, 2, none⟩ = some (.slice At2 nt2 ct2) ∧ v.cell? ⟨r1, 3, none⟩ = some (.slice At3 nt3 ct3)) 13 (by kernel_rfl) ?_
      replace X := X.drew
      generalize wr.drew = w21 at *
      have HF : w21.cell? ⟨r1, 0, none⟩ = some (.slice At0 nt0 ct0) ∧ w21.cell? ⟨r1, 1, none⟩ = some (.slice At1 nt1 ct1) ∧ w21.cell? ⟨r1, 2, none⟩ = some (.slice At2 nt2 ct2) ∧ w21.cell? ⟨r1, 3, none⟩ = some (.slice At3 nt3 ct3) := ⟨(X.sep.at_ 0 rfl).cell 0, (X.sep.at_ 0 rfl).cell 1, (X.sep.at_ 0 rfl).cell 2, (X.sep.at_ 0 rfl).cell 3⟩
      refine wpAnyL_take (i := 0) (v := ?_) rfl rfl (by kernel_rfl) (by kernel_rfl) (by kernel_rfl) (by kernel_rfl) (by kernel_rfl) (fun _ _ _ h => h) HF (Or.inl ⟨by rfl, ?_⟩) ?_
      rotate_left 1
      · (rintro v ⟨a0, a1, a2, a3⟩; go_simp; try with_reducible rfl)
      try simp only [Act.put]
      refine wpAnyL_take (i := 1) (v := ?_) rfl rfl (by kernel_rfl) (by kernel_rfl) (by kernel_rfl) (by kernel_rfl) (by kernel_rfl) (fun _ _ _ h => h) HF (Or.inl ⟨by rfl, ?_⟩) ?_
      rotate_left 1
      · (rintro v ⟨a0, a1, a2, a3⟩; go_simp; try with_reducible rfl)
      try simp only [Act.put]
      refine wpAnyL_take (i := 2) (v := ?_) rfl rfl (by kernel_rfl) (by kernel_rfl) (by kernel_rfl) (by kernel_rfl) (by kernel_rfl) (fun _ _ _ h => h) HF (Or.inl ⟨by rfl, ?_⟩) ?_
      rotate_left 1
      · (rintro v ⟨a0, a1, a2, a3⟩; go_simp; try with_reducible rfl)
      try simp only [Act.put]
      refine wpAnyL_take (i := 3) (v := ?_) rfl rfl (by kernel_rfl) (by kernel_rfl) (by kernel_rfl) (by kernel_rfl) (by kernel_rfl) (fun _ _ _ h => h) HF (Or.inl ⟨by rfl, ?_⟩) ?_
      rotate_left 1
      · (rintro v ⟨a0, a1, a2, a3⟩; go_simp; try with_reducible rfl)
      try simp only [Act.put]
      refine wpAnyL_take (i := 4) (v := ?_) rfl rfl (by kernel_rfl) (by kernel_rfl) (by kernel_rfl) (by kernel_rfl) (by kernel_rfl) (fun _ _ _ h => h) HF (Or.inl ⟨by rfl, ?_⟩) ?_
      rotate_left 1
      · (rintro v ⟨a0, a1, a2, a3⟩; go_simp; try with_reducible rfl)
      try simp only [Act.put]
      refine wpAnyL_take (i := 5) (v := ?_) rfl rfl (by kernel_rfl) (by kernel_rfl) (by kernel_rfl) (by kernel_rfl) (by kernel_rfl) (fun _ _ _ h => h) HF (Or.inl ⟨by rfl, ?_⟩) ?_
      rotate_left 1
      · (rintro v ⟨a0, a1, a2, a3⟩; go_simp; try with_reducible rfl)
      try simp only [Act.put]
      refine wpAnyL_take (i := 7) (v := ?_) rfl rfl (by kernel_rfl) (by kernel_rfl) (by kernel_rfl) (by kernel_rfl) (by kernel_rfl) (fun _ _ _ h => h) HF (Or.inl ⟨by rfl, ?_⟩) ?_
      rotate_left 1
      · (rintro v ⟨a0, a1, a2, a3⟩; go_simp; try with_reducible rfl)
      try simp only [Act.put]
      refine wpAnyL_step (i := 6) (by kernel_rfl) rfl rfl ?_
      intro K hK
      go_simp
      refine (below_any B p _ X.cur (nt0 : Int) (by omega) (by omega)).mono ?_
      rintro e w22 ⟨x, ⟨x0, x1⟩, rfl, cu, gr⟩
      replace X := X.draw cu gr
      clear cu gr
      clear HF
      have HF : w22.cell? ⟨r1, 0, none⟩ = some (.slice At0 nt0 ct0) ∧ w22.cell? ⟨r1, 1, none⟩ = some (.slice At1 nt1 ct1) ∧ w22.cell? ⟨r1, 2, none⟩ = some (.slice At2 nt2 ct2) ∧ w22.cell? ⟨r1, 3, none⟩ = some (.slice At3 nt3 ct3) := ⟨(X.sep.at_ 0 rfl).cell 0, (X.sep.at_ 0 rfl).cell 1, (X.sep.at_ 0 rfl).cell 2, (X.sep.at_ 0 rfl).cell 3⟩
      refine hK _ _ (fun _ => HF) ?_
      clear hK K
      try simp only [Act.put]
      refine wpAnyL_step (i := 8) (by kernel_rfl) rfl rfl ?_
      intro K hK
      go_simp
      refine (drawRow_any7 B p _ X.cur).mono ?_
      rintro e w23 ⟨Aq0, nq0, cq0, r, rfl, o, hm7, cu, gr⟩
      obtain ⟨fp_q, X'⟩ := X.drawHas cu gr o.has
      clear X; have X := X'; clear X' cu gr o
      clear HF
      have HF : w23.cell? ⟨r1, 0, none⟩ = some (.slice At0 nt0 ct0) ∧ w23.cell? ⟨r1, 1, none⟩ = some (.slice At1 nt1 ct1) ∧ w23.cell? ⟨r1, 2, none⟩ = some (.slice At2 nt2 ct2) ∧ w23.cell? ⟨r1, 3, none⟩ = some (.slice At3 nt3 ct3) := ⟨(X.sep.at_ 1 rfl).cell 0, (X.sep.at_ 1 rfl).cell 1, (X.sep.at_ 1 rfl).cell 2, (X.sep.at_ 1 rfl).cell 3⟩
      refine hK _ _ (fun _ => HF) ?_
      clear hK K
      try simp only [Act.put]
      have hr7 : r.length ≤ 1048576 := by rw [rowCells_len (X.sep.own_ 0 rfl)]; omega
      refine wpAnyL_step (i := 9) (by kernel_rfl) rfl rfl ?_
      intro K hK
      go_simp
      refine (sBothWrote_any _ _ _ _ _ _ _ _ _ _ _ _ t x _ _ _ r _ ((X.sep.own_ 2 rfl).rd) (by omega) ((X.sep.own_ 0 rfl).rd) hr7).mono ?_
      rintro e w24 ⟨Az0, nz0, cz0, Az1, nz1, cz1, Az2, nz2, cz2, Az3, nz3, cz3, rfl, o, b⟩
      obtain ⟨fp_z, X'⟩ := X.has b o
      clear X; have X := X'; clear X' b o
      clear HF
      have HF : w24.cell? ⟨r1, 0, none⟩ = some (.slice At0 nt0 ct0) ∧ w24.cell? ⟨r1, 1, none⟩ = some (.slice At1 nt1 ct1) ∧ w24.cell? ⟨r1, 2, none⟩ = some (.slice At2 nt2 ct2) ∧ w24.cell? ⟨r1, 3, none⟩ = some (.slice At3 nt3 ct3) := ⟨(X.sep.at_ 2 rfl).cell 0, (X.sep.at_ 2 rfl).cell 1, (X.sep.at_ 2 rfl).cell 2, (X.sep.at_ 2 rfl).cell 3⟩
      refine hK _ _ (fun _ => HF) ?_
      clear hK K
      try simp only [Act.put]
      have hok3 := bothWrote_ok hok x r
      generalize (bothWrote t x r).2 = bb at *
      generalize (bothWrote t x r).1 = t3 at *
      refine wpAnyL_step (i := 10) (by kernel_rfl) rfl rfl ?_
      intro K hK
      go_simp
      refine hK _ _ (fun _ => HF) ?_
      clear hK K
      try simp only [Act.put]
      refine wpAnyL_pure (i := 11) (v := ?_) rfl rfl (by kernel_rfl) (by kernel_rfl) (by kernel_rfl) (fun _ _ _ h => h) HF (Or.inl ⟨by rfl, ?_⟩) ?_
      rotate_left 1
      · (intro v _; go_simp; try with_reducible rfl)
      try simp only [Act.put]
      refine wpAnyL_pure (i := 12) (v := ?_) rfl rfl (by kernel_rfl) (by kernel_rfl) (by kernel_rfl) (fun _ _ _ h => h) HF (Or.inl ⟨by rfl, ?_⟩) ?_
      rotate_left 1
      · (intro v _; go_simp; try with_reducible rfl)
      try simp only [Act.put]
      have f0 : w24.cell? ⟨r1, 0, none⟩ = some (.slice At0 nt0 ct0) := (X.sep.at_ 2 rfl).cell 0
      have f1 := (X.sep.at_ 2 rfl).free 0
      have f2 : w24.cell? ⟨r1, 1, none⟩ = some (.slice At1 nt1 ct1) := (X.sep.at_ 2 rfl).cell 1
      have f3 := (X.sep.at_ 2 rfl).free 1
      have f4 : w24.cell? ⟨r1, 2, none⟩ = some (.slice At2 nt2 ct2) := (X.sep.at_ 2 rfl).cell 2
      have f5 := (X.sep.at_ 2 rfl).free 2
      have f6 : w24.cell? ⟨r1, 3, none⟩ = some (.slice At3 nt3 ct3) := (X.sep.at_ 2 rfl).cell 3
      have f7 := (X.sep.at_ 2 rfl).free 3
      replace X := X.put 2 rfl 0 (.slice Az0 nz0 cz0)
      replace X := X.put 2 rfl 1 (.slice Az1 nz1 cz1)
      replace X := X.put 2 rfl 2 (.slice Az2 nz2 cz2)
      replace X := X.put 2 rfl 3 (.slice Az3 nz3 cz3)
      refine wpAnyL_step (i := 13) (by kernel_rfl) rfl rfl ?_
      intro K hK
      go_simp
      refine hK _ _ (fun h => nomatch (show true = false from h)) ?_
      clear hK K
      try simp only [Act.put]
      refine wpAnyL_done (by kernel_rfl) ?_ _
      replace X := X.with_ (X.sep.sub (.cons_cons _ (.cons _ (.cons_cons _ (.cons _ (.cons_cons _ (List.nil_sublist _)))))))
      replace X := X.with_ (X.sep.pick 1 rfl)
      generalize (((w24.setCell ⟨r1, 0, none⟩ (.slice Az0 nz0 cz0)).setCell ⟨r1, 1, none⟩ (.slice Az1 nz1 cz1)).setCell ⟨r1, 2, none⟩ (.slice Az2 nz2 cz2)).setCell ⟨r1, 3, none⟩ (.slice Az3 nz3 cz3) = w25 at *
      clear HF
      clear f0 f1 f2 f3 f4 f5 f6 f7
      have hl0 : t3.a.kept.length = nz0 := rdKeptLen (X.sep.own_ 1 rfl).rd.halves.1
      obtain ⟨ok4, ok5, ok6⟩ := twoOk_iff.1 hok3
      have hsz3 := ok_two_sz hok3
      have hn1 : 1 ≤ nz0 := by have := (diskOk_iff.1 ok4).1.1; omega
      have hn40 : nz0 ≤ 40 := by have := (diskOk_iff.1 ok4).1.2; omega
      have hzb : t3.b.sz ≤ 1048576 := by unfold TwoM.sz at hsz3; omega
      clear hl0 hok hsz ok1 ok2 ok3 hj1 hj40
      go_wp2_with fail
      refine (below_any B p _ X.cur 6 (by omega) (by omega)).mono ?_
      rintro e w26 ⟨v, ⟨v0, v1⟩, rfl, cu, gr⟩
      replace X := X.draw cu gr
      clear cu gr
      rcases (show v = 0 ∨ v = 1 ∨ v = 2 ∨ 2 < v from by omega) with rfl | rfl | rfl | hv
      · skip
        have f8 : w26.cell? ⟨r1, 0, none⟩ = some (.slice Az0 nz0 cz0) := (X.sep.at_ 0 rfl).cell 0
        have f9 : w26.cell? ⟨r1, 1, none⟩ = some (.slice Az1 nz1 cz1) := (X.sep.at_ 0 rfl).cell 1
        have f10 : w26.cell? ⟨r1, 2, none⟩ = some (.slice Az2 nz2 cz2) := (X.sep.at_ 0 rfl).cell 2
        have f11 : w26.cell? ⟨r1, 3, none⟩ = some (.slice Az3 nz3 cz3) := (X.sep.at_ 0 rfl).cell 3
        go_wp2_with fail
        refine (sBothSynced_any _ _ _ _ _ _ _ _ _ _ _ _ t3 _ ((X.sep.own_ 1 rfl).rd) (by omega)).mono ?_
        rintro e w27 ⟨Ay0, ny0, cy0, Ay1, ny1, cy1, Ay2, ny2, cy2, Ay3, ny3, cy3, rfl, o, b⟩
        obtain ⟨fp_y, X'⟩ := X.has b o
        clear X; have X := X'; clear X' b o f8 f9 f10 f11
        have f12 : w27.cell? ⟨r1, 0, none⟩ = some (.slice Az0 nz0 cz0) := (X.sep.at_ 1 rfl).cell 0
        have f13 := (X.sep.at_ 1 rfl).free 0
        have f14 : w27.cell? ⟨r1, 1, none⟩ = some (.slice Az1 nz1 cz1) := (X.sep.at_ 1 rfl).cell 1
        have f15 := (X.sep.at_ 1 rfl).free 1
        have f16 : w27.cell? ⟨r1, 2, none⟩ = some (.slice Az2 nz2 cz2) := (X.sep.at_ 1 rfl).cell 2
        have f17 := (X.sep.at_ 1 rfl).free 2
        have f18 : w27.cell? ⟨r1, 3, none⟩ = some (.slice Az3 nz3 cz3) := (X.sep.at_ 1 rfl).cell 3
        have f19 := (X.sep.at_ 1 rfl).free 3
        replace X := X.put 1 rfl 0 (.slice Ay0 ny0 cy0)
        replace X := X.put 1 rfl 1 (.slice Ay1 ny1 cy1)
        replace X := X.put 1 rfl 2 (.slice Ay2 ny2 cy2)
        replace X := X.put 1 rfl 3 (.slice Ay3 ny3 cy3)
        replace X := X.with_ (X.sep.sub (.cons_cons _ (.cons_cons _ (.cons _ (.cons_cons _ (List.nil_sublist _))))))
        replace X := X.with_ (X.sep.pick 1 rfl)
        have hok4 := bothSynced_ok hok3
        go_wp2
        go_roundw
        case rel => exact ⟨k2, bothSynced t3, _, _, _, _, _, _, _, _, _, _, _, _, fp_y, by go_num, by omega, hok4, X⟩
        case measure => simp [intOf]
      · skip
        go_wp2_with fail
        refine wp_region_L (fun v => v.cell? ⟨r1, 0, none⟩ = some (.slice Az0 nz0 cz0) ∧ v.cell? ⟨r1, 1, none⟩ = some (.slice Az1 nz1 cz1) ∧ v.cell? ⟨r1, 2, none⟩ = some (.slice Az2 nz2 cz2) ∧ v.cell? ⟨r1, 3, none⟩ = some (.slice Az3 nz3 cz3)) 4 (by kernel_rfl) ?_
        replace X := X.drew
        generalize w26.drew = w27 at *
        have HF : w27.cell? ⟨r1, 0, none⟩ = some (.slice Az0 nz0 cz0) ∧ w27.cell? ⟨r1, 1, none⟩ = some (.slice Az1 nz1 cz1) ∧ w27.cell? ⟨r1, 2, none⟩ = some (.slice Az2 nz2 cz2) ∧ w27.cell? ⟨r1, 3, none⟩ = some (.slice Az3 nz3 cz3) := ⟨(X.sep.at_ 0 rfl).cell 0, (X.sep.at_ 0 rfl).cell 1, (X.sep.at_ 0 rfl).cell 2, (X.sep.at_ 0 rfl).cell 3⟩
        refine wpAnyL_take (i := 0) (v := ?_) rfl rfl (by kernel_rfl) (by kernel_rfl) (by kernel_rfl) (by kernel_rfl) (by kernel_rfl) (fun _ _ _ h => h) HF (Or.inl ⟨by rfl, ?_⟩) ?_
        rotate_left 1
        · (rintro v ⟨a0, a1, a2, a3⟩; go_simp; try with_reducible rfl)
        try simp only [Act.put]
        refine wpAnyL_take (i := 1) (v := ?_) rfl rfl (by kernel_rfl) (by kernel_rfl) (by kernel_rfl) (by kernel_rfl) (by kernel_rfl) (fun _ _ _ h => h) HF (Or.inl ⟨by rfl, ?_⟩) ?_
        rotate_left 1
        · (rintro v ⟨a0, a1, a2, a3⟩; go_simp; try with_reducible rfl)
        try simp only [Act.put]
        refine wpAnyL_step (i := 2) (by kernel_rfl) rfl rfl ?_
        intro K hK
        go_simp
        refine (drawFates_any B p _ X.cur).mono ?_
        rintro e w28 ⟨Ap0, np0, cp0, fs, rfl, o, hm8, cu, gr⟩
        obtain ⟨fp_p, X'⟩ := X.drawHas cu gr o.has
        clear X; have X := X'; clear X' cu gr o
        clear HF
        have HF : w28.cell? ⟨r1, 0, none⟩ = some (.slice Az0 nz0 cz0) ∧ w28.cell? ⟨r1, 1, none⟩ = some (.slice Az1 nz1 cz1) ∧ w28.cell? ⟨r1, 2, none⟩ = some (.slice Az2 nz2 cz2) ∧ w28.cell? ⟨r1, 3, none⟩ = some (.slice Az3 nz3 cz3) := ⟨(X.sep.at_ 1 rfl).cell 0, (X.sep.at_ 1 rfl).cell 1, (X.sep.at_ 1 rfl).cell 2, (X.sep.at_ 1 rfl).cell 3⟩
        refine hK _ _ (fun _ => HF) ?_
        clear hK K
        try simp only [Act.put]
        have hf8 : fs.length ≤ 1048576 := by rw [rowCells_len (X.sep.own_ 0 rfl)]; omega
        refine wpAnyL_step (i := 3) (by kernel_rfl) rfl rfl ?_
        intro K hK
        go_simp
        refine (sBothFallen_any _ _ _ _ _ _ _ _ _ _ _ _ t3 _ _ _ fs _ ((X.sep.own_ 2 rfl).rd) (by omega) ((X.sep.own_ 0 rfl).rd) hf8).mono ?_
        rintro e w29 ⟨Ay0, ny0, cy0, Ay1, ny1, cy1, Ay2, ny2, cy2, Ay3, ny3, cy3, rfl, o, b⟩
        obtain ⟨fp_y, X'⟩ := X.has b o
        clear X; have X := X'; clear X' b o
        clear HF
        have HF : w29.cell? ⟨r1, 0, none⟩ = some (.slice Az0 nz0 cz0) ∧ w29.cell? ⟨r1, 1, none⟩ = some (.slice Az1 nz1 cz1) ∧ w29.cell? ⟨r1, 2, none⟩ = some (.slice Az2 nz2 cz2) ∧ w29.cell? ⟨r1, 3, none⟩ = some (.slice Az3 nz3 cz3) := ⟨(X.sep.at_ 2 rfl).cell 0, (X.sep.at_ 2 rfl).cell 1, (X.sep.at_ 2 rfl).cell 2, (X.sep.at_ 2 rfl).cell 3⟩
        refine hK _ _ (fun _ => HF) ?_
        clear hK K
        try simp only [Act.put]
        have f8 : w29.cell? ⟨r1, 0, none⟩ = some (.slice Az0 nz0 cz0) := (X.sep.at_ 2 rfl).cell 0
        have f9 := (X.sep.at_ 2 rfl).free 0
        have f10 : w29.cell? ⟨r1, 1, none⟩ = some (.slice Az1 nz1 cz1) := (X.sep.at_ 2 rfl).cell 1
        have f11 := (X.sep.at_ 2 rfl).free 1
        have f12 : w29.cell? ⟨r1, 2, none⟩ = some (.slice Az2 nz2 cz2) := (X.sep.at_ 2 rfl).cell 2
        have f13 := (X.sep.at_ 2 rfl).free 2
        have f14 : w29.cell? ⟨r1, 3, none⟩ = some (.slice Az3 nz3 cz3) := (X.sep.at_ 2 rfl).cell 3
        have f15 := (X.sep.at_ 2 rfl).free 3
        replace X := X.put 2 rfl 0 (.slice Ay0 ny0 cy0)
        replace X := X.put 2 rfl 1 (.slice Ay1 ny1 cy1)
        replace X := X.put 2 rfl 2 (.slice Ay2 ny2 cy2)
        replace X := X.put 2 rfl 3 (.slice Ay3 ny3 cy3)
        refine wpAnyL_step (i := 4) (by kernel_rfl) rfl rfl ?_
        intro K hK
        go_simp
        refine hK _ _ (fun h => nomatch (show true = false from h)) ?_
        clear hK K
        try simp only [Act.put]
        refine wpAnyL_done (by kernel_rfl) ?_ _
        replace X := X.with_ (X.sep.sub (.cons_cons _ (.cons _ (.cons_cons _ (.cons _ (.cons_cons _ (List.nil_sublist _)))))))
        replace X := X.with_ (X.sep.pick 1 rfl)
        have hok4 := bothFallen_ok hok3 fs
        go_wp2
        go_roundw
        case rel => exact ⟨k2, bothFallen t3 fs, _, _, _, _, _, _, _, _, _, _, _, _, fp_y, by go_num, by omega, hok4, X⟩
        case measure => simp [intOf]
      · skip
        go_wp2_with fail
        refine wp_region_L (fun v => v.cell? ⟨r1, 0, none⟩ = some (.slice Az0 nz0 cz0) ∧ v.cell? ⟨r1, 1, none⟩ = some (.slice Az1 nz1 cz1) ∧ v.cell? ⟨r1, 2, none⟩ = some (.slice Az2 nz2 cz2) ∧ v.cell? ⟨r1, 3, none⟩ = some (.slice Az3 nz3 cz3)) 17 (by kernel_rfl) ?_
        replace X := X.drew
        generalize w26.drew = w27 at *
        have HF : w27.cell? ⟨r1, 0, none⟩ = some (.slice Az0 nz0 cz0) ∧ w27.cell? ⟨r1, 1, none⟩ = some (.slice Az1 nz1 cz1) ∧ w27.cell? ⟨r1, 2, none⟩ = some (.slice Az2 nz2 cz2) ∧ w27.cell? ⟨r1, 3, none⟩ = some (.slice Az3 nz3 cz3) := ⟨(X.sep.at_ 0 rfl).cell 0, (X.sep.at_ 0 rfl).cell 1, (X.sep.at_ 0 rfl).cell 2, (X.sep.at_ 0 rfl).cell 3⟩
        refine wpAnyL_take (i := 0) (v := ?_) rfl rfl (by kernel_rfl) (by kernel_rfl) (by kernel_rfl) (by kernel_rfl) (by kernel_rfl) (fun _ _ _ h => h) HF (Or.inl ⟨by rfl, ?_⟩) ?_
        rotate_left 1
        · (rintro v ⟨a0, a1, a2, a3⟩; go_simp; try with_reducible rfl)
        try simp only [Act.put]
        refine wpAnyL_take (i := 1) (v := ?_) rfl rfl (by kernel_rfl) (by kernel_rfl) (by kernel_rfl) (by kernel_rfl) (by kernel_rfl) (fun _ _ _ h => h) HF (Or.inl ⟨by rfl, ?_⟩) ?_
        rotate_left 1
        · (rintro v ⟨a0, a1, a2, a3⟩; go_simp; try with_reducible rfl)
        try simp only [Act.put]
        refine wpAnyL_take (i := 2) (v := ?_) rfl rfl (by kernel_rfl) (by kernel_rfl) (by kernel_rfl) (by kernel_rfl) (by kernel_rfl) (fun _ _ _ h => h) HF (Or.inl ⟨by rfl, ?_⟩) ?_
        rotate_left 1
        · (rintro v ⟨a0, a1, a2, a3⟩; go_simp; try with_reducible rfl)
        try simp only [Act.put]
        refine wpAnyL_take (i := 3) (v := ?_) rfl rfl (by kernel_rfl) (by kernel_rfl) (by kernel_rfl) (by kernel_rfl) (by kernel_rfl) (fun _ _ _ h => h) HF (Or.inl ⟨by rfl, ?_⟩) ?_
        rotate_left 1
        · (rintro v ⟨a0, a1, a2, a3⟩; go_simp; try with_reducible rfl)
        try simp only [Act.put]
        refine wpAnyL_take (i := 4) (v := ?_) rfl rfl (by kernel_rfl) (by kernel_rfl) (by kernel_rfl) (by kernel_rfl) (by kernel_rfl) (fun _ _ _ h => h) HF (Or.inl ⟨by rfl, ?_⟩) ?_
        rotate_left 1
        · (rintro v ⟨a0, a1, a2, a3⟩; go_simp; try with_reducible rfl)
        try simp only [Act.put]
        refine wpAnyL_take (i := 5) (v := ?_) rfl rfl (by kernel_rfl) (by kernel_rfl) (by kernel_rfl) (by kernel_rfl) (by kernel_rfl) (fun _ _ _ h => h) HF (Or.inl ⟨by rfl, ?_⟩) ?_
        rotate_left 1
        · (rintro v ⟨a0, a1, a2, a3⟩; go_simp; try with_reducible rfl)
        try simp only [Act.put]
        refine wpAnyL_take (i := 6) (v := ?_) rfl rfl (by kernel_rfl) (by kernel_rfl) (by kernel_rfl) (by kernel_rfl) (by kernel_rfl) (fun _ _ _ h => h) HF (Or.inl ⟨by rfl, ?_⟩) ?_
        rotate_left 1
        · (rintro v ⟨a0, a1, a2, a3⟩; go_simp; try with_reducible rfl)
        try simp only [Act.put]
        refine wpAnyL_take (i := 8) (v := ?_) rfl rfl (by kernel_rfl) (by kernel_rfl) (by kernel_rfl) (by kernel_rfl) (by kernel_rfl) (fun _ _ _ h => h) HF (Or.inl ⟨by rfl, ?_⟩) ?_
        rotate_left 1
        · (rintro v ⟨a0, a1, a2, a3⟩; go_simp; try with_reducible rfl)
        try simp only [Act.put]
        refine wpAnyL_take (i := 10) (v := ?_) rfl rfl (by kernel_rfl) (by kernel_rfl) (by kernel_rfl) (by kernel_rfl) (by kernel_rfl) (fun _ _ _ h => h) HF (Or.inl ⟨by rfl, ?_⟩) ?_
        rotate_left 1
        · (rintro v ⟨a0, a1, a2, a3⟩; go_simp; try with_reducible rfl)
        try simp only [Act.put]
        refine wpAnyL_step (i := 7) (by kernel_rfl) rfl rfl ?_
        intro K hK
        go_simp
        refine (below_any B p _ X.cur (nz0 : Int) (by omega) (by omega)).mono ?_
        rintro e w28 ⟨a1, ⟨a2, a3⟩, rfl, cu, gr⟩
        replace X := X.draw cu gr
        clear cu gr
        clear HF
        have HF : w28.cell? ⟨r1, 0, none⟩ = some (.slice Az0 nz0 cz0) ∧ w28.cell? ⟨r1, 1, none⟩ = some (.slice Az1 nz1 cz1) ∧ w28.cell? ⟨r1, 2, none⟩ = some (.slice Az2 nz2 cz2) ∧ w28.cell? ⟨r1, 3, none⟩ = some (.slice Az3 nz3 cz3) := ⟨(X.sep.at_ 0 rfl).cell 0, (X.sep.at_ 0 rfl).cell 1, (X.sep.at_ 0 rfl).cell 2, (X.sep.at_ 0 rfl).cell 3⟩
        refine hK _ _ (fun _ => HF) ?_
        clear hK K
        try simp only [Act.put]
        refine wpAnyL_step (i := 9) (by kernel_rfl) rfl rfl ?_
        intro K hK
        go_simp
        refine (below_any B p _ X.cur 4 (by omega) (by omega)).mono ?_
        rintro e w29 ⟨b1, ⟨b2, b3⟩, rfl, cu, gr⟩
        replace X := X.draw cu gr
        clear cu gr
        clear HF
        have HF : w29.cell? ⟨r1, 0, none⟩ = some (.slice Az0 nz0 cz0) ∧ w29.cell? ⟨r1, 1, none⟩ = some (.slice Az1 nz1 cz1) ∧ w29.cell? ⟨r1, 2, none⟩ = some (.slice Az2 nz2 cz2) ∧ w29.cell? ⟨r1, 3, none⟩ = some (.slice Az3 nz3 cz3) := ⟨(X.sep.at_ 0 rfl).cell 0, (X.sep.at_ 0 rfl).cell 1, (X.sep.at_ 0 rfl).cell 2, (X.sep.at_ 0 rfl).cell 3⟩
        refine hK _ _ (fun _ => HF) ?_
        clear hK K
        try simp only [Act.put]
        refine wpAnyL_step (i := 11) (by kernel_rfl) rfl rfl ?_
        intro K hK
        go_simp
        refine (below_any B p _ X.cur 90 (by omega) (by omega)).mono ?_
        rintro e w30 ⟨d1, ⟨d2, d3⟩, rfl, cu, gr⟩
        replace X := X.draw cu gr
        clear cu gr
        clear HF
        have HF : w30.cell? ⟨r1, 0, none⟩ = some (.slice Az0 nz0 cz0) ∧ w30.cell? ⟨r1, 1, none⟩ = some (.slice Az1 nz1 cz1) ∧ w30.cell? ⟨r1, 2, none⟩ = some (.slice Az2 nz2 cz2) ∧ w30.cell? ⟨r1, 3, none⟩ = some (.slice Az3 nz3 cz3) := ⟨(X.sep.at_ 0 rfl).cell 0, (X.sep.at_ 0 rfl).cell 1, (X.sep.at_ 0 rfl).cell 2, (X.sep.at_ 0 rfl).cell 3⟩
        refine hK _ _ (fun _ => HF) ?_
        clear hK K
        try simp only [Act.put]
        refine wpAnyL_step (i := 12) (by kernel_rfl) rfl rfl ?_
        intro K hK
        go_simp
        refine (sRotted_any _ _ _ _ _ _ t3.b a1 b1 d1 _ ((X.sep.own_ 1 rfl).rd.halves.2) hzb).mono ?_
        rintro e w31 ⟨Ay0, ny0, cy0, Ay1, ny1, cy1, rfl, o, b⟩
        obtain ⟨fp_y, X'⟩ := X.has b o
        clear X; have X := X'; clear X' b o
        clear HF
        have HF : w31.cell? ⟨r1, 0, none⟩ = some (.slice Az0 nz0 cz0) ∧ w31.cell? ⟨r1, 1, none⟩ = some (.slice Az1 nz1 cz1) ∧ w31.cell? ⟨r1, 2, none⟩ = some (.slice Az2 nz2 cz2) ∧ w31.cell? ⟨r1, 3, none⟩ = some (.slice Az3 nz3 cz3) := ⟨(X.sep.at_ 1 rfl).cell 0, (X.sep.at_ 1 rfl).cell 1, (X.sep.at_ 1 rfl).cell 2, (X.sep.at_ 1 rfl).cell 3⟩
        refine hK _ _ (fun _ => HF) ?_
        clear hK K
        try simp only [Act.put]
        have hok4 := bothRotted_ok hok3 a1 b1 d1
        generalize (rotted t3.b a1 b1 d1).2 = bb2 at *
        generalize (rotted t3.b a1 b1 d1).1 = d9 at *
        refine wpAnyL_step (i := 13) (by kernel_rfl) rfl rfl ?_
        intro K hK
        go_simp
        refine hK _ _ (fun _ => HF) ?_
        clear hK K
        try simp only [Act.put]
        refine wpAnyL_pure (i := 14) (v := ?_) rfl rfl (by kernel_rfl) (by kernel_rfl) (by kernel_rfl) (fun _ _ _ h => h) HF (Or.inl ⟨by rfl, ?_⟩) ?_
        rotate_left 1
        · (intro v _; go_simp; try with_reducible rfl)
        try simp only [Act.put]
        refine wpAnyL_pure (i := 15) (v := ?_) rfl rfl (by kernel_rfl) (by kernel_rfl) (by kernel_rfl) (fun _ _ _ h => h) HF (Or.inl ⟨by rfl, ?_⟩) ?_
        rotate_left 1
        · (intro v _; go_simp; try with_reducible rfl)
        try simp only [Act.put]
        refine wpAnyL_pure (i := 16) (v := ?_) rfl rfl (by kernel_rfl) (by kernel_rfl) (by kernel_rfl) (fun _ _ _ h => h) HF (Or.inl ⟨by rfl, ?_⟩) ?_
        rotate_left 1
        · (intro v _; go_simp; try with_reducible rfl)
        try simp only [Act.put]
        have f8 : w31.cell? ⟨r1, 2, none⟩ = some (.slice Az2 nz2 cz2) := (X.sep.at_ 1 rfl).cell 2
        have f9 := (X.sep.at_ 1 rfl).free 2
        have f10 : w31.cell? ⟨r1, 3, none⟩ = some (.slice Az3 nz3 cz3) := (X.sep.at_ 1 rfl).cell 3
        have f11 := (X.sep.at_ 1 rfl).free 3
        replace X := X.put 1 rfl 2 (.slice Ay0 ny0 cy0)
        replace X := X.put 1 rfl 3 (.slice Ay1 ny1 cy1)
        refine wpAnyL_step (i := 17) (by kernel_rfl) rfl rfl ?_
        intro K hK
        go_simp
        refine hK _ _ (fun h => nomatch (show true = false from h)) ?_
        clear hK K
        try simp only [Act.put]
        refine wpAnyL_done (by kernel_rfl) ?_ _
        replace X := X.with_ (X.sep.pick 2 rfl)
        obtain ⟨f1, f2, S9⟩ := Sep.cut (vs := [.slice Az0 nz0 cz0, .slice Az1 nz1 cz1]) (vs' := [.slice Az2 nz2 cz2, .slice Az3 nz3 cz3]) X.sep rfl
        replace X := X.with_ S9
        clear S9
        replace X := X.with_ (X.sep.sub (.cons _ (.cons_cons _ (.cons_cons _ (.cons_cons _ (.cons_cons _ (List.nil_sublist _)))))))
        replace X := X.with_ (X.sep.pick 1 rfl)
        replace X := X.with_ X.sep.join
        replace X := X.with_ (X.sep.pick 1 rfl)
        go_wp2
        go_roundw
        case rel => exact ⟨k2, ⟨t3.a, d9⟩, _, _, _, _, _, _, _, _, _, _, _, _, _, by go_num, by omega, hok4, X⟩
        case measure => simp [intOf]
      · have e0 : ¬ (v = 0) := by omega
        have e1 : ¬ (v = 1) := by omega
        have e2 : ¬ (v = 2) := by omega
        go_wp2
        go_roundw
        case rel => exact ⟨k2, t3, _, _, _, _, _, _, _, _, _, _, _, _, fp_z, by go_num, by omega, hok3, X⟩
        case measure => simp [intOf]

end Go.Proofs.Ytejcpoidoekleaa
