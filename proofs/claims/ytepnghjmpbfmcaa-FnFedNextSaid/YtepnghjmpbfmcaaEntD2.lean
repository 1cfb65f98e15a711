/-
  A list of entries drawn by the laws: valid ones from the first on, each next to the one before (by program, wip/gen/genent10.py).
-/
import Derived.Test.YtepnghjmpbfmcaaEntD1
import Derived.Test.YtepnghjmpbfmcaaMove
import Derived.RegionTactic
import Derived.BigQuiet
namespace Go.Proofs.Ytepnghjmpbfmcaa
set_option maxRecDepth 100000
open Go.RowKit

/-- Valid, from the first index on, no time less than one before. -/
def RunL (l : List EntM) : Prop := ∀ j (hj : j < l.length), entB l[j] = true ∧ l[j].idx = (j : Int) + 1 ∧ ∀ i (hi : i < j), l[i].tm ≤ l[j].tm
theorem RunL.nil : RunL [] := fun j hj => absurd hj (by simp)
theorem RunL.snoc {l : List EntM} {e : EntM} (h : RunL l) (he : entB e = true) (hi : e.idx = (l.length : Int) + 1) (ht : ∀ x ∈ l, x.tm ≤ e.tm) : RunL (l ++ [e]) := by
  intro j hj
  rw [List.length_append, List.length_singleton] at hj
  rcases Nat.lt_or_ge j l.length with h1 | h1
  · obtain ⟨a, b, c⟩ := h j h1
    refine ⟨by rw [List.getElem_append_left h1]; exact a, by rw [List.getElem_append_left h1]; exact b, fun i hi => ?_⟩
    rw [List.getElem_append_left h1, List.getElem_append_left (show i < l.length by omega)]
    exact c i hi
  · obtain rfl : j = l.length := by omega
    refine ⟨by simpa using he, by simpa using hi, fun i hi => ?_⟩
    rw [List.getElem_append_left hi]
    simpa using ht _ (List.getElem_mem hi)
theorem RunL.ok {l : List EntM} (h : RunL l) (hl : l.length ≤ 2000) : entsB l = true := by
  refine entsB_end hl fun j hj => ?_
  rw [entsAt_eq hj, (h j hj).1, Bool.true_and]
  cases j with
  | zero => rfl
  | succ k =>
    rw [nextAt_succ hj, (h (k + 1) hj).2.1, (h k (by omega)).2.1, decide_eq_true ((h (k + 1) hj).2.2 k (by omega)), decide_eq_true (by omega)]
    rfl
theorem rep6 : ∀ i, i < 6 → (List.replicate 6 (0 : Int)).getD i 0 = 0 := by decide
theorem has_entnil (w : World) : Ow (w.alloc (.cells #[] 83)) [entD []] [.slice (some ⟨w.heap.size, 0, none⟩) 0 0] [w.heap.size] := ow_empty w

set_option maxHeartbeats 12800000 in
theorem w9list_any (B p m : Nat) (hm : m ≤ 20) (A0 : Option Addr) (cap0 : Nat) (w : World) (h : LCur w B p) :
    Calls Try.prog 53 #[.pointer (some ⟨p, 0, none⟩), .slice A0 0 cap0, .int .i64 (m : Int)] w (fun e w' => ∃ (l : List EntM) (A : Option Addr) (n c : Nat), l.length = m ∧ RunL l ∧ e = .returned (.slice A n c) ∧ LCur w' B p ∧ w.grownBy w' (some p) ∧ Has w' w.heap.size [entD l] [.slice A n c]) := by
  have X := DrL.start h
  clear h
  obtain ⟨ds0, hds0⟩ : ∃ ds0, ds0 = List.replicate 6 (0 : Int) := ⟨_, rfl⟩
  have HD0 := Lib.hid (show ds0.length = 6 by rw [hds0, List.length_replicate])
  have HDZ := Lib.hid (show ∀ i, i < 6 → ds0.getD i 0 = 0 from fun i hi => by rw [hds0]; exact rep6 i hi)
  have hmk : ∀ w9 : World, (Instr.makeSlice 22 (.int .i64 6) (.int .i64 6)).run Try.prog w9 = .ok (.slice (some ⟨w9.heap.size, 0, none⟩) 6 6) (w9.alloc (.cells (iA ds0) 2)) := fun w9 => by
    have h := run_make_k (P := Try.prog) 22 2 (.int .i64 0) #[.int .i64 0] 1 8 Try.underlying22 info64 rfl .i64 .i64 6 (by omega) (by omega) w9
    rw [made_zeros, ← hds0] at h
    exact h
  clear hds0
  go_enter Try.func53, Try.ntmps53
  replace X := X.boxAt (w.heap.size) rfl #[] 83
  replace X := X.with_ (X.sep.blk0 (k := 9) (f := entC))
  have XT := Lib.hid (X.boxAt (w.heap.size + 1) (by simp) (iA ds0) 2)
  clear X
  go_wp2_with fail
  have X := XT.out
  clear XT hmk
  generalize (w.alloc (.cells #[] 83)).alloc (.cells (iA ds0) 2) = w1 at *
  obtain ⟨rt, hrt⟩ : ∃ rt, rt = w.heap.size + 1 := ⟨_, rfl⟩
  rw [← hrt] at X ⊢
  clear hrt
  generalize (some (⟨w.heap.size, 0, none⟩ : Addr)) = AL at *
  generalize [w.heap.size] = fp0 at *
  replace X := X.with_ X.sep.swap
  have X0 := Lib.hid X
  clear X
  go_loopw [9, 10, 11] (fun xv tv iv wr => xv = .int .i64 0 ∧ tv = .int .i64 0 ∧ iv = .int .i64 0 ∧ DrL w wr B p [.own [entD []] [.slice AL 0 0] fp0, .blk rt (iA ds0) 2]) (fun _ _ _ _ => 0)
  case atStart => exact ⟨rfl, rfl, rfl, X0.out⟩
  case round =>
    obtain ⟨rfl, rfl, rfl, X⟩ := hrel
    clear X0
    have X0 := Lib.hid X
    clear X
    go_wp2_with fail
    go_loopw [2, 7, 9, 10] (fun mv lv xv tv wr => ∃ (k : Nat) (l : List EntM) (t : Int) (qs : List Int) (A : Option Addr) (n c : Nat) (fp : List Nat), mv = .int .i64 ((m - k : Nat) : Int) ∧ lv = .slice A n c ∧ xv = .int .i64 (k : Int) ∧ tv = .int .i64 t ∧ k ≤ m ∧ n = k ∧ l.length = k ∧ RunL l ∧ (∀ x ∈ l, x.tm ≤ t) ∧ (0 ≤ t ∧ t ≤ 5 * (k : Int)) ∧ qs.length = 6 ∧ (∀ i, i < 6 → 0 ≤ qs.getD i 0 ∧ qs.getD i 0 ≤ 2 * (k : Int)) ∧ DrL w wr B p [.own [entD l] [.slice A n c] fp, .blk rt (iA qs) 2]) (fun mv _ _ _ _ => (intOf mv).toNat)
    case atStart => exact ⟨0, [], 0, ds0, _, 0, _, _, rfl, rfl, rfl, rfl, by omega, rfl, rfl, RunL.nil, fun x hx => absurd hx (by simp), by omega, HD0.out, fun i hi => by rw [HDZ.out i hi]; omega, X0.out⟩
    case round =>
      obtain ⟨k, l, t, qs, A, n, c, fp, rfl, rfl, rfl, rfl, hk, rfl, hl, hrun, htm, ht, hq6, hqs, X⟩ := hrel
      clear X0
      have HR := Lib.hid hrun
      have HT := Lib.hid htm
      have HQ := Lib.hid hqs
      have HL := Lib.hid hl
      have HQ6 := Lib.hid hq6
      clear hrun htm hqs hl hq6
      by_cases hlt : n < m
      · obtain ⟨r, hr⟩ : ∃ r, m - n = r + 1 := ⟨m - n - 1, by omega⟩
        rw [hr]
        have hr0 : ((r : Int) + 1) > 0 := by omega
        have HRR := Lib.hid hr
        have hn20 : n ≤ 19 := by omega
        have HK := Lib.hid hlt
        clear hr hlt hk
        go_wp2_with fail
        generalize w.alloc (.cells #[] 83) = w1 at *
        refine (lbelow_any _ _ _ X.cur 4 (by decide)).mono ?_
        rintro e w2 ⟨z, hz, rfl, cu, gr⟩
        replace X := X.draw cu gr
        clear cu gr
        obtain ⟨s, hs⟩ : ∃ s : Nat, 2 + z = (s : Int) := ⟨(2 + z).toNat, by omega⟩
        have hws : IntKind.i64.wrap (2 + z) = (s : Int) := by rw [IntKind.wrap_i64]; omega
        have hs2 : 2 ≤ s ∧ s ≤ 5 := by omega
        have s0 : (0 : Int) ≤ (s : Int) := by omega
        have s1 : (s : Int) < 6 := by omega
        have s2 : s < 6 := by omega
        clear hz hs
        obtain ⟨qv, hqv⟩ : ∃ q, q = qs.getD s 0 := ⟨_, rfl⟩
        have hqb := HQ.out s s2
        rw [← hqv] at hqb
        have hw1 : IntKind.i64.wrap (qv + 1) = qv + 1 := by rw [IntKind.wrap_i64]; omega
        have HQV := Lib.hid hqv
        clear hqv
        go_wp2_with fail
        clear hws
        refine wp_region_L (fun v => v.cell? ⟨rt, s, none⟩ = some (.int .i64 qv)) 11 (by kernel_rfl) ?_
        replace X := X.drew
        generalize w2.drew = w3 at *
        have HF : w3.cell? ⟨rt, s, none⟩ = some (.int .i64 qv) := ((X.sep.at_ 1 rfl).cell s).trans ((iA_at (by rw [HQ6.out]; omega)).trans (by rw [← HQV.out]))
        refine wpAnyL_take (i := 0) (v := ?_) rfl rfl (by kernel_rfl) (by kernel_rfl) (by kernel_rfl) (by kernel_rfl) (by kernel_rfl) (fun _ _ _ h => h) HF (Or.inl ⟨by rfl, ?_⟩) ?_
        rotate_left 1
        · (rintro v a0; go_simp; try with_reducible rfl)
        try simp only [Act.put]
        refine wpAnyL_take (i := 1) (v := ?_) rfl rfl (by kernel_rfl) (by kernel_rfl) (by kernel_rfl) (by kernel_rfl) (by kernel_rfl) (fun _ _ _ h => h) HF (Or.inl ⟨by rfl, ?_⟩) ?_
        rotate_left 1
        · (rintro v a0; go_simp; try with_reducible rfl)
        try simp only [Act.put]
        refine wpAnyL_take (i := 2) (v := ?_) rfl rfl (by kernel_rfl) (by kernel_rfl) (by kernel_rfl) (by kernel_rfl) (by kernel_rfl) (fun _ _ _ h => h) HF (Or.inl ⟨by rfl, ?_⟩) ?_
        rotate_left 1
        · (rintro v a0; go_simp; try with_reducible rfl)
        try simp only [Act.put]
        refine wpAnyL_take (i := 3) (v := ?_) rfl rfl (by kernel_rfl) (by kernel_rfl) (by kernel_rfl) (by kernel_rfl) (by kernel_rfl) (fun _ _ _ h => h) HF (Or.inl ⟨by rfl, ?_⟩) ?_
        rotate_left 1
        · (rintro v a0; go_simp; try with_reducible rfl)
        try simp only [Act.put]
        refine wpAnyL_take (i := 4) (v := ?_) rfl rfl (by kernel_rfl) (by kernel_rfl) (by kernel_rfl) (by kernel_rfl) (by kernel_rfl) (fun _ _ _ h => h) HF (Or.inl ⟨by rfl, ?_⟩) ?_
        rotate_left 1
        · (rintro v a0; go_simp; try with_reducible rfl)
        try simp only [Act.put]
        refine wpAnyL_take (i := 5) (v := ?_) rfl rfl (by kernel_rfl) (by kernel_rfl) (by kernel_rfl) (by kernel_rfl) (by kernel_rfl) (fun _ _ _ h => h) HF (Or.inl ⟨by rfl, ?_⟩) ?_
        rotate_left 1
        · (rintro v a0; go_simp; try with_reducible rfl)
        try simp only [Act.put]
        refine wpAnyL_take (i := 6) (v := ?_) rfl rfl (by kernel_rfl) (by kernel_rfl) (by kernel_rfl) (by kernel_rfl) (by kernel_rfl) (fun _ _ _ h => h) HF (Or.inl ⟨by rfl, ?_⟩) ?_
        rotate_left 1
        · (rintro v a0; go_simp; try with_reducible rfl)
        try simp only [Act.put]
        refine wpAnyL_take (i := 7) (v := ?_) rfl rfl (by kernel_rfl) (by kernel_rfl) (by kernel_rfl) (by kernel_rfl) (by kernel_rfl) (fun _ _ _ h => h) HF (Or.inl ⟨by rfl, ?_⟩) ?_
        rotate_left 1
        · (rintro v a0; go_simp; try with_reducible rfl)
        try simp only [Act.put]
        refine wpAnyL_step (i := 8) (by kernel_rfl) rfl rfl ?_
        intro K hK
        go_simp
        refine (lbelow_any _ _ _ X.cur 2 (by decide)).mono ?_
        rintro e w4 ⟨d, hd, rfl, cu, gr⟩
        replace X := X.draw cu gr
        clear cu gr
        clear HF
        have HF : w4.cell? ⟨rt, s, none⟩ = some (.int .i64 qv) := ((X.sep.at_ 1 rfl).cell s).trans ((iA_at (by rw [HQ6.out]; omega)).trans (by rw [← HQV.out]))
        refine hK _ _ (fun _ => HF) ?_
        clear hK K
        try simp only [Act.put]
        have hw2 : IntKind.i64.wrap (qv + 1 + d) = qv + 1 + d := by rw [IntKind.wrap_i64]; omega
        refine wpAnyL_take (i := 9) (v := ?_) rfl rfl (by kernel_rfl) (by kernel_rfl) (by kernel_rfl) (by kernel_rfl) (by kernel_rfl) (fun _ _ _ h => h) HF (Or.inl ⟨by rfl, ?_⟩) ?_
        rotate_left 1
        · (rintro v a0; go_simp; try with_reducible rfl)
        try simp only [Act.put]
        refine wpAnyL_take (i := 10) (v := ?_) rfl rfl (by kernel_rfl) (by kernel_rfl) (by kernel_rfl) (by kernel_rfl) (by kernel_rfl) (fun _ _ _ h => h) HF (Or.inl ⟨by rfl, ?_⟩) ?_
        rotate_left 1
        · (rintro v a0; go_simp; try with_reducible rfl)
        try simp only [Act.put]
        have t1 := (X.sep.at_ 1 rfl).free s
        have t2 : w4.cell? ⟨rt, s, none⟩ = some (.int .i64 qv) := HF
        refine wpAnyL_step (i := 11) (by kernel_rfl) rfl rfl ?_
        intro K hK
        go_simp
        refine hK _ _ (fun h => nomatch (show true = false from h)) ?_
        clear hK K
        try simp only [Act.put]
        refine wpAnyL_done (by kernel_rfl) ?_ _
        try rw [hw2]
        replace X := X.put 1 rfl s (.int .i64 (qv + 1 + d))
        replace X : DrL w _ B p [_, .blk rt ((iA qs).setIfInBounds s (.int .i64 (qv + 1 + d))) 2] := X
        rw [iA_set] at X
        generalize w4.setCell ⟨rt, s, none⟩ (.int .i64 (qv + 1 + d)) = w5 at *
        clear HF t1 t2
        have hx1 : IntKind.i64.wrap ((n : Int) + 1) = (n : Int) + 1 := by rw [IntKind.wrap_i64]; omega
        go_wp2_with fail
        refine (lbelow_any _ _ _ X.cur 6 (by decide)).mono ?_
        rintro e w6 ⟨f, hf, rfl, cu, gr⟩
        replace X := X.draw cu gr
        clear cu gr
        have hx2 : IntKind.i64.wrap (t + f) = t + f := by rw [IntKind.wrap_i64]; omega
        have HSQ := Lib.hid (show (qs.set s (qv + 1 + d)).getD s 0 = qv + 1 + d by simp [List.getD, HQ6.out, s2])
        go_wp2_with fail
        refine wp_region_L (fun v => v.cell? ⟨rt, s, none⟩ = some (.int .i64 (qv + 1 + d))) 13 (by kernel_rfl) ?_
        replace X := X.drew
        generalize w6.drew = w7 at *
        have HF : w7.cell? ⟨rt, s, none⟩ = some (.int .i64 (qv + 1 + d)) := ((X.sep.at_ 1 rfl).cell s).trans ((iA_at (by rw [List.length_set, HQ6.out]; omega)).trans (by rw [HSQ.out]))
        refine wpAnyL_take (i := 0) (v := ?_) rfl rfl (by kernel_rfl) (by kernel_rfl) (by kernel_rfl) (by kernel_rfl) (by kernel_rfl) (fun _ _ _ h => h) HF (Or.inl ⟨by rfl, ?_⟩) ?_
        rotate_left 1
        · (rintro v a0; go_simp; try with_reducible rfl)
        try simp only [Act.put]
        refine wpAnyL_take (i := 1) (v := ?_) rfl rfl (by kernel_rfl) (by kernel_rfl) (by kernel_rfl) (by kernel_rfl) (by kernel_rfl) (fun _ _ _ h => h) HF (Or.inl ⟨by rfl, ?_⟩) ?_
        rotate_left 1
        · (rintro v a0; go_simp; try with_reducible rfl)
        try simp only [Act.put]
        refine wpAnyL_take (i := 2) (v := ?_) rfl rfl (by kernel_rfl) (by kernel_rfl) (by kernel_rfl) (by kernel_rfl) (by kernel_rfl) (fun _ _ _ h => h) HF (Or.inl ⟨by rfl, ?_⟩) ?_
        rotate_left 1
        · (rintro v a0; go_simp; try with_reducible rfl)
        try simp only [Act.put]
        refine wpAnyL_take (i := 3) (v := ?_) rfl rfl (by kernel_rfl) (by kernel_rfl) (by kernel_rfl) (by kernel_rfl) (by kernel_rfl) (fun _ _ _ h => h) HF (Or.inl ⟨by rfl, ?_⟩) ?_
        rotate_left 1
        · (rintro v a0; go_simp; try with_reducible rfl)
        try simp only [Act.put]
        refine wpAnyL_take (i := 4) (v := ?_) rfl rfl (by kernel_rfl) (by kernel_rfl) (by kernel_rfl) (by kernel_rfl) (by kernel_rfl) (fun _ _ _ h => h) HF (Or.inl ⟨by rfl, ?_⟩) ?_
        rotate_left 1
        · (rintro v a0; go_simp; try with_reducible rfl)
        try simp only [Act.put]
        refine wpAnyL_take (i := 5) (v := ?_) rfl rfl (by kernel_rfl) (by kernel_rfl) (by kernel_rfl) (by kernel_rfl) (by kernel_rfl) (fun _ _ _ h => h) HF (Or.inl ⟨by rfl, ?_⟩) ?_
        rotate_left 1
        · (rintro v a0; go_simp; try with_reducible rfl)
        try simp only [Act.put]
        refine wpAnyL_take (i := 6) (v := ?_) rfl rfl (by kernel_rfl) (by kernel_rfl) (by kernel_rfl) (by kernel_rfl) (by kernel_rfl) (fun _ _ _ h => h) HF (Or.inl ⟨by rfl, ?_⟩) ?_
        rotate_left 1
        · (rintro v a0; go_simp; try with_reducible rfl)
        try simp only [Act.put]
        refine wpAnyL_take (i := 7) (v := ?_) rfl rfl (by kernel_rfl) (by kernel_rfl) (by kernel_rfl) (by kernel_rfl) (by kernel_rfl) (fun _ _ _ h => h) HF (Or.inl ⟨by rfl, ?_⟩) ?_
        rotate_left 1
        · (rintro v a0; go_simp; try with_reducible rfl)
        try simp only [Act.put]
        refine wpAnyL_take (i := 8) (v := ?_) rfl rfl (by kernel_rfl) (by kernel_rfl) (by kernel_rfl) (by kernel_rfl) (by kernel_rfl) (fun _ _ _ h => h) HF (Or.inl ⟨by rfl, ?_⟩) ?_
        rotate_left 1
        · (rintro v a0; go_simp; try with_reducible rfl)
        try simp only [Act.put]
        refine wpAnyL_step (i := 9) (by kernel_rfl) rfl rfl ?_
        intro K hK
        go_simp
        refine (w9op_any _ _ _ X.cur).mono ?_
        rintro e w8 ⟨y4, y5, y6, y7, y8, hop, rfl, cu, gr⟩
        replace X := X.draw cu gr
        clear cu gr
        clear HF
        have HF : w8.cell? ⟨rt, s, none⟩ = some (.int .i64 (qv + 1 + d)) := ((X.sep.at_ 1 rfl).cell s).trans ((iA_at (by rw [List.length_set, HQ6.out]; omega)).trans (by rw [HSQ.out]))
        refine hK _ _ (fun _ => HF) ?_
        clear hK K
        try simp only [Act.put]
        refine wpAnyL_take (i := 10) (v := ?_) rfl rfl (by kernel_rfl) (by kernel_rfl) (by kernel_rfl) (by kernel_rfl) (by kernel_rfl) (fun _ _ _ h => h) HF (Or.inl ⟨by rfl, ?_⟩) ?_
        rotate_left 1
        · (rintro v a0; go_simp; try with_reducible rfl)
        try simp only [Act.put]
        refine wpAnyL_step (i := 11) (by kernel_rfl) rfl rfl ?_
        intro K hK
        go_simp
        replace X := X.boxAt (w8.heap.size) rfl #[.int .i64 ((n : Int) + 1), .int .i64 (t + f), .int .i64 (s : Int), .int .i64 (qv + 1 + d), .int .i64 y4, .int .i64 y5, .int .i64 y6, .int .i64 y7, .int .i64 y8] 83
        clear HF
        have HF : (w8.alloc (.cells #[.int .i64 ((n : Int) + 1), .int .i64 (t + f), .int .i64 (s : Int), .int .i64 (qv + 1 + d), .int .i64 y4, .int .i64 y5, .int .i64 y6, .int .i64 y7, .int .i64 y8] 83)).cell? ⟨rt, s, none⟩ = some (.int .i64 (qv + 1 + d)) := ((X.sep.at_ 2 rfl).cell s).trans ((iA_at (by rw [List.length_set, HQ6.out]; omega)).trans (by rw [HSQ.out]))
        refine hK _ _ (fun _ => HF) ?_
        clear hK K
        try simp only [Act.put]
        generalize hw : w8.alloc (.cells #[.int .i64 ((n : Int) + 1), .int .i64 (t + f), .int .i64 (s : Int), .int .i64 (qv + 1 + d), .int .i64 y4, .int .i64 y5, .int .i64 y6, .int .i64 y7, .int .i64 y8] 83) = w9 at *
        clear hw
        have HC : ∀ i, i < 9 → w9.cell? ⟨w8.heap.size, i, none⟩ = [Value.int .i64 ((n : Int) + 1), Value.int .i64 (t + f), Value.int .i64 (s : Int), Value.int .i64 (qv + 1 + d), Value.int .i64 y4, Value.int .i64 y5, Value.int .i64 y6, Value.int .i64 y7, Value.int .i64 y8][i]? := fun i hi => by
          have h1 := (X.sep.at_ 0 rfl).cell i
          rw [h1]
          simp
        replace X := X.with_ ((X.sep.tail).own0 (ds := entC ⟨(n : Int) + 1, t + f, (s : Int), qv + 1 + d, y4, y5, y6, y7, y8⟩) (vs := [.int .i64 ((n : Int) + 1), .int .i64 (t + f), .int .i64 (s : Int), .int .i64 (qv + 1 + d), .int .i64 y4, .int .i64 y5, .int .i64 y6, .int .i64 y7, .int .i64 y8]) (.int (.int (.int (.int (.int (.int (.int (.int (.int (.nil)))))))))))
        replace X := X.with_ X.sep.swap
        refine wpAnyL_step (i := 12) (by kernel_rfl) rfl rfl ?_
        intro K hK
        refine wp_append_elem (l := l) (y := (⟨(n : Int) + 1, t + f, (s : Int), qv + 1 + d, y4, y5, y6, y7, y8⟩ : EntM)) _ _ (by rfl) Try.underlying54 infoEntry (by rfl) (by decide) entC_len (by rfl) (X.sep.own_ 0 rfl) (X.sep.nodup_own 0 rfl) (by rfl) HC (X.sep.own_ 1 rfl) (X.sep.nodup_own 1 rfl) X.sep.apart (by omega) (by omega) ?_
        intro A3 c3 w10 fp3 o3 n3 s3 t3
        replace X := X.grew t3 o3 n3 s3
        clear o3 n3 s3 t3 HC
        clear HF
        have HF : w10.cell? ⟨rt, s, none⟩ = some (.int .i64 (qv + 1 + d)) := ((X.sep.at_ 1 rfl).cell s).trans ((iA_at (by rw [List.length_set, HQ6.out]; omega)).trans (by rw [HSQ.out]))
        refine hK _ _ (fun _ => HF) ?_
        clear hK K
        try simp only [Act.put]
        refine wpAnyL_step (i := 13) (by kernel_rfl) rfl rfl ?_
        intro K hK
        go_simp
        refine hK _ _ (fun h => nomatch (show true = false from h)) ?_
        clear hK K
        try simp only [Act.put]
        refine wpAnyL_done (by kernel_rfl) ?_ _
        have HRUN := Lib.hid (HR.out.snoc (e := ⟨(n : Int) + 1, t + f, (s : Int), qv + 1 + d, y4, y5, y6, y7, y8⟩) ((entB_iff _).2 ⟨by simp only; omega, by simp only; omega, by simp only; omega, by simp only; omega, hop⟩) (by simp only; rw [HL.out]) (fun x hx => by have := HT.out x hx; simp only; omega))
        have HTM := Lib.hid (show ∀ x ∈ l ++ [(⟨(n : Int) + 1, t + f, (s : Int), qv + 1 + d, y4, y5, y6, y7, y8⟩ : EntM)], x.tm ≤ t + f from fun x hx => by
          rcases List.mem_append.1 hx with h9 | h9
          · have := HT.out x h9; omega
          · rw [List.mem_singleton.1 h9]; exact Int.le_refl _)
        have HQS := Lib.hid (show ∀ i, i < 6 → 0 ≤ (qs.set s (qv + 1 + d)).getD i 0 ∧ (qs.set s (qv + 1 + d)).getD i 0 ≤ 2 * ((n + 1 : Nat) : Int) from fun i hi => by
          by_cases e : i = s
          · subst e; rw [HSQ.out]; omega
          · have h9 := HQ.out i hi
            rw [show (qs.set s (qv + 1 + d)).getD i 0 = qs.getD i 0 by simp [List.getD, Ne.symm e]]; omega)
        have HLL := Lib.hid (show (l ++ [(⟨(n : Int) + 1, t + f, (s : Int), qv + 1 + d, y4, y5, y6, y7, y8⟩ : EntM)]).length = n + 1 by rw [List.length_append, HL.out]; rfl)
        have HLQ := Lib.hid (show (qs.set s (qv + 1 + d)).length = 6 by rw [List.length_set]; exact HQ6.out)
        have X1 := Lib.hid X
        have hr20 : r ≤ 20 := by have := HRR.out; omega
        have hrr : IntKind.i64.wrap ((r : Int) + 1 - 1) = (r : Int) := by rw [IntKind.wrap_i64]; omega
        clear X HF
        go_wp2
        go_roundw
        case rel =>
          first
            | exact ⟨n + 1, l ++ [(⟨(n : Int) + 1, t + f, (s : Int), qv + 1 + d, y4, y5, y6, y7, y8⟩ : EntM)], t + f, qs.set s (qv + 1 + d), A3, n + 1, c3, fp3, by rw [show m - (n + 1) = r by have := HRR.out; omega], rfl, by go_num, rfl, by have := HK.out; omega, rfl, HLL.out, HRUN.out, HTM.out, by omega, HLQ.out, HQS.out, X1.out⟩
            | (repeat apply Exists.intro
               refine ⟨⟨n + 1, l ++ [(⟨(n : Int) + 1, t + f, (s : Int), qv + 1 + d, y4, y5, y6, y7, y8⟩ : EntM)], t + f, qs.set s (qv + 1 + d), A3, n + 1, c3, fp3, ?_, ?_, ?_, ?_, by have := HK.out; omega, rfl, HLL.out, HRUN.out, HTM.out, by omega, HLQ.out, HQS.out, X1.out⟩, ?_⟩
               rotate_left 4
               · first | rfl | (trace_state; done)
               · rw [show m - (n + 1) = r by have := HRR.out; omega]
               · rfl
               · go_num
               · rfl)
        case measure => (have := HRR.out; simp [intOf] <;> omega)
      · obtain rfl : n = m := by omega
        have e0 : n - n = 0 := Nat.sub_self n
        rw [e0]
        have H := Lib.hid ((X.sep.sub (.cons_cons _ (List.nil_sublist _))).first)
        have CU := Lib.hid X.cur
        have GR := Lib.hid X.grown
        clear X hlt hk e0
        go_wp2
        go_ret
        exact ⟨l, _, _, _, HL.out, HR.out, rfl, CU.out, GR.out, H.out⟩

end Go.Proofs.Ytepnghjmpbfmcaa
