/-
  Chapter 11: open jobs read from a row, of the program (by program, wip/gen/genleti5.py).
-/
import Derived.Test.YtepnghjmpbfmcaaLetI5a
import Derived.RegionTactic
import Derived.BigQuiet
import Derived.Laws.EntriesVeiled
namespace Go.Proofs.Ytepnghjmpbfmcaa
set_option maxRecDepth 100000
open Go.RowKit

set_option linter.unusedVariables false
set_option maxHeartbeats 12800000 in
theorem iOpenFrom_any (A : Option Addr) (n cc B k : Nat) (d : List Int) (w : World) (h : IRow w B A n d) (hB : B ≤ w.heap.size) (hk : n = 2 * k) (hk5 : k ≤ 24) (hnc : n ≤ cc) (hcm : cc ≤ maxLen) :
    Calls Try.prog 69 #[.slice A n cc] w (MadeDueS w (duesFrom d k)) := by
  unfold maxLen at hcm
  obtain ⟨fp0, S0⟩ := (Sep.nil w w.heap.size).has (Below.refl _ _) (has_nil_djs w w.heap.size) (Nat.le_refl _)
  have c0 := Below.refl w.heap.size w
  go_enter Try.func69, Try.ntmps69
  go_wp2
  go_loopw [0, 3] (fun rv u wr => ∃ (j r nn cn : Nat) (A' G : Option Addr) (m gc : Nat) (fp : List Nat), j + r = k ∧ rv = .slice A' nn cn ∧ nn = 2 * r ∧ nn ≤ cn ∧ cn ≤ cc ∧ IRow w B A' nn (d.drop (2 * j)) ∧ u = .slice G m gc ∧ m = j ∧ Sep wr w.heap.size [.own [djD (duesFrom d j)] [.slice G m gc] fp] ∧ Below w.heap.size w wr) (fun rv _ _ => lenV rv)
  case atStart => exact ⟨0, k, _, _, _, _, _, _, _, by omega, rfl, hk, hnc, Nat.le_refl _, h, rfl, rfl, S0, c0⟩
  case round =>
    obtain ⟨j, r, nn, cn, A', G, m, gc, fp, hjr, rfl, hnn, hncn, hccn, hir, rfl, hm, S, c⟩ := hrel
    clear S0 c0 h hk hnc
    by_cases hr : r = 0
    case pos =>
      have g1 : decide ((9 : Int) ≤ (nn : Int)) = false := decide_eq_false (by omega)
      have e9 : j = k := by omega
      have H := Lib.hid S.first
      have CC := Lib.hid c
      have G1 : decide ((nn : Int) ≥ 2) = false := decide_eq_false (by omega)
      have G2 : decide (2 ≤ (nn : Int)) = false := decide_eq_false (by omega)
      have G3 : decide (2 ≤ nn) = false := decide_eq_false (by omega)
      have HJ := Lib.hid e9
      clear S c hir hjr hnn hr e9 g1
      go_wp2
      go_ret
      exact ⟨_, _, _, rfl, by rw [← HJ.out]; exact H.out, CC.out⟩
    case neg =>
      have G1 : decide ((nn : Int) ≥ 2) = true := decide_eq_true (by omega)
      have G2 : decide (2 ≤ (nn : Int)) = true := decide_eq_true (by omega)
      have G3 : decide (2 ≤ nn) = true := decide_eq_true (by omega)
      have hmk : m ≤ 24 := by omega
      have HM := Lib.hid hm
      clear hm
      obtain ⟨b, off, rfl, hb, hc⟩ := hir.2 (by omega)
      obtain ⟨x0, hx0⟩ : ∃ x, x = (d.drop (2 * j)).getD 0 0 := ⟨_, rfl⟩
      obtain ⟨x1, hx1⟩ : ∃ x, x = (d.drop (2 * j)).getD 1 0 := ⟨_, rfl⟩
      have k0 := hc 0 (by omega)
      have k1 := hc 1 (by omega)
      rw [← hx0, Nat.add_zero] at k0
      rw [← hx1] at k1
      have HN := Lib.hid (show duesFrom d (j + 1) = duesFrom d j ++ [⟨x0, x1⟩] by rw [duesFrom_succ, hx0, hx1]; rfl)
      have HI := Lib.hid hir
      have hn0 : (0 : Int) < (nn : Int) := by omega
      have hn1 : (1 : Int) < (nn : Int) := by omega
      have hn2 : (2 : Int) ≤ (nn : Int) := by omega
      have hc2 : (2 : Int) ≤ (cn : Int) := by omega
      have hn0n : 0 < nn := by omega
      have hn1n : 1 < nn := by omega
      have HNN := Lib.hid hnn
      clear hir hx0 hx1 hc hnn
      go_wp2_with fail
      refine wp_region_L (fun v => v.cell? ⟨b, off, none⟩ = some (.int .i64 x0) ∧ v.cell? ⟨b, off + 1, none⟩ = some (.int .i64 x1)) 10 (by kernel_rfl) ?_
      replace S := S.keep ((Below.refl _ _).drew)
      replace c := c.drew
      generalize wr.drew = w1 at *
      have HF : w1.cell? ⟨b, off, none⟩ = some (.int .i64 x0) ∧ w1.cell? ⟨b, off + 1, none⟩ = some (.int .i64 x1) := ⟨(c.cell (p := ⟨b, off, none⟩) (show b < _ by omega)).trans k0, (c.cell (p := ⟨b, off + 1, none⟩) (show b < _ by omega)).trans k1⟩
      refine wpAnyL_take (i := 0) (v := ?_) rfl rfl (by kernel_rfl) (by kernel_rfl) (by kernel_rfl) (by kernel_rfl) (by kernel_rfl) (fun _ _ _ h => h) HF (Or.inl ⟨by rfl, ?_⟩) ?_
      rotate_left 1
      · (rintro v ⟨a0, a1⟩; go_simp; try with_reducible rfl)
      try simp only [Act.put]
      refine wpAnyL_take (i := 1) (v := ?_) rfl rfl (by kernel_rfl) (by kernel_rfl) (by kernel_rfl) (by kernel_rfl) (by kernel_rfl) (fun _ _ _ h => h) HF (Or.inl ⟨by rfl, ?_⟩) ?_
      rotate_left 1
      · (rintro v ⟨a0, a1⟩; go_simp; try with_reducible rfl)
      try simp only [Act.put]
      refine wpAnyL_take (i := 2) (v := ?_) rfl rfl (by kernel_rfl) (by kernel_rfl) (by kernel_rfl) (by kernel_rfl) (by kernel_rfl) (fun _ _ _ h => h) HF (Or.inl ⟨by rfl, ?_⟩) ?_
      rotate_left 1
      · (rintro v ⟨a0, a1⟩; go_simp; try with_reducible rfl)
      try simp only [Act.put]
      refine wpAnyL_take (i := 3) (v := ?_) rfl rfl (by kernel_rfl) (by kernel_rfl) (by kernel_rfl) (by kernel_rfl) (by kernel_rfl) (fun _ _ _ h => h) HF (Or.inl ⟨by rfl, ?_⟩) ?_
      rotate_left 1
      · (rintro v ⟨a0, a1⟩; go_simp; try with_reducible rfl)
      try simp only [Act.put]
      refine wpAnyL_take (i := 4) (v := ?_) rfl rfl (by kernel_rfl) (by kernel_rfl) (by kernel_rfl) (by kernel_rfl) (by kernel_rfl) (fun _ _ _ h => h) HF (Or.inl ⟨by rfl, ?_⟩) ?_
      rotate_left 1
      · (rintro v ⟨a0, a1⟩; go_simp; try with_reducible rfl)
      try simp only [Act.put]
      refine wpAnyL_take (i := 5) (v := ?_) rfl rfl (by kernel_rfl) (by kernel_rfl) (by kernel_rfl) (by kernel_rfl) (by kernel_rfl) (fun _ _ _ h => h) HF (Or.inl ⟨by rfl, ?_⟩) ?_
      rotate_left 1
      · (rintro v ⟨a0, a1⟩; go_simp; try with_reducible rfl)
      try simp only [Act.put]
      refine wpAnyL_take (i := 6) (v := ?_) rfl rfl (by kernel_rfl) (by kernel_rfl) (by kernel_rfl) (by kernel_rfl) (by kernel_rfl) (fun _ _ _ h => h) HF (Or.inl ⟨by rfl, ?_⟩) ?_
      rotate_left 1
      · (rintro v ⟨a0, a1⟩; go_simp; try with_reducible rfl)
      try simp only [Act.put]
      refine wpAnyL_take (i := 7) (v := ?_) rfl rfl (by kernel_rfl) (by kernel_rfl) (by kernel_rfl) (by kernel_rfl) (by kernel_rfl) (fun _ _ _ h => h) HF (Or.inl ⟨by rfl, ?_⟩) ?_
      rotate_left 1
      · (rintro v ⟨a0, a1⟩; go_simp; try with_reducible rfl)
      try simp only [Act.put]
      refine wpAnyL_step (i := 8) (by kernel_rfl) rfl rfl ?_
      intro K hK
      go_simp
      replace S := S.boxAt c.size (w1.heap.size) rfl #[.int .i64 x0, .int .i64 x1] 80
      replace c := c.alloc c.size (.cells #[.int .i64 x0, .int .i64 x1] 80)
      clear HF
      have HF : (w1.alloc (.cells #[.int .i64 x0, .int .i64 x1] 80)).cell? ⟨b, off, none⟩ = some (.int .i64 x0) ∧ (w1.alloc (.cells #[.int .i64 x0, .int .i64 x1] 80)).cell? ⟨b, off + 1, none⟩ = some (.int .i64 x1) := ⟨(c.cell (p := ⟨b, off, none⟩) (show b < _ by omega)).trans k0, (c.cell (p := ⟨b, off + 1, none⟩) (show b < _ by omega)).trans k1⟩
      refine hK _ _ (fun _ => HF) ?_
      clear hK K
      try simp only [Act.put]
      generalize hw : w1.alloc (.cells #[.int .i64 x0, .int .i64 x1] 80) = w2 at *
      clear hw
      obtain ⟨qo, hqo⟩ : ∃ q, q = w1.heap.size := ⟨_, rfl⟩
      rw [← hqo] at S ⊢
      clear hqo
      have HC : ∀ i, i < 2 → w2.cell? ⟨qo, i, none⟩ = [Value.int .i64 x0, Value.int .i64 x1][i]? := fun i hi => by
        have h1 := (S.at_ 0 rfl).cell i
        rw [h1]
        simp
      replace S := (S.tail).own0 (ds := djC ⟨x0, x1⟩) (vs := [.int .i64 x0, .int .i64 x1]) (.int (.int (.nil)))
      replace S := S.swap
      refine wpAnyL_step (i := 9) (by kernel_rfl) rfl rfl ?_
      intro K hK
      refine wp_append_elem (l := duesFrom d j) (y := (⟨x0, x1⟩ : TimerM)) _ _ (by rfl) Try.underlying23 infoDue (by rfl) (by decide) djC_len (by rfl) (S.own_ 0 rfl) (S.nodup_own 0 rfl) (by rfl) HC (S.own_ 1 rfl) (S.nodup_own 1 rfl) S.apart (by omega) (by omega) ?_
      intro A3 c3 w3 fp3 o3 n3 s3 t3
      have S' := S.merge t3 o3 n3 s3 c.size
      replace c := c.trans (S.below 0 rfl t3 c.size)
      clear S; have S := S'; clear S' o3 n3 s3 t3 HC
      clear HF
      have HF : w3.cell? ⟨b, off, none⟩ = some (.int .i64 x0) ∧ w3.cell? ⟨b, off + 1, none⟩ = some (.int .i64 x1) := ⟨(c.cell (p := ⟨b, off, none⟩) (show b < _ by omega)).trans k0, (c.cell (p := ⟨b, off + 1, none⟩) (show b < _ by omega)).trans k1⟩
      refine hK _ _ (fun _ => HF) ?_
      clear hK K
      try simp only [Act.put]
      refine wpAnyL_step (i := 10) (by kernel_rfl) rfl rfl ?_
      intro K hK
      go_simp
      refine hK _ _ (fun h => nomatch (show true = false from h)) ?_
      clear hK K
      try simp only [Act.put]
      refine wpAnyL_done (by kernel_rfl) ?_ _
      have S3 := Lib.hid S
      have C3 := Lib.hid c
      clear S c HF
      by_cases hcn : cn = 2
      case pos =>
        have e9 : nn = 2 := by have := HNN.out; omega
        have hr1 : r = 1 := by have := HNN.out; omega
        have HE := Lib.hid (show ∀ Z : Option Addr, IRow w B Z (nn - 2) (d.drop (2 * (j + 1))) from fun Z => by
          have e7 : nn - 2 = 0 := by have := HNN.out; omega
          rw [e7]
          exact IRow.emptyL (by have h7 := HI.out.1; have h8 := HNN.out; rw [List.length_drop] at h7 ⊢; omega))
        have HE0 := Lib.hid (show ∀ Z : Option Addr, IRow w B Z 0 (d.drop (2 * (j + 1))) from fun Z => by have h9 := HE.out Z; rwa [e9] at h9)
        go_wp2
        go_roundw
        case rel => exact ⟨j + 1, r - 1, 0, 0, _, A3, m + 1, c3, fp3, by omega, rfl, by have := HNN.out; omega, by have := HNN.out; omega, by have := HNN.out; omega, HE0.out _, rfl, by have := HM.out; omega, by rw [HN.out]; exact S3.out, C3.out⟩
        case measure => (have := HNN.out; simp [lenV] <;> omega)
      case neg =>
        by_cases hr1 : r = 1
        case pos =>
          have HE := Lib.hid (show ∀ Z : Option Addr, IRow w B Z (nn - 2) (d.drop (2 * (j + 1))) from fun Z => by
            have e7 : nn - 2 = 0 := by have := HNN.out; omega
            rw [e7]
            exact IRow.emptyL (by have h7 := HI.out.1; have h8 := HNN.out; rw [List.length_drop] at h7 ⊢; omega))
          go_wp2
          go_roundw
          case rel => exact ⟨j + 1, r - 1, nn - 2, cn - 2, _, A3, m + 1, c3, fp3, by omega, rfl, by have := HNN.out; omega, by have := HNN.out; omega, by have := HNN.out; omega, HE.out _, rfl, by have := HM.out; omega, by rw [HN.out]; exact S3.out, C3.out⟩
          case measure => (have := HNN.out; simp [lenV] <;> omega)
        case neg =>
          have HD := Lib.hid (show IRow w B (some ⟨b, off + 2, none⟩) (nn - 2) (d.drop (2 * (j + 1))) by
            have e8 : 2 * (j + 1) = 2 * j + 2 := by omega
            rw [e8, ← List.drop_drop]
            exact HI.out.dropL (m := 2) (by have := HNN.out; omega))
          go_wp2
          go_roundw
          case rel => exact ⟨j + 1, r - 1, nn - 2, cn - 2, _, A3, m + 1, c3, fp3, by omega, rfl, by have := HNN.out; omega, by have := HNN.out; omega, by have := HNN.out; omega, HD.out, rfl, by have := HM.out; omega, by rw [HN.out]; exact S3.out, C3.out⟩
          case measure => (have := HNN.out; simp [lenV] <;> omega)

end Go.Proofs.Ytepnghjmpbfmcaa
