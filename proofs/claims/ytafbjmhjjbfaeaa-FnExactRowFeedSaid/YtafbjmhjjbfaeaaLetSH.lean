/-
  Chapter 11: feeds decoded, of the model (by program, wip/gen/genletsh.py).
-/
import Derived.Test.YtafbjmhjjbfaeaaLetSF
import Derived.Test.YtafbjmhjjbfaeaaEntS7
import Derived.Test.YtafbjmhjjbfaeaaEntL
import Derived.Test.YtafbjmhjjbfaeaaMove
import Derived.Test.YtafbjmhjjbfaeaaKA
import Derived.RegionTactic
import Derived.BigQuiet
import Derived.Laws.EntriesVeiled
namespace Go.Proofs.Ytafbjmhjjbfaeaa
set_option maxRecDepth 100000
open Go.RowKit

set_option linter.unusedVariables false
set_option linter.unusedSimpArgs false
theorem getD_dropS (d : List Int) (a i : Nat) : (d.drop a).getD i 0 = d.getD (a + i) 0 := by simp [List.getD, List.getElem?_drop]
theorem IRow.dropS2 {w : World} {B b off n m : Nat} {xs : List Int} (h : IRow w B (some ⟨b, off, none⟩) n xs) (hm : m < n) : IRow w B (some ⟨b, off + m, none⟩) (n - m) (xs.drop m) := by
  refine ⟨by rw [List.length_drop, h.1], fun _ => ?_⟩
  obtain ⟨b', off', e, hb, hc⟩ := h.2 (by omega)
  injection e with e
  injection e with e1 e2
  subst e1 e2
  refine ⟨b, off + m, rfl, hb, fun j hj => ?_⟩
  have := hc (m + j) (by omega)
  rw [Nat.add_assoc, this]
  simp [List.getD, List.getElem?_drop]
theorem IRow.takeS {w : World} {B : Nat} {A : Option Addr} {n m : Nat} {xs : List Int} (h : IRow w B A n xs) (hm : m ≤ n) : IRow w B A m (xs.take m) := by
  refine ⟨by rw [List.length_take, h.1]; omega, fun h0 => ?_⟩
  obtain ⟨b, off, rfl, hb, hc⟩ := h.2 (by omega)
  refine ⟨b, off, rfl, hb, fun j hj => ?_⟩
  rw [hc j (by omega)]
  simp [List.getD, hj]
theorem under_row64 : Try.prog.underlying 22 = some (.slice (Try.prog.elem 22)) := by kernel_rfl
theorem size_row64 (w : World) : (sizeOf (Try.prog.elem 22)).run Try.prog w = .ok 1 w := by kernel_rfl
theorem row_mid {b off n cc p : Nat} {w9 : World} (h : p + 9 ≤ n) (hnc : n ≤ cc) : (Instr.sliceAt 22 (.slice (some ⟨b, off, none⟩) n cc) (some (.int .i64 (p : Int))) (some (.int .i64 ((p : Int) + 9))) none).run Try.prog w9 = .ok (.slice (some ⟨b, off + p, none⟩) 9 (cc - p)) w9 := by
  rw [run_sliceAt_slice _ _ _ _ _ _ under_row64, run_slice_lh _ _ _ _ _ under_row64 _ _ _ _ (by omega) (by omega) (by omega), size_row64]
  show Result.ok (sliced (some ⟨b, off, none⟩) (p : Int).toNat ((p : Int) + 9).toNat cc 1) w9 = _
  unfold sliced
  rw [Int.toNat_natCast, show ((p : Int) + 9).toNat = p + 9 by omega, if_neg (by omega), Nat.add_sub_cancel_left]
  simp [Addr.add]
theorem ow_nil_entsS (w : World) : Ow w [entD []] [.slice none 0 0] [] := Ow.row (n := 0) (us := []) (fp1 := []) (fp2 := []) (World.ownsRow_nil w 0 _ _) .nil .nil
theorem has_nil_entsS (w : World) (base : Nat) : Has w base [entD []] [.slice none 0 0] := ⟨[], ow_nil_entsS w, List.nodup_nil, fun p hp => by cases hp⟩
set_option maxHeartbeats 12800000 in
theorem sRowFeed_at (A : Option Addr) (n c : Nat) (d0 : List Int) (w : World) (h : Rd w w.heap.size (rowCells d0) [.slice A n c]) (hs : d0.length ≤ 1048576) :
    Calls Try.prog 31 #[.slice A n c] w fun e w' => ∃ (y0 y1 : Int) (A2 : Option Addr) (n2 c2 : Nat), e = .returned (.tuple #[.agg #[.int .i64 y0, .int .i64 y1, .slice A2 n2 c2], .bool (rowFeedM d0).2]) ∧ Has w' w.heap.size ((rowFeedM d0).1.cells) [.int .i64 y0, .int .i64 y1, .slice A2 n2 c2] ∧ Below w.heap.size w w' := by
  obtain ⟨_, _, _, e, hi, hnc, hcm⟩ := h.irow
  injection e with e1 e2 e3
  subst e1 e2 e3
  have hn : n ≤ 1048577 := by have := hi.1; omega
  have HI := Lib.hid hi
  have HL := Lib.hid hi.1
  obtain ⟨cc, hcc⟩ : ∃ q, q = c := ⟨_, rfl⟩
  rw [← hcc] at hnc hcm ⊢
  have HCM := Lib.hid hcm
  unfold maxLen at hcm
  clear h hs hcc c
  obtain ⟨y0, hy0⟩ : ∃ x, x = d0.getD 0 0 := ⟨_, rfl⟩
  have HY := Lib.hid hy0
  by_cases c0 : 3 ≤ n
  case neg =>
    have ga1 : decide ((n : Int) < 3) = true := decide_eq_true (by omega)
    have ga2 : decide (n < 3) = true := decide_eq_true (by omega)
    have HD := Lib.hid (show rowFeedM d0 = (feed0, false) by unfold rowFeedM; rw [if_neg (fun h9 => c0 (by have := HL.out; omega))])
    clear hi hy0 c0
    have S := Sep.nil w w.heap.size
    have c := Below.refl w.heap.size w
    replace S := S.boxAt c.size (w.heap.size) rfl #[.int .i64 0, .int .i64 0, .slice none 0 0] 38
    replace c := c.alloc c.size (.cells #[.int .i64 0, .int .i64 0, .slice none 0 0] 38)
    go_enter Try.func31, Try.ntmps31
    have r0 := Lib.hid (show (w.alloc (.cells #[.int .i64 0, .int .i64 0, .slice none 0 0] 38)).cell? ⟨w.heap.size, 0, none⟩ = some (.int .i64 0) from (S.at_ 0 rfl).cell 0)
    have r1 := Lib.hid (show (w.alloc (.cells #[.int .i64 0, .int .i64 0, .slice none 0 0] 38)).cell? ⟨w.heap.size, 1, none⟩ = some (.int .i64 0) from (S.at_ 0 rfl).cell 1)
    have r2 := Lib.hid (show (w.alloc (.cells #[.int .i64 0, .int .i64 0, .slice none 0 0] 38)).cell? ⟨w.heap.size, 2, none⟩ = some (.slice none 0 0) from (S.at_ 0 rfl).cell 2)
    have CC := Lib.hid c
    clear S c
    go_wp2
    exact bodyPost_ret (v := .tuple #[.agg #[.int .i64 0, .int .i64 0, .slice none 0 0], .bool false]) (by simp [results, Try.results31, go_sem, r0.out, r1.out, r2.out]) rfl ⟨0, 0, none, 0, 0, by rw [HD.out] <;> rfl, by rw [HD.out]; exact Has.int (Has.int (has_nil_entsS _ _)), CC.out⟩
  case pos =>
    have ga1 : decide ((n : Int) < 3) = false := decide_eq_false (by omega)
    have ga2 : decide (n < 3) = false := decide_eq_false (by omega)
    by_cases c1 : n ≤ 30
    case neg =>
      have gb1 : decide ((n : Int) > 30) = true := decide_eq_true (by omega)
      have gb2 : decide (30 < (n : Int)) = true := decide_eq_true (by omega)
      have gb3 : decide (30 < n) = true := decide_eq_true (by omega)
      have HD := Lib.hid (show rowFeedM d0 = (feed0, false) by unfold rowFeedM; rw [if_neg (fun h9 => c1 (by have := HL.out; omega))])
      clear hi hy0 c1
      have S := Sep.nil w w.heap.size
      have c := Below.refl w.heap.size w
      replace S := S.boxAt c.size (w.heap.size) rfl #[.int .i64 0, .int .i64 0, .slice none 0 0] 38
      replace c := c.alloc c.size (.cells #[.int .i64 0, .int .i64 0, .slice none 0 0] 38)
      go_enter Try.func31, Try.ntmps31
      have r0 := Lib.hid (show (w.alloc (.cells #[.int .i64 0, .int .i64 0, .slice none 0 0] 38)).cell? ⟨w.heap.size, 0, none⟩ = some (.int .i64 0) from (S.at_ 0 rfl).cell 0)
      have r1 := Lib.hid (show (w.alloc (.cells #[.int .i64 0, .int .i64 0, .slice none 0 0] 38)).cell? ⟨w.heap.size, 1, none⟩ = some (.int .i64 0) from (S.at_ 0 rfl).cell 1)
      have r2 := Lib.hid (show (w.alloc (.cells #[.int .i64 0, .int .i64 0, .slice none 0 0] 38)).cell? ⟨w.heap.size, 2, none⟩ = some (.slice none 0 0) from (S.at_ 0 rfl).cell 2)
      have CC := Lib.hid c
      clear S c
      go_wp2
      exact bodyPost_ret (v := .tuple #[.agg #[.int .i64 0, .int .i64 0, .slice none 0 0], .bool false]) (by simp [results, Try.results31, go_sem, r0.out, r1.out, r2.out]) rfl ⟨0, 0, none, 0, 0, by rw [HD.out] <;> rfl, by rw [HD.out]; exact Has.int (Has.int (has_nil_entsS _ _)), CC.out⟩
    case pos =>
      have gb1 : decide ((n : Int) > 30) = false := decide_eq_false (by omega)
      have gb2 : decide (30 < (n : Int)) = false := decide_eq_false (by omega)
      have gb3 : decide (30 < n) = false := decide_eq_false (by omega)
      by_cases c2 : n % 9 = 3
      case neg =>
        have gc1 : ((n : Int) % 9 != 3) = true := by simp; omega
        have gc2 : ((n : Int) % 9 == 3) = false := by simp; omega
        have gc3 : (n % 9 != 3) = true := by simp; omega
        have gc4 : (n % 9 == 3) = false := by simp; omega
        have gc5 : decide (n % 9 = 3) = false := decide_eq_false (by omega)
        have gc6 : decide ((n : Int) % 9 = 3) = false := decide_eq_false (by omega)
        have HD := Lib.hid (show rowFeedM d0 = (feed0, false) by unfold rowFeedM; rw [if_neg (fun h9 => c2 (by have := HL.out; omega))])
        clear hi hy0 c2
        have S := Sep.nil w w.heap.size
        have c := Below.refl w.heap.size w
        replace S := S.boxAt c.size (w.heap.size) rfl #[.int .i64 0, .int .i64 0, .slice none 0 0] 38
        replace c := c.alloc c.size (.cells #[.int .i64 0, .int .i64 0, .slice none 0 0] 38)
        go_enter Try.func31, Try.ntmps31
        have r0 := Lib.hid (show (w.alloc (.cells #[.int .i64 0, .int .i64 0, .slice none 0 0] 38)).cell? ⟨w.heap.size, 0, none⟩ = some (.int .i64 0) from (S.at_ 0 rfl).cell 0)
        have r1 := Lib.hid (show (w.alloc (.cells #[.int .i64 0, .int .i64 0, .slice none 0 0] 38)).cell? ⟨w.heap.size, 1, none⟩ = some (.int .i64 0) from (S.at_ 0 rfl).cell 1)
        have r2 := Lib.hid (show (w.alloc (.cells #[.int .i64 0, .int .i64 0, .slice none 0 0] 38)).cell? ⟨w.heap.size, 2, none⟩ = some (.slice none 0 0) from (S.at_ 0 rfl).cell 2)
        have CC := Lib.hid c
        clear S c
        go_wp2
        exact bodyPost_ret (v := .tuple #[.agg #[.int .i64 0, .int .i64 0, .slice none 0 0], .bool false]) (by simp [results, Try.results31, go_sem, r0.out, r1.out, r2.out]) rfl ⟨0, 0, none, 0, 0, by rw [HD.out] <;> rfl, by rw [HD.out]; exact Has.int (Has.int (has_nil_entsS _ _)), CC.out⟩
      case pos =>
        have gc1 : ((n : Int) % 9 != 3) = false := by simp; omega
        have gc2 : ((n : Int) % 9 == 3) = true := by simp; omega
        have gc3 : (n % 9 != 3) = false := by simp; omega
        have gc4 : (n % 9 == 3) = true := by simp; omega
        have gc5 : decide (n % 9 = 3) = true := decide_eq_true (by omega)
        have gc6 : decide ((n : Int) % 9 = 3) = true := decide_eq_true (by omega)
        by_cases c3 : y0 = 4
        case neg =>
          have gd1 : (y0 != 4) = true := by simp; omega
          have gd2 : (y0 == 4) = false := by simp; omega
          have gd3 : decide (y0 = 4) = false := decide_eq_false (by omega)
          have HD := Lib.hid (show rowFeedM d0 = (feed0, false) by unfold rowFeedM; rw [if_neg (fun h9 => c3 (by have := HL.out; rw [HY.out]; exact h9.2.2.2.1))])
          obtain ⟨b, off, rfl, hb, hc⟩ := hi.2 (by omega)
          have k0 := hc 0 (by omega)
          rw [← hy0, Nat.add_zero] at k0
          have hq0 : (0 : Int) < (n : Int) := by omega
          have hq1 : 0 < n := by omega
          clear hc
          clear hi hy0 c3
          have S := Sep.nil w w.heap.size
          have c := Below.refl w.heap.size w
          replace S := S.boxAt c.size (w.heap.size) rfl #[.int .i64 0, .int .i64 0, .slice none 0 0] 38
          replace c := c.alloc c.size (.cells #[.int .i64 0, .int .i64 0, .slice none 0 0] 38)
          go_enter Try.func31, Try.ntmps31
          have k0' := (c.cell (p := ⟨b, off, none⟩) (show b < _ by omega)).trans k0
          have r0 := Lib.hid (show (w.alloc (.cells #[.int .i64 0, .int .i64 0, .slice none 0 0] 38)).cell? ⟨w.heap.size, 0, none⟩ = some (.int .i64 0) from (S.at_ 0 rfl).cell 0)
          have r1 := Lib.hid (show (w.alloc (.cells #[.int .i64 0, .int .i64 0, .slice none 0 0] 38)).cell? ⟨w.heap.size, 1, none⟩ = some (.int .i64 0) from (S.at_ 0 rfl).cell 1)
          have r2 := Lib.hid (show (w.alloc (.cells #[.int .i64 0, .int .i64 0, .slice none 0 0] 38)).cell? ⟨w.heap.size, 2, none⟩ = some (.slice none 0 0) from (S.at_ 0 rfl).cell 2)
          have CC := Lib.hid c
          clear S c
          go_wp2
          exact bodyPost_ret (v := .tuple #[.agg #[.int .i64 0, .int .i64 0, .slice none 0 0], .bool false]) (by simp [results, Try.results31, go_sem, r0.out, r1.out, r2.out]) rfl ⟨0, 0, none, 0, 0, by rw [HD.out] <;> rfl, by rw [HD.out]; exact Has.int (Has.int (has_nil_entsS _ _)), CC.out⟩
        case pos =>
          have gd1 : (y0 != 4) = false := by simp; omega
          have gd2 : (y0 == 4) = true := by simp; omega
          have gd3 : decide (y0 = 4) = true := decide_eq_true (by omega)
          obtain ⟨b, off, rfl, hb, hc⟩ := hi.2 (by omega)
          have k0 := hc 0 (by omega)
          rw [← hy0, Nat.add_zero] at k0
          have HY0 := Lib.hid c3
          have hq0 : (0 : Int) < (n : Int) := by omega
          have hq0n : 0 < n := by omega
          obtain ⟨x0, hx0⟩ : ∃ x, x = d0.getD 1 0 := ⟨_, rfl⟩
          have k1 := hc 1 (by omega)
          rw [← hx0] at k1
          have hq1 : (1 : Int) < (n : Int) := by omega
          have hq1n : 1 < n := by omega
          obtain ⟨x1, hx1⟩ : ∃ x, x = d0.getD 2 0 := ⟨_, rfl⟩
          have k2 := hc 2 (by omega)
          rw [← hx1] at k2
          have hq2 : (2 : Int) < (n : Int) := by omega
          have hq2n : 2 < n := by omega
          obtain ⟨k, hk⟩ : ∃ k, n = 3 + 9 * k := ⟨(n - 3) / 9, by omega⟩
          have hk9 : k ≤ 3 := by omega
          have HK := Lib.hid hk
          have HOF := Lib.hid (show ofFeed d0 = ⟨x0, x1, entsFrom (d0.drop 3) k⟩ by
            unfold ofFeed
            rw [← hx0, ← hx1]
            have e9 : (d0.length - 3) / 9 = k := by have := HL.out; omega
            rw [e9])
          have HCOND := Lib.hid (show 3 ≤ d0.length ∧ d0.length ≤ 30 ∧ d0.length % 9 = 3 ∧ d0.getD 0 0 = 4 from ⟨by have := HL.out; omega, by have := HL.out; omega, by have := HL.out; omega, by rw [← HY.out]; exact c3⟩)
          have HNO := Lib.hid (fun hno : feedOkB (ofFeed d0) = false => show rowFeedM d0 = (feed0, false) by unfold rowFeedM; rw [if_neg (fun h9 => by have h8 := h9.2.2.2.2; rw [hno] at h8; cases h8)])
          have hnb := c1
          have hcc3 : 3 ≤ cc := by omega
          clear hc hi hk hy0 c0 c1 c2 c3 hx0 hx1
          have S := Sep.nil w w.heap.size
          have c := Below.refl w.heap.size w
          replace S := S.boxAt c.size (w.heap.size) rfl #[.int .i64 0, .int .i64 0, .slice none 0 0] 38
          replace c := c.alloc c.size (.cells #[.int .i64 0, .int .i64 0, .slice none 0 0] 38)
          go_enter Try.func31, Try.ntmps31
          have k0' := (c.cell (p := ⟨b, off, none⟩) (show b < _ by omega)).trans k0
          go_wp2_with fail
          generalize w.alloc (.cells #[.int .i64 0, .int .i64 0, .slice none 0 0] 38) = w1 at *
          clear k0'
          refine wp_region_L (fun v => v.cell? ⟨b, off + 1, none⟩ = some (.int .i64 x0) ∧ v.cell? ⟨b, off + 2, none⟩ = some (.int .i64 x1)) 8 (by kernel_rfl) ?_
          replace S := S.keep ((Below.refl _ _).drew)
          replace c := c.drew
          generalize w1.drew = w2 at *
          have HF : w2.cell? ⟨b, off + 1, none⟩ = some (.int .i64 x0) ∧ w2.cell? ⟨b, off + 2, none⟩ = some (.int .i64 x1) := ⟨(c.cell (p := ⟨b, off + 1, none⟩) (show b < _ by omega)).trans k1, (c.cell (p := ⟨b, off + 2, none⟩) (show b < _ by omega)).trans k2⟩
          refine wpAnyL_take (i := 0) (v := ?_) rfl rfl (by kernel_rfl) (by kernel_rfl) (by kernel_rfl) (by kernel_rfl) (by kernel_rfl) (fun _ _ _ h => h) HF (Or.inl ⟨by rfl, ?_⟩) ?_
          rotate_left 1
          · (rintro v ⟨a0, a1⟩; go_simp; try with_reducible rfl)
          try simp only [Act.put]
          refine wpAnyL_take (i := 1) (v := ?_) rfl rfl (by kernel_rfl) (by kernel_rfl) (by kernel_rfl) (by kernel_rfl) (by kernel_rfl) (fun _ _ _ h => h) HF (Or.inl ⟨by rfl, ?_⟩) ?_
          rotate_left 1
          · (rintro v ⟨a0, a1⟩; go_simp; try with_reducible rfl)
          try simp only [Act.put]
          refine wpAnyL_take (i := 2) (v := ?_) rfl rfl (by kernel_rfl) (by kernel_rfl) (by kernel_rfl) (by kernel_rfl) (by kernel_rfl) (fun _ _ _ h => h) HF (Or.inl ⟨by rfl, ?_⟩) ?_
          rotate_left 1
          · (rintro v ⟨a0, a1⟩; go_simp; try with_reducible rfl)
          try simp only [Act.put]
          refine wpAnyL_take (i := 3) (v := ?_) rfl rfl (by kernel_rfl) (by kernel_rfl) (by kernel_rfl) (by kernel_rfl) (by kernel_rfl) (fun _ _ _ h => h) HF (Or.inl ⟨by rfl, ?_⟩) ?_
          rotate_left 1
          · (rintro v ⟨a0, a1⟩; go_simp; try with_reducible rfl)
          try simp only [Act.put]
          refine wpAnyL_take (i := 4) (v := ?_) rfl rfl (by kernel_rfl) (by kernel_rfl) (by kernel_rfl) (by kernel_rfl) (by kernel_rfl) (fun _ _ _ h => h) HF (Or.inl ⟨by rfl, ?_⟩) ?_
          rotate_left 1
          · (rintro v ⟨a0, a1⟩; go_simp; try with_reducible rfl)
          try simp only [Act.put]
          refine wpAnyL_take (i := 5) (v := ?_) rfl rfl (by kernel_rfl) (by kernel_rfl) (by kernel_rfl) (by kernel_rfl) (by kernel_rfl) (fun _ _ _ h => h) HF (Or.inl ⟨by rfl, ?_⟩) ?_
          rotate_left 1
          · (rintro v ⟨a0, a1⟩; go_simp; try with_reducible rfl)
          try simp only [Act.put]
          refine wpAnyL_take (i := 6) (v := ?_) rfl rfl (by kernel_rfl) (by kernel_rfl) (by kernel_rfl) (by kernel_rfl) (by kernel_rfl) (fun _ _ _ h => h) HF (Or.inl ⟨by rfl, ?_⟩) ?_
          rotate_left 1
          · (rintro v ⟨a0, a1⟩; go_simp; try with_reducible rfl)
          try simp only [Act.put]
          refine wpAnyL_step (i := 7) (by kernel_rfl) rfl rfl ?_
          intro K hK
          go_simp
          replace S := S.boxAt c.size (w2.heap.size) rfl #[.int .i64 0, .int .i64 0, .slice none 0 0] 38
          replace c := c.alloc c.size (.cells #[.int .i64 0, .int .i64 0, .slice none 0 0] 38)
          clear HF
          have HF : (w2.alloc (.cells #[.int .i64 0, .int .i64 0, .slice none 0 0] 38)).cell? ⟨b, off + 1, none⟩ = some (.int .i64 x0) ∧ (w2.alloc (.cells #[.int .i64 0, .int .i64 0, .slice none 0 0] 38)).cell? ⟨b, off + 2, none⟩ = some (.int .i64 x1) := ⟨(c.cell (p := ⟨b, off + 1, none⟩) (show b < _ by omega)).trans k1, (c.cell (p := ⟨b, off + 2, none⟩) (show b < _ by omega)).trans k2⟩
          refine hK _ _ (fun _ => HF) ?_
          clear hK K
          try simp only [Act.put]
          generalize hw : w2.alloc (.cells #[.int .i64 0, .int .i64 0, .slice none 0 0] 38) = w3 at *
          clear hw
          obtain ⟨qf, hqf⟩ : ∃ q, q = w2.heap.size := ⟨_, rfl⟩
          rw [← hqf] at S ⊢
          clear hqf
          have f0 : w3.cell? ⟨qf, 0, none⟩ = some (.int .i64 0) := (S.at_ 0 rfl).cell 0
          have f1 := (S.at_ 0 rfl).free 0
          have f2 : w3.cell? ⟨qf, 1, none⟩ = some (.int .i64 0) := (S.at_ 0 rfl).cell 1
          have f3 := (S.at_ 0 rfl).free 1
          have f4 : w3.cell? ⟨qf, 2, none⟩ = some (.slice none 0 0) := (S.at_ 0 rfl).cell 2
          have f5 := (S.at_ 0 rfl).free 2
          refine wpAnyL_step (i := 8) (by kernel_rfl) rfl rfl ?_
          intro K hK
          go_simp
          refine hK _ _ (fun h => nomatch (show true = false from h)) ?_
          clear hK K
          try simp only [Act.put]
          refine wpAnyL_done (by kernel_rfl) ?_ _
          replace c := c.setCell (p := ⟨qf, 0, none⟩) (S.base_le 0 rfl) (.int .i64 x0)
          replace S := S.put 0 rfl 0 (.int .i64 x0)
          replace c := c.setCell (p := ⟨qf, 1, none⟩) (S.base_le 0 rfl) (.int .i64 x1)
          replace S := S.put 0 rfl 1 (.int .i64 x1)
          replace c := c.setCell (p := ⟨qf, 2, none⟩) (S.base_le 0 rfl) (.slice none 0 0)
          replace S := S.put 0 rfl 2 (.slice none 0 0)
          clear HF
          generalize ((w3.setCell ⟨qf, 0, none⟩ (.int .i64 x0)).setCell ⟨qf, 1, none⟩ (.int .i64 x1)).setCell ⟨qf, 2, none⟩ (.slice none 0 0) = w4 at *
          clear f0 f1 f2 f3 f4 f5
          obtain ⟨fp_u, S'⟩ := S.has (Below.refl _ _) (has_nil_entsS w4 w4.heap.size) c.size
          have S0 := Lib.hid S'
          have B0 := Lib.hid c
          clear S S' c
          go_wp2
          go_loopw [5] (fun u wr => ∃ (j p : Nat) (G : Option Addr) (m gc : Nat) (fp : List Nat), j ≤ k ∧ p = 3 + 9 * j ∧ u = .int .i64 (p : Int) ∧ m = j ∧ (∀ i, i < j → entB (ofEnt ((d0.drop 3).drop (9 * i))) = true) ∧ Sep wr w.heap.size [.own [entD (entsFrom (d0.drop 3) j)] [.slice G m gc] fp, .blk qf #[.int .i64 x0, .int .i64 x1, .slice G m gc] 38, .blk w.heap.size #[.int .i64 0, .int .i64 0, .slice none 0 0] 38] ∧ Below w.heap.size w wr) (fun u _ => n - (intOf u).toNat)
          case atStart => exact ⟨0, 3, _, _, _, _, Nat.zero_le _, rfl, rfl, rfl, fun i hi => absurd hi (by omega), S0.out, B0.out⟩
          case round =>
            obtain ⟨j, p, G, m, gc, fp, hj, hp, rfl, hm, hall, S, c⟩ := hrel
            clear S0 B0
            have hm9 : m ≤ 20 := by omega
            have HM := Lib.hid hm
            have HP := Lib.hid hp
            have HALL := Lib.hid hall
            have hpn : p < n ∨ (p = n ∧ j = k) := by have := HK.out; omega
            have hp48 : p ≤ 48 := by have := HK.out; omega
            have hj9 : p < n → j < k := by have := HK.out; omega
            have hjp : p < n → p + 9 ≤ n := by have := HK.out; omega
            clear hm hp hall
            by_cases hlt : p < n
            case neg =>
              have ejk : j = k := by omega
              have g1 : decide ((p : Int) < (n : Int)) = false := decide_eq_false (by omega)
              have g2 : decide (p < n) = false := decide_eq_false hlt
              obtain ⟨l9, hl9⟩ : ∃ l, l = entsFrom (d0.drop 3) j := ⟨_, rfl⟩
              have hsz : entSz l9 ≤ 1048577 := by rw [hl9]; unfold entSz; rw [entsFrom_len]; omega
              have HOF9 := Lib.hid (show ofFeed d0 = ⟨x0, x1, l9⟩ by rw [HOF.out, hl9, ejk])
              rw [← hl9] at S
              clear hl9 ejk hlt hpn hj9 hjp
              have f6 : wr.cell? ⟨qf, 0, none⟩ = some (.int .i64 x0) := (S.at_ 1 rfl).cell 0
              have f7 : wr.cell? ⟨qf, 1, none⟩ = some (.int .i64 x1) := (S.at_ 1 rfl).cell 1
              have f8 : wr.cell? ⟨qf, 2, none⟩ = some (.slice G m gc) := (S.at_ 1 rfl).cell 2
              go_wp2_with fail
              refine (sFeedOk_any x0 x1 G m gc _ l9 _ ((S.own_ 0 rfl).rd) (Nat.le_refl _) hsz).mono ?_
              rintro e w5 ⟨rfl, b2⟩
              replace c := c.trans (b2.mono c.size)
              replace S := S.keep b2
              clear b2 f6 f7 f8
              cases hok : feedOkB ⟨x0, x1, l9⟩
              case false =>
                have HD := Lib.hid (HNO.out (by rw [HOF9.out]; exact hok))
                clear hok
                have f9 : w5.cell? ⟨w.heap.size, 0, none⟩ = some (.int .i64 0) := (S.at_ 2 rfl).cell 0
                have f10 := (S.at_ 2 rfl).free 0
                have f11 : w5.cell? ⟨w.heap.size, 1, none⟩ = some (.int .i64 0) := (S.at_ 2 rfl).cell 1
                have f12 := (S.at_ 2 rfl).free 1
                have f13 : w5.cell? ⟨w.heap.size, 2, none⟩ = some (.slice none 0 0) := (S.at_ 2 rfl).cell 2
                have f14 := (S.at_ 2 rfl).free 2
                replace S := S.put 2 rfl 0 (.int .i64 0)
                replace c := c.setCell (p := ⟨w.heap.size, 0, none⟩) (by show w.heap.size ≤ w.heap.size; omega) (.int .i64 0)
                replace S := S.put 2 rfl 1 (.int .i64 0)
                replace c := c.setCell (p := ⟨w.heap.size, 1, none⟩) (by show w.heap.size ≤ w.heap.size; omega) (.int .i64 0)
                replace S := S.put 2 rfl 2 (.slice none 0 0)
                replace c := c.setCell (p := ⟨w.heap.size, 2, none⟩) (by show w.heap.size ≤ w.heap.size; omega) (.slice none 0 0)
                have r0 := Lib.hid (show (((w5.setCell ⟨w.heap.size, 0, none⟩ (.int .i64 0)).setCell ⟨w.heap.size, 1, none⟩ (.int .i64 0)).setCell ⟨w.heap.size, 2, none⟩ (.slice none 0 0)).cell? ⟨w.heap.size, 0, none⟩ = some (.int .i64 0) from (S.at_ 2 rfl).cell 0)
                have r1 := Lib.hid (show (((w5.setCell ⟨w.heap.size, 0, none⟩ (.int .i64 0)).setCell ⟨w.heap.size, 1, none⟩ (.int .i64 0)).setCell ⟨w.heap.size, 2, none⟩ (.slice none 0 0)).cell? ⟨w.heap.size, 1, none⟩ = some (.int .i64 0) from (S.at_ 2 rfl).cell 1)
                have r2 := Lib.hid (show (((w5.setCell ⟨w.heap.size, 0, none⟩ (.int .i64 0)).setCell ⟨w.heap.size, 1, none⟩ (.int .i64 0)).setCell ⟨w.heap.size, 2, none⟩ (.slice none 0 0)).cell? ⟨w.heap.size, 2, none⟩ = some (.slice none 0 0) from (S.at_ 2 rfl).cell 2)
                have CC := Lib.hid c
                clear S c
                go_wp2
                exact bodyPost_ret (v := .tuple #[.agg #[.int .i64 0, .int .i64 0, .slice none 0 0], .bool false]) (by simp [results, Try.results31, go_sem, r0.out, r1.out, r2.out]) rfl ⟨0, 0, none, 0, 0, by rw [HD.out] <;> rfl, by rw [HD.out]; exact Has.int (Has.int (has_nil_entsS _ _)), CC.out⟩
              case true =>
                have HD := Lib.hid (show rowFeedM d0 = (⟨x0, x1, l9⟩, true) by unfold rowFeedM; rw [if_pos ⟨HCOND.out.1, HCOND.out.2.1, HCOND.out.2.2.1, HCOND.out.2.2.2, by rw [HOF9.out]; exact hok⟩, HOF9.out])
                clear hok
                have f9 : w5.cell? ⟨qf, 0, none⟩ = some (.int .i64 x0) := (S.at_ 1 rfl).cell 0
                have f10 : w5.cell? ⟨qf, 1, none⟩ = some (.int .i64 x1) := (S.at_ 1 rfl).cell 1
                have f11 : w5.cell? ⟨qf, 2, none⟩ = some (.slice G m gc) := (S.at_ 1 rfl).cell 2
                have f12 : w5.cell? ⟨w.heap.size, 0, none⟩ = some (.int .i64 0) := (S.at_ 2 rfl).cell 0
                have f13 := (S.at_ 2 rfl).free 0
                have f14 : w5.cell? ⟨w.heap.size, 1, none⟩ = some (.int .i64 0) := (S.at_ 2 rfl).cell 1
                have f15 := (S.at_ 2 rfl).free 1
                have f16 : w5.cell? ⟨w.heap.size, 2, none⟩ = some (.slice none 0 0) := (S.at_ 2 rfl).cell 2
                have f17 := (S.at_ 2 rfl).free 2
                replace S := S.put 2 rfl 0 (.int .i64 x0)
                replace c := c.setCell (p := ⟨w.heap.size, 0, none⟩) (by show w.heap.size ≤ w.heap.size; omega) (.int .i64 x0)
                replace S := S.put 2 rfl 1 (.int .i64 x1)
                replace c := c.setCell (p := ⟨w.heap.size, 1, none⟩) (by show w.heap.size ≤ w.heap.size; omega) (.int .i64 x1)
                replace S := S.put 2 rfl 2 (.slice G m gc)
                replace c := c.setCell (p := ⟨w.heap.size, 2, none⟩) (by show w.heap.size ≤ w.heap.size; omega) (.slice G m gc)
                have r0 := Lib.hid (show (((w5.setCell ⟨w.heap.size, 0, none⟩ (.int .i64 x0)).setCell ⟨w.heap.size, 1, none⟩ (.int .i64 x1)).setCell ⟨w.heap.size, 2, none⟩ (.slice G m gc)).cell? ⟨w.heap.size, 0, none⟩ = some (.int .i64 x0) from (S.at_ 2 rfl).cell 0)
                have r1 := Lib.hid (show (((w5.setCell ⟨w.heap.size, 0, none⟩ (.int .i64 x0)).setCell ⟨w.heap.size, 1, none⟩ (.int .i64 x1)).setCell ⟨w.heap.size, 2, none⟩ (.slice G m gc)).cell? ⟨w.heap.size, 1, none⟩ = some (.int .i64 x1) from (S.at_ 2 rfl).cell 1)
                have r2 := Lib.hid (show (((w5.setCell ⟨w.heap.size, 0, none⟩ (.int .i64 x0)).setCell ⟨w.heap.size, 1, none⟩ (.int .i64 x1)).setCell ⟨w.heap.size, 2, none⟩ (.slice G m gc)).cell? ⟨w.heap.size, 2, none⟩ = some (.slice G m gc) from (S.at_ 2 rfl).cell 2)
                have CC := Lib.hid c
                have H := Lib.hid ((S.pick 0 rfl).first)
                clear S c
                go_wp2
                exact bodyPost_ret (v := .tuple #[.agg #[.int .i64 x0, .int .i64 x1, .slice G m gc], .bool true]) (by simp [results, Try.results31, go_sem, r0.out, r1.out, r2.out]) rfl ⟨x0, x1, G, m, gc, by rw [HD.out] <;> rfl, by rw [HD.out]; exact Has.int (Has.int (H.out)), CC.out⟩
            case pos =>
              have hpL := hjp hlt
              have hjk := hj9 hlt
              have g1 : decide ((p : Int) < (n : Int)) = true := decide_eq_true (by omega)
              have g2 : decide (p < n) = true := decide_eq_true hlt
              have ew : IntKind.i64.wrap ((p : Int) + 9) = (p : Int) + 9 := by rw [IntKind.wrap_i64]; omega
              have HLT := Lib.hid hlt
              have HPL := Lib.hid hpL
              have HJK := Lib.hid hjk
              have hsl : ∀ w9, (Instr.sliceAt 22 (.slice (some ⟨b, off, none⟩) n cc) (some (.int .i64 (p : Int))) (some (.int .i64 ((p : Int) + 9))) none).run Try.prog w9 = .ok (.slice (some ⟨b, off + p, none⟩) 9 (cc - p)) w9 := fun w9 => row_mid (by omega) hnc
              obtain ⟨d9, hd9⟩ : ∃ x, x = (d0.drop p).take 9 := ⟨_, rfl⟩
              have hl9 : d9.length = 9 := by rw [hd9, List.length_take, List.length_drop]; have := HL.out; omega
              have hI9 : IRow w w.heap.size (some ⟨b, off + p, none⟩) 9 d9 := by rw [hd9]; exact (HI.out.dropS2 (m := p) hlt).takeS (by omega)
              have HI9 := Lib.hid hI9
              have hof9 : ofEnt d9 = ofEnt ((d0.drop 3).drop (9 * j)) := by rw [hd9, List.drop_drop, ← HP.out]; unfold ofEnt; simp [List.getD]
              obtain ⟨z0, z1, z2, z3, z4, z5, z6, z7, z8, hz⟩ : ∃ z0 z1 z2 z3 z4 z5 z6 z7 z8 : Int, ofEnt d9 = ⟨z0, z1, z2, z3, z4, z5, z6, z7, z8⟩ := ⟨_, _, _, _, _, _, _, _, _, rfl⟩
              have HZJ := Lib.hid (show ofEnt ((d0.drop 3).drop (9 * j)) = ⟨z0, z1, z2, z3, z4, z5, z6, z7, z8⟩ by rw [← hof9, hz])
              have HRE := Lib.hid (show rowEntM d9 = if entB ⟨z0, z1, z2, z3, z4, z5, z6, z7, z8⟩ = true then (⟨z0, z1, z2, z3, z4, z5, z6, z7, z8⟩, true) else (⟨0, 0, 0, 0, 0, 0, 0, 0, 0⟩, false) by unfold rowEntM; rw [if_pos hl9, hz]; rfl)
              have hcp : 9 ≤ cc - p := by omega
              clear hd9 hl9 hI9 hof9 hz hlt hpn hj9 hjp hpL hjk
              go_wp2_with fail
              refine (sRowEnt_any (some ⟨b, off + p, none⟩) 9 (cc - p) w.heap.size d9 _ (HI9.out.below c) c.size (by decide) hcp).mono ?_
              rintro e w5 ⟨rfl, b2⟩
              replace c := c.trans (b2.mono c.size)
              replace S := S.keep b2
              clear b2
              rw [HRE.out]
              cases hE : entB ⟨z0, z1, z2, z3, z4, z5, z6, z7, z8⟩
              case false =>
                have HD := Lib.hid (HNO.out (by
                  rw [Bool.eq_false_iff]
                  intro h9
                  have h8 := ((feedOkB_iff _).1 h9).2.2.2.1
                  rw [HOF.out] at h8
                  have hj8 : j < (entsFrom (d0.drop 3) k).length := by rw [entsFrom_len]; exact HJK.out
                  have h7 := ((entsB_iff _).1 h8).2 j hj8
                  rw [entsAt_eq hj8, Bool.and_eq_true] at h7
                  have e7 : (entsFrom (d0.drop 3) k)[j] = ofEnt ((d0.drop 3).drop (9 * j)) := by simp [entsFrom]
                  rw [e7, HZJ.out, hE] at h7
                  cases h7.1))
                clear hE hsl ew
                rw [if_neg (by decide)]
                replace S := S.boxAt c.size (w5.heap.size) rfl #[.int .i64 0, .int .i64 0, .int .i64 0, .int .i64 0, .int .i64 0, .int .i64 0, .int .i64 0, .int .i64 0, .int .i64 0] 72
                replace c := c.alloc c.size (.cells #[.int .i64 0, .int .i64 0, .int .i64 0, .int .i64 0, .int .i64 0, .int .i64 0, .int .i64 0, .int .i64 0, .int .i64 0] 72)
                have f6 : (w5.alloc (.cells #[.int .i64 0, .int .i64 0, .int .i64 0, .int .i64 0, .int .i64 0, .int .i64 0, .int .i64 0, .int .i64 0, .int .i64 0] 72)).cell? ⟨w.heap.size, 0, none⟩ = some (.int .i64 0) := (S.at_ 3 rfl).cell 0
                have f7 := (S.at_ 3 rfl).free 0
                have f8 : (w5.alloc (.cells #[.int .i64 0, .int .i64 0, .int .i64 0, .int .i64 0, .int .i64 0, .int .i64 0, .int .i64 0, .int .i64 0, .int .i64 0] 72)).cell? ⟨w.heap.size, 1, none⟩ = some (.int .i64 0) := (S.at_ 3 rfl).cell 1
                have f9 := (S.at_ 3 rfl).free 1
                have f10 : (w5.alloc (.cells #[.int .i64 0, .int .i64 0, .int .i64 0, .int .i64 0, .int .i64 0, .int .i64 0, .int .i64 0, .int .i64 0, .int .i64 0] 72)).cell? ⟨w.heap.size, 2, none⟩ = some (.slice none 0 0) := (S.at_ 3 rfl).cell 2
                have f11 := (S.at_ 3 rfl).free 2
                replace S := S.put 3 rfl 0 (.int .i64 0)
                replace c := c.setCell (p := ⟨w.heap.size, 0, none⟩) (by show w.heap.size ≤ w.heap.size; omega) (.int .i64 0)
                replace S := S.put 3 rfl 1 (.int .i64 0)
                replace c := c.setCell (p := ⟨w.heap.size, 1, none⟩) (by show w.heap.size ≤ w.heap.size; omega) (.int .i64 0)
                replace S := S.put 3 rfl 2 (.slice none 0 0)
                replace c := c.setCell (p := ⟨w.heap.size, 2, none⟩) (by show w.heap.size ≤ w.heap.size; omega) (.slice none 0 0)
                have r0 := Lib.hid (show ((((w5.alloc (.cells #[.int .i64 0, .int .i64 0, .int .i64 0, .int .i64 0, .int .i64 0, .int .i64 0, .int .i64 0, .int .i64 0, .int .i64 0] 72)).setCell ⟨w.heap.size, 0, none⟩ (.int .i64 0)).setCell ⟨w.heap.size, 1, none⟩ (.int .i64 0)).setCell ⟨w.heap.size, 2, none⟩ (.slice none 0 0)).cell? ⟨w.heap.size, 0, none⟩ = some (.int .i64 0) from (S.at_ 3 rfl).cell 0)
                have r1 := Lib.hid (show ((((w5.alloc (.cells #[.int .i64 0, .int .i64 0, .int .i64 0, .int .i64 0, .int .i64 0, .int .i64 0, .int .i64 0, .int .i64 0, .int .i64 0] 72)).setCell ⟨w.heap.size, 0, none⟩ (.int .i64 0)).setCell ⟨w.heap.size, 1, none⟩ (.int .i64 0)).setCell ⟨w.heap.size, 2, none⟩ (.slice none 0 0)).cell? ⟨w.heap.size, 1, none⟩ = some (.int .i64 0) from (S.at_ 3 rfl).cell 1)
                have r2 := Lib.hid (show ((((w5.alloc (.cells #[.int .i64 0, .int .i64 0, .int .i64 0, .int .i64 0, .int .i64 0, .int .i64 0, .int .i64 0, .int .i64 0, .int .i64 0] 72)).setCell ⟨w.heap.size, 0, none⟩ (.int .i64 0)).setCell ⟨w.heap.size, 1, none⟩ (.int .i64 0)).setCell ⟨w.heap.size, 2, none⟩ (.slice none 0 0)).cell? ⟨w.heap.size, 2, none⟩ = some (.slice none 0 0) from (S.at_ 3 rfl).cell 2)
                have CC := Lib.hid c
                clear S c
                go_wp2
                exact bodyPost_ret (v := .tuple #[.agg #[.int .i64 0, .int .i64 0, .slice none 0 0], .bool false]) (by simp [results, Try.results31, go_sem, r0.out, r1.out, r2.out]) rfl ⟨0, 0, none, 0, 0, by rw [HD.out] <;> rfl, by rw [HD.out]; exact Has.int (Has.int (has_nil_entsS _ _)), CC.out⟩
              case true =>
                have HE := Lib.hid hE
                clear hE hsl
                rw [if_pos rfl]
                have HN := Lib.hid (show entsFrom (d0.drop 3) (j + 1) = entsFrom (d0.drop 3) j ++ [⟨z0, z1, z2, z3, z4, z5, z6, z7, z8⟩] by rw [entsFrom_succ, HZJ.out])
                replace S := S.boxAt c.size (w5.heap.size) rfl #[.int .i64 z0, .int .i64 z1, .int .i64 z2, .int .i64 z3, .int .i64 z4, .int .i64 z5, .int .i64 z6, .int .i64 z7, .int .i64 z8] 72
                replace c := c.alloc c.size (.cells #[.int .i64 z0, .int .i64 z1, .int .i64 z2, .int .i64 z3, .int .i64 z4, .int .i64 z5, .int .i64 z6, .int .i64 z7, .int .i64 z8] 72)
                have f6 : (w5.alloc (.cells #[.int .i64 z0, .int .i64 z1, .int .i64 z2, .int .i64 z3, .int .i64 z4, .int .i64 z5, .int .i64 z6, .int .i64 z7, .int .i64 z8] 72)).cell? ⟨w5.heap.size, 0, none⟩ = some (.int .i64 z0) := (S.at_ 0 rfl).cell 0
                have f7 : (w5.alloc (.cells #[.int .i64 z0, .int .i64 z1, .int .i64 z2, .int .i64 z3, .int .i64 z4, .int .i64 z5, .int .i64 z6, .int .i64 z7, .int .i64 z8] 72)).cell? ⟨w5.heap.size, 1, none⟩ = some (.int .i64 z1) := (S.at_ 0 rfl).cell 1
                have f8 : (w5.alloc (.cells #[.int .i64 z0, .int .i64 z1, .int .i64 z2, .int .i64 z3, .int .i64 z4, .int .i64 z5, .int .i64 z6, .int .i64 z7, .int .i64 z8] 72)).cell? ⟨w5.heap.size, 2, none⟩ = some (.int .i64 z2) := (S.at_ 0 rfl).cell 2
                have f9 : (w5.alloc (.cells #[.int .i64 z0, .int .i64 z1, .int .i64 z2, .int .i64 z3, .int .i64 z4, .int .i64 z5, .int .i64 z6, .int .i64 z7, .int .i64 z8] 72)).cell? ⟨w5.heap.size, 3, none⟩ = some (.int .i64 z3) := (S.at_ 0 rfl).cell 3
                have f10 : (w5.alloc (.cells #[.int .i64 z0, .int .i64 z1, .int .i64 z2, .int .i64 z3, .int .i64 z4, .int .i64 z5, .int .i64 z6, .int .i64 z7, .int .i64 z8] 72)).cell? ⟨w5.heap.size, 4, none⟩ = some (.int .i64 z4) := (S.at_ 0 rfl).cell 4
                have f11 : (w5.alloc (.cells #[.int .i64 z0, .int .i64 z1, .int .i64 z2, .int .i64 z3, .int .i64 z4, .int .i64 z5, .int .i64 z6, .int .i64 z7, .int .i64 z8] 72)).cell? ⟨w5.heap.size, 5, none⟩ = some (.int .i64 z5) := (S.at_ 0 rfl).cell 5
                have f12 : (w5.alloc (.cells #[.int .i64 z0, .int .i64 z1, .int .i64 z2, .int .i64 z3, .int .i64 z4, .int .i64 z5, .int .i64 z6, .int .i64 z7, .int .i64 z8] 72)).cell? ⟨w5.heap.size, 6, none⟩ = some (.int .i64 z6) := (S.at_ 0 rfl).cell 6
                have f13 : (w5.alloc (.cells #[.int .i64 z0, .int .i64 z1, .int .i64 z2, .int .i64 z3, .int .i64 z4, .int .i64 z5, .int .i64 z6, .int .i64 z7, .int .i64 z8] 72)).cell? ⟨w5.heap.size, 7, none⟩ = some (.int .i64 z7) := (S.at_ 0 rfl).cell 7
                have f14 : (w5.alloc (.cells #[.int .i64 z0, .int .i64 z1, .int .i64 z2, .int .i64 z3, .int .i64 z4, .int .i64 z5, .int .i64 z6, .int .i64 z7, .int .i64 z8] 72)).cell? ⟨w5.heap.size, 8, none⟩ = some (.int .i64 z8) := (S.at_ 0 rfl).cell 8
                have f15 : (w5.alloc (.cells #[.int .i64 z0, .int .i64 z1, .int .i64 z2, .int .i64 z3, .int .i64 z4, .int .i64 z5, .int .i64 z6, .int .i64 z7, .int .i64 z8] 72)).cell? ⟨qf, 0, none⟩ = some (.int .i64 x0) := (S.at_ 2 rfl).cell 0
                have f16 : (w5.alloc (.cells #[.int .i64 z0, .int .i64 z1, .int .i64 z2, .int .i64 z3, .int .i64 z4, .int .i64 z5, .int .i64 z6, .int .i64 z7, .int .i64 z8] 72)).cell? ⟨qf, 1, none⟩ = some (.int .i64 x1) := (S.at_ 2 rfl).cell 1
                have f17 : (w5.alloc (.cells #[.int .i64 z0, .int .i64 z1, .int .i64 z2, .int .i64 z3, .int .i64 z4, .int .i64 z5, .int .i64 z6, .int .i64 z7, .int .i64 z8] 72)).cell? ⟨qf, 2, none⟩ = some (.slice G m gc) := (S.at_ 2 rfl).cell 2
                have hqe := c.size
                skip
                replace S := S.boxAt c.size (w5.heap.size + 1) (by simp) #[.int .i64 z0, .int .i64 z1, .int .i64 z2, .int .i64 z3, .int .i64 z4, .int .i64 z5, .int .i64 z6, .int .i64 z7, .int .i64 z8] 72
                replace c := c.alloc c.size (.cells #[.int .i64 z0, .int .i64 z1, .int .i64 z2, .int .i64 z3, .int .i64 z4, .int .i64 z5, .int .i64 z6, .int .i64 z7, .int .i64 z8] 72)
                have HC : ∀ i, i < 9 → ((w5.alloc (.cells #[.int .i64 z0, .int .i64 z1, .int .i64 z2, .int .i64 z3, .int .i64 z4, .int .i64 z5, .int .i64 z6, .int .i64 z7, .int .i64 z8] 72)).alloc (.cells #[.int .i64 z0, .int .i64 z1, .int .i64 z2, .int .i64 z3, .int .i64 z4, .int .i64 z5, .int .i64 z6, .int .i64 z7, .int .i64 z8] 72)).cell? ⟨w5.heap.size + 1, i, none⟩ = [Value.int .i64 z0, Value.int .i64 z1, Value.int .i64 z2, Value.int .i64 z3, Value.int .i64 z4, Value.int .i64 z5, Value.int .i64 z6, Value.int .i64 z7, Value.int .i64 z8][i]? := fun i hi => by
                  have h1 := (S.at_ 0 rfl).cell i
                  rw [h1]
                  simp
                replace S := (S.tail).own0 (ds := entC ⟨z0, z1, z2, z3, z4, z5, z6, z7, z8⟩) (vs := [.int .i64 z0, .int .i64 z1, .int .i64 z2, .int .i64 z3, .int .i64 z4, .int .i64 z5, .int .i64 z6, .int .i64 z7, .int .i64 z8]) (.int (.int (.int (.int (.int (.int (.int (.int (.int (.nil))))))))))
                replace S := S.pick 2 rfl
                have hgc := Lib.hid c
                go_wp2_with (first
                  | (at_builtin
                     refine wpList_append_elem (l := entsFrom (d0.drop 3) j) (y := (⟨z0, z1, z2, z3, z4, z5, z6, z7, z8⟩ : EntM)) rfl (.tmp 55) (.tmp 57) (by rfl) Try.underlying36 infoEntry (by rfl) (by decide) entC_len (by rfl) (S.own_ 0 rfl) (S.nodup_own 0 rfl) (by rfl) HC (S.own_ 1 rfl) (S.nodup_own 1 rfl) S.apart (by omega) (by omega) ?_
                     intro A3 c3 w9 fp3 o3 n3 s3 t3
                     have S3 := S.merge t3 o3 n3 s3 hgc.out.size
                     have C3 := hgc.out.trans (S.below 0 rfl t3 hgc.out.size)
                     have fq : w9.cell? ⟨qf, 2, none⟩ = some (.slice G m gc) := (S3.at_ 2 rfl).cell 2
                     have fqf := (S3.at_ 2 rfl).free 2
                     clear S c o3 n3 s3 t3 HC hgc f6 f7 f8 f9 f10 f11 f12 f13 f14 f15 f16 f17))
                have S := S3
                have c := C3
                clear S3 C3 fq fqf
                replace S := S.sub (.cons_cons _ (.cons _ (.cons_cons _ (.cons_cons _ (List.nil_sublist _)))))
                replace c := c.setCell (p := ⟨qf, 2, none⟩) (S.base_le 1 rfl) (.slice A3 (m + 1) c3)
                replace S := S.put 1 rfl 2 (.slice A3 (m + 1) c3)
                rw [← HN.out] at S
                have SS := Lib.hid S
                have CC := Lib.hid c
                have HA2 := Lib.hid (show ∀ i, i < j + 1 → entB (ofEnt ((d0.drop 3).drop (9 * i))) = true from fun i hi => by
                  rcases Nat.lt_or_ge i j with h1 | h1
                  · exact HALL.out i h1
                  · obtain rfl : i = j := by omega
                    rw [HZJ.out]
                    exact HE.out)
                clear S c
                go_roundw
                case rel => exact ⟨j + 1, p + 9, A3, m + 1, c3, _, by have := HJK.out; omega, by have := HP.out; omega, by go_num, by have := HM.out; omega, HA2.out, SS.out, CC.out⟩
                case measure => (have := HLT.out; simp [intOf] <;> omega)


end Go.Proofs.Ytafbjmhjjbfaeaa
