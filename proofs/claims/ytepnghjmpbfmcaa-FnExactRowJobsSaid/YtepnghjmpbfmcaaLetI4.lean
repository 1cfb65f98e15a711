/-
  Chapter 11: the lengths of messages, and messages read from rows, of the program (by program, wip/gen/genleti4.py).
-/
import Derived.Test.YtepnghjmpbfmcaaLetIM
import Derived.Test.YtepnghjmpbfmcaaLetI1
import Derived.Test.YtepnghjmpbfmcaaEntI2
import Derived.Test.YtepnghjmpbfmcaaEntL
import Derived.Test.YtepnghjmpbfmcaaMove
import Derived.Test.YtepnghjmpbfmcaaCls
import Derived.RegionTactic
import Derived.BigQuiet
import Derived.Laws.EntriesVeiled
namespace Go.Proofs.Ytepnghjmpbfmcaa
set_option maxRecDepth 100000
open Go.RowKit

set_option linter.unusedVariables false
theorem IRow.dropL {w : World} {B b off n m : Nat} {xs : List Int} (h : IRow w B (some ⟨b, off, none⟩) n xs) (hm : m < n) : IRow w B (some ⟨b, off + m, none⟩) (n - m) (xs.drop m) := by
  refine ⟨by rw [List.length_drop, h.1], fun _ => ?_⟩
  obtain ⟨b', off', e, hb, hc⟩ := h.2 (by omega)
  injection e with e
  injection e with e1 e2
  subst e1 e2
  refine ⟨b, off + m, rfl, hb, fun j hj => ?_⟩
  have := hc (m + j) (by omega)
  rw [Nat.add_assoc, this]
  simp [List.getD, List.getElem?_drop]
theorem IRow.takeL {w : World} {B : Nat} {A : Option Addr} {n m : Nat} {xs : List Int} (h : IRow w B A n xs) (hm : m ≤ n) : IRow w B A m (xs.take m) := by
  refine ⟨by rw [List.length_take, h.1]; omega, fun h0 => ?_⟩
  obtain ⟨b, off, rfl, hb, hc⟩ := h.2 (by omega)
  refine ⟨b, off, rfl, hb, fun j hj => ?_⟩
  rw [hc j (by omega)]
  simp [List.getD, hj]
theorem IRow.emptyL {w : World} {B : Nat} {A : Option Addr} {xs : List Int} (h : xs.length = 0) : IRow w B A 0 xs := ⟨h, fun h9 => absurd h9 (by omega)⟩
theorem iIsLen_ask (m : Int) (w : World) : Calls Try.prog 59 #[.int .i64 1, .int .i64 m] w fun e w' => e = .returned (.bool (decide (m = 7))) ∧ w = w' := by
  go_enter Try.func59, Try.ntmps59
  go_wp2
  go_ret
  exact ⟨ret_bool (by first | rfl | simp), rfl⟩
theorem iIsLen_ack (m : Int) (w : World) : Calls Try.prog 59 #[.int .i64 2, .int .i64 m] w fun e w' => e = .returned (.bool (decide (m = 4))) ∧ w = w' := by
  go_enter Try.func59, Try.ntmps59
  go_wp2
  go_ret
  exact ⟨ret_bool (by first | rfl | simp), rfl⟩
theorem iIsLen_fetch (m : Int) (w : World) : Calls Try.prog 59 #[.int .i64 3, .int .i64 m] w fun e w' => e = .returned (.bool (decide (m = 1))) ∧ w = w' := by
  go_enter Try.func59, Try.ntmps59
  go_wp2
  go_ret
  exact ⟨ret_bool (by first | rfl | simp), rfl⟩
theorem iIsLen_feed (m : Int) (hm : -1 ≤ m ∧ m ≤ 10000000000000) (w : World) : Calls Try.prog 59 #[.int .i64 4, .int .i64 m] w fun e w' => e = .returned (.bool (decide (2 ≤ m) && decide ((m - 2) % 9 = 0))) ∧ w = w' := by
  have ew : IntKind.i64.wrap (m - 2) = m - 2 := by rw [IntKind.wrap_i64]; omega
  by_cases h : 2 ≤ m
  · have g1 : decide (2 ≤ m) = true := decide_eq_true h
    have g2 : decide (m ≥ 2) = true := decide_eq_true h
    go_enter Try.func59, Try.ntmps59
    go_wp2
    go_ret
    exact ⟨ret_bool (by first | rfl | (rw [g1]; rfl) | simp [h]), rfl⟩
  · have g1 : decide (2 ≤ m) = false := decide_eq_false h
    have g2 : decide (m ≥ 2) = false := decide_eq_false h
    go_enter Try.func59, Try.ntmps59
    go_wp2
    go_ret
    exact ⟨ret_bool (by first | rfl | (rw [g1]; rfl) | simp [h]), rfl⟩
theorem iIsLen_trim (m : Int) (w : World) : Calls Try.prog 59 #[.int .i64 5, .int .i64 m] w fun e w' => e = .returned (.bool (decide (m = 1))) ∧ w = w' := by
  go_enter Try.func59, Try.ntmps59
  go_wp2
  go_ret
  exact ⟨ret_bool (by first | rfl | simp), rfl⟩
theorem iIsLen_read (m : Int) (w : World) : Calls Try.prog 59 #[.int .i64 6, .int .i64 m] w fun e w' => e = .returned (.bool (decide (m = 4))) ∧ w = w' := by
  go_enter Try.func59, Try.ntmps59
  go_wp2
  go_ret
  exact ⟨ret_bool (by first | rfl | simp), rfl⟩
theorem iIsLen_value (m : Int) (w : World) : Calls Try.prog 59 #[.int .i64 7, .int .i64 m] w fun e w' => e = .returned (.bool (decide (m = 5))) ∧ w = w' := by
  go_enter Try.func59, Try.ntmps59
  go_wp2
  go_ret
  exact ⟨ret_bool (by first | rfl | simp), rfl⟩
theorem iIsLen_poll (m : Int) (w : World) : Calls Try.prog 59 #[.int .i64 8, .int .i64 m] w fun e w' => e = .returned (.bool (decide (m = 1))) ∧ w = w' := by
  go_enter Try.func59, Try.ntmps59
  go_wp2
  go_ret
  exact ⟨ret_bool (by first | rfl | simp), rfl⟩
theorem iIsLen_jobs (m : Int) (hm : -1 ≤ m ∧ m ≤ 10000000000000) (w : World) : Calls Try.prog 59 #[.int .i64 9, .int .i64 m] w fun e w' => e = .returned (.bool (decide (5 ≤ m) && decide ((m - 5) % 2 = 0))) ∧ w = w' := by
  have ew : IntKind.i64.wrap (m - 5) = m - 5 := by rw [IntKind.wrap_i64]; omega
  by_cases h : 5 ≤ m
  · have g1 : decide (5 ≤ m) = true := decide_eq_true h
    have g2 : decide (m ≥ 5) = true := decide_eq_true h
    go_enter Try.func59, Try.ntmps59
    go_wp2
    go_ret
    exact ⟨ret_bool (by first | rfl | (rw [g1]; rfl) | simp [h]), rfl⟩
  · have g1 : decide (5 ≤ m) = false := decide_eq_false h
    have g2 : decide (m ≥ 5) = false := decide_eq_false h
    go_enter Try.func59, Try.ntmps59
    go_wp2
    go_ret
    exact ⟨ret_bool (by first | rfl | (rw [g1]; rfl) | simp [h]), rfl⟩
theorem iIsLen_none (m : Int) (w : World) : Calls Try.prog 59 #[.int .i64 0, .int .i64 m] w fun e w' => e = .returned (.bool false) ∧ w = w' := by
  go_enter Try.func59, Try.ntmps59
  go_wp2
  go_ret
  exact ⟨rfl, rfl⟩

set_option maxHeartbeats 6400000 in
theorem iLetOf_ask (b off cc B : Nat) (d : List Int) (w : World) (h : IRow w B (some ⟨b, off, none⟩) 7 d) (hB : B ≤ w.heap.size) (hcc : 7 ≤ cc) :
    Calls Try.prog 60 #[.int .i64 1, .slice (some ⟨b, off, none⟩) 7 cc] w fun e w' => e = .returned (.iface 45 (.agg #[.int .i64 (d.getD 0 0), .int .i64 (d.getD 1 0), .int .i64 (d.getD 2 0), .int .i64 (d.getD 3 0), .int .i64 (d.getD 4 0), .int .i64 (d.getD 5 0), .int .i64 (d.getD 6 0)])) ∧ Below w.heap.size w w' := by
  obtain ⟨b', off', e, hb, hc⟩ := h.2 (by omega)
  injection e with e
  injection e with e1 e2
  subst e1 e2
  obtain ⟨x0, hx0⟩ : ∃ x, x = d.getD 0 0 := ⟨_, rfl⟩
  obtain ⟨x1, hx1⟩ : ∃ x, x = d.getD 1 0 := ⟨_, rfl⟩
  obtain ⟨x2, hx2⟩ : ∃ x, x = d.getD 2 0 := ⟨_, rfl⟩
  obtain ⟨x3, hx3⟩ : ∃ x, x = d.getD 3 0 := ⟨_, rfl⟩
  obtain ⟨x4, hx4⟩ : ∃ x, x = d.getD 4 0 := ⟨_, rfl⟩
  obtain ⟨x5, hx5⟩ : ∃ x, x = d.getD 5 0 := ⟨_, rfl⟩
  obtain ⟨x6, hx6⟩ : ∃ x, x = d.getD 6 0 := ⟨_, rfl⟩
  have k0 := hc 0 (by omega)
  rw [← hx0] at k0
  have k1 := hc 1 (by omega)
  rw [← hx1] at k1
  rw [Nat.add_zero] at k0
  rw [← hx0, ← hx1, ← hx2, ← hx3, ← hx4, ← hx5, ← hx6]
  have HP := Lib.hid (show ofOp (d.drop 2) = ⟨x2, x3, x4, x5, x6⟩ by rw [hx2, hx3, hx4, hx5, hx6]; unfold ofOp; simp only [getD_drop])
  have hdr := h.dropL (m := 2) (by omega)
  have hc1 : ¬ (cc = 2) := by omega
  have hc4 : (2 : Int) ≤ 7 := by decide
  clear h
  clear hc hx0 hx1 hx2 hx3 hx4 hx5 hx6
  go_enter Try.func60, Try.ntmps60
  go_wp2_with fail
  refine wp_region_cls (fun v => v.cell? ⟨b, off, none⟩ = some (.int .i64 x0) ∧ v.cell? ⟨b, off + 1, none⟩ = some (.int .i64 x1) ∧ IRow v B (some ⟨b, off + 2, none⟩) 5 (d.drop 2) ∧ B ≤ v.heap.size) (by kernel_rfl) (by kernel_rfl) (fun v hv => ⟨(hv.cell (p := ⟨b, off, none⟩) (lt_of_cell k0)).trans k0, (hv.cell (p := ⟨b, off + 1, none⟩) (lt_of_cell k1)).trans k1, hdr.below (hv.mono hB), Nat.le_trans hB hv.size⟩) ?_
  intro CL HF HC
  repeat
    (first
       | go_big_quiet_skip
       | (go_big_quiet_want
          go_big_quiet_op
          first
            | go_big_quiet_on
            | (apply Exists.intro
               refine ⟨fun v hv => ?_, ?_⟩
               · obtain ⟨a0, a1, a2, a3⟩ := HF v hv
                 first
                   | (go_at_call 67; exact Calls.cls HC hv (iOpOf_any b (off + 2) (cc - 2) B x2 x3 x4 x5 x6 (d.drop 2) HP.out v a2 a3) rfl)
                   | exact rfl
                   | (go_simp; exact rfl)
                   | (go_simp; exact ⟨rfl, hv⟩)
               go_big_quiet_on)))
  refine wpQuiet_nil ?_
  intro w3 b3
  have CC := Lib.hid b3
  clear b3
  go_wp2
  go_ret
  exact ⟨rfl, CC.out⟩

set_option maxHeartbeats 6400000 in
theorem iLetOf_ack (b off cc B : Nat) (d : List Int) (w : World) (h : IRow w B (some ⟨b, off, none⟩) 4 d) (hB : B ≤ w.heap.size) (hcc : 4 ≤ cc) :
    Calls Try.prog 60 #[.int .i64 2, .slice (some ⟨b, off, none⟩) 4 cc] w fun e w' => e = .returned (.iface 49 (.agg #[.int .i64 (d.getD 0 0), .int .i64 (d.getD 1 0), .int .i64 (d.getD 2 0), .int .i64 (d.getD 3 0)])) ∧ Below w.heap.size w w' := by
  obtain ⟨b', off', e, hb, hc⟩ := h.2 (by omega)
  injection e with e
  injection e with e1 e2
  subst e1 e2
  obtain ⟨x0, hx0⟩ : ∃ x, x = d.getD 0 0 := ⟨_, rfl⟩
  obtain ⟨x1, hx1⟩ : ∃ x, x = d.getD 1 0 := ⟨_, rfl⟩
  obtain ⟨x2, hx2⟩ : ∃ x, x = d.getD 2 0 := ⟨_, rfl⟩
  obtain ⟨x3, hx3⟩ : ∃ x, x = d.getD 3 0 := ⟨_, rfl⟩
  have k0 := hc 0 (by omega)
  rw [← hx0] at k0
  have k1 := hc 1 (by omega)
  rw [← hx1] at k1
  have k2 := hc 2 (by omega)
  rw [← hx2] at k2
  have k3 := hc 3 (by omega)
  rw [← hx3] at k3
  rw [Nat.add_zero] at k0
  rw [← hx0, ← hx1, ← hx2, ← hx3]
  clear h
  clear hc hx0 hx1 hx2 hx3
  go_enter Try.func60, Try.ntmps60
  go_wp2_with fail
  refine wp_region_cls (fun v => v.cell? ⟨b, off, none⟩ = some (.int .i64 x0) ∧ v.cell? ⟨b, off + 1, none⟩ = some (.int .i64 x1) ∧ v.cell? ⟨b, off + 2, none⟩ = some (.int .i64 x2) ∧ v.cell? ⟨b, off + 3, none⟩ = some (.int .i64 x3)) (by kernel_rfl) (by kernel_rfl) (fun v hv => ⟨(hv.cell (p := ⟨b, off, none⟩) (lt_of_cell k0)).trans k0, (hv.cell (p := ⟨b, off + 1, none⟩) (lt_of_cell k1)).trans k1, (hv.cell (p := ⟨b, off + 2, none⟩) (lt_of_cell k2)).trans k2, (hv.cell (p := ⟨b, off + 3, none⟩) (lt_of_cell k3)).trans k3⟩) ?_
  intro CL HF HC
  repeat
    (first
       | go_big_quiet_skip
       | (go_big_quiet_want
          go_big_quiet_op
          first
            | go_big_quiet_on
            | (apply Exists.intro
               refine ⟨fun v hv => ?_, ?_⟩
               · obtain ⟨a0, a1, a2, a3⟩ := HF v hv
                 first
                   | exact rfl
                   | (go_simp; exact rfl)
                   | (go_simp; exact ⟨rfl, hv⟩)
               go_big_quiet_on)))
  refine wpQuiet_nil ?_
  intro w3 b3
  have CC := Lib.hid b3
  clear b3
  go_wp2
  go_ret
  exact ⟨rfl, CC.out⟩

set_option maxHeartbeats 6400000 in
theorem iLetOf_read (b off cc B : Nat) (d : List Int) (w : World) (h : IRow w B (some ⟨b, off, none⟩) 4 d) (hB : B ≤ w.heap.size) (hcc : 4 ≤ cc) :
    Calls Try.prog 60 #[.int .i64 6, .slice (some ⟨b, off, none⟩) 4 cc] w fun e w' => e = .returned (.iface 60 (.agg #[.int .i64 (d.getD 0 0), .int .i64 (d.getD 1 0), .int .i64 (d.getD 2 0), .int .i64 (d.getD 3 0)])) ∧ Below w.heap.size w w' := by
  obtain ⟨b', off', e, hb, hc⟩ := h.2 (by omega)
  injection e with e
  injection e with e1 e2
  subst e1 e2
  obtain ⟨x0, hx0⟩ : ∃ x, x = d.getD 0 0 := ⟨_, rfl⟩
  obtain ⟨x1, hx1⟩ : ∃ x, x = d.getD 1 0 := ⟨_, rfl⟩
  obtain ⟨x2, hx2⟩ : ∃ x, x = d.getD 2 0 := ⟨_, rfl⟩
  obtain ⟨x3, hx3⟩ : ∃ x, x = d.getD 3 0 := ⟨_, rfl⟩
  have k0 := hc 0 (by omega)
  rw [← hx0] at k0
  have k1 := hc 1 (by omega)
  rw [← hx1] at k1
  have k2 := hc 2 (by omega)
  rw [← hx2] at k2
  have k3 := hc 3 (by omega)
  rw [← hx3] at k3
  rw [Nat.add_zero] at k0
  rw [← hx0, ← hx1, ← hx2, ← hx3]
  clear h
  clear hc hx0 hx1 hx2 hx3
  go_enter Try.func60, Try.ntmps60
  go_wp2_with fail
  refine wp_region_cls (fun v => v.cell? ⟨b, off, none⟩ = some (.int .i64 x0) ∧ v.cell? ⟨b, off + 1, none⟩ = some (.int .i64 x1) ∧ v.cell? ⟨b, off + 2, none⟩ = some (.int .i64 x2) ∧ v.cell? ⟨b, off + 3, none⟩ = some (.int .i64 x3)) (by kernel_rfl) (by kernel_rfl) (fun v hv => ⟨(hv.cell (p := ⟨b, off, none⟩) (lt_of_cell k0)).trans k0, (hv.cell (p := ⟨b, off + 1, none⟩) (lt_of_cell k1)).trans k1, (hv.cell (p := ⟨b, off + 2, none⟩) (lt_of_cell k2)).trans k2, (hv.cell (p := ⟨b, off + 3, none⟩) (lt_of_cell k3)).trans k3⟩) ?_
  intro CL HF HC
  repeat
    (first
       | go_big_quiet_skip
       | (go_big_quiet_want
          go_big_quiet_op
          first
            | go_big_quiet_on
            | (apply Exists.intro
               refine ⟨fun v hv => ?_, ?_⟩
               · obtain ⟨a0, a1, a2, a3⟩ := HF v hv
                 first
                   | exact rfl
                   | (go_simp; exact rfl)
                   | (go_simp; exact ⟨rfl, hv⟩)
               go_big_quiet_on)))
  refine wpQuiet_nil ?_
  intro w3 b3
  have CC := Lib.hid b3
  clear b3
  go_wp2
  go_ret
  exact ⟨rfl, CC.out⟩

set_option maxHeartbeats 6400000 in
theorem iLetOf_value (b off cc B : Nat) (d : List Int) (w : World) (h : IRow w B (some ⟨b, off, none⟩) 5 d) (hB : B ≤ w.heap.size) (hcc : 5 ≤ cc) :
    Calls Try.prog 60 #[.int .i64 7, .slice (some ⟨b, off, none⟩) 5 cc] w fun e w' => e = .returned (.iface 64 (.agg #[.int .i64 (d.getD 0 0), .int .i64 (d.getD 1 0), .int .i64 (d.getD 2 0), .int .i64 (d.getD 3 0), .int .i64 (d.getD 4 0)])) ∧ Below w.heap.size w w' := by
  obtain ⟨b', off', e, hb, hc⟩ := h.2 (by omega)
  injection e with e
  injection e with e1 e2
  subst e1 e2
  obtain ⟨x0, hx0⟩ : ∃ x, x = d.getD 0 0 := ⟨_, rfl⟩
  obtain ⟨x1, hx1⟩ : ∃ x, x = d.getD 1 0 := ⟨_, rfl⟩
  obtain ⟨x2, hx2⟩ : ∃ x, x = d.getD 2 0 := ⟨_, rfl⟩
  obtain ⟨x3, hx3⟩ : ∃ x, x = d.getD 3 0 := ⟨_, rfl⟩
  obtain ⟨x4, hx4⟩ : ∃ x, x = d.getD 4 0 := ⟨_, rfl⟩
  have k0 := hc 0 (by omega)
  rw [← hx0] at k0
  have k1 := hc 1 (by omega)
  rw [← hx1] at k1
  have k2 := hc 2 (by omega)
  rw [← hx2] at k2
  have k3 := hc 3 (by omega)
  rw [← hx3] at k3
  have k4 := hc 4 (by omega)
  rw [← hx4] at k4
  rw [Nat.add_zero] at k0
  rw [← hx0, ← hx1, ← hx2, ← hx3, ← hx4]
  clear h
  clear hc hx0 hx1 hx2 hx3 hx4
  go_enter Try.func60, Try.ntmps60
  go_wp2_with fail
  refine wp_region_cls (fun v => v.cell? ⟨b, off, none⟩ = some (.int .i64 x0) ∧ v.cell? ⟨b, off + 1, none⟩ = some (.int .i64 x1) ∧ v.cell? ⟨b, off + 2, none⟩ = some (.int .i64 x2) ∧ v.cell? ⟨b, off + 3, none⟩ = some (.int .i64 x3) ∧ v.cell? ⟨b, off + 4, none⟩ = some (.int .i64 x4)) (by kernel_rfl) (by kernel_rfl) (fun v hv => ⟨(hv.cell (p := ⟨b, off, none⟩) (lt_of_cell k0)).trans k0, (hv.cell (p := ⟨b, off + 1, none⟩) (lt_of_cell k1)).trans k1, (hv.cell (p := ⟨b, off + 2, none⟩) (lt_of_cell k2)).trans k2, (hv.cell (p := ⟨b, off + 3, none⟩) (lt_of_cell k3)).trans k3, (hv.cell (p := ⟨b, off + 4, none⟩) (lt_of_cell k4)).trans k4⟩) ?_
  intro CL HF HC
  repeat
    (first
       | go_big_quiet_skip
       | (go_big_quiet_want
          go_big_quiet_op
          first
            | go_big_quiet_on
            | (apply Exists.intro
               refine ⟨fun v hv => ?_, ?_⟩
               · obtain ⟨a0, a1, a2, a3, a4⟩ := HF v hv
                 first
                   | exact rfl
                   | (go_simp; exact rfl)
                   | (go_simp; exact ⟨rfl, hv⟩)
               go_big_quiet_on)))
  refine wpQuiet_nil ?_
  intro w3 b3
  have CC := Lib.hid b3
  clear b3
  go_wp2
  go_ret
  exact ⟨rfl, CC.out⟩

set_option maxHeartbeats 6400000 in
theorem iLetOf_fetch (b off cc B : Nat) (d : List Int) (w : World) (h : IRow w B (some ⟨b, off, none⟩) 1 d) (hB : B ≤ w.heap.size) (hcc : 1 ≤ cc) :
    Calls Try.prog 60 #[.int .i64 3, .slice (some ⟨b, off, none⟩) 1 cc] w fun e w' => e = .returned (.iface 97 (.int .i64 (d.getD 0 0))) ∧ Below w.heap.size w w' := by
  obtain ⟨b', off', e, hb, hc⟩ := h.2 (by omega)
  injection e with e
  injection e with e1 e2
  subst e1 e2
  obtain ⟨x0, hx0⟩ : ∃ x, x = d.getD 0 0 := ⟨_, rfl⟩
  have k0 := hc 0 (by omega)
  rw [← hx0] at k0
  rw [Nat.add_zero] at k0
  rw [← hx0]
  clear h
  clear hc hx0
  go_enter Try.func60, Try.ntmps60
  go_wp2
  go_ret
  exact ⟨rfl, Below.refl _ _⟩

set_option maxHeartbeats 6400000 in
theorem iLetOf_trim (b off cc B : Nat) (d : List Int) (w : World) (h : IRow w B (some ⟨b, off, none⟩) 1 d) (hB : B ≤ w.heap.size) (hcc : 1 ≤ cc) :
    Calls Try.prog 60 #[.int .i64 5, .slice (some ⟨b, off, none⟩) 1 cc] w fun e w' => e = .returned (.iface 99 (.int .i64 (d.getD 0 0))) ∧ Below w.heap.size w w' := by
  obtain ⟨b', off', e, hb, hc⟩ := h.2 (by omega)
  injection e with e
  injection e with e1 e2
  subst e1 e2
  obtain ⟨x0, hx0⟩ : ∃ x, x = d.getD 0 0 := ⟨_, rfl⟩
  have k0 := hc 0 (by omega)
  rw [← hx0] at k0
  rw [Nat.add_zero] at k0
  rw [← hx0]
  clear h
  clear hc hx0
  go_enter Try.func60, Try.ntmps60
  go_wp2
  go_ret
  exact ⟨rfl, Below.refl _ _⟩

set_option maxHeartbeats 6400000 in
theorem iLetOf_poll (b off cc B : Nat) (d : List Int) (w : World) (h : IRow w B (some ⟨b, off, none⟩) 1 d) (hB : B ≤ w.heap.size) (hcc : 1 ≤ cc) :
    Calls Try.prog 60 #[.int .i64 8, .slice (some ⟨b, off, none⟩) 1 cc] w fun e w' => e = .returned (.iface 101 (.int .i64 (d.getD 0 0))) ∧ Below w.heap.size w w' := by
  obtain ⟨b', off', e, hb, hc⟩ := h.2 (by omega)
  injection e with e
  injection e with e1 e2
  subst e1 e2
  obtain ⟨x0, hx0⟩ : ∃ x, x = d.getD 0 0 := ⟨_, rfl⟩
  have k0 := hc 0 (by omega)
  rw [← hx0] at k0
  rw [Nat.add_zero] at k0
  rw [← hx0]
  clear h
  clear hc hx0
  go_enter Try.func60, Try.ntmps60
  go_wp2
  go_ret
  exact ⟨rfl, Below.refl _ _⟩

end Go.Proofs.Ytepnghjmpbfmcaa
