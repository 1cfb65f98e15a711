/-
  Chapter 11: kinds and fields of messages, of the program (by program, wip/gen/genleti2.py).
-/
import Derived.Test.YtepnghjmpbfmcaaLetI1
import Derived.Test.YtepnghjmpbfmcaaEntL
import Derived.Test.YtepnghjmpbfmcaaMove
import Derived.Test.YtepnghjmpbfmcaaLetN
import Derived.RegionTactic
import Derived.BigQuiet
import Derived.Laws.EntriesVeiled
namespace Go.Proofs.Ytepnghjmpbfmcaa
set_option maxRecDepth 100000
open Go.RowKit

theorem iKind_ask (u : Value) (w : World) : Calls Try.prog 63 #[.iface 45 u] w fun e w' => e = .returned (.int .i64 1) ∧ w = w' := by
  have q0 : ∀ w9, (Instr.typeAssert (.iface 45 u) 87 45 true).run Try.prog w9 = .ok (.tuple #[u, .bool true]) w9 := fun _ => by kernel_rfl
  go_enter Try.func63, Try.ntmps63
  go_wp2
  go_ret
  exact ⟨rfl, rfl⟩
theorem iKind_ack (u : Value) (w : World) : Calls Try.prog 63 #[.iface 49 u] w fun e w' => e = .returned (.int .i64 2) ∧ w = w' := by
  have q0 : ∀ w9, (Instr.typeAssert (.iface 49 u) 87 45 true).run Try.prog w9 = .ok (.tuple #[.agg #[.int .i64 0, .int .i64 0, .int .i64 0, .int .i64 0, .int .i64 0, .int .i64 0, .int .i64 0], .bool false]) w9 := fun _ => by kernel_rfl
  have q1 : ∀ w9, (Instr.typeAssert (.iface 49 u) 87 49 true).run Try.prog w9 = .ok (.tuple #[u, .bool true]) w9 := fun _ => by kernel_rfl
  go_enter Try.func63, Try.ntmps63
  go_wp2
  go_ret
  exact ⟨rfl, rfl⟩
theorem iKind_fetch (u : Value) (w : World) : Calls Try.prog 63 #[.iface 97 u] w fun e w' => e = .returned (.int .i64 3) ∧ w = w' := by
  have q0 : ∀ w9, (Instr.typeAssert (.iface 97 u) 87 45 true).run Try.prog w9 = .ok (.tuple #[.agg #[.int .i64 0, .int .i64 0, .int .i64 0, .int .i64 0, .int .i64 0, .int .i64 0, .int .i64 0], .bool false]) w9 := fun _ => by kernel_rfl
  have q1 : ∀ w9, (Instr.typeAssert (.iface 97 u) 87 49 true).run Try.prog w9 = .ok (.tuple #[.agg #[.int .i64 0, .int .i64 0, .int .i64 0, .int .i64 0], .bool false]) w9 := fun _ => by kernel_rfl
  have q2 : ∀ w9, (Instr.typeAssert (.iface 97 u) 87 97 true).run Try.prog w9 = .ok (.tuple #[u, .bool true]) w9 := fun _ => by kernel_rfl
  go_enter Try.func63, Try.ntmps63
  go_wp2
  go_ret
  exact ⟨rfl, rfl⟩
theorem iKind_feed (u : Value) (w : World) : Calls Try.prog 63 #[.iface 56 u] w fun e w' => e = .returned (.int .i64 4) ∧ w = w' := by
  have q0 : ∀ w9, (Instr.typeAssert (.iface 56 u) 87 45 true).run Try.prog w9 = .ok (.tuple #[.agg #[.int .i64 0, .int .i64 0, .int .i64 0, .int .i64 0, .int .i64 0, .int .i64 0, .int .i64 0], .bool false]) w9 := fun _ => by kernel_rfl
  have q1 : ∀ w9, (Instr.typeAssert (.iface 56 u) 87 49 true).run Try.prog w9 = .ok (.tuple #[.agg #[.int .i64 0, .int .i64 0, .int .i64 0, .int .i64 0], .bool false]) w9 := fun _ => by kernel_rfl
  have q2 : ∀ w9, (Instr.typeAssert (.iface 56 u) 87 97 true).run Try.prog w9 = .ok (.tuple #[.int .i64 0, .bool false]) w9 := fun _ => by kernel_rfl
  have q3 : ∀ w9, (Instr.typeAssert (.iface 56 u) 87 56 true).run Try.prog w9 = .ok (.tuple #[u, .bool true]) w9 := fun _ => by kernel_rfl
  go_enter Try.func63, Try.ntmps63
  go_wp2
  go_ret
  exact ⟨rfl, rfl⟩
theorem iKind_trim (u : Value) (w : World) : Calls Try.prog 63 #[.iface 99 u] w fun e w' => e = .returned (.int .i64 5) ∧ w = w' := by
  have q0 : ∀ w9, (Instr.typeAssert (.iface 99 u) 87 45 true).run Try.prog w9 = .ok (.tuple #[.agg #[.int .i64 0, .int .i64 0, .int .i64 0, .int .i64 0, .int .i64 0, .int .i64 0, .int .i64 0], .bool false]) w9 := fun _ => by kernel_rfl
  have q1 : ∀ w9, (Instr.typeAssert (.iface 99 u) 87 49 true).run Try.prog w9 = .ok (.tuple #[.agg #[.int .i64 0, .int .i64 0, .int .i64 0, .int .i64 0], .bool false]) w9 := fun _ => by kernel_rfl
  have q2 : ∀ w9, (Instr.typeAssert (.iface 99 u) 87 97 true).run Try.prog w9 = .ok (.tuple #[.int .i64 0, .bool false]) w9 := fun _ => by kernel_rfl
  have q3 : ∀ w9, (Instr.typeAssert (.iface 99 u) 87 56 true).run Try.prog w9 = .ok (.tuple #[.agg #[.int .i64 0, .int .i64 0, .slice none 0 0], .bool false]) w9 := fun _ => by kernel_rfl
  have q4 : ∀ w9, (Instr.typeAssert (.iface 99 u) 87 99 true).run Try.prog w9 = .ok (.tuple #[u, .bool true]) w9 := fun _ => by kernel_rfl
  go_enter Try.func63, Try.ntmps63
  go_wp2
  go_ret
  exact ⟨rfl, rfl⟩
theorem iKind_read (u : Value) (w : World) : Calls Try.prog 63 #[.iface 60 u] w fun e w' => e = .returned (.int .i64 6) ∧ w = w' := by
  have q0 : ∀ w9, (Instr.typeAssert (.iface 60 u) 87 45 true).run Try.prog w9 = .ok (.tuple #[.agg #[.int .i64 0, .int .i64 0, .int .i64 0, .int .i64 0, .int .i64 0, .int .i64 0, .int .i64 0], .bool false]) w9 := fun _ => by kernel_rfl
  have q1 : ∀ w9, (Instr.typeAssert (.iface 60 u) 87 49 true).run Try.prog w9 = .ok (.tuple #[.agg #[.int .i64 0, .int .i64 0, .int .i64 0, .int .i64 0], .bool false]) w9 := fun _ => by kernel_rfl
  have q2 : ∀ w9, (Instr.typeAssert (.iface 60 u) 87 97 true).run Try.prog w9 = .ok (.tuple #[.int .i64 0, .bool false]) w9 := fun _ => by kernel_rfl
  have q3 : ∀ w9, (Instr.typeAssert (.iface 60 u) 87 56 true).run Try.prog w9 = .ok (.tuple #[.agg #[.int .i64 0, .int .i64 0, .slice none 0 0], .bool false]) w9 := fun _ => by kernel_rfl
  have q4 : ∀ w9, (Instr.typeAssert (.iface 60 u) 87 99 true).run Try.prog w9 = .ok (.tuple #[.int .i64 0, .bool false]) w9 := fun _ => by kernel_rfl
  have q5 : ∀ w9, (Instr.typeAssert (.iface 60 u) 87 60 true).run Try.prog w9 = .ok (.tuple #[u, .bool true]) w9 := fun _ => by kernel_rfl
  go_enter Try.func63, Try.ntmps63
  go_wp2
  go_ret
  exact ⟨rfl, rfl⟩
theorem iKind_value (u : Value) (w : World) : Calls Try.prog 63 #[.iface 64 u] w fun e w' => e = .returned (.int .i64 7) ∧ w = w' := by
  have q0 : ∀ w9, (Instr.typeAssert (.iface 64 u) 87 45 true).run Try.prog w9 = .ok (.tuple #[.agg #[.int .i64 0, .int .i64 0, .int .i64 0, .int .i64 0, .int .i64 0, .int .i64 0, .int .i64 0], .bool false]) w9 := fun _ => by kernel_rfl
  have q1 : ∀ w9, (Instr.typeAssert (.iface 64 u) 87 49 true).run Try.prog w9 = .ok (.tuple #[.agg #[.int .i64 0, .int .i64 0, .int .i64 0, .int .i64 0], .bool false]) w9 := fun _ => by kernel_rfl
  have q2 : ∀ w9, (Instr.typeAssert (.iface 64 u) 87 97 true).run Try.prog w9 = .ok (.tuple #[.int .i64 0, .bool false]) w9 := fun _ => by kernel_rfl
  have q3 : ∀ w9, (Instr.typeAssert (.iface 64 u) 87 56 true).run Try.prog w9 = .ok (.tuple #[.agg #[.int .i64 0, .int .i64 0, .slice none 0 0], .bool false]) w9 := fun _ => by kernel_rfl
  have q4 : ∀ w9, (Instr.typeAssert (.iface 64 u) 87 99 true).run Try.prog w9 = .ok (.tuple #[.int .i64 0, .bool false]) w9 := fun _ => by kernel_rfl
  have q5 : ∀ w9, (Instr.typeAssert (.iface 64 u) 87 60 true).run Try.prog w9 = .ok (.tuple #[.agg #[.int .i64 0, .int .i64 0, .int .i64 0, .int .i64 0], .bool false]) w9 := fun _ => by kernel_rfl
  have q6 : ∀ w9, (Instr.typeAssert (.iface 64 u) 87 64 true).run Try.prog w9 = .ok (.tuple #[u, .bool true]) w9 := fun _ => by kernel_rfl
  go_enter Try.func63, Try.ntmps63
  go_wp2
  go_ret
  exact ⟨rfl, rfl⟩
theorem iKind_poll (u : Value) (w : World) : Calls Try.prog 63 #[.iface 101 u] w fun e w' => e = .returned (.int .i64 8) ∧ w = w' := by
  have q0 : ∀ w9, (Instr.typeAssert (.iface 101 u) 87 45 true).run Try.prog w9 = .ok (.tuple #[.agg #[.int .i64 0, .int .i64 0, .int .i64 0, .int .i64 0, .int .i64 0, .int .i64 0, .int .i64 0], .bool false]) w9 := fun _ => by kernel_rfl
  have q1 : ∀ w9, (Instr.typeAssert (.iface 101 u) 87 49 true).run Try.prog w9 = .ok (.tuple #[.agg #[.int .i64 0, .int .i64 0, .int .i64 0, .int .i64 0], .bool false]) w9 := fun _ => by kernel_rfl
  have q2 : ∀ w9, (Instr.typeAssert (.iface 101 u) 87 97 true).run Try.prog w9 = .ok (.tuple #[.int .i64 0, .bool false]) w9 := fun _ => by kernel_rfl
  have q3 : ∀ w9, (Instr.typeAssert (.iface 101 u) 87 56 true).run Try.prog w9 = .ok (.tuple #[.agg #[.int .i64 0, .int .i64 0, .slice none 0 0], .bool false]) w9 := fun _ => by kernel_rfl
  have q4 : ∀ w9, (Instr.typeAssert (.iface 101 u) 87 99 true).run Try.prog w9 = .ok (.tuple #[.int .i64 0, .bool false]) w9 := fun _ => by kernel_rfl
  have q5 : ∀ w9, (Instr.typeAssert (.iface 101 u) 87 60 true).run Try.prog w9 = .ok (.tuple #[.agg #[.int .i64 0, .int .i64 0, .int .i64 0, .int .i64 0], .bool false]) w9 := fun _ => by kernel_rfl
  have q6 : ∀ w9, (Instr.typeAssert (.iface 101 u) 87 64 true).run Try.prog w9 = .ok (.tuple #[.agg #[.int .i64 0, .int .i64 0, .int .i64 0, .int .i64 0, .int .i64 0], .bool false]) w9 := fun _ => by kernel_rfl
  have q7 : ∀ w9, (Instr.typeAssert (.iface 101 u) 87 101 true).run Try.prog w9 = .ok (.tuple #[u, .bool true]) w9 := fun _ => by kernel_rfl
  go_enter Try.func63, Try.ntmps63
  go_wp2
  go_ret
  exact ⟨rfl, rfl⟩
theorem iKind_jobs (u : Value) (w : World) : Calls Try.prog 63 #[.iface 25 u] w fun e w' => e = .returned (.int .i64 9) ∧ w = w' := by
  have q0 : ∀ w9, (Instr.typeAssert (.iface 25 u) 87 45 true).run Try.prog w9 = .ok (.tuple #[.agg #[.int .i64 0, .int .i64 0, .int .i64 0, .int .i64 0, .int .i64 0, .int .i64 0, .int .i64 0], .bool false]) w9 := fun _ => by kernel_rfl
  have q1 : ∀ w9, (Instr.typeAssert (.iface 25 u) 87 49 true).run Try.prog w9 = .ok (.tuple #[.agg #[.int .i64 0, .int .i64 0, .int .i64 0, .int .i64 0], .bool false]) w9 := fun _ => by kernel_rfl
  have q2 : ∀ w9, (Instr.typeAssert (.iface 25 u) 87 97 true).run Try.prog w9 = .ok (.tuple #[.int .i64 0, .bool false]) w9 := fun _ => by kernel_rfl
  have q3 : ∀ w9, (Instr.typeAssert (.iface 25 u) 87 56 true).run Try.prog w9 = .ok (.tuple #[.agg #[.int .i64 0, .int .i64 0, .slice none 0 0], .bool false]) w9 := fun _ => by kernel_rfl
  have q4 : ∀ w9, (Instr.typeAssert (.iface 25 u) 87 99 true).run Try.prog w9 = .ok (.tuple #[.int .i64 0, .bool false]) w9 := fun _ => by kernel_rfl
  have q5 : ∀ w9, (Instr.typeAssert (.iface 25 u) 87 60 true).run Try.prog w9 = .ok (.tuple #[.agg #[.int .i64 0, .int .i64 0, .int .i64 0, .int .i64 0], .bool false]) w9 := fun _ => by kernel_rfl
  have q6 : ∀ w9, (Instr.typeAssert (.iface 25 u) 87 64 true).run Try.prog w9 = .ok (.tuple #[.agg #[.int .i64 0, .int .i64 0, .int .i64 0, .int .i64 0, .int .i64 0], .bool false]) w9 := fun _ => by kernel_rfl
  have q7 : ∀ w9, (Instr.typeAssert (.iface 25 u) 87 101 true).run Try.prog w9 = .ok (.tuple #[.int .i64 0, .bool false]) w9 := fun _ => by kernel_rfl
  have q8 : ∀ w9, (Instr.typeAssert (.iface 25 u) 87 25 true).run Try.prog w9 = .ok (.tuple #[u, .bool true]) w9 := fun _ => by kernel_rfl
  go_enter Try.func63, Try.ntmps63
  go_wp2
  go_ret
  exact ⟨rfl, rfl⟩

set_option maxHeartbeats 3200000 in
theorem iAckFields_any (x0 x1 x2 x3 : Int) (w : World) :
    Calls Try.prog 114 #[.agg #[.int .i64 x0, .int .i64 x1, .int .i64 x2, .int .i64 x3]] w fun e w' => ∃ (A : Option Addr) (n c : Nat), e = .returned (.slice A n c) ∧ Has w' w.heap.size (rowCells (ackNs ⟨x0, x1, x2, x3⟩)) [.slice A n c] ∧ Below w.heap.size w w' := by
  have S := Sep.nil w w.heap.size
  have c := Below.refl w.heap.size w
  replace S := S.boxAt c.size (w.heap.size) rfl #[.int .i64 x0, .int .i64 x1, .int .i64 x2, .int .i64 x3] 49
  replace c := c.alloc c.size (.cells #[.int .i64 x0, .int .i64 x1, .int .i64 x2, .int .i64 x3] 49)
  have H := Lib.hid ((has_lit (w.alloc (.cells #[.int .i64 x0, .int .i64 x1, .int .i64 x2, .int .i64 x3] 49)) [x0, x1, x2, x3] (by simp)).up c.size)
  have C := Lib.hid (c.alloc c.size (.cells #[.int .i64 x0, .int .i64 x1, .int .i64 x2, .int .i64 x3] 2))
  have h9 := H.out
  rw [show (w.alloc (.cells #[.int .i64 x0, .int .i64 x1, .int .i64 x2, .int .i64 x3] 49)).heap.size = w.heap.size + 1 by simp] at h9
  have H9 := Lib.hid h9
  clear h9 H
  go_enter Try.func114, Try.ntmps114
  have f0 : (w.alloc (.cells #[.int .i64 x0, .int .i64 x1, .int .i64 x2, .int .i64 x3] 49)).cell? ⟨w.heap.size, 0, none⟩ = some (.int .i64 x0) := (S.at_ 0 rfl).cell 0
  have f1 : (w.alloc (.cells #[.int .i64 x0, .int .i64 x1, .int .i64 x2, .int .i64 x3] 49)).cell? ⟨w.heap.size, 1, none⟩ = some (.int .i64 x1) := (S.at_ 0 rfl).cell 1
  have f2 : (w.alloc (.cells #[.int .i64 x0, .int .i64 x1, .int .i64 x2, .int .i64 x3] 49)).cell? ⟨w.heap.size, 2, none⟩ = some (.int .i64 x2) := (S.at_ 0 rfl).cell 2
  have f3 : (w.alloc (.cells #[.int .i64 x0, .int .i64 x1, .int .i64 x2, .int .i64 x3] 49)).cell? ⟨w.heap.size, 3, none⟩ = some (.int .i64 x3) := (S.at_ 0 rfl).cell 3
  clear S c
  go_wp2
  go_ret
  exact ⟨_, _, _, rfl, H9.out, C.out⟩

set_option maxHeartbeats 3200000 in
theorem iReadFields_any (x0 x1 x2 x3 : Int) (w : World) :
    Calls Try.prog 118 #[.agg #[.int .i64 x0, .int .i64 x1, .int .i64 x2, .int .i64 x3]] w fun e w' => ∃ (A : Option Addr) (n c : Nat), e = .returned (.slice A n c) ∧ Has w' w.heap.size (rowCells (readNs ⟨x0, x1, x2, x3⟩)) [.slice A n c] ∧ Below w.heap.size w w' := by
  have S := Sep.nil w w.heap.size
  have c := Below.refl w.heap.size w
  replace S := S.boxAt c.size (w.heap.size) rfl #[.int .i64 x0, .int .i64 x1, .int .i64 x2, .int .i64 x3] 60
  replace c := c.alloc c.size (.cells #[.int .i64 x0, .int .i64 x1, .int .i64 x2, .int .i64 x3] 60)
  have H := Lib.hid ((has_lit (w.alloc (.cells #[.int .i64 x0, .int .i64 x1, .int .i64 x2, .int .i64 x3] 60)) [x0, x1, x2, x3] (by simp)).up c.size)
  have C := Lib.hid (c.alloc c.size (.cells #[.int .i64 x0, .int .i64 x1, .int .i64 x2, .int .i64 x3] 2))
  have h9 := H.out
  rw [show (w.alloc (.cells #[.int .i64 x0, .int .i64 x1, .int .i64 x2, .int .i64 x3] 60)).heap.size = w.heap.size + 1 by simp] at h9
  have H9 := Lib.hid h9
  clear h9 H
  go_enter Try.func118, Try.ntmps118
  have f0 : (w.alloc (.cells #[.int .i64 x0, .int .i64 x1, .int .i64 x2, .int .i64 x3] 60)).cell? ⟨w.heap.size, 0, none⟩ = some (.int .i64 x0) := (S.at_ 0 rfl).cell 0
  have f1 : (w.alloc (.cells #[.int .i64 x0, .int .i64 x1, .int .i64 x2, .int .i64 x3] 60)).cell? ⟨w.heap.size, 1, none⟩ = some (.int .i64 x1) := (S.at_ 0 rfl).cell 1
  have f2 : (w.alloc (.cells #[.int .i64 x0, .int .i64 x1, .int .i64 x2, .int .i64 x3] 60)).cell? ⟨w.heap.size, 2, none⟩ = some (.int .i64 x2) := (S.at_ 0 rfl).cell 2
  have f3 : (w.alloc (.cells #[.int .i64 x0, .int .i64 x1, .int .i64 x2, .int .i64 x3] 60)).cell? ⟨w.heap.size, 3, none⟩ = some (.int .i64 x3) := (S.at_ 0 rfl).cell 3
  clear S c
  go_wp2
  go_ret
  exact ⟨_, _, _, rfl, H9.out, C.out⟩

set_option maxHeartbeats 3200000 in
theorem iValueFields_any (x0 x1 x2 x3 x4 : Int) (w : World) :
    Calls Try.prog 120 #[.agg #[.int .i64 x0, .int .i64 x1, .int .i64 x2, .int .i64 x3, .int .i64 x4]] w fun e w' => ∃ (A : Option Addr) (n c : Nat), e = .returned (.slice A n c) ∧ Has w' w.heap.size (rowCells (valueNs ⟨x0, x1, x2, x3, x4⟩)) [.slice A n c] ∧ Below w.heap.size w w' := by
  have S := Sep.nil w w.heap.size
  have c := Below.refl w.heap.size w
  replace S := S.boxAt c.size (w.heap.size) rfl #[.int .i64 x0, .int .i64 x1, .int .i64 x2, .int .i64 x3, .int .i64 x4] 64
  replace c := c.alloc c.size (.cells #[.int .i64 x0, .int .i64 x1, .int .i64 x2, .int .i64 x3, .int .i64 x4] 64)
  have H := Lib.hid ((has_lit (w.alloc (.cells #[.int .i64 x0, .int .i64 x1, .int .i64 x2, .int .i64 x3, .int .i64 x4] 64)) [x0, x1, x2, x3, x4] (by simp)).up c.size)
  have C := Lib.hid (c.alloc c.size (.cells #[.int .i64 x0, .int .i64 x1, .int .i64 x2, .int .i64 x3, .int .i64 x4] 2))
  have h9 := H.out
  rw [show (w.alloc (.cells #[.int .i64 x0, .int .i64 x1, .int .i64 x2, .int .i64 x3, .int .i64 x4] 64)).heap.size = w.heap.size + 1 by simp] at h9
  have H9 := Lib.hid h9
  clear h9 H
  go_enter Try.func120, Try.ntmps120
  have f0 : (w.alloc (.cells #[.int .i64 x0, .int .i64 x1, .int .i64 x2, .int .i64 x3, .int .i64 x4] 64)).cell? ⟨w.heap.size, 0, none⟩ = some (.int .i64 x0) := (S.at_ 0 rfl).cell 0
  have f1 : (w.alloc (.cells #[.int .i64 x0, .int .i64 x1, .int .i64 x2, .int .i64 x3, .int .i64 x4] 64)).cell? ⟨w.heap.size, 1, none⟩ = some (.int .i64 x1) := (S.at_ 0 rfl).cell 1
  have f2 : (w.alloc (.cells #[.int .i64 x0, .int .i64 x1, .int .i64 x2, .int .i64 x3, .int .i64 x4] 64)).cell? ⟨w.heap.size, 2, none⟩ = some (.int .i64 x2) := (S.at_ 0 rfl).cell 2
  have f3 : (w.alloc (.cells #[.int .i64 x0, .int .i64 x1, .int .i64 x2, .int .i64 x3, .int .i64 x4] 64)).cell? ⟨w.heap.size, 3, none⟩ = some (.int .i64 x3) := (S.at_ 0 rfl).cell 3
  have f4 : (w.alloc (.cells #[.int .i64 x0, .int .i64 x1, .int .i64 x2, .int .i64 x3, .int .i64 x4] 64)).cell? ⟨w.heap.size, 4, none⟩ = some (.int .i64 x4) := (S.at_ 0 rfl).cell 4
  clear S c
  go_wp2
  go_ret
  exact ⟨_, _, _, rfl, H9.out, C.out⟩

theorem iFetchFields_any (x : Int) (w : World) :
    Calls Try.prog 122 #[.int .i64 x] w fun e w' => ∃ (A : Option Addr) (n c : Nat), e = .returned (.slice A n c) ∧ Has w' w.heap.size (rowCells ([x])) [.slice A n c] ∧ Below w.heap.size w w' := by
  have H := Lib.hid (has_lit w [x] (by simp))
  have C := Lib.hid ((Below.refl w.heap.size w).alloc (Nat.le_refl _) (.cells #[.int .i64 x] 2))
  go_enter Try.func122, Try.ntmps122
  go_wp2
  go_ret
  exact ⟨_, _, _, rfl, H.out, C.out⟩
theorem iTrimFields_any (x : Int) (w : World) :
    Calls Try.prog 124 #[.int .i64 x] w fun e w' => ∃ (A : Option Addr) (n c : Nat), e = .returned (.slice A n c) ∧ Has w' w.heap.size (rowCells ([x])) [.slice A n c] ∧ Below w.heap.size w w' := by
  have H := Lib.hid (has_lit w [x] (by simp))
  have C := Lib.hid ((Below.refl w.heap.size w).alloc (Nat.le_refl _) (.cells #[.int .i64 x] 2))
  go_enter Try.func124, Try.ntmps124
  go_wp2
  go_ret
  exact ⟨_, _, _, rfl, H.out, C.out⟩
theorem iPollFields_any (x : Int) (w : World) :
    Calls Try.prog 126 #[.int .i64 x] w fun e w' => ∃ (A : Option Addr) (n c : Nat), e = .returned (.slice A n c) ∧ Has w' w.heap.size (rowCells ([x])) [.slice A n c] ∧ Below w.heap.size w w' := by
  have H := Lib.hid (has_lit w [x] (by simp))
  have C := Lib.hid ((Below.refl w.heap.size w).alloc (Nat.le_refl _) (.cells #[.int .i64 x] 2))
  go_enter Try.func126, Try.ntmps126
  go_wp2
  go_ret
  exact ⟨_, _, _, rfl, H.out, C.out⟩
set_option maxHeartbeats 6400000 in
theorem iAskFields_any (x0 x1 x2 x3 x4 x5 x6 : Int) (w : World) (hok : opB ⟨x2, x3, x4, x5, x6⟩ = true) :
    Calls Try.prog 108 #[.agg #[.int .i64 x0, .int .i64 x1, .int .i64 x2, .int .i64 x3, .int .i64 x4, .int .i64 x5, .int .i64 x6]] w fun e w' => ∃ (A : Option Addr) (n c : Nat), e = .returned (.slice A n c) ∧ Has w' w.heap.size (rowCells (askNs ⟨x0, x1, x2, x3, x4, x5, x6⟩)) [.slice A n c] ∧ Below w.heap.size w w' := by
  have S := Sep.nil w w.heap.size
  have c := Below.refl w.heap.size w
  replace S := S.boxAt c.size (w.heap.size) rfl #[.int .i64 x0, .int .i64 x1, .int .i64 x2, .int .i64 x3, .int .i64 x4, .int .i64 x5, .int .i64 x6] 45
  replace c := c.alloc c.size (.cells #[.int .i64 x0, .int .i64 x1, .int .i64 x2, .int .i64 x3, .int .i64 x4, .int .i64 x5, .int .i64 x6] 45)
  have HP := Lib.hid (show opRowM ⟨x2, x3, x4, x5, x6⟩ = opNs ⟨x2, x3, x4, x5, x6⟩ by unfold opRowM; rw [if_pos hok])
  have HR := Lib.hid (show (opNs ⟨x2, x3, x4, x5, x6⟩).length ≤ 5 by simp [opNs])
  clear hok
  go_enter Try.func108, Try.ntmps108
  have f0 : (w.alloc (.cells #[.int .i64 x0, .int .i64 x1, .int .i64 x2, .int .i64 x3, .int .i64 x4, .int .i64 x5, .int .i64 x6] 45)).cell? ⟨w.heap.size, 0, none⟩ = some (.int .i64 x0) := (S.at_ 0 rfl).cell 0
  have f1 : (w.alloc (.cells #[.int .i64 x0, .int .i64 x1, .int .i64 x2, .int .i64 x3, .int .i64 x4, .int .i64 x5, .int .i64 x6] 45)).cell? ⟨w.heap.size, 1, none⟩ = some (.int .i64 x1) := (S.at_ 0 rfl).cell 1
  have f2 : (w.alloc (.cells #[.int .i64 x0, .int .i64 x1, .int .i64 x2, .int .i64 x3, .int .i64 x4, .int .i64 x5, .int .i64 x6] 45)).cell? ⟨w.heap.size, 2, none⟩ = some (.int .i64 x2) := (S.at_ 0 rfl).cell 2
  have f3 : (w.alloc (.cells #[.int .i64 x0, .int .i64 x1, .int .i64 x2, .int .i64 x3, .int .i64 x4, .int .i64 x5, .int .i64 x6] 45)).cell? ⟨w.heap.size, 3, none⟩ = some (.int .i64 x3) := (S.at_ 0 rfl).cell 3
  have f4 : (w.alloc (.cells #[.int .i64 x0, .int .i64 x1, .int .i64 x2, .int .i64 x3, .int .i64 x4, .int .i64 x5, .int .i64 x6] 45)).cell? ⟨w.heap.size, 4, none⟩ = some (.int .i64 x4) := (S.at_ 0 rfl).cell 4
  have f5 : (w.alloc (.cells #[.int .i64 x0, .int .i64 x1, .int .i64 x2, .int .i64 x3, .int .i64 x4, .int .i64 x5, .int .i64 x6] 45)).cell? ⟨w.heap.size, 5, none⟩ = some (.int .i64 x5) := (S.at_ 0 rfl).cell 5
  have f6 : (w.alloc (.cells #[.int .i64 x0, .int .i64 x1, .int .i64 x2, .int .i64 x3, .int .i64 x4, .int .i64 x5, .int .i64 x6] 45)).cell? ⟨w.heap.size, 6, none⟩ = some (.int .i64 x6) := (S.at_ 0 rfl).cell 6
  go_wp2_with fail
  generalize w.alloc (.cells #[.int .i64 x0, .int .i64 x1, .int .i64 x2, .int .i64 x3, .int .i64 x4, .int .i64 x5, .int .i64 x6] 45) = w1 at *
  refine wp_region_L (fun v => v.cell? ⟨w.heap.size, 0, none⟩ = some (.int .i64 x0) ∧ v.cell? ⟨w.heap.size, 1, none⟩ = some (.int .i64 x1) ∧ v.cell? ⟨w.heap.size, 2, none⟩ = some (.int .i64 x2) ∧ v.cell? ⟨w.heap.size, 3, none⟩ = some (.int .i64 x3) ∧ v.cell? ⟨w.heap.size, 4, none⟩ = some (.int .i64 x4) ∧ v.cell? ⟨w.heap.size, 5, none⟩ = some (.int .i64 x5) ∧ v.cell? ⟨w.heap.size, 6, none⟩ = some (.int .i64 x6)) 9 (by kernel_rfl) ?_
  clear f0 f1 f2 f3 f4 f5 f6
  replace S := S.keep ((Below.refl _ _).drew)
  replace c := c.drew
  generalize w1.drew = w2 at *
  have HF : w2.cell? ⟨w.heap.size, 0, none⟩ = some (.int .i64 x0) ∧ w2.cell? ⟨w.heap.size, 1, none⟩ = some (.int .i64 x1) ∧ w2.cell? ⟨w.heap.size, 2, none⟩ = some (.int .i64 x2) ∧ w2.cell? ⟨w.heap.size, 3, none⟩ = some (.int .i64 x3) ∧ w2.cell? ⟨w.heap.size, 4, none⟩ = some (.int .i64 x4) ∧ w2.cell? ⟨w.heap.size, 5, none⟩ = some (.int .i64 x5) ∧ w2.cell? ⟨w.heap.size, 6, none⟩ = some (.int .i64 x6) := ⟨(S.at_ 0 rfl).cell 0, (S.at_ 0 rfl).cell 1, (S.at_ 0 rfl).cell 2, (S.at_ 0 rfl).cell 3, (S.at_ 0 rfl).cell 4, (S.at_ 0 rfl).cell 5, (S.at_ 0 rfl).cell 6⟩
  refine wpAnyL_take (i := 0) (v := ?_) rfl rfl (by kernel_rfl) (by kernel_rfl) (by kernel_rfl) (by kernel_rfl) (by kernel_rfl) (fun _ _ _ h => h) HF (Or.inl ⟨by rfl, ?_⟩) ?_
  rotate_left 1
  · (rintro v ⟨a0, a1, a2, a3, a4, a5, a6⟩; go_simp; try with_reducible rfl)
  try simp only [Act.put]
  refine wpAnyL_take (i := 1) (v := ?_) rfl rfl (by kernel_rfl) (by kernel_rfl) (by kernel_rfl) (by kernel_rfl) (by kernel_rfl) (fun _ _ _ h => h) HF (Or.inl ⟨by rfl, ?_⟩) ?_
  rotate_left 1
  · (rintro v ⟨a0, a1, a2, a3, a4, a5, a6⟩; go_simp; try with_reducible rfl)
  try simp only [Act.put]
  refine wpAnyL_take (i := 2) (v := ?_) rfl rfl (by kernel_rfl) (by kernel_rfl) (by kernel_rfl) (by kernel_rfl) (by kernel_rfl) (fun _ _ _ h => h) HF (Or.inl ⟨by rfl, ?_⟩) ?_
  rotate_left 1
  · (rintro v ⟨a0, a1, a2, a3, a4, a5, a6⟩; go_simp; try with_reducible rfl)
  try simp only [Act.put]
  refine wpAnyL_take (i := 3) (v := ?_) rfl rfl (by kernel_rfl) (by kernel_rfl) (by kernel_rfl) (by kernel_rfl) (by kernel_rfl) (fun _ _ _ h => h) HF (Or.inl ⟨by rfl, ?_⟩) ?_
  rotate_left 1
  · (rintro v ⟨a0, a1, a2, a3, a4, a5, a6⟩; go_simp; try with_reducible rfl)
  try simp only [Act.put]
  refine wpAnyL_take (i := 5) (v := ?_) rfl rfl (by kernel_rfl) (by kernel_rfl) (by kernel_rfl) (by kernel_rfl) (by kernel_rfl) (fun _ _ _ h => h) HF (Or.inl ⟨by rfl, ?_⟩) ?_
  rotate_left 1
  · (rintro v ⟨a0, a1, a2, a3, a4, a5, a6⟩; go_simp; try with_reducible rfl)
  try simp only [Act.put]
  refine wpAnyL_take (i := 6) (v := ?_) rfl rfl (by kernel_rfl) (by kernel_rfl) (by kernel_rfl) (by kernel_rfl) (by kernel_rfl) (fun _ _ _ h => h) HF (Or.inl ⟨by rfl, ?_⟩) ?_
  rotate_left 1
  · (rintro v ⟨a0, a1, a2, a3, a4, a5, a6⟩; go_simp; try with_reducible rfl)
  try simp only [Act.put]
  refine wpAnyL_two (i := 4) (k := 7) (by kernel_rfl) rfl rfl rfl rfl ?_ ?_
  · intro K hK
    go_simp
    obtain ⟨fp_lit, S'⟩ := S.has ((Below.refl _ _).alloc (Nat.le_refl _) _) (show Has (w2.alloc (.cells #[.int .i64 x0, .int .i64 x1] 2)) w2.heap.size (rowCells [x0, x1]) [.slice (some ⟨w2.heap.size, 0, none⟩) 2 2] from has_lit w2 [x0, x1] (by simp)) c.size
    replace c := c.alloc c.size (.cells #[.int .i64 x0, .int .i64 x1] 2)
    clear S; have S := S'; clear S'
    clear HF
    have HF : (w2.alloc (.cells #[.int .i64 x0, .int .i64 x1] 2)).cell? ⟨w.heap.size, 0, none⟩ = some (.int .i64 x0) ∧ (w2.alloc (.cells #[.int .i64 x0, .int .i64 x1] 2)).cell? ⟨w.heap.size, 1, none⟩ = some (.int .i64 x1) ∧ (w2.alloc (.cells #[.int .i64 x0, .int .i64 x1] 2)).cell? ⟨w.heap.size, 2, none⟩ = some (.int .i64 x2) ∧ (w2.alloc (.cells #[.int .i64 x0, .int .i64 x1] 2)).cell? ⟨w.heap.size, 3, none⟩ = some (.int .i64 x3) ∧ (w2.alloc (.cells #[.int .i64 x0, .int .i64 x1] 2)).cell? ⟨w.heap.size, 4, none⟩ = some (.int .i64 x4) ∧ (w2.alloc (.cells #[.int .i64 x0, .int .i64 x1] 2)).cell? ⟨w.heap.size, 5, none⟩ = some (.int .i64 x5) ∧ (w2.alloc (.cells #[.int .i64 x0, .int .i64 x1] 2)).cell? ⟨w.heap.size, 6, none⟩ = some (.int .i64 x6) := ⟨(S.at_ 1 rfl).cell 0, (S.at_ 1 rfl).cell 1, (S.at_ 1 rfl).cell 2, (S.at_ 1 rfl).cell 3, (S.at_ 1 rfl).cell 4, (S.at_ 1 rfl).cell 5, (S.at_ 1 rfl).cell 6⟩
    refine hK _ _ (fun _ => HF) ?_
    clear hK K
    try simp only [Act.put]
    generalize hw : w2.alloc (.cells #[.int .i64 x0, .int .i64 x1] 2) = w3 at *
    clear hw
    refine wpAnyL_step (i := 7) (by kernel_rfl) rfl rfl ?_
    intro K hK
    go_simp
    refine (iOpRow_any x2 x3 x4 x5 x6 _).mono ?_
    rintro e w4 ⟨A2, n2, c2, rfl, o, b⟩
    obtain ⟨fp_u, S'⟩ := S.has b o c.size
    replace c := c.trans (b.mono c.size)
    clear S; have S := S'; clear S' o b
    rw [HP.out] at S
    clear HF
    have HF : w4.cell? ⟨w.heap.size, 0, none⟩ = some (.int .i64 x0) ∧ w4.cell? ⟨w.heap.size, 1, none⟩ = some (.int .i64 x1) ∧ w4.cell? ⟨w.heap.size, 2, none⟩ = some (.int .i64 x2) ∧ w4.cell? ⟨w.heap.size, 3, none⟩ = some (.int .i64 x3) ∧ w4.cell? ⟨w.heap.size, 4, none⟩ = some (.int .i64 x4) ∧ w4.cell? ⟨w.heap.size, 5, none⟩ = some (.int .i64 x5) ∧ w4.cell? ⟨w.heap.size, 6, none⟩ = some (.int .i64 x6) := ⟨(S.at_ 2 rfl).cell 0, (S.at_ 2 rfl).cell 1, (S.at_ 2 rfl).cell 2, (S.at_ 2 rfl).cell 3, (S.at_ 2 rfl).cell 4, (S.at_ 2 rfl).cell 5, (S.at_ 2 rfl).cell 6⟩
    refine hK _ _ (fun _ => HF) ?_
    clear hK K
    try simp only [Act.put]
    have hsr := Rd.src (f := fun y : Int => [Dat.int y]) (g := fun y : Int => [y]) (l := opNs ⟨x2, x3, x4, x5, x6⟩) (e := 2) (k := 1) int_flat (fun _ => rfl) (by decide) (S.own_ 0 rfl).rd
    have hn2 : n2 ≤ 5 := by have := hsr.2; have := HR.out; omega
    replace S := S.pick 1 rfl
    replace S := (S.flat (f := fun y : Int => [Dat.int y]) (g := fun y : Int => [y]) int_flat (opNs ⟨x2, x3, x4, x5, x6⟩)).swap
    refine wpAnyL_step (i := 8) (by kernel_rfl) rfl rfl ?_
    intro K hK
    refine wp_append_many (f := fun y : Int => [Dat.int y]) (k := 1) (l := [x0, x1]) (l2 := opNs ⟨x2, x3, x4, x5, x6⟩) _ _ (by rfl) Try.underlying22 info64 (by rfl) (by decide) (fun _ => rfl) (by rfl) (S.own_ 0 rfl) (S.nodup_own 0 rfl) (by rfl) hsr.1 (S.own_ 1 rfl) hsr.2 (S.nodup_own 1 rfl) S.apart (by omega) (by omega) ?_
    intro A3 c3 w5 fp3 o3 n3 s3 t3
    have S' := S.merge t3 o3 n3 s3 c.size
    replace c := c.trans (S.below 0 rfl t3 c.size)
    clear S; have S := S'; clear S' o3 n3 s3 t3 hsr
    clear HF
    have HF : w5.cell? ⟨w.heap.size, 0, none⟩ = some (.int .i64 x0) ∧ w5.cell? ⟨w.heap.size, 1, none⟩ = some (.int .i64 x1) ∧ w5.cell? ⟨w.heap.size, 2, none⟩ = some (.int .i64 x2) ∧ w5.cell? ⟨w.heap.size, 3, none⟩ = some (.int .i64 x3) ∧ w5.cell? ⟨w.heap.size, 4, none⟩ = some (.int .i64 x4) ∧ w5.cell? ⟨w.heap.size, 5, none⟩ = some (.int .i64 x5) ∧ w5.cell? ⟨w.heap.size, 6, none⟩ = some (.int .i64 x6) := ⟨(S.at_ 2 rfl).cell 0, (S.at_ 2 rfl).cell 1, (S.at_ 2 rfl).cell 2, (S.at_ 2 rfl).cell 3, (S.at_ 2 rfl).cell 4, (S.at_ 2 rfl).cell 5, (S.at_ 2 rfl).cell 6⟩
    refine hK _ _ (fun _ => HF) ?_
    clear hK K
    try simp only [Act.put]
    refine wpAnyL_step (i := 9) (by kernel_rfl) rfl rfl ?_
    intro K hK
    go_simp
    refine hK _ _ (fun h => nomatch (show true = false from h)) ?_
    clear hK K
    try simp only [Act.put]
    refine wpAnyL_done (by kernel_rfl) ?_ _
    have H := Lib.hid S.first
    have C := Lib.hid c
    clear S c HF
    go_wp2
    go_ret
    exact ⟨_, _, _, rfl, H.out, C.out⟩
  · intro K hK
    go_simp
    refine (iOpRow_any x2 x3 x4 x5 x6 _).mono ?_
    rintro e w3 ⟨A2, n2, c2, rfl, o, b⟩
    obtain ⟨fp_u, S'⟩ := S.has b o c.size
    replace c := c.trans (b.mono c.size)
    clear S; have S := S'; clear S' o b
    rw [HP.out] at S
    clear HF
    have HF : w3.cell? ⟨w.heap.size, 0, none⟩ = some (.int .i64 x0) ∧ w3.cell? ⟨w.heap.size, 1, none⟩ = some (.int .i64 x1) ∧ w3.cell? ⟨w.heap.size, 2, none⟩ = some (.int .i64 x2) ∧ w3.cell? ⟨w.heap.size, 3, none⟩ = some (.int .i64 x3) ∧ w3.cell? ⟨w.heap.size, 4, none⟩ = some (.int .i64 x4) ∧ w3.cell? ⟨w.heap.size, 5, none⟩ = some (.int .i64 x5) ∧ w3.cell? ⟨w.heap.size, 6, none⟩ = some (.int .i64 x6) := ⟨(S.at_ 1 rfl).cell 0, (S.at_ 1 rfl).cell 1, (S.at_ 1 rfl).cell 2, (S.at_ 1 rfl).cell 3, (S.at_ 1 rfl).cell 4, (S.at_ 1 rfl).cell 5, (S.at_ 1 rfl).cell 6⟩
    refine hK _ _ (fun _ => HF) ?_
    clear hK K
    try simp only [Act.put]
    refine wpAnyL_step (i := 4) (by kernel_rfl) rfl rfl ?_
    intro K hK
    go_simp
    obtain ⟨fp_lit, S'⟩ := S.has ((Below.refl _ _).alloc (Nat.le_refl _) _) (show Has (w3.alloc (.cells #[.int .i64 x0, .int .i64 x1] 2)) w3.heap.size (rowCells [x0, x1]) [.slice (some ⟨w3.heap.size, 0, none⟩) 2 2] from has_lit w3 [x0, x1] (by simp)) c.size
    replace c := c.alloc c.size (.cells #[.int .i64 x0, .int .i64 x1] 2)
    clear S; have S := S'; clear S'
    clear HF
    have HF : (w3.alloc (.cells #[.int .i64 x0, .int .i64 x1] 2)).cell? ⟨w.heap.size, 0, none⟩ = some (.int .i64 x0) ∧ (w3.alloc (.cells #[.int .i64 x0, .int .i64 x1] 2)).cell? ⟨w.heap.size, 1, none⟩ = some (.int .i64 x1) ∧ (w3.alloc (.cells #[.int .i64 x0, .int .i64 x1] 2)).cell? ⟨w.heap.size, 2, none⟩ = some (.int .i64 x2) ∧ (w3.alloc (.cells #[.int .i64 x0, .int .i64 x1] 2)).cell? ⟨w.heap.size, 3, none⟩ = some (.int .i64 x3) ∧ (w3.alloc (.cells #[.int .i64 x0, .int .i64 x1] 2)).cell? ⟨w.heap.size, 4, none⟩ = some (.int .i64 x4) ∧ (w3.alloc (.cells #[.int .i64 x0, .int .i64 x1] 2)).cell? ⟨w.heap.size, 5, none⟩ = some (.int .i64 x5) ∧ (w3.alloc (.cells #[.int .i64 x0, .int .i64 x1] 2)).cell? ⟨w.heap.size, 6, none⟩ = some (.int .i64 x6) := ⟨(S.at_ 2 rfl).cell 0, (S.at_ 2 rfl).cell 1, (S.at_ 2 rfl).cell 2, (S.at_ 2 rfl).cell 3, (S.at_ 2 rfl).cell 4, (S.at_ 2 rfl).cell 5, (S.at_ 2 rfl).cell 6⟩
    refine hK _ _ (fun _ => HF) ?_
    clear hK K
    try simp only [Act.put]
    generalize hw : w3.alloc (.cells #[.int .i64 x0, .int .i64 x1] 2) = w4 at *
    clear hw
    have hsr := Rd.src (f := fun y : Int => [Dat.int y]) (g := fun y : Int => [y]) (l := opNs ⟨x2, x3, x4, x5, x6⟩) (e := 2) (k := 1) int_flat (fun _ => rfl) (by decide) (S.own_ 1 rfl).rd
    have hn2 : n2 ≤ 5 := by have := hsr.2; have := HR.out; omega
    replace S := S.pick 0 rfl
    replace S := (S.flat (f := fun y : Int => [Dat.int y]) (g := fun y : Int => [y]) int_flat (opNs ⟨x2, x3, x4, x5, x6⟩)).swap
    refine wpAnyL_step (i := 8) (by kernel_rfl) rfl rfl ?_
    intro K hK
    refine wp_append_many (f := fun y : Int => [Dat.int y]) (k := 1) (l := [x0, x1]) (l2 := opNs ⟨x2, x3, x4, x5, x6⟩) _ _ (by rfl) Try.underlying22 info64 (by rfl) (by decide) (fun _ => rfl) (by rfl) (S.own_ 0 rfl) (S.nodup_own 0 rfl) (by rfl) hsr.1 (S.own_ 1 rfl) hsr.2 (S.nodup_own 1 rfl) S.apart (by omega) (by omega) ?_
    intro A3 c3 w5 fp3 o3 n3 s3 t3
    have S' := S.merge t3 o3 n3 s3 c.size
    replace c := c.trans (S.below 0 rfl t3 c.size)
    clear S; have S := S'; clear S' o3 n3 s3 t3 hsr
    clear HF
    have HF : w5.cell? ⟨w.heap.size, 0, none⟩ = some (.int .i64 x0) ∧ w5.cell? ⟨w.heap.size, 1, none⟩ = some (.int .i64 x1) ∧ w5.cell? ⟨w.heap.size, 2, none⟩ = some (.int .i64 x2) ∧ w5.cell? ⟨w.heap.size, 3, none⟩ = some (.int .i64 x3) ∧ w5.cell? ⟨w.heap.size, 4, none⟩ = some (.int .i64 x4) ∧ w5.cell? ⟨w.heap.size, 5, none⟩ = some (.int .i64 x5) ∧ w5.cell? ⟨w.heap.size, 6, none⟩ = some (.int .i64 x6) := ⟨(S.at_ 2 rfl).cell 0, (S.at_ 2 rfl).cell 1, (S.at_ 2 rfl).cell 2, (S.at_ 2 rfl).cell 3, (S.at_ 2 rfl).cell 4, (S.at_ 2 rfl).cell 5, (S.at_ 2 rfl).cell 6⟩
    refine hK _ _ (fun _ => HF) ?_
    clear hK K
    try simp only [Act.put]
    refine wpAnyL_step (i := 9) (by kernel_rfl) rfl rfl ?_
    intro K hK
    go_simp
    refine hK _ _ (fun h => nomatch (show true = false from h)) ?_
    clear hK K
    try simp only [Act.put]
    refine wpAnyL_done (by kernel_rfl) ?_ _
    have H := Lib.hid S.first
    have C := Lib.hid c
    clear S c HF
    go_wp2
    go_ret
    exact ⟨_, _, _, rfl, H.out, C.out⟩


end Go.Proofs.Ytepnghjmpbfmcaa
