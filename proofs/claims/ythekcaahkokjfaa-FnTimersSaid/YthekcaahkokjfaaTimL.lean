/-
  The law of timers: what the calls answer on a table of timers.
-/
import Derived.Test.YthekcaahkokjfaaTimN
import Derived.Test.YthekcaahkokjfaaTimC8
import Derived.Test.YthekcaahkokjfaaTimC11
namespace Go.Proofs.Ythekcaahkokjfaa
set_option maxRecDepth 100000
open Go.RowKit

theorem off_law (A : Option Addr) (n c i : Nat) (l : List TimerM) (ds : List Int) (d : Int) (w : World) (hr : Rd w w.heap.size [timerD l] [.slice A n c]) (h : TabT l ds) (hl : l.length ≤ 16) (hi : i < 10) (hd : ds.getD i 0 = d) :
    Calls Try.prog 24 #[.slice A n c, .int .i64 i] w fun e w' => ∃ (A : Option Addr) (n c : Nat), e = .returned (.tuple #[.slice A n c, .bool (decide (0 ≤ d))]) ∧ Has w' w.heap.size [timerD (offM l (i : Int))] [.slice A n c] ∧ Below w.heap.size w w' := by
  have := iTimerOff_at A n c l i w hr (by unfold timerSz; omega)
  rw [show timerOffM l (i : Int) = (offM l (i : Int), decide (0 ≤ d)) by unfold timerOffM; rw [if_pos (h.good.yes hl), h.has hi, hd]] at this
  exact this
theorem set_law (A : Option Addr) (n c i : Nat) (l : List TimerM) (ds : List Int) (t : Int) (w : World) (hr : Rd w w.heap.size [timerD l] [.slice A n c]) (h : TabT l ds) (hl : l.length ≤ 15) (hi : i < 10) (ht : 0 ≤ t ∧ t < 40) :
    Calls Try.prog 25 #[.slice A n c, .int .i64 i, .int .i64 t] w fun e w' => ∃ (A : Option Addr) (n c : Nat), e = .returned (.tuple #[.slice A n c, .bool true]) ∧ Has w' w.heap.size [timerD (putT (offM l (i : Int)) ⟨(i : Int), t⟩)] [.slice A n c] ∧ Below w.heap.size w w' := by
  have := iTSet_any A n c l i t w hr (by unfold timerSz; omega)
  unfold MadeTB at this
  rw [show timerSetM l (i : Int) t = (putT (offM l (i : Int)) ⟨(i : Int), t⟩, true) by
    unfold timerSetM
    rw [if_pos (h.good.yes (by omega)), if_pos]
    refine (h.put hi ht).good.yes ?_
    rw [putT_len]
    have := offM_len l (i : Int)
    omega] at this
  exact this
theorem due_law (A : Option Addr) (n c : Nat) (l : List TimerM) (ds : List Int) (now : Int) (w : World) (hr : Rd w w.heap.size [timerD l] [.slice A n c]) (h : TabT l ds) (hl : l.length ≤ 16) :
    Calls Try.prog 26 #[.slice A n c, .int .i64 now] w fun e w' => ∃ (A : Option Addr) (n c : Nat), e = .returned (.slice A n c) ∧ Has w' w.heap.size (rowCells ((dueL l now).map fun x => x.tid)) [.slice A n c] ∧ Below w.heap.size w w' := by
  have := iDueIn_at A n c l now w hr (by unfold timerSz; omega)
  rw [dueM_eq (h.good.yes hl)] at this
  exact this

end Go.Proofs.Ythekcaahkokjfaa
