/-
  Timers that came in, opened (by program, wip/gen/typegen.py).
-/
import Derived.Test.YthekcaahkokjfaaOpenR
import Derived.Test.YthekcaahkokjfaaTimer
namespace Go.Proofs.Ythekcaahkokjfaa
set_option maxRecDepth 100000
open Go.RowKit Go.ChangeShapes Go.WideShapes Go.ChangeAt

theorem opens_timer : Opens Try.prog 73 2 (fun ds => ∃ x : TimerM, ds = timerC x) :=
  (opens_struct Try.underlying73 (opensF_cons rfl opens_i64 (opensF_cons rfl opens_i64 (opensF_nil _))) (by kernel_rfl)).mono fun _ h => by
    obtain ⟨_, _, ⟨q0, rfl⟩, ⟨_, _, ⟨q1, rfl⟩, rfl, rfl⟩, rfl⟩ := h
    exact ⟨⟨q0, q1⟩, rfl⟩
theorem opens_timers : Opens Try.prog 46 1 (fun ds => ∃ l : List TimerM, ds = [timerD l]) :=
  opens_slice Try.underlying46 opens_timer (by decide) timerC_len (by kernel_rfl)


theorem open_timers {H : Type} {enc : TypeId × Value → H} {w : World} {base : Nat} {spare : Nat → Bool} {held : Bool} {r : Reach} {b0 : Nat} {v : Value} {x : DataW H} {p : List MemPlace}
    (hv : Value.okWide Try.prog w r b0 46 v) (h : DataW.Trod enc Try.prog w base spare held 46 v x p) :
    ∃ (A : Option Addr) (n c : Nat) (l : List TimerM), v = .slice A n c ∧ Rd w w.heap.size [timerD l] [.slice A n c] := by
  obtain ⟨A, n, c, rfl⟩ := okWide_slice Try.underlying46 hv
  obtain ⟨fuel, hf⟩ := h
  obtain ⟨_, _, ⟨l, rfl⟩, hr⟩ := opens_timers.2 H enc w base spare held fuel _ _ hf
  exact ⟨A, n, c, l, rfl, hr⟩

end Go.Proofs.Ythekcaahkokjfaa
