/- Parts of my texts: KO. -/
import Derived.Test.YtecihkkagpbkdaaK40
namespace Go.Proofs.Ytecihkkagpbkdaa
set_option maxRecDepth 100000
set_option linter.unusedVariables false
open Go.RowKit Go.ChangeShapes Go.WideShapes Go.ChangeAt
theorem opens_rows : Opens Try.prog 22 1 (fun ds => ∃ l : List (List Int), ds = [keptD l]) :=
 opens_slice Try.underlying22 opens_row Nat.one_pos rowC_len (by kernel_rfl)
theorem opens_write : Opens Try.prog 127 2 (fun ds => ∃ p : Int × List Int, ds = wrC p) :=
 (opens_struct Try.underlying127 (opensF_cons rfl opens_i64 (opensF_cons rfl opens_row (opensF_nil _))) (by kernel_rfl)).mono fun _ h => by
  obtain ⟨_, _, ⟨n, rfl⟩, ⟨_, _, ⟨xs, rfl⟩, rfl, rfl⟩, rfl⟩ := h
  exact ⟨(n, xs), rfl⟩
theorem opens_writes : Opens Try.prog 23 1 (fun ds => ∃ l : List (Int × List Int), ds = [waitD l]) :=
 opens_slice Try.underlying23 opens_write (by decide) wrC_len (by kernel_rfl)
theorem opens_disk : Opens Try.prog 25 2 (fun ds => ∃ d : DiskM, ds = d.cells) :=
 (opens_struct Try.underlying25 (opensF_cons rfl opens_rows (opensF_cons rfl opens_writes (opensF_nil _))) (by kernel_rfl)).mono fun _ h => by
  obtain ⟨_, _, ⟨k, rfl⟩, ⟨_, _, ⟨l, rfl⟩, rfl, rfl⟩, rfl⟩ := h
  exact ⟨⟨k, l⟩, rfl⟩
end Go.Proofs.Ytecihkkagpbkdaa
namespace Go.Proofs.Ytecihkkagpbkdaa
set_option maxRecDepth 100000
open Go.RowKit Go.ChangeShapes Go.WideShapes Go.ChangeAt
theorem opens_two : Opens Try.prog 27 4 (fun ds => ∃ t : TwoM, ds = t.cells) :=
 (opens_struct Try.underlying27 (opensF_cons rfl opens_disk (opensF_cons rfl opens_disk (opensF_nil _))) (by kernel_rfl)).mono fun _ h => by
  obtain ⟨_, _, ⟨a, rfl⟩, ⟨_, _, ⟨b, rfl⟩, rfl, rfl⟩, rfl⟩ := h
  exact ⟨⟨a, b⟩, by simp [TwoM.cells]⟩
theorem array_four {α : Type} {cs : Array α} (h : cs.size = 4) : ∃ c0 c1 c2 c3, cs = #[c0, c1, c2, c3] := by
 obtain ⟨l⟩ := cs
 match l, h with
 | [c0, c1, c2, c3], _ => exact ⟨c0, c1, c2, c3, rfl⟩
theorem open_two {H : Type} {enc : TypeId × Value → H} {w : World} {base : Nat} {spare : Nat → Bool} {held : Bool} {r : Reach} {b0 : Nat} {v : Value} {x : DataW H} {p : List MemPlace}
    (hv : Value.okWide Try.prog w r b0 27 v) (h : DataW.Trod enc Try.prog w base spare held 27 v x p) :
    ∃ (A0 : Option Addr) (n0 c0 : Nat) (A1 : Option Addr) (n1 c1 : Nat) (A2 : Option Addr) (n2 c2 : Nat) (A3 : Option Addr) (n3 c3 : Nat) (t : TwoM), v = .agg #[.slice A0 n0 c0, .slice A1 n1 c1, .slice A2 n2 c2, .slice A3 n3 c3] ∧ Rd w w.heap.size t.cells [.slice A0 n0 c0, .slice A1 n1 c1, .slice A2 n2 c2, .slice A3 n3 c3] := by
 obtain ⟨cs, rfl, hsz⟩ := okWide_struct Try.underlying27 hv
 rw [opens_two.1] at hsz
 obtain ⟨y0, y1, y2, y3, rfl⟩ := array_four hsz
 obtain ⟨fuel, hf⟩ := h
 obtain ⟨_, _, ⟨t, rfl⟩, hr⟩ := opens_two.2 H enc w base spare held fuel _ _ hf
 have hr2 : Rd w w.heap.size t.cells [y0, y1, y2, y3] := hr
 obtain ⟨A0, n0, c0, A1, n1, c1, A2, n2, c2, A3, n3, c3, rfl, rfl, rfl, rfl⟩ := hr2.slices
 exact ⟨A0, n0, c0, A1, n1, c1, A2, n2, c2, A3, n3, c3, t, rfl, hr2⟩
end Go.Proofs.Ytecihkkagpbkdaa
