/-
  Arguments that came in, opened: numbers and rows of numbers.
-/
import Derived.Test.YthjjdelpdiipdaaOpenG
import Derived.Test.YthjjdelpdiipdaaKA
namespace Go.Proofs.Ythjjdelpdiipdaa
set_option maxRecDepth 100000
open Go.RowKit Go.ChangeShapes Go.WideShapes Go.ChangeAt

theorem Opens.mono {P : Program} {t : TypeId} {k : Nat} {S S' : List Dat → Prop} (h : Opens P t k S) (hs : ∀ ds, S ds → S' ds) : Opens P t k S' :=
  ⟨h.1, fun H enc w base spare held fuel cs x hx => by
    obtain ⟨hl, ds, s, r⟩ := h.2 H enc w base spare held fuel cs x hx
    exact ⟨hl, ds, hs ds s, r⟩⟩

theorem opens_i64 : Opens Try.prog 2 1 (fun ds => ∃ n : Int, ds = [Dat.int n]) :=
  (opens_int Try.underlying2 (by kernel_rfl)).mono fun _ ⟨n, e, _⟩ => ⟨n, e⟩
theorem opens_row : Opens Try.prog 92 1 (fun ds => ∃ xs : List Int, ds = rowC xs) :=
  opens_slice Try.underlying92 opens_i64 Nat.one_pos (fun _ => rfl) (by kernel_rfl)

theorem array_list {α : Type} {cs : Array α} {n : Nat} (h : cs.size = n) : ∃ l : List α, l.length = n ∧ cs = l.toArray := ⟨cs.toList, by simpa using h, by simp⟩

theorem open_row {H : Type} {enc : TypeId × Value → H} {w : World} {base : Nat} {spare : Nat → Bool} {held : Bool} {r : Reach} {b0 : Nat} {v : Value} {x : DataW H} {p : List MemPlace}
    (hv : Value.okWide Try.prog w r b0 92 v) (h : DataW.Trod enc Try.prog w base spare held 92 v x p) :
    ∃ (A : Option Addr) (n c : Nat) (xs : List Int), v = .slice A n c ∧ Rd w w.heap.size [rowD xs] [.slice A n c] := by
  obtain ⟨A, n, c, rfl⟩ := okWide_slice Try.underlying92 hv
  obtain ⟨fuel, hf⟩ := h
  obtain ⟨_, _, ⟨xs, rfl⟩, hr⟩ := opens_row.2 H enc w base spare held fuel _ _ hf
  exact ⟨A, n, c, xs, rfl, hr⟩

end Go.Proofs.Ythjjdelpdiipdaa
