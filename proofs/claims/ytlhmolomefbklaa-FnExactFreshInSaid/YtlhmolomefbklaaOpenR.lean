/-
  Arguments that came in, opened: numbers and rows of numbers.
-/
import Derived.Test.YtlhmolomefbklaaOpenG
import Derived.Test.YtlhmolomefbklaaKA
namespace Go.Proofs.Ytlhmolomefbklaa
set_option maxRecDepth 100000
open Go.RowKit Go.ChangeShapes Go.WideShapes Go.ChangeAt

theorem Opens.mono {P : Program} {t : TypeId} {k : Nat} {S S' : List Dat → Prop} (h : Opens P t k S) (hs : ∀ ds, S ds → S' ds) : Opens P t k S' :=
  ⟨h.1, fun H enc w base spare held fuel cs x hx => by
    obtain ⟨hl, ds, s, r⟩ := h.2 H enc w base spare held fuel cs x hx
    exact ⟨hl, ds, hs ds s, r⟩⟩

theorem opens_i64 : Opens Try.prog 2 1 (fun ds => ∃ n : Int, ds = [Dat.int n]) :=
  (opens_int Try.underlying2 (by kernel_rfl)).mono fun _ ⟨n, e, _⟩ => ⟨n, e⟩
theorem array_list {α : Type} {cs : Array α} {n : Nat} (h : cs.size = n) : ∃ l : List α, l.length = n ∧ cs = l.toArray := ⟨cs.toList, by simpa using h, by simp⟩

end Go.Proofs.Ytlhmolomefbklaa
