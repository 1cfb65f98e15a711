/-
  A region that draws its order, whose operations read and whose calls write no more than new memory: one walk, in the order of the text, over the class of the worlds that have what was there.
-/
import Derived.Test.YtepnghjmpbfmcaaKA
import Derived.Deep.Quiet
import Derived.Deep.QuietTactic
import Derived.BigQuiet
namespace Go.Proofs.Ytepnghjmpbfmcaa
set_option maxRecDepth 100000
open Go.RowKit

theorem wp_region_cls {P : Program} {id : Nat} {Q : Exit → Act → World → Prop} {a : Act} {w : World} {l : List Oper} (F : World → Prop) (hm : P.follows .mixedOrders = true) (hB : Region.lexB .any l.toArray = true)
    (hF : ∀ v, Below w.heap.size w v → F v)
    (h : ∀ C : World → Prop, (∀ v, C v → F v) → (∀ v v', C v → Below v.heap.size v v' → C v') → wpQuiet P l.toArray C (fun a' => ∀ w', Below w.heap.size w w' → Q .normal a' w') l a) : (Code.region id l.toArray true).wp P Q a w := by
  refine wp_region_quiet (C := fun v => Below w.heap.size w v) hm hB ?_ ?_
  · exact (Below.refl _ _).drew
  · simpa using h (fun v => Below w.heap.size w v) hF (fun v v' hv hb => hv.trans (hb.mono hv.size))

/-- A callee's contract in a world of the class. -/
theorem Calls.cls {P : Program} {f : FuncId} {args : Array Value} {v : World} {u u' : Value} {C : World → Prop} (hC : ∀ v v', C v → Below v.heap.size v v' → C v') (hv : C v)
    (h : Calls P f args v fun e w' => e = .returned u ∧ Below v.heap.size v w') (hu : u = u') : Calls P f args v fun e w' => e = .returned u' ∧ C w' :=
  h.mono fun _ _ ⟨he, hb⟩ => ⟨he.trans (by rw [hu]), hC _ _ hv hb⟩

end Go.Proofs.Ytepnghjmpbfmcaa
