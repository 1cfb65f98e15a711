/-
  A row copied, of the model (chapter 5).
-/
import Derived.Test.YthcagdcbifdfeaaKA
import Derived.RegionTactic
import Derived.BigQuiet
namespace Go.Proofs.Ythcagdcbifdfeaa
set_option maxRecDepth 100000
open Go.RowKit

theorem sRow_any (A : Option Addr) (n c : Nat) (xs : List Int) (w : World) (h : IRow w w.heap.size A n xs) (hn : n ≤ 1048577) :
    Calls Try.prog 86 #[.slice A n c] w (MadeRow w xs) := by
  have ho := own_empty w
  have hb : Below w.heap.size w (w.alloc (.cells #[] 2)) := (Below.refl _ _).alloc (Nat.le_refl _) _
  have hr := h.below hb
  go_enter Try.func86, Try.ntmps86
  go_wp2_with (first
    | (at_builtin
       refine wpList_append_ints rfl (.tmp 3) (.tmp 4) rfl rfl ho rfl hr hb.size (by omega) ?_
       intro A2 c2 w1 o1 g1 e1))
  go_ret
  refine ⟨A2, n, c2, rfl, by simpa using o1, hb.grown g1 hb.size (fun k hk => ?_)⟩
  simp [Value.ownBlock] at hk
  omega

end Go.Proofs.Ythcagdcbifdfeaa
