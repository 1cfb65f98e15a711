/-
  Feeds that came in, opened (by program, wip/gen/genlet0.py).
-/
import Derived.Test.YtafbjmhjjbfaeaaOpenEnt
import Derived.Test.YtafbjmhjjbfaeaaFeed
namespace Go.Proofs.Ytafbjmhjjbfaeaa
set_option maxRecDepth 100000
open Go.RowKit Go.ChangeShapes Go.WideShapes Go.ChangeAt

theorem opens_feedT : Opens Try.prog 33 3 (fun ds => ∃ t : FeedM, ds = t.cells) :=
  (opens_struct Try.underlying33 (opensF_cons rfl opens_i64 (opensF_cons rfl opens_i64 (opensF_cons rfl opens_ents (opensF_nil _)))) (by kernel_rfl)).mono fun _ h => by
    obtain ⟨_, _, ⟨q0, rfl⟩, ⟨_, _, ⟨q1, rfl⟩, ⟨_, _, ⟨q2, rfl⟩, rfl, rfl⟩, rfl⟩, rfl⟩ := h
    exact ⟨⟨q0, q1, q2⟩, by simp [FeedM.cells]⟩
theorem open_feed {H : Type} {enc : TypeId × Value → H} {w : World} {base : Nat} {spare : Nat → Bool} {held : Bool} {r : Reach} {b0 : Nat} {v : Value} {x : DataW H} {p : List MemPlace}
    (hv : Value.okWide Try.prog w r b0 33 v) (h : DataW.Trod enc Try.prog w base spare held 33 v x p) :
    ∃ (x0 : Int) (x1 : Int) (A2 : Option Addr) (n2 c2 : Nat) (t : FeedM), v = .agg #[.int .i64 x0, .int .i64 x1, .slice A2 n2 c2] ∧ Rd w w.heap.size t.cells [.int .i64 x0, .int .i64 x1, .slice A2 n2 c2] := by
  obtain ⟨cs, rfl, hsz⟩ := okWide_struct Try.underlying33 hv
  rw [opens_feedT.1] at hsz
  obtain ⟨l, hl, rfl⟩ := array_list hsz
  match l, hl with
  | [z0, z1, z2], _ =>
  obtain ⟨fuel, hf⟩ := h
  obtain ⟨_, _, ⟨t, rfl⟩, hr⟩ := opens_feedT.2 H enc w base spare held fuel _ _ hf
  have hr2 : Rd w w.heap.size t.cells [z0, z1, z2] := hr
  obtain ⟨A2, n2, c2, rfl, rfl, rfl, _⟩ := hr2.feedT
  exact ⟨_, _, _, _, _, t, rfl, hr2⟩

end Go.Proofs.Ytafbjmhjjbfaeaa
