/-
  Lists of jobs that came in, opened (by program, wip/gen/genlet0.py).
-/
import Derived.Test.YtafbjmhjjbfaeaaOpenR
import Derived.Test.YtafbjmhjjbfaeaaJobs
namespace Go.Proofs.Ytafbjmhjjbfaeaa
set_option maxRecDepth 100000
open Go.RowKit Go.ChangeShapes Go.WideShapes Go.ChangeAt

theorem opens_dj : Opens Try.prog 102 2 (fun ds => ∃ x : TimerM, ds = djC x) :=
  (opens_struct Try.underlying102 (opensF_cons rfl opens_i64 (opensF_cons rfl opens_i64 (opensF_nil _))) (by kernel_rfl)).mono fun _ h => by
    obtain ⟨_, _, ⟨q0, rfl⟩, ⟨_, _, ⟨q1, rfl⟩, rfl, rfl⟩, rfl⟩ := h
    exact ⟨⟨q0, q1⟩, rfl⟩
theorem opens_djs : Opens Try.prog 44 1 (fun ds => ∃ l : List TimerM, ds = [djD l]) :=
  opens_slice Try.underlying44 opens_dj (by decide) djC_len (by kernel_rfl)

theorem opens_jobsT : Opens Try.prog 46 6 (fun ds => ∃ t : JobsM, ds = t.cells) :=
  (opens_struct Try.underlying46 (opensF_cons rfl opens_i64 (opensF_cons rfl opens_i64 (opensF_cons rfl opens_i64 (opensF_cons rfl opens_i64 (opensF_cons rfl opens_i64 (opensF_cons rfl opens_djs (opensF_nil _))))))) (by kernel_rfl)).mono fun _ h => by
    obtain ⟨_, _, ⟨q0, rfl⟩, ⟨_, _, ⟨q1, rfl⟩, ⟨_, _, ⟨q2, rfl⟩, ⟨_, _, ⟨q3, rfl⟩, ⟨_, _, ⟨q4, rfl⟩, ⟨_, _, ⟨q5, rfl⟩, rfl, rfl⟩, rfl⟩, rfl⟩, rfl⟩, rfl⟩, rfl⟩ := h
    exact ⟨⟨q0, q1, q2, q3, q4, q5⟩, by simp [JobsM.cells]⟩
theorem open_jobs {H : Type} {enc : TypeId × Value → H} {w : World} {base : Nat} {spare : Nat → Bool} {held : Bool} {r : Reach} {b0 : Nat} {v : Value} {x : DataW H} {p : List MemPlace}
    (hv : Value.okWide Try.prog w r b0 46 v) (h : DataW.Trod enc Try.prog w base spare held 46 v x p) :
    ∃ (x0 : Int) (x1 : Int) (x2 : Int) (x3 : Int) (x4 : Int) (A5 : Option Addr) (n5 c5 : Nat) (t : JobsM), v = .agg #[.int .i64 x0, .int .i64 x1, .int .i64 x2, .int .i64 x3, .int .i64 x4, .slice A5 n5 c5] ∧ Rd w w.heap.size t.cells [.int .i64 x0, .int .i64 x1, .int .i64 x2, .int .i64 x3, .int .i64 x4, .slice A5 n5 c5] := by
  obtain ⟨cs, rfl, hsz⟩ := okWide_struct Try.underlying46 hv
  rw [opens_jobsT.1] at hsz
  obtain ⟨l, hl, rfl⟩ := array_list hsz
  match l, hl with
  | [z0, z1, z2, z3, z4, z5], _ =>
  obtain ⟨fuel, hf⟩ := h
  obtain ⟨_, _, ⟨t, rfl⟩, hr⟩ := opens_jobsT.2 H enc w base spare held fuel _ _ hf
  have hr2 : Rd w w.heap.size t.cells [z0, z1, z2, z3, z4, z5] := hr
  obtain ⟨A5, n5, c5, rfl, rfl, rfl, rfl, rfl, rfl, _⟩ := hr2.jobsT
  exact ⟨_, _, _, _, _, _, _, _, t, rfl, hr2⟩

end Go.Proofs.Ytafbjmhjjbfaeaa
