/- Parts of my texts: OpenEnt OpenI. -/
import Derived.Test.YtljnplalnhiidaaK32
namespace Go.Proofs.Ytljnplalnhiidaa
set_option maxRecDepth 100000
set_option linter.unusedVariables false
open Go.RowKit Go.ChangeShapes Go.WideShapes Go.ChangeAt
theorem opens_op : Opens Try.prog 43 5 (fun ds => ∃ x : OpM, ds = opC x) :=
 (opens_struct Try.underlying43 (opensF_cons rfl opens_i64 (opensF_cons rfl opens_i64 (opensF_cons rfl opens_i64 (opensF_cons rfl opens_i64 (opensF_cons rfl opens_i64 (opensF_nil _)))))) (by kernel_rfl)).mono fun _ h => by
  obtain ⟨_, _, ⟨q0, rfl⟩, ⟨_, _, ⟨q1, rfl⟩, ⟨_, _, ⟨q2, rfl⟩, ⟨_, _, ⟨q3, rfl⟩, ⟨_, _, ⟨q4, rfl⟩, rfl, rfl⟩, rfl⟩, rfl⟩, rfl⟩, rfl⟩ := h
  exact ⟨⟨q0, q1, q2, q3, q4⟩, rfl⟩
theorem opens_ent : Opens Try.prog 45 9 (fun ds => ∃ x : EntM, ds = entC x) :=
 (opens_struct Try.underlying45 (opensF_cons rfl opens_i64 (opensF_cons rfl opens_i64 (opensF_cons rfl opens_i64 (opensF_cons rfl opens_i64 (opensF_cons rfl opens_op (opensF_nil _)))))) (by kernel_rfl)).mono fun _ h => by
  obtain ⟨_, _, ⟨q0, rfl⟩, ⟨_, _, ⟨q1, rfl⟩, ⟨_, _, ⟨q2, rfl⟩, ⟨_, _, ⟨q3, rfl⟩, ⟨_, _, ⟨q4, rfl⟩, rfl, rfl⟩, rfl⟩, rfl⟩, rfl⟩, rfl⟩ := h
  exact ⟨⟨q0, q1, q2, q3, q4.kind, q4.a, q4.b, q4.c, q4.d⟩, rfl⟩
theorem open_ent {H : Type} {enc : TypeId × Value → H} {w : World} {base : Nat} {spare : Nat → Bool} {held : Bool} {r : Reach} {b0 : Nat} {v : Value} {x : DataW H} {p : List MemPlace}
    (hv : Value.okWide Try.prog w r b0 45 v) (h : DataW.Trod enc Try.prog w base spare held 45 v x p) :
    ∃ (x0 x1 x2 x3 x4 x5 x6 x7 x8 : Int) (t : EntM), v = .agg #[.int .i64 x0, .int .i64 x1, .int .i64 x2, .int .i64 x3, .int .i64 x4, .int .i64 x5, .int .i64 x6, .int .i64 x7, .int .i64 x8] ∧ Rd w w.heap.size (entC t) [.int .i64 x0, .int .i64 x1, .int .i64 x2, .int .i64 x3, .int .i64 x4, .int .i64 x5, .int .i64 x6, .int .i64 x7, .int .i64 x8] := by
 obtain ⟨cs, rfl, hsz⟩ := okWide_struct Try.underlying45 hv
 rw [opens_ent.1] at hsz
 obtain ⟨l, hl, rfl⟩ := array_list hsz
 match l, hl with
 | [z0, z1, z2, z3, z4, z5, z6, z7, z8], _ =>
  obtain ⟨fuel, hf⟩ := h
  obtain ⟨_, _, ⟨t, rfl⟩, hr⟩ := opens_ent.2 H enc w base spare held fuel _ _ hf
  have g0 : Rd w w.heap.size (entC t) [z0, z1, z2, z3, z4, z5, z6, z7, z8] := hr
  have hr2 := g0
  obtain ⟨e0, g1⟩ := Rd.int_cons g0
  obtain ⟨e1, g2⟩ := Rd.int_cons g1
  obtain ⟨e2, g3⟩ := Rd.int_cons g2
  obtain ⟨e3, g4⟩ := Rd.int_cons g3
  obtain ⟨e4, g5⟩ := Rd.int_cons g4
  obtain ⟨e5, g6⟩ := Rd.int_cons g5
  obtain ⟨e6, g7⟩ := Rd.int_cons g6
  obtain ⟨e7, g8⟩ := Rd.int_cons g7
  obtain ⟨e8, g9⟩ := Rd.int_cons g8
  subst e0 e1 e2 e3 e4 e5 e6 e7 e8
  exact ⟨_, _, _, _, _, _, _, _, _, t, rfl, hr2⟩
end Go.Proofs.Ytljnplalnhiidaa
namespace Go.Proofs.Ytljnplalnhiidaa
set_option maxRecDepth 100000
set_option linter.unusedVariables false
open Go.RowKit Go.ChangeShapes Go.WideShapes Go.ChangeAt
theorem open_irow {H : Type} {enc : TypeId × Value → H} {w : World} {base : Nat} {spare : Nat → Bool} {held : Bool} {r : Reach} {b0 : Nat} {v : Value} {x : DataW H} {p : List MemPlace}
    (hv : Value.okWide Try.prog w r b0 33 v) (h : DataW.Trod enc Try.prog w base spare held 33 v x p) :
    ∃ (A : Option Addr) (n c : Nat) (xs : List Int), v = .slice A n c ∧ Rd w w.heap.size [rowD xs] [.slice A n c] := by
 obtain ⟨A, n, c, rfl⟩ := okWide_slice Try.underlying33 hv
 obtain ⟨fuel, hf⟩ := h
 obtain ⟨_, _, ⟨xs, rfl⟩, hr⟩ := opens_row.2 H enc w base spare held fuel _ _ hf
 exact ⟨A, n, c, xs, rfl, hr⟩
end Go.Proofs.Ytljnplalnhiidaa
