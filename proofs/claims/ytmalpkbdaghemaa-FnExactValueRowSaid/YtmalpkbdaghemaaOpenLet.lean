/-
  Messages that came in, opened (by program, wip/gen/genlet0.py).
-/
import Derived.Test.YtmalpkbdaghemaaOpenEnt
import Derived.Test.YtmalpkbdaghemaaLet
namespace Go.Proofs.Ytmalpkbdaghemaa
set_option maxRecDepth 100000
open Go.RowKit Go.ChangeShapes Go.WideShapes Go.ChangeAt

theorem opens_ack : Opens Try.prog 36 4 (fun ds => ∃ x : AckM, ds = ackC x) :=
  (opens_struct Try.underlying36 (opensF_cons rfl opens_i64 (opensF_cons rfl opens_i64 (opensF_cons rfl opens_i64 (opensF_cons rfl opens_i64 (opensF_nil _))))) (by kernel_rfl)).mono fun _ h => by
    obtain ⟨_, _, ⟨q0, rfl⟩, ⟨_, _, ⟨q1, rfl⟩, ⟨_, _, ⟨q2, rfl⟩, ⟨_, _, ⟨q3, rfl⟩, rfl, rfl⟩, rfl⟩, rfl⟩, rfl⟩ := h
    exact ⟨⟨q0, q1, q2, q3⟩, rfl⟩
theorem open_ack {H : Type} {enc : TypeId × Value → H} {w : World} {base : Nat} {spare : Nat → Bool} {held : Bool} {r : Reach} {b0 : Nat} {v : Value} {x : DataW H} {p : List MemPlace}
    (hv : Value.okWide Try.prog w r b0 36 v) (h : DataW.Trod enc Try.prog w base spare held 36 v x p) :
    ∃ (x0 x1 x2 x3 : Int) (t : AckM), v = .agg #[.int .i64 x0, .int .i64 x1, .int .i64 x2, .int .i64 x3] ∧ Rd w w.heap.size (ackC t) [.int .i64 x0, .int .i64 x1, .int .i64 x2, .int .i64 x3] := by
  obtain ⟨cs, rfl, hsz⟩ := okWide_struct Try.underlying36 hv
  rw [opens_ack.1] at hsz
  obtain ⟨l, hl, rfl⟩ := array_list hsz
  match l, hl with
  | [z0, z1, z2, z3], _ =>
    obtain ⟨fuel, hf⟩ := h
    obtain ⟨_, _, ⟨t, rfl⟩, hr⟩ := opens_ack.2 H enc w base spare held fuel _ _ hf
    have g0 : Rd w w.heap.size (ackC t) [z0, z1, z2, z3] := hr
    have hr2 := g0
    obtain ⟨e0, g1⟩ := Rd.int_cons g0
    obtain ⟨e1, g2⟩ := Rd.int_cons g1
    obtain ⟨e2, g3⟩ := Rd.int_cons g2
    obtain ⟨e3, g4⟩ := Rd.int_cons g3
    subst e0 e1 e2 e3
    exact ⟨_, _, _, _, t, rfl, hr2⟩

theorem opens_read : Opens Try.prog 44 4 (fun ds => ∃ x : ReadM, ds = readC x) :=
  (opens_struct Try.underlying44 (opensF_cons rfl opens_i64 (opensF_cons rfl opens_i64 (opensF_cons rfl opens_i64 (opensF_cons rfl opens_i64 (opensF_nil _))))) (by kernel_rfl)).mono fun _ h => by
    obtain ⟨_, _, ⟨q0, rfl⟩, ⟨_, _, ⟨q1, rfl⟩, ⟨_, _, ⟨q2, rfl⟩, ⟨_, _, ⟨q3, rfl⟩, rfl, rfl⟩, rfl⟩, rfl⟩, rfl⟩ := h
    exact ⟨⟨q0, q1, q2, q3⟩, rfl⟩
theorem open_read {H : Type} {enc : TypeId × Value → H} {w : World} {base : Nat} {spare : Nat → Bool} {held : Bool} {r : Reach} {b0 : Nat} {v : Value} {x : DataW H} {p : List MemPlace}
    (hv : Value.okWide Try.prog w r b0 44 v) (h : DataW.Trod enc Try.prog w base spare held 44 v x p) :
    ∃ (x0 x1 x2 x3 : Int) (t : ReadM), v = .agg #[.int .i64 x0, .int .i64 x1, .int .i64 x2, .int .i64 x3] ∧ Rd w w.heap.size (readC t) [.int .i64 x0, .int .i64 x1, .int .i64 x2, .int .i64 x3] := by
  obtain ⟨cs, rfl, hsz⟩ := okWide_struct Try.underlying44 hv
  rw [opens_read.1] at hsz
  obtain ⟨l, hl, rfl⟩ := array_list hsz
  match l, hl with
  | [z0, z1, z2, z3], _ =>
    obtain ⟨fuel, hf⟩ := h
    obtain ⟨_, _, ⟨t, rfl⟩, hr⟩ := opens_read.2 H enc w base spare held fuel _ _ hf
    have g0 : Rd w w.heap.size (readC t) [z0, z1, z2, z3] := hr
    have hr2 := g0
    obtain ⟨e0, g1⟩ := Rd.int_cons g0
    obtain ⟨e1, g2⟩ := Rd.int_cons g1
    obtain ⟨e2, g3⟩ := Rd.int_cons g2
    obtain ⟨e3, g4⟩ := Rd.int_cons g3
    subst e0 e1 e2 e3
    exact ⟨_, _, _, _, t, rfl, hr2⟩

theorem opens_value : Opens Try.prog 50 5 (fun ds => ∃ x : ValueM, ds = valueC x) :=
  (opens_struct Try.underlying50 (opensF_cons rfl opens_i64 (opensF_cons rfl opens_i64 (opensF_cons rfl opens_i64 (opensF_cons rfl opens_i64 (opensF_cons rfl opens_i64 (opensF_nil _)))))) (by kernel_rfl)).mono fun _ h => by
    obtain ⟨_, _, ⟨q0, rfl⟩, ⟨_, _, ⟨q1, rfl⟩, ⟨_, _, ⟨q2, rfl⟩, ⟨_, _, ⟨q3, rfl⟩, ⟨_, _, ⟨q4, rfl⟩, rfl, rfl⟩, rfl⟩, rfl⟩, rfl⟩, rfl⟩ := h
    exact ⟨⟨q0, q1, q2, q3, q4⟩, rfl⟩
theorem open_value {H : Type} {enc : TypeId × Value → H} {w : World} {base : Nat} {spare : Nat → Bool} {held : Bool} {r : Reach} {b0 : Nat} {v : Value} {x : DataW H} {p : List MemPlace}
    (hv : Value.okWide Try.prog w r b0 50 v) (h : DataW.Trod enc Try.prog w base spare held 50 v x p) :
    ∃ (x0 x1 x2 x3 x4 : Int) (t : ValueM), v = .agg #[.int .i64 x0, .int .i64 x1, .int .i64 x2, .int .i64 x3, .int .i64 x4] ∧ Rd w w.heap.size (valueC t) [.int .i64 x0, .int .i64 x1, .int .i64 x2, .int .i64 x3, .int .i64 x4] := by
  obtain ⟨cs, rfl, hsz⟩ := okWide_struct Try.underlying50 hv
  rw [opens_value.1] at hsz
  obtain ⟨l, hl, rfl⟩ := array_list hsz
  match l, hl with
  | [z0, z1, z2, z3, z4], _ =>
    obtain ⟨fuel, hf⟩ := h
    obtain ⟨_, _, ⟨t, rfl⟩, hr⟩ := opens_value.2 H enc w base spare held fuel _ _ hf
    have g0 : Rd w w.heap.size (valueC t) [z0, z1, z2, z3, z4] := hr
    have hr2 := g0
    obtain ⟨e0, g1⟩ := Rd.int_cons g0
    obtain ⟨e1, g2⟩ := Rd.int_cons g1
    obtain ⟨e2, g3⟩ := Rd.int_cons g2
    obtain ⟨e3, g4⟩ := Rd.int_cons g3
    obtain ⟨e4, g5⟩ := Rd.int_cons g4
    subst e0 e1 e2 e3 e4
    exact ⟨_, _, _, _, _, t, rfl, hr2⟩

theorem opens_ask : Opens Try.prog 25 7 (fun ds => ∃ x : AskM, ds = askC x) :=
  (opens_struct Try.underlying25 (opensF_cons rfl opens_i64 (opensF_cons rfl opens_i64 (opensF_cons rfl opens_op (opensF_nil _)))) (by kernel_rfl)).mono fun _ h => by
    obtain ⟨_, _, ⟨q0, rfl⟩, ⟨_, _, ⟨q1, rfl⟩, ⟨_, _, ⟨q2, rfl⟩, rfl, rfl⟩, rfl⟩, rfl⟩ := h
    exact ⟨⟨q0, q1, q2.kind, q2.a, q2.b, q2.c, q2.d⟩, rfl⟩
theorem open_ask {H : Type} {enc : TypeId × Value → H} {w : World} {base : Nat} {spare : Nat → Bool} {held : Bool} {r : Reach} {b0 : Nat} {v : Value} {x : DataW H} {p : List MemPlace}
    (hv : Value.okWide Try.prog w r b0 25 v) (h : DataW.Trod enc Try.prog w base spare held 25 v x p) :
    ∃ (x0 x1 x2 x3 x4 x5 x6 : Int) (t : AskM), v = .agg #[.int .i64 x0, .int .i64 x1, .int .i64 x2, .int .i64 x3, .int .i64 x4, .int .i64 x5, .int .i64 x6] ∧ Rd w w.heap.size (askC t) [.int .i64 x0, .int .i64 x1, .int .i64 x2, .int .i64 x3, .int .i64 x4, .int .i64 x5, .int .i64 x6] := by
  obtain ⟨cs, rfl, hsz⟩ := okWide_struct Try.underlying25 hv
  rw [opens_ask.1] at hsz
  obtain ⟨l, hl, rfl⟩ := array_list hsz
  match l, hl with
  | [z0, z1, z2, z3, z4, z5, z6], _ =>
    obtain ⟨fuel, hf⟩ := h
    obtain ⟨_, _, ⟨t, rfl⟩, hr⟩ := opens_ask.2 H enc w base spare held fuel _ _ hf
    have g0 : Rd w w.heap.size (askC t) [z0, z1, z2, z3, z4, z5, z6] := hr
    have hr2 := g0
    obtain ⟨e0, g1⟩ := Rd.int_cons g0
    obtain ⟨e1, g2⟩ := Rd.int_cons g1
    obtain ⟨e2, g3⟩ := Rd.int_cons g2
    obtain ⟨e3, g4⟩ := Rd.int_cons g3
    obtain ⟨e4, g5⟩ := Rd.int_cons g4
    obtain ⟨e5, g6⟩ := Rd.int_cons g5
    obtain ⟨e6, g7⟩ := Rd.int_cons g6
    subst e0 e1 e2 e3 e4 e5 e6
    exact ⟨_, _, _, _, _, _, _, t, rfl, hr2⟩

end Go.Proofs.Ytmalpkbdaghemaa
