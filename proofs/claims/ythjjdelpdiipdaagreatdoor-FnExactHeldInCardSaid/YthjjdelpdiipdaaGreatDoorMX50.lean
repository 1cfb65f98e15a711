/- Parts of my texts: OpenMark OpenHead OpenBook OpenLog. -/
import Derived.Test.YthjjdelpdiipdaaGreatDoorMX49
namespace Go.Proofs.YthjjdelpdiipdaaGreatDoor
set_option maxRecDepth 100000
set_option linter.unusedVariables false
open Go.RowKit Go.ChangeShapes Go.WideShapes Go.ChangeAt
theorem opens_mrk : Opens Tryz.prog 122 3 (fun ds => ∃ x : MarkM, ds = mrkC x) :=
 (opens_struct Tryz.underlying122 (opensF_cons rfl opens_i64 (opensF_cons rfl opens_i64 (opensF_cons rfl opens_i64 (opensF_nil _)))) (by kernel_rfl)).mono fun _ h => by
  obtain ⟨_, _, ⟨q0, rfl⟩, ⟨_, _, ⟨q1, rfl⟩, ⟨_, _, ⟨q2, rfl⟩, rfl, rfl⟩, rfl⟩, rfl⟩ := h
  exact ⟨⟨q0, q1, q2⟩, rfl⟩
theorem opens_mrks : Opens Tryz.prog 28 1 (fun ds => ∃ l : List MarkM, ds = [mrkD l]) :=
 opens_slice Tryz.underlying28 opens_mrk (by decide) mrkC_len (by kernel_rfl)
end Go.Proofs.YthjjdelpdiipdaaGreatDoor
namespace Go.Proofs.YthjjdelpdiipdaaGreatDoor
set_option maxRecDepth 100000
set_option linter.unusedVariables false
open Go.RowKit Go.ChangeShapes Go.WideShapes Go.ChangeAt
theorem opens_headT : Opens Tryz.prog 30 4 (fun ds => ∃ t : HeadM, ds = t.cells) :=
 (opens_struct Tryz.underlying30 (opensF_cons rfl opens_i64 (opensF_cons rfl opens_i64 (opensF_cons rfl opens_i64 (opensF_cons rfl opens_mrks (opensF_nil _))))) (by kernel_rfl)).mono fun _ h => by
  obtain ⟨_, _, ⟨q0, rfl⟩, ⟨_, _, ⟨q1, rfl⟩, ⟨_, _, ⟨q2, rfl⟩, ⟨_, _, ⟨q3, rfl⟩, rfl, rfl⟩, rfl⟩, rfl⟩, rfl⟩ := h
  exact ⟨⟨q0, q1, q2, q3⟩, by simp [HeadM.cells]⟩
end Go.Proofs.YthjjdelpdiipdaaGreatDoor
namespace Go.Proofs.YthjjdelpdiipdaaGreatDoor
set_option maxRecDepth 100000
set_option linter.unusedVariables false
open Go.RowKit Go.ChangeShapes Go.WideShapes Go.ChangeAt
theorem opens_bookT : Opens Tryz.prog 33 3 (fun ds => ∃ t : BookM, ds = t.cells) :=
 (opens_struct Tryz.underlying33 (opensF_cons rfl opens_i64 (opensF_cons rfl opens_i64 (opensF_cons rfl opens_ents (opensF_nil _)))) (by kernel_rfl)).mono fun _ h => by
  obtain ⟨_, _, ⟨q0, rfl⟩, ⟨_, _, ⟨q1, rfl⟩, ⟨_, _, ⟨q2, rfl⟩, rfl, rfl⟩, rfl⟩, rfl⟩ := h
  exact ⟨⟨q0, q1, q2⟩, by simp [BookM.cells]⟩
end Go.Proofs.YthjjdelpdiipdaaGreatDoor
namespace Go.Proofs.YthjjdelpdiipdaaGreatDoor
set_option maxRecDepth 100000
set_option linter.unusedVariables false
open Go.RowKit Go.ChangeShapes Go.WideShapes Go.ChangeAt
theorem opens_b : Opens Tryz.prog 4 1 (fun ds => ∃ b : Bool, ds = [Dat.bool b]) := opens_bool Tryz.underlying4 (by kernel_rfl)
theorem opens_owes : Opens Tryz.prog 34 1 (fun ds => ∃ l : List AckM, ds = [oweD l]) :=
 opens_slice Tryz.underlying34 opens_ack (by decide) oweC_len (by kernel_rfl)
theorem opens_logT : Opens Tryz.prog 36 19 (fun ds => ∃ t : LogM, ds = t.cells) :=
 (opens_struct Tryz.underlying36 (opensF_cons rfl opens_two (opensF_cons rfl opens_headT (opensF_cons rfl opens_headT (opensF_cons rfl opens_b (opensF_cons rfl opens_bookT (opensF_cons rfl opens_mrks (opensF_cons rfl opens_i64 (opensF_cons rfl opens_owes (opensF_nil _))))))))) (by kernel_rfl)).mono fun _ h => by
  obtain ⟨_, _, ⟨q0, rfl⟩, ⟨_, _, ⟨q1, rfl⟩, ⟨_, _, ⟨q2, rfl⟩, ⟨_, _, ⟨q3, rfl⟩, ⟨_, _, ⟨q4, rfl⟩, ⟨_, _, ⟨q5, rfl⟩, ⟨_, _, ⟨q6, rfl⟩, ⟨_, _, ⟨q7, rfl⟩, rfl, rfl⟩, rfl⟩, rfl⟩, rfl⟩, rfl⟩, rfl⟩, rfl⟩, rfl⟩ := h
  exact ⟨⟨q0, q1, q2, q3, q4, q5, q6, q7⟩, by simp [LogM.cells]⟩
theorem open_log {H : Type} {enc : TypeId × Value → H} {w : World} {base : Nat} {spare : Nat → Bool} {held : Bool} {r : Reach} {b0 : Nat} {v : Value} {x : DataW H} {p : List MemPlace}
    (hv : Value.okWide Tryz.prog w r b0 36 v) (h : DataW.Trod enc Tryz.prog w base spare held 36 v x p) :
    ∃ (A0 : Option Addr) (n0 c0 : Nat) (A1 : Option Addr) (n1 c1 : Nat) (A2 : Option Addr) (n2 c2 : Nat) (A3 : Option Addr) (n3 c3 : Nat) (x4 : Int) (x5 : Int) (x6 : Int) (A7 : Option Addr) (n7 c7 : Nat) (x8 : Int) (x9 : Int) (x10 : Int) (A11 : Option Addr) (n11 c11 : Nat) (y12 : Bool) (x13 : Int) (x14 : Int) (A15 : Option Addr) (n15 c15 : Nat) (A16 : Option Addr) (n16 c16 : Nat) (x17 : Int) (A18 : Option Addr) (n18 c18 : Nat) (t : LogM), v = .agg #[.slice A0 n0 c0, .slice A1 n1 c1, .slice A2 n2 c2, .slice A3 n3 c3, .int .i64 x4, .int .i64 x5, .int .i64 x6, .slice A7 n7 c7, .int .i64 x8, .int .i64 x9, .int .i64 x10, .slice A11 n11 c11, .bool y12, .int .i64 x13, .int .i64 x14, .slice A15 n15 c15, .slice A16 n16 c16, .int .i64 x17, .slice A18 n18 c18] ∧ Rd w w.heap.size t.cells [.slice A0 n0 c0, .slice A1 n1 c1, .slice A2 n2 c2, .slice A3 n3 c3, .int .i64 x4, .int .i64 x5, .int .i64 x6, .slice A7 n7 c7, .int .i64 x8, .int .i64 x9, .int .i64 x10, .slice A11 n11 c11, .bool y12, .int .i64 x13, .int .i64 x14, .slice A15 n15 c15, .slice A16 n16 c16, .int .i64 x17, .slice A18 n18 c18] := by
 obtain ⟨cs, rfl, hsz⟩ := okWide_struct Tryz.underlying36 hv
 rw [opens_logT.1] at hsz
 obtain ⟨l, hl, rfl⟩ := array_list hsz
 match l, hl with
 | [z0, z1, z2, z3, z4, z5, z6, z7, z8, z9, z10, z11, z12, z13, z14, z15, z16, z17, z18], _ =>
 obtain ⟨fuel, hf⟩ := h
 obtain ⟨_, _, ⟨t, rfl⟩, hr⟩ := opens_logT.2 H enc w base spare held fuel _ _ hf
 have hr2 : Rd w w.heap.size t.cells [z0, z1, z2, z3, z4, z5, z6, z7, z8, z9, z10, z11, z12, z13, z14, z15, z16, z17, z18] := hr
 obtain ⟨A0, n0, c0, A1, n1, c1, A2, n2, c2, A3, n3, c3, A7, n7, c7, A11, n11, c11, A15, n15, c15, A16, n16, c16, A18, n18, c18, e0, e1, e2, e3, e4, e5, e6, e7, e8, e9, e10, e11, e12, e13, e14, e15, e16, e17, e18, _, _, _, _, _, _⟩ := hr2.logT
 subst e0 e1 e2 e3 e4 e5 e6 e7 e8 e9 e10 e11 e12 e13 e14 e15 e16 e17 e18
 exact ⟨_, _, _, _, _, _, _, _, _, _, _, _, _, _, _, _, _, _, _, _, _, _, _, _, _, _, _, _, _, _, _, _, _, _, _, _, _, t, rfl, hr2⟩
end Go.Proofs.YthjjdelpdiipdaaGreatDoor
