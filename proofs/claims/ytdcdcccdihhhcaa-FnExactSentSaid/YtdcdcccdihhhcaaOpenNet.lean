/-
  Networks and messages that came in, opened (by program, wip/gen/typegen.py).
-/
import Derived.Test.YtdcdcccdihhhcaaOpenR
import Derived.Test.YtdcdcccdihhhcaaNet
namespace Go.Proofs.Ytdcdcccdihhhcaa
set_option maxRecDepth 100000
open Go.RowKit Go.ChangeShapes Go.WideShapes Go.ChangeAt

theorem opens_msg : Opens Try.prog 50 3 (fun ds => ∃ x : MsgM, ds = msgC x) :=
  (opens_struct Try.underlying50 (opensF_cons rfl opens_i64 (opensF_cons rfl opens_i64 (opensF_cons rfl opens_row (opensF_nil _)))) (by kernel_rfl)).mono fun _ h => by
    obtain ⟨_, _, ⟨q0, rfl⟩, ⟨_, _, ⟨q1, rfl⟩, ⟨_, _, ⟨q2, rfl⟩, rfl, rfl⟩, rfl⟩, rfl⟩ := h
    exact ⟨⟨q0, q1, q2⟩, rfl⟩
theorem opens_msgs : Opens Try.prog 55 1 (fun ds => ∃ l : List MsgM, ds = [msgD l]) :=
  opens_slice Try.underlying55 opens_msg (by decide) msgC_len (by kernel_rfl)

theorem opens_link : Opens Try.prog 102 2 (fun ds => ∃ x : LinkM, ds = linkC x) :=
  (opens_struct Try.underlying102 (opensF_cons rfl opens_i64 (opensF_cons rfl opens_i64 (opensF_nil _))) (by kernel_rfl)).mono fun _ h => by
    obtain ⟨_, _, ⟨q0, rfl⟩, ⟨_, _, ⟨q1, rfl⟩, rfl, rfl⟩, rfl⟩ := h
    exact ⟨⟨q0, q1⟩, rfl⟩
theorem opens_links : Opens Try.prog 56 1 (fun ds => ∃ l : List LinkM, ds = [linkD l]) :=
  opens_slice Try.underlying56 opens_link (by decide) linkC_len (by kernel_rfl)

theorem opens_msgT : Opens Try.prog 50 3 (fun ds => ∃ t : MsgM, ds = t.cells) :=
  (opens_struct Try.underlying50 (opensF_cons rfl opens_i64 (opensF_cons rfl opens_i64 (opensF_cons rfl opens_row (opensF_nil _)))) (by kernel_rfl)).mono fun _ h => by
    obtain ⟨_, _, ⟨q0, rfl⟩, ⟨_, _, ⟨q1, rfl⟩, ⟨_, _, ⟨q2, rfl⟩, rfl, rfl⟩, rfl⟩, rfl⟩ := h
    exact ⟨⟨q0, q1, q2⟩, by simp [MsgM.cells, rowCells, rowC]⟩
theorem open_msg {H : Type} {enc : TypeId × Value → H} {w : World} {base : Nat} {spare : Nat → Bool} {held : Bool} {r : Reach} {b0 : Nat} {v : Value} {x : DataW H} {p : List MemPlace}
    (hv : Value.okWide Try.prog w r b0 50 v) (h : DataW.Trod enc Try.prog w base spare held 50 v x p) :
    ∃ (x0 : Int) (x1 : Int) (A2 : Option Addr) (n2 c2 : Nat) (t : MsgM), v = .agg #[.int .i64 x0, .int .i64 x1, .slice A2 n2 c2] ∧ Rd w w.heap.size t.cells [.int .i64 x0, .int .i64 x1, .slice A2 n2 c2] := by
  obtain ⟨cs, rfl, hsz⟩ := okWide_struct Try.underlying50 hv
  rw [opens_msgT.1] at hsz
  obtain ⟨l, hl, rfl⟩ := array_list hsz
  match l, hl with
  | [z0, z1, z2], _ =>
  obtain ⟨fuel, hf⟩ := h
  obtain ⟨_, _, ⟨t, rfl⟩, hr⟩ := opens_msgT.2 H enc w base spare held fuel _ _ hf
  have hr2 : Rd w w.heap.size t.cells [z0, z1, z2] := hr
  obtain ⟨A2, n2, c2, rfl, rfl, rfl, _⟩ := hr2.msgT
  exact ⟨_, _, _, _, _, t, rfl, hr2⟩

theorem opens_netT : Opens Try.prog 58 2 (fun ds => ∃ t : NetM, ds = t.cells) :=
  (opens_struct Try.underlying58 (opensF_cons rfl opens_msgs (opensF_cons rfl opens_links (opensF_nil _))) (by kernel_rfl)).mono fun _ h => by
    obtain ⟨_, _, ⟨q0, rfl⟩, ⟨_, _, ⟨q1, rfl⟩, rfl, rfl⟩, rfl⟩ := h
    exact ⟨⟨q0, q1⟩, by simp [NetM.cells]⟩
theorem open_net {H : Type} {enc : TypeId × Value → H} {w : World} {base : Nat} {spare : Nat → Bool} {held : Bool} {r : Reach} {b0 : Nat} {v : Value} {x : DataW H} {p : List MemPlace}
    (hv : Value.okWide Try.prog w r b0 58 v) (h : DataW.Trod enc Try.prog w base spare held 58 v x p) :
    ∃ (A0 : Option Addr) (n0 c0 : Nat) (A1 : Option Addr) (n1 c1 : Nat) (t : NetM), v = .agg #[.slice A0 n0 c0, .slice A1 n1 c1] ∧ Rd w w.heap.size t.cells [.slice A0 n0 c0, .slice A1 n1 c1] := by
  obtain ⟨cs, rfl, hsz⟩ := okWide_struct Try.underlying58 hv
  rw [opens_netT.1] at hsz
  obtain ⟨l, hl, rfl⟩ := array_list hsz
  match l, hl with
  | [z0, z1], _ =>
  obtain ⟨fuel, hf⟩ := h
  obtain ⟨_, _, ⟨t, rfl⟩, hr⟩ := opens_netT.2 H enc w base spare held fuel _ _ hf
  have hr2 : Rd w w.heap.size t.cells [z0, z1] := hr
  obtain ⟨A0, n0, c0, A1, n1, c1, rfl, rfl, _, _⟩ := hr2.netT
  exact ⟨_, _, _, _, _, _, t, rfl, hr2⟩

end Go.Proofs.Ytdcdcccdihhhcaa
