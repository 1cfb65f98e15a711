/- Parts of my texts: OpenHead KO. -/
import Derived.Test.YtmjifhjhialcbaaGreatK43
namespace Go.Proofs.YtmjifhjhialcbaaGreat
set_option maxRecDepth 100000
set_option linter.unusedVariables false
open Go.RowKit Go.ChangeShapes Go.WideShapes Go.ChangeAt
theorem opens_headT : Opens Tryz.prog 69 4 (fun ds => ∃ t : HeadM, ds = t.cells) :=
 (opens_struct Tryz.underlying69 (opensF_cons rfl opens_i64 (opensF_cons rfl opens_i64 (opensF_cons rfl opens_i64 (opensF_cons rfl opens_mrks (opensF_nil _))))) (by kernel_rfl)).mono fun _ h => by
  obtain ⟨_, _, ⟨q0, rfl⟩, ⟨_, _, ⟨q1, rfl⟩, ⟨_, _, ⟨q2, rfl⟩, ⟨_, _, ⟨q3, rfl⟩, rfl, rfl⟩, rfl⟩, rfl⟩, rfl⟩ := h
  exact ⟨⟨q0, q1, q2, q3⟩, by simp [HeadM.cells]⟩
theorem open_head {H : Type} {enc : TypeId × Value → H} {w : World} {base : Nat} {spare : Nat → Bool} {held : Bool} {r : Reach} {b0 : Nat} {v : Value} {x : DataW H} {p : List MemPlace}
    (hv : Value.okWide Tryz.prog w r b0 69 v) (h : DataW.Trod enc Tryz.prog w base spare held 69 v x p) :
    ∃ (x0 : Int) (x1 : Int) (x2 : Int) (A3 : Option Addr) (n3 c3 : Nat) (t : HeadM), v = .agg #[.int .i64 x0, .int .i64 x1, .int .i64 x2, .slice A3 n3 c3] ∧ Rd w w.heap.size t.cells [.int .i64 x0, .int .i64 x1, .int .i64 x2, .slice A3 n3 c3] := by
 obtain ⟨cs, rfl, hsz⟩ := okWide_struct Tryz.underlying69 hv
 rw [opens_headT.1] at hsz
 obtain ⟨l, hl, rfl⟩ := array_list hsz
 match l, hl with
 | [z0, z1, z2, z3], _ =>
 obtain ⟨fuel, hf⟩ := h
 obtain ⟨_, _, ⟨t, rfl⟩, hr⟩ := opens_headT.2 H enc w base spare held fuel _ _ hf
 have hr2 : Rd w w.heap.size t.cells [z0, z1, z2, z3] := hr
 obtain ⟨A3, n3, c3, rfl, rfl, rfl, rfl, _⟩ := hr2.headT
 exact ⟨_, _, _, _, _, _, t, rfl, hr2⟩
end Go.Proofs.YtmjifhjhialcbaaGreat
namespace Go.Proofs.YtmjifhjhialcbaaGreat
set_option maxRecDepth 100000
set_option linter.unusedVariables false
open Go.RowKit Go.ChangeShapes Go.WideShapes Go.ChangeAt
theorem opens_rows : Opens Tryz.prog 30 1 (fun ds => ∃ l : List (List Int), ds = [keptD l]) :=
 opens_slice Tryz.underlying30 opens_row Nat.one_pos rowC_len (by kernel_rfl)
theorem opens_write : Opens Tryz.prog 184 2 (fun ds => ∃ p : Int × List Int, ds = wrC p) :=
 (opens_struct Tryz.underlying184 (opensF_cons rfl opens_i64 (opensF_cons rfl opens_row (opensF_nil _))) (by kernel_rfl)).mono fun _ h => by
  obtain ⟨_, _, ⟨n, rfl⟩, ⟨_, _, ⟨xs, rfl⟩, rfl, rfl⟩, rfl⟩ := h
  exact ⟨(n, xs), rfl⟩
theorem opens_writes : Opens Tryz.prog 62 1 (fun ds => ∃ l : List (Int × List Int), ds = [waitD l]) :=
 opens_slice Tryz.underlying62 opens_write (by decide) wrC_len (by kernel_rfl)
theorem opens_disk : Opens Tryz.prog 64 2 (fun ds => ∃ d : DiskM, ds = d.cells) :=
 (opens_struct Tryz.underlying64 (opensF_cons rfl opens_rows (opensF_cons rfl opens_writes (opensF_nil _))) (by kernel_rfl)).mono fun _ h => by
  obtain ⟨_, _, ⟨k, rfl⟩, ⟨_, _, ⟨l, rfl⟩, rfl, rfl⟩, rfl⟩ := h
  exact ⟨⟨k, l⟩, rfl⟩
end Go.Proofs.YtmjifhjhialcbaaGreat
namespace Go.Proofs.YtmjifhjhialcbaaGreat
set_option maxRecDepth 100000
open Go.RowKit Go.ChangeShapes Go.WideShapes Go.ChangeAt
theorem opens_two : Opens Tryz.prog 66 4 (fun ds => ∃ t : TwoM, ds = t.cells) :=
 (opens_struct Tryz.underlying66 (opensF_cons rfl opens_disk (opensF_cons rfl opens_disk (opensF_nil _))) (by kernel_rfl)).mono fun _ h => by
  obtain ⟨_, _, ⟨a, rfl⟩, ⟨_, _, ⟨b, rfl⟩, rfl, rfl⟩, rfl⟩ := h
  exact ⟨⟨a, b⟩, by simp [TwoM.cells]⟩
theorem array_four {α : Type} {cs : Array α} (h : cs.size = 4) : ∃ c0 c1 c2 c3, cs = #[c0, c1, c2, c3] := by
 obtain ⟨l⟩ := cs
 match l, h with
 | [c0, c1, c2, c3], _ => exact ⟨c0, c1, c2, c3, rfl⟩
theorem open_two {H : Type} {enc : TypeId × Value → H} {w : World} {base : Nat} {spare : Nat → Bool} {held : Bool} {r : Reach} {b0 : Nat} {v : Value} {x : DataW H} {p : List MemPlace}
    (hv : Value.okWide Tryz.prog w r b0 66 v) (h : DataW.Trod enc Tryz.prog w base spare held 66 v x p) :
    ∃ (A0 : Option Addr) (n0 c0 : Nat) (A1 : Option Addr) (n1 c1 : Nat) (A2 : Option Addr) (n2 c2 : Nat) (A3 : Option Addr) (n3 c3 : Nat) (t : TwoM), v = .agg #[.slice A0 n0 c0, .slice A1 n1 c1, .slice A2 n2 c2, .slice A3 n3 c3] ∧ Rd w w.heap.size t.cells [.slice A0 n0 c0, .slice A1 n1 c1, .slice A2 n2 c2, .slice A3 n3 c3] := by
 obtain ⟨cs, rfl, hsz⟩ := okWide_struct Tryz.underlying66 hv
 rw [opens_two.1] at hsz
 obtain ⟨y0, y1, y2, y3, rfl⟩ := array_four hsz
 obtain ⟨fuel, hf⟩ := h
 obtain ⟨_, _, ⟨t, rfl⟩, hr⟩ := opens_two.2 H enc w base spare held fuel _ _ hf
 have hr2 : Rd w w.heap.size t.cells [y0, y1, y2, y3] := hr
 obtain ⟨A0, n0, c0, A1, n1, c1, A2, n2, c2, A3, n3, c3, rfl, rfl, rfl, rfl⟩ := hr2.slices
 exact ⟨A0, n0, c0, A1, n1, c1, A2, n2, c2, A3, n3, c3, t, rfl, hr2⟩
end Go.Proofs.YtmjifhjhialcbaaGreat
