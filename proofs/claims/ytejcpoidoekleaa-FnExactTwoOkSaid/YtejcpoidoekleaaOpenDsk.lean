/-
  A disk that came in, opened: its slices, and the plain data that they read as.
-/
import Derived.Test.YtejcpoidoekleaaOpenG
import Derived.Test.YtejcpoidoekleaaDskEq
namespace Go.Proofs.Ytejcpoidoekleaa
set_option maxRecDepth 100000
open Go.RowKit Go.ChangeShapes Go.WideShapes Go.ChangeAt

theorem Opens.mono {P : Program} {t : TypeId} {k : Nat} {S S' : List Dat → Prop} (h : Opens P t k S) (hs : ∀ ds, S ds → S' ds) : Opens P t k S' :=
  ⟨h.1, fun H enc w base spare held fuel cs x hx => by
    obtain ⟨hl, ds, s, r⟩ := h.2 H enc w base spare held fuel cs x hx
    exact ⟨hl, ds, hs ds s, r⟩⟩

theorem opens_i64 : Opens Try.prog 2 1 (fun ds => ∃ n : Int, ds = [Dat.int n]) :=
  (opens_int Try.underlying2 (by kernel_rfl)).mono fun _ ⟨n, e, _⟩ => ⟨n, e⟩
theorem opens_row : Opens Try.prog 35 1 (fun ds => ∃ xs : List Int, ds = rowC xs) :=
  opens_slice Try.underlying35 opens_i64 Nat.one_pos (fun _ => rfl) (by kernel_rfl)
theorem opens_rows : Opens Try.prog 27 1 (fun ds => ∃ l : List (List Int), ds = [keptD l]) :=
  opens_slice Try.underlying27 opens_row Nat.one_pos rowC_len (by kernel_rfl)
theorem opens_write : Opens Try.prog 113 2 (fun ds => ∃ p : Int × List Int, ds = wrC p) :=
  (opens_struct Try.underlying113 (opensF_cons rfl opens_i64 (opensF_cons rfl opens_row (opensF_nil _))) (by kernel_rfl)).mono fun _ h => by
    obtain ⟨_, _, ⟨n, rfl⟩, ⟨_, _, ⟨xs, rfl⟩, rfl, rfl⟩, rfl⟩ := h
    exact ⟨(n, xs), rfl⟩
theorem opens_writes : Opens Try.prog 51 1 (fun ds => ∃ l : List (Int × List Int), ds = [waitD l]) :=
  opens_slice Try.underlying51 opens_write (by decide) wrC_len (by kernel_rfl)
theorem opens_disk : Opens Try.prog 53 2 (fun ds => ∃ d : DiskM, ds = d.cells) :=
  (opens_struct Try.underlying53 (opensF_cons rfl opens_rows (opensF_cons rfl opens_writes (opensF_nil _))) (by kernel_rfl)).mono fun _ h => by
    obtain ⟨_, _, ⟨k, rfl⟩, ⟨_, _, ⟨l, rfl⟩, rfl, rfl⟩, rfl⟩ := h
    exact ⟨⟨k, l⟩, rfl⟩

theorem array_two {α : Type} {cs : Array α} (h : cs.size = 2) : ∃ c0 c1, cs = #[c0, c1] := by
  obtain ⟨l⟩ := cs
  match l, h with
  | [c0, c1], _ => exact ⟨c0, c1, rfl⟩

theorem open_disk {H : Type} {enc : TypeId × Value → H} {w : World} {base : Nat} {spare : Nat → Bool} {held : Bool} {r : Reach} {b0 : Nat} {v : Value} {x : DataW H} {p : List MemPlace}
    (hv : Value.okWide Try.prog w r b0 53 v) (h : DataW.Trod enc Try.prog w base spare held 53 v x p) :
    ∃ (A : Option Addr) (n c : Nat) (A' : Option Addr) (n' c' : Nat) (d : DiskM), v = .agg #[.slice A n c, .slice A' n' c'] ∧ Rd w w.heap.size d.cells [.slice A n c, .slice A' n' c'] := by
  obtain ⟨cs, rfl, hsz⟩ := okWide_struct Try.underlying53 hv
  rw [opens_disk.1] at hsz
  obtain ⟨c0, c1, rfl⟩ := array_two hsz
  obtain ⟨fuel, hf⟩ := h
  obtain ⟨_, _, ⟨d, rfl⟩, hr⟩ := opens_disk.2 H enc w base spare held fuel _ _ hf
  have hr2 : Rd w w.heap.size d.cells [c0, c1] := hr
  obtain ⟨A, n, c, A', n', c', rfl, rfl, _⟩ := hr2.disk
  exact ⟨A, n, c, A', n', c', d, rfl, hr2⟩

theorem open_row {H : Type} {enc : TypeId × Value → H} {w : World} {base : Nat} {spare : Nat → Bool} {held : Bool} {r : Reach} {b0 : Nat} {v : Value} {x : DataW H} {p : List MemPlace}
    (hv : Value.okWide Try.prog w r b0 35 v) (h : DataW.Trod enc Try.prog w base spare held 35 v x p) :
    ∃ (A : Option Addr) (n c : Nat) (xs : List Int), v = .slice A n c ∧ Rd w w.heap.size [rowD xs] [.slice A n c] := by
  obtain ⟨A, n, c, rfl⟩ := okWide_slice Try.underlying35 hv
  obtain ⟨fuel, hf⟩ := h
  obtain ⟨_, _, ⟨xs, rfl⟩, hr⟩ := opens_row.2 H enc w base spare held fuel _ _ hf
  exact ⟨A, n, c, xs, rfl, hr⟩

end Go.Proofs.Ytejcpoidoekleaa
