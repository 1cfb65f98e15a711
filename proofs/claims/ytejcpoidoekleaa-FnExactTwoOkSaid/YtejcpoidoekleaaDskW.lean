/-
  Disks in the form that the exact laws' walks share with all other data.
-/
import Derived.Test.YtejcpoidoekleaaDskTo
import Derived.Test.YtejcpoidoekleaaDskSz
namespace Go.Proofs.Ytejcpoidoekleaa
set_option maxRecDepth 100000
open Go.RowKit

/-- A disk in new memory is handed back; what was there is as it was. -/
def MadeD (w : World) (d : DiskM) (e : Ending) (w' : World) : Prop :=
  ∃ A n c A' n' c', e = .returned (.agg #[.slice A n c, .slice A' n' c']) ∧ Has w' w.heap.size d.cells [.slice A n c, .slice A' n' c'] ∧ Below w.heap.size w w'

theorem toDisk_made (v0 v1 : Value) (d : DiskM) (w : World) (h : Rd w w.heap.size d.cells [v0, v1]) (hs : d.sz ≤ 1048576) : Calls Try.prog 73 #[.agg #[v0, v1]] w (MadeD w d) := by
  refine (toDisk_any v0 v1 d w h hs).mono ?_
  rintro e w1 ⟨u0, u1, rfl, o, b⟩
  obtain ⟨A, n, c, A', n', c', rfl, rfl, _⟩ := o.rd.disk
  exact ⟨A, n, c, A', n', c', rfl, o, b⟩

theorem disk_n_le (d : DiskM) (h : d.sz ≤ 1048577) : d.n ≤ 2097154 := by
  have h1 := nums_le_rows d.kept
  have h2 := nums_le_wait d.wait
  unfold DiskM.sz at h
  unfold DiskM.n
  omega

end Go.Proofs.Ytejcpoidoekleaa
