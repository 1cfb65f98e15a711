/-
  Disks as plain mathematics: what chapter 3 says of them.
-/
import Derived.Test.YtejcpoidoekleaaDsk
import Derived.Test.YtejcpoidoekleaaRowOk
namespace Go.Proofs.Ytejcpoidoekleaa
set_option maxRecDepth 100000
open Go.RowKit

def hasS (d : DiskM) (i : Int) : Bool := decide (0 ≤ i) && decide (i ≤ (d.kept.length : Int) - 1)
def wrOk (d : DiskM) (p : Int × List Int) : Bool := hasS d p.1 && rowOk p.2
def diskOk (d : DiskM) : Bool := decide (1 ≤ d.kept.length) && (decide (d.kept.length ≤ 40) && (decide (d.wait.length ≤ 60) && (d.kept.all rowOk && d.wait.all (wrOk d))))
def zeroD : DiskM := ⟨[], []⟩
def secOk (n : Int) : Bool := decide (1 ≤ n) && decide (n ≤ 40)
def newDisk (n : Int) : DiskM := if secOk n = true then ⟨List.replicate n.toNat [], []⟩ else zeroD
/-- The row of the last of the first j writes to a sector. -/
def lastTo (l : List (Int × List Int)) (i : Int) : Nat → Option (List Int)
  | 0 => none
  | j + 1 => if (l.getD j (0, [])).1 = i then some (l.getD j (0, [])).2 else lastTo l i j
def readAt (d : DiskM) (i : Int) : List Int × Bool :=
  if diskOk d = true ∧ hasS d i = true then ((lastTo d.wait i d.wait.length).getD (d.kept.getD i.toNat []), true) else ([], false)
def wrote (d : DiskM) (i : Int) (r : List Int) : DiskM × Bool :=
  if diskOk d = true then (if hasS d i = true ∧ rowOk r = true ∧ d.wait.length < 60 then (⟨d.kept, d.wait ++ [(i, r)]⟩, true) else (d, false)) else (zeroD, false)
def torn (r old : List Int) : List Int := r.take (r.length / 2) ++ old.drop (r.length / 2)
/-- What becomes of one write. -/
def fell (all : Bool) (fate : Int) (k : List (List Int)) (p : Int × List Int) : List (List Int) :=
  if all = true ∨ fate = 1 then k.set p.1.toNat p.2 else if fate = 2 then k.set p.1.toNat (torn p.2 (k.getD p.1.toNat [])) else k
def fellTo (all : Bool) (fs : List Int) (k : List (List Int)) (l : List (Int × List Int)) : Nat → List (List Int)
  | 0 => k
  | j + 1 => fell all (fs.getD j 0) (fellTo all fs k l j) (l.getD j (0, []))
def fall (all : Bool) (d : DiskM) (fs : List Int) : DiskM := ⟨fellTo all fs d.kept d.wait d.wait.length, []⟩
def synced (d : DiskM) : DiskM := if diskOk d = true then fall true d [] else zeroD
def fallen (d : DiskM) (fs : List Int) : DiskM := if diskOk d = true then fall false d fs else zeroD
def rotted (d : DiskM) (at_ i n : Int) : DiskM × Bool :=
  if diskOk d = true then (if hasS d at_ = true ∧ (0 ≤ i ∧ i < ((d.kept.getD at_.toNat []).length : Int)) ∧ (0 ≤ n ∧ n ≤ 1000000000) then (⟨d.kept.set at_.toNat ((d.kept.getD at_.toNat []).set i.toNat n), d.wait⟩, true) else (d, false)) else (zeroD, false)
def safeIn (d : DiskM) : Bool := diskOk d && decide (d.wait.length = 0)

section
variable {α : Type} {p : α → Bool} {l : List α} {j : Nat}
theorem all_step (hj : j < l.length) (h : (l.take j).all p = true) (hp : p l[j] = true) : (l.take (j + 1)).all p = true := by
  rw [List.take_succ_eq_append_getElem hj, List.all_append, h]
  simp [hp]
theorem all_bad (hj : j < l.length) (hp : p l[j] = false) : l.all p = false := by
  rw [List.all_eq_false]
  exact ⟨l[j], List.getElem_mem hj, by simp [hp]⟩
end

theorem diskOk_iff {d : DiskM} : diskOk d = true ↔ (1 ≤ d.kept.length ∧ d.kept.length ≤ 40) ∧ d.wait.length ≤ 60 ∧ d.kept.all rowOk = true ∧ d.wait.all (wrOk d) = true := by
  unfold diskOk
  simp only [Bool.and_eq_true, decide_eq_true_eq]
  constructor
  · rintro ⟨a, b, c, e, f⟩; exact ⟨⟨a, b⟩, c, e, f⟩
  · rintro ⟨⟨a, b⟩, c, e, f⟩; exact ⟨a, b, c, e, f⟩
theorem diskOk_no {d : DiskM} (h : ¬ ((1 ≤ d.kept.length ∧ d.kept.length ≤ 40) ∧ d.wait.length ≤ 60 ∧ d.kept.all rowOk = true ∧ d.wait.all (wrOk d) = true)) : diskOk d = false := by
  cases hd : diskOk d
  · rfl
  · exact absurd (diskOk_iff.1 hd) h

end Go.Proofs.Ytejcpoidoekleaa
