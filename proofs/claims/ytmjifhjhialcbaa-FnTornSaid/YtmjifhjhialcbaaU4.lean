/- Parts of my texts: KD. -/
import Derived.Test.YtmjifhjhialcbaaU1
import Derived.RegionTactic
namespace Go.Proofs.Ytmjifhjhialcbaa
set_option maxRecDepth 100000
set_option linter.unusedVariables false
open Go.RowKit
def wrC (p : Int × List Int) : List Dat := [.int p.1, rowD p.2]
def keptD (l : List (List Int)) : Dat := lst 30 1 rowC l
def waitD (l : List (Int × List Int)) : Dat := lst 84 2 wrC l
theorem wrC_len (p : Int × List Int) : (wrC p).length = 2 := rfl
structure DiskM where
 kept : List (List Int)
 wait : List (Int × List Int)
def DiskM.cells (d : DiskM) : List Dat := [keptD d.kept, waitD d.wait]
def rowsSz (l : List (List Int)) : Nat := l.length + (l.map List.length).sum
def wrSz (p : Int × List Int) : Nat := p.2.length
def waitSz (l : List (Int × List Int)) : Nat := l.length + (l.map wrSz).sum
def DiskM.sz (d : DiskM) : Nat := rowsSz d.kept + waitSz d.wait
section
variable {w : World} {B : Nat} {v0 v1 : Value} {d : DiskM}
theorem Rd.kept {l : List (List Int)} (h : Rd w B [keptD l] [v0]) : ∃ A n c, v0 = .slice A n c ∧ l.length = n ∧ n ≤ c ∧ c ≤ maxLen ∧
    (0 < n → ∃ b off, A = some ⟨b, off, none⟩ ∧ b < B ∧ ∀ j (hj : j < l.length), ∃ A' m c', w.cell? ⟨b, off + j, none⟩ = some (.slice A' m c') ∧ IRow w B A' m l[j] ∧ m ≤ c' ∧ c' ≤ maxLen) := by
 obtain ⟨A, n, c, rfl, hl, h1, h2, h3⟩ := Rd.lst (k := 1) rowC_len Nat.one_pos h
 refine ⟨A, n, c, rfl, hl, h1, h2, fun hn => ?_⟩
 obtain ⟨b, off, rfl, hb, hc⟩ := h3 hn
 refine ⟨b, off, rfl, hb, fun j hj => ?_⟩
 obtain ⟨es, he, hr, hcell⟩ := hc j hj
 match es, he with
 | [u], _ =>
  obtain ⟨A', m, c', rfl, hi, hm⟩ := hr.irow
  have := hcell 0 (by omega)
  rw [Nat.mul_one, Nat.add_zero] at this
  exact ⟨A', m, c', this, hi, hm⟩
theorem Rd.wait {l : List (Int × List Int)} (h : Rd w B [waitD l] [v0]) : ∃ A n c, v0 = .slice A n c ∧ l.length = n ∧ n ≤ c ∧ c ≤ maxLen ∧
    (0 < n → ∃ b off, A = some ⟨b, off, none⟩ ∧ b < B ∧ ∀ j (hj : j < l.length), ∃ A' m c', w.cell? ⟨b, off + j * 2, none⟩ = some (.int .i64 l[j].1) ∧ w.cell? ⟨b, off + j * 2 + 1, none⟩ = some (.slice A' m c') ∧ IRow w B A' m l[j].2 ∧ m ≤ c' ∧ c' ≤ maxLen) := by
 obtain ⟨A, n, c, rfl, hl, h1, h2, h3⟩ := Rd.lst (k := 2) wrC_len (by decide) h
 refine ⟨A, n, c, rfl, hl, h1, h2, fun hn => ?_⟩
 obtain ⟨b, off, rfl, hb, hc⟩ := h3 hn
 refine ⟨b, off, rfl, hb, fun j hj => ?_⟩
 obtain ⟨es, he, hr, hcell⟩ := hc j hj
 match es, he with
 | [u0, u1], _ =>
  obtain ⟨x0, x1, e, r0, r1⟩ := hr.two
  injection e with e0 e1
  injection e1 with e1 _
  subst e0 e1
  obtain ⟨A', m, c', rfl, hi, hm⟩ := r1.irow
  have h0 := hcell 0 (by omega)
  have h1 := hcell 1 (by omega)
  rw [Nat.add_zero] at h0
  rw [r0.one] at h0
  exact ⟨A', m, c', h0, h1, hi, hm⟩
end
end Go.Proofs.Ytmjifhjhialcbaa
namespace Go.Proofs.Ytmjifhjhialcbaa
set_option maxRecDepth 100000
open Go.RowKit
theorem Rd.disk {w : World} {B : Nat} {d : DiskM} {v0 v1 : Value} (h : Rd w B d.cells [v0, v1]) : ∃ A n c A' n' c', v0 = .slice A n c ∧ v1 = .slice A' n' c' ∧ Rd w B [keptD d.kept] [.slice A n c] ∧ Rd w B [waitD d.wait] [.slice A' n' c'] := by
 obtain ⟨u0, u1, e, h0, h1⟩ := Rd.two h
 injection e with e0 e1
 injection e1 with e1 _
 subst e0 e1
 obtain ⟨A, n, c, rfl, _⟩ := h0.kept
 obtain ⟨A', n', c', rfl, _⟩ := h1.wait
 exact ⟨A, n, c, A', n', c', rfl, rfl, h0, h1⟩
end Go.Proofs.Ytmjifhjhialcbaa
namespace Go.Proofs.Ytmjifhjhialcbaa
set_option maxRecDepth 100000
open Go.RowKit
theorem infoWrite : (Try.prog.info? 84).map (fun i => (i.zero, i.size, i.bytes)) = some (some (.agg #[.int .i64 0, .slice none 0 0]), 2, 32) := by kernel_rfl
theorem ow_zero_write (w : World) : Ow w (wrC (0, [])) [.int .i64 0, .slice none 0 0] [] := .int (ow_nil_row w)
end Go.Proofs.Ytmjifhjhialcbaa
namespace Go.Proofs.Ytmjifhjhialcbaa
set_option maxRecDepth 100000
open Go.RowKit
/-! ### Rows -/
end Go.Proofs.Ytmjifhjhialcbaa
namespace Go.Proofs.Ytmjifhjhialcbaa
set_option maxRecDepth 100000
open Go.RowKit
/-! ### Counting -/
end Go.Proofs.Ytmjifhjhialcbaa
namespace Go.Proofs.Ytmjifhjhialcbaa
set_option maxRecDepth 100000
open Go.RowKit
def MadeD (w : World) (d : DiskM) (e : Ending) (w' : World) : Prop :=
 ∃ A n c A' n' c', e = .returned (.agg #[.slice A n c, .slice A' n' c']) ∧ Has w' w.heap.size d.cells [.slice A n c, .slice A' n' c'] ∧ Below w.heap.size w w'
end Go.Proofs.Ytmjifhjhialcbaa
namespace Go.Proofs.Ytmjifhjhialcbaa
set_option maxRecDepth 100000
open Go.RowKit
end Go.Proofs.Ytmjifhjhialcbaa
namespace Go.Proofs.Ytmjifhjhialcbaa
set_option maxRecDepth 100000
open Go.RowKit
def hasS (d : DiskM) (i : Int) : Bool := decide (0 ≤ i) && decide (i ≤ (d.kept.length : Int) - 1)
def wrOk (d : DiskM) (p : Int × List Int) : Bool := hasS d p.1 && rowOk p.2
def diskOk (d : DiskM) : Bool := decide (1 ≤ d.kept.length) && (decide (d.kept.length ≤ 40) && (decide (d.wait.length ≤ 60) && (d.kept.all rowOk && d.wait.all (wrOk d))))
def zeroD : DiskM := ⟨[], []⟩
def secOk (n : Int) : Bool := decide (1 ≤ n) && decide (n ≤ 40)
def newDisk (n : Int) : DiskM := if secOk n = true then ⟨List.replicate n.toNat [], []⟩ else zeroD
def lastTo (l : List (Int × List Int)) (i : Int) : Nat → Option (List Int)
 | 0 => none
 | j + 1 => if (l.getD j (0, [])).1 = i then some (l.getD j (0, [])).2 else lastTo l i j
def readAt (d : DiskM) (i : Int) : List Int × Bool :=
 if diskOk d = true ∧ hasS d i = true then ((lastTo d.wait i d.wait.length).getD (d.kept.getD i.toNat []), true) else ([], false)
def wrote (d : DiskM) (i : Int) (r : List Int) : DiskM × Bool :=
 if diskOk d = true then (if hasS d i = true ∧ rowOk r = true ∧ d.wait.length < 60 then (⟨d.kept, d.wait ++ [(i, r)]⟩, true) else (d, false)) else (zeroD, false)
def torn (r old : List Int) : List Int := r.take (r.length / 2) ++ old.drop (r.length / 2)
def fell (all : Bool) (fate : Int) (k : List (List Int)) (p : Int × List Int) : List (List Int) :=
 if all = true ∨ fate = 1 then k.set p.1.toNat p.2 else if fate = 2 then k.set p.1.toNat (torn p.2 (k.getD p.1.toNat [])) else k
def fellTo (all : Bool) (fs : List Int) (k : List (List Int)) (l : List (Int × List Int)) : Nat → List (List Int)
 | 0 => k
 | j + 1 => fell all (fs.getD j 0) (fellTo all fs k l j) (l.getD j (0, []))
def fall (all : Bool) (d : DiskM) (fs : List Int) : DiskM := ⟨fellTo all fs d.kept d.wait d.wait.length, []⟩
def synced (d : DiskM) : DiskM := if diskOk d = true then fall true d [] else zeroD
def fallen (d : DiskM) (fs : List Int) : DiskM := if diskOk d = true then fall false d fs else zeroD
def rotted (d : DiskM) (at_ i n : Int) : DiskM × Bool :=
 if diskOk d = true then (if hasS d at_ = true ∧ (0 ≤ i ∧ i < ((d.kept.getD at_.toNat []).length : Int)) ∧ (0 ≤ n ∧ n ≤ 1000000000) then (⟨d.kept.set at_.toNat ((d.kept.getD at_.toNat []).set i.toNat n), d.wait⟩, true) else (d, false)) else (zeroD, false)
section
variable {α : Type} {p : α → Bool} {l : List α} {j : Nat}
theorem all_step (hj : j < l.length) (h : (l.take j).all p = true) (hp : p l[j] = true) : (l.take (j + 1)).all p = true := by
 rw [List.take_succ_eq_append_getElem hj, List.all_append, h]
 simp [hp]
theorem all_bad (hj : j < l.length) (hp : p l[j] = false) : l.all p = false := by
 rw [List.all_eq_false]
 exact ⟨l[j], List.getElem_mem hj, by simp [hp]⟩
end
theorem diskOk_iff {d : DiskM} : diskOk d = true ↔ (1 ≤ d.kept.length ∧ d.kept.length ≤ 40) ∧ d.wait.length ≤ 60 ∧ d.kept.all rowOk = true ∧ d.wait.all (wrOk d) = true := by
 unfold diskOk
 simp only [Bool.and_eq_true, decide_eq_true_eq]
 constructor
 · rintro ⟨a, b, c, e, f⟩; exact ⟨⟨a, b⟩, c, e, f⟩
 · rintro ⟨⟨a, b⟩, c, e, f⟩; exact ⟨a, b, c, e, f⟩
theorem diskOk_no {d : DiskM} (h : ¬ ((1 ≤ d.kept.length ∧ d.kept.length ≤ 40) ∧ d.wait.length ≤ 60 ∧ d.kept.all rowOk = true ∧ d.wait.all (wrOk d) = true)) : diskOk d = false := by
 cases hd : diskOk d
 · rfl
 · exact absurd (diskOk_iff.1 hd) h
end Go.Proofs.Ytmjifhjhialcbaa
namespace Go.Proofs.Ytmjifhjhialcbaa
set_option maxRecDepth 100000
open Go.RowKit
theorem rowOk_len {r : List Int} (h : rowOk r = true) : r.length ≤ 48 := by
 rcases Nat.lt_or_ge 48 r.length with h1 | h1
 · rw [rowOk_long h1] at h; cases h
 · exact h1
theorem fell_len (all : Bool) (fate : Int) (k : List (List Int)) (p : Int × List Int) : (fell all fate k p).length = k.length := by
 unfold fell
 split
 · simp
 · split
   · simp
   · rfl
theorem fellTo_len (all : Bool) (fs : List Int) (k : List (List Int)) (l : List (Int × List Int)) (j : Nat) : (fellTo all fs k l j).length = k.length := by
 induction j with
 | zero => rfl
 | succ j ih => rw [fellTo, fell_len, ih]
theorem torn_len {r old : List Int} (h1 : r.length ≤ 48) (h2 : old.length ≤ 48) : (torn r old).length ≤ 48 := by
 unfold torn
 rw [List.length_append, List.length_take, List.length_drop]
 omega
theorem getD_len {k : List (List Int)} (h : ∀ r ∈ k, r.length ≤ 48) (i : Nat) : (k.getD i []).length ≤ 48 := by
 rcases Nat.lt_or_ge i k.length with h1 | h1
 · simp only [List.getD, List.getElem?_eq_getElem h1, Option.getD_some]
   exact h _ (List.getElem_mem h1)
 · simp [List.getD, List.getElem?_eq_none h1]
theorem mem_set_len {k : List (List Int)} {i : Nat} {x : List Int} (h : ∀ r ∈ k, r.length ≤ 48) (hx : x.length ≤ 48) : ∀ r ∈ k.set i x, r.length ≤ 48 := by
 intro r hr
 rcases List.mem_or_eq_of_mem_set hr with h1 | h1
 · exact h r h1
 · rw [h1]; exact hx
theorem fellTo_rows {all : Bool} {fs : List Int} {k : List (List Int)} {l : List (Int × List Int)} (hk : ∀ r ∈ k, r.length ≤ 48) (hl : ∀ p ∈ l, p.2.length ≤ 48) (j : Nat) : ∀ r ∈ fellTo all fs k l j, r.length ≤ 48 := by
 induction j with
 | zero => exact hk
 | succ j ih =>
  have hp : (l.getD j (0, [])).2.length ≤ 48 := by
   rcases Nat.lt_or_ge j l.length with h1 | h1
   · simp only [List.getD, List.getElem?_eq_getElem h1, Option.getD_some]
     exact hl _ (List.getElem_mem h1)
   · simp [List.getD, List.getElem?_eq_none h1]
  rw [fellTo]
  unfold fell
  split
  · exact mem_set_len ih hp
  · split
    · exact mem_set_len ih (torn_len hp (getD_len ih _))
    · exact ih
theorem ok_kept_len {d : DiskM} (h : diskOk d = true) : ∀ r ∈ d.kept, r.length ≤ 48 := fun r hr => rowOk_len (List.all_eq_true.1 (diskOk_iff.1 h).2.2.1 r hr)
theorem ok_wait {d : DiskM} (h : diskOk d = true) : ∀ p ∈ d.wait, (0 ≤ p.1 ∧ p.1 < (d.kept.length : Int)) ∧ p.2.length ≤ 48 := fun p hp => by
 have := List.all_eq_true.1 (diskOk_iff.1 h).2.2.2 p hp
 unfold wrOk hasS at this
 simp only [Bool.and_eq_true, decide_eq_true_eq] at this
 exact ⟨⟨this.1.1, by omega⟩, rowOk_len this.2⟩
theorem sum_len_le {k : List (List Int)} (h : ∀ r ∈ k, r.length ≤ 48) : (k.map List.length).sum ≤ 48 * k.length := by
 induction k with
 | nil => simp
 | cons r k ih =>
  have h1 := h r (by simp)
  have h2 := ih (fun x hx => h x (by simp [hx]))
  simp only [List.map_cons, List.sum_cons, List.length_cons]
  omega
end Go.Proofs.Ytmjifhjhialcbaa
namespace Go.Proofs.Ytmjifhjhialcbaa
set_option maxRecDepth 100000
open Go.RowKit
theorem rows_sz_le {l : List (List Int)} (h : ∀ r ∈ l, r.length ≤ 48) (hl : l.length ≤ 40) : rowsSz l ≤ 1960 := by
 have := sum_len_le h
 unfold rowsSz
 omega
theorem wait_sz_le {l : List (Int × List Int)} (h : ∀ p ∈ l, p.2.length ≤ 48) (hl : l.length ≤ 60) : waitSz l ≤ 2940 := by
 have h1 : (l.map wrSz).sum ≤ 48 * l.length := by
  clear hl
  induction l with
  | nil => simp
  | cons p l ih =>
   have h1 := h p (by simp)
   have h2 := ih (fun q hq => h q (by simp [hq]))
   simp only [List.map_cons, List.sum_cons, List.length_cons]
   have h3 : wrSz p = p.2.length := rfl
   omega
 unfold waitSz
 omega
end Go.Proofs.Ytmjifhjhialcbaa
namespace Go.Proofs.Ytmjifhjhialcbaa
set_option maxRecDepth 100000
open Go.RowKit
theorem rowOk_iff {r : List Int} : rowOk r = true ↔ r.length ≤ 48 ∧ ∀ x ∈ r, numOk x = true := by
 unfold rowOk
 simp [List.all_eq_true]
theorem torn_ok {r old : List Int} (h1 : rowOk r = true) (h2 : rowOk old = true) : rowOk (torn r old) = true := by
 obtain ⟨a1, b1⟩ := rowOk_iff.1 h1
 obtain ⟨a2, b2⟩ := rowOk_iff.1 h2
 refine rowOk_iff.2 ⟨torn_len a1 a2, fun x hx => ?_⟩
 unfold torn at hx
 rcases List.mem_append.1 hx with h | h
 · exact b1 x (List.mem_of_mem_take h)
 · exact b2 x (List.mem_of_mem_drop h)
theorem nil_ok : rowOk [] = true := rowOk_iff.2 ⟨by simp, fun x hx => by cases hx⟩
theorem getD_ok {k : List (List Int)} (h : ∀ r ∈ k, rowOk r = true) (i : Nat) : rowOk (k.getD i []) = true := by
 rcases Nat.lt_or_ge i k.length with h1 | h1
 · simp only [List.getD, List.getElem?_eq_getElem h1, Option.getD_some]
   exact h _ (List.getElem_mem h1)
 · simp only [List.getD, List.getElem?_eq_none h1, Option.getD_none]
   exact nil_ok
theorem mem_set_ok {k : List (List Int)} {i : Nat} {x : List Int} (h : ∀ r ∈ k, rowOk r = true) (hx : rowOk x = true) : ∀ r ∈ k.set i x, rowOk r = true := by
 intro r hr
 rcases List.mem_or_eq_of_mem_set hr with h1 | h1
 · exact h r h1
 · rw [h1]; exact hx
theorem fellTo_ok {all : Bool} {fs : List Int} {k : List (List Int)} {l : List (Int × List Int)} (hk : ∀ r ∈ k, rowOk r = true) (hl : ∀ p ∈ l, rowOk p.2 = true) (j : Nat) : ∀ r ∈ fellTo all fs k l j, rowOk r = true := by
 induction j with
 | zero => exact hk
 | succ j ih =>
  have hp : rowOk (l.getD j (0, [])).2 = true := by
   rcases Nat.lt_or_ge j l.length with h1 | h1
   · simp only [List.getD, List.getElem?_eq_getElem h1, Option.getD_some]
     exact hl _ (List.getElem_mem h1)
   · simp only [List.getD, List.getElem?_eq_none h1, Option.getD_none]
     exact nil_ok
  rw [fellTo]
  unfold fell
  split
  · exact mem_set_ok ih hp
  · split
    · exact mem_set_ok ih (torn_ok hp (getD_ok ih _))
    · exact ih
theorem ok_rows {d : DiskM} (h : diskOk d = true) : ∀ r ∈ d.kept, rowOk r = true := List.all_eq_true.1 (diskOk_iff.1 h).2.2.1
theorem ok_writes {d : DiskM} (h : diskOk d = true) : ∀ p ∈ d.wait, rowOk p.2 = true := fun p hp => by
 have := List.all_eq_true.1 (diskOk_iff.1 h).2.2.2 p hp
 unfold wrOk at this
 simp only [Bool.and_eq_true] at this
 exact this.2
theorem fall_ok {d : DiskM} (h : diskOk d = true) (all : Bool) (fs : List Int) : diskOk (fall all d fs) = true := by
 have hl := fellTo_len all fs d.kept d.wait d.wait.length
 obtain ⟨⟨h1, h2⟩, _⟩ := diskOk_iff.1 h
 refine diskOk_iff.2 ⟨⟨?_, ?_⟩, Nat.zero_le _, List.all_eq_true.2 (fellTo_ok (ok_rows h) (ok_writes h) _), rfl⟩
 · show 1 ≤ (fellTo all fs d.kept d.wait d.wait.length).length
   omega
 · show (fellTo all fs d.kept d.wait d.wait.length).length ≤ 40
   omega
theorem synced_ok {d : DiskM} (h : diskOk d = true) : diskOk (synced d) = true := by
 unfold synced
 rw [if_pos h]
 exact fall_ok h _ _
end Go.Proofs.Ytmjifhjhialcbaa
