/-
  What the law FnMirror needs: three drawn numbers as a row, its copies on two disks, and cells that a draw leaves alone.
-/
import Derived.Test.YtejcpoidoekleaaTwoL
import Derived.Test.YtejcpoidoekleaaTwoK
import Derived.Test.YtejcpoidoekleaaTwoI1
import Derived.Test.YtejcpoidoekleaaTwoI3
import Derived.Test.YtejcpoidoekleaaTwoI4
import Derived.Test.YtejcpoidoekleaaKJ
import Derived.Test.YtejcpoidoekleaaDrL
import Derived.Test.YtejcpoidoekleaaLike
namespace Go.Proofs.Ytejcpoidoekleaa
set_option maxRecDepth 100000
open Go.RowKit

section
variable {P : Program} {ops : Array Oper} {Q : Exit → Act → World → Prop} {md : Region.Mode} {F : World → Prop} {last : Nat}
/-- Two operations may come up: each of them first. -/
theorem wpAnyL_two {i k : Nat} {oi ok : Oper} {fuel : Nat} {listed : Array Bool} {a : Act} {w : World} (hr : Region.ready md ops listed = [i, k]) (hoi : ops[i]? = some oi) (hgi : oi.guard = none) (hok : ops[k]? = some ok) (hgk : ok.guard = none)
    (h : ∀ K : Act → World → Prop, (∀ a' w', ((listed.setIfInBounds i true).getD last true = false → F w') → wpAnyL P md ops Q F last fuel (listed.setIfInBounds i true) a' w' → K a' w') → Oper.wp P oi a w K Q)
    (h' : ∀ K : Act → World → Prop, (∀ a' w', ((listed.setIfInBounds k true).getD last true = false → F w') → wpAnyL P md ops Q F last fuel (listed.setIfInBounds k true) a' w' → K a' w') → Oper.wp P ok a w K Q) :
    wpAnyL P md ops Q F last (fuel + 1) listed a w := by
  refine ⟨fun h0 => (by rw [hr] at h0; cases h0), fun j hj => ?_⟩
  rw [hr] at hj
  have hji : j = i ∨ j = k := by simpa using hj
  rcases hji with rfl | rfl
  · unfold wpOp
    simp only [hoi]
    have hw : Region.wanted oi (yielded ops a.tmps) = true := by simp [Region.wanted, hgi]
    rw [if_pos hw]
    exact .inl (h _ fun a' w' h1 h2 => ⟨h1, h2⟩)
  · unfold wpOp
    simp only [hok]
    have hw : Region.wanted ok (yielded ops a.tmps) = true := by simp [Region.wanted, hgk]
    rw [if_pos hw]
    exact .inl (h' _ fun a' w' h1 h2 => ⟨h1, h2⟩)
end
theorem row3_ok {x y z : Int} (hx : 0 ≤ x ∧ x < 1000) (hy : 0 ≤ y ∧ y < 1000) (hz : 0 ≤ z ∧ z < 1000) : rowOk [x, y, z] = true := by
  rw [rowOk_iffS]
  refine ⟨by simp, fun a ha => ?_⟩
  simp at ha
  omega
theorem row3_rd {w : World} {q : Nat} {x y z : Int} {t : TypeId} (h : Blk w q #[.int .i64 x, .int .i64 y, .int .i64 z] t) : Rd w w.heap.size (rowCells [x, y, z]) [.slice (some ⟨q, 0, none⟩) 3 3] := by
  refine IRow.rd (xs := [x, y, z]) ⟨rfl, fun _ => ⟨q, 0, rfl, h.lt, fun j hj => ?_⟩⟩ (Nat.le_refl _) (by unfold maxLen; omega)
  rw [h.cell]
  have : j = 0 ∨ j = 1 ∨ j = 2 := by omega
  rcases this with rfl | rfl | rfl <;> rfl
section
variable {r s : List Int}
theorem ws_ok (hr : rowOk r = true) (hl : r.length = 3) : rowOk (withSum r) = true ∧ (withSum r).length = 4 := by
  rw [withSum_yes hr (by omega)]
  exact ⟨rowOk_snoc hr (by omega) (sumOf_bd hr).1 (sumOf_bd hr).2, by simp [hl]⟩
theorem getD_okM (hs : rowOk s = true) (i : Nat) : 0 ≤ s.getD i 0 ∧ s.getD i 0 ≤ 1000000000 := by
  rw [rowOk_iffS] at hs
  by_cases hi : i < s.length
  · have : s.getD i 0 = s[i] := by simp [List.getD, List.getElem?_eq_getElem hi]
    rw [this]
    exact hs.2 _ (List.getElem_mem hi)
  · have : s.getD i 0 = 0 := by simp [List.getD, List.getElem?_eq_none (Nat.le_of_not_lt hi)]
    rw [this]
    omega
theorem equal_same (hs : rowOk s = true) : equalIn (pairOf s s) = true := by rw [equal_pair hs hs]; simp
theorem equal_other {I : Nat} {y : Int} (hs : rowOk s = true) (hI : I < s.length) (h0 : s.getD I 0 ≠ y) (y0 : 0 ≤ y) (y1 : y ≤ 1000000000) : equalIn (pairOf s (s.set I y)) = false := by
  rw [equal_pair hs (set_ok hs y0 y1)]
  refine decide_eq_false fun h => h0 ?_
  have e : s.getD I 0 = (s.set I y).getD I 0 := congrArg (fun l => l.getD I 0) h
  rw [e]
  simp [List.getD, hI]
theorem rotted_pairN {I : Nat} {y : Int} (hs : rowOk s = true) (hI : I < s.length) (y0 : 0 ≤ y) (y1 : y ≤ 1000000000) : rotted ⟨kk s, []⟩ 2 (I : Int) y = (⟨kk (s.set I y), []⟩, true) := rotted_pair hs (by omega) (by omega) y0 y1
theorem right_bent {I : Nat} {y : Int} (hr : rowOk r = true) (hl : r.length = 3) (hI : I < 4) (h0 : (withSum r).getD I 0 ≠ y) (h1 : (withSum r).getD I 0 - y ≤ 999999) (h2 : y - (withSum r).getD I 0 ≤ 999999) (y0 : 0 ≤ y) (y1 : y ≤ 1000000000) : rightAt (pairOf (withSum r) ((withSum r).set I y)) 2 = [r] := by
  obtain ⟨ok, ln⟩ := ws_ok hr hl
  rw [right_pair ok (set_ok ok y0 y1), uns_with hr (by omega), uns_bent hr (by omega) (by omega) h0 h1 h2]
  simp
theorem right_same (hr : rowOk r = true) (hl : r.length = 3) : rightAt (pairOf (withSum r) (withSum r)) 2 = [r] := by
  obtain ⟨ok, ln⟩ := ws_ok hr hl
  rw [right_pair ok ok, uns_with hr (by omega)]
  simp
theorem mended_pair {s s' : List Int} (h : rowOk s = true) (h' : rowOk s' = true) (hr : rowOk r = true) (hl : r.length = 3) : mendedAt (pairOf s s') 2 r = pairOf (withSum r) (withSum r) := by
  have e := both_pair h h' hr (by omega)
  unfold mendedAt
  rw [e, if_pos rfl]
  exact bothSynced_pair h h' (ws_ok hr hl).1
end
section
variable {w w' : World} {B p b off : Nat}
theorem LCur.ne_slice (h : LCur w B p) {A : Option Addr} {n c : Nat} (hc : w.cell? ⟨b, off + 2, none⟩ = some (.slice A n c)) : b ≠ p := by
  rintro rfl
  obtain ⟨A', n', c', i, y, hh, _⟩ := h
  have e := (cell_of_blk hh (off + 2)).symm.trans hc
  rcases off with _ | off
  · simp at e
  · simp at e
theorem LCur.ne_int (h : LCur w B p) {x y : Int} (hc : w.cell? ⟨b, off + 0, none⟩ = some (.int .i64 x)) (hd : w.cell? ⟨b, off + 1, none⟩ = some (.int .i64 y)) : b ≠ p := by
  rintro rfl
  obtain ⟨A', n', c', i, z, hh, _⟩ := h
  have e := (cell_of_blk hh (off + 0)).symm.trans hc
  have f := (cell_of_blk hh (off + 1)).symm.trans hd
  rcases off with _ | off
  · simp at e
  · rcases off with _ | off
    · simp at f
    · simp at f
theorem grown_cell (g : w.grownBy w' (some p)) (hb : b < w.heap.size) (hne : b ≠ p) (i : Nat) : w'.cell? ⟨b, i, none⟩ = w.cell? ⟨b, i, none⟩ := by
  have e := g.block b hb (fun e => by injection e with e; exact hne e)
  unfold World.cell?
  simp only [e]
/-- The third sector of a disk with a row of four numbers there: its cells, and that a draw leaves them alone. -/
theorem third_cells {s : List Int} {A : Option Addr} {n c : Nat} {v : Value} (h : Rd w w.heap.size (⟨kk s, []⟩ : DiskM).cells [.slice A n c, v]) (hl : s.length = 4) (hc : LCur w B p) :
    ∃ kb ko rb ro rc, n = 4 ∧ A = some ⟨kb, ko, none⟩ ∧ ∀ w', w.grownBy w' (some p) → w'.cell? ⟨kb, ko + 2, none⟩ = some (.slice (some ⟨rb, ro, none⟩) 4 rc) ∧ ∀ j, j < 4 → w'.cell? ⟨rb, ro + j, none⟩ = some (.int .i64 (s.getD j 0)) := by
  have hn : n = 4 := (rdKeptLen h).symm
  subst hn
  obtain ⟨_, _, _, _, _, _, e, _, h1, _⟩ := h.disk
  injection e with e1 e2 e3
  subst e1 e2 e3
  obtain ⟨_, _, _, e, _, _, _, h3⟩ := h1.kept
  injection e with e1 e2 e3
  subst e1 e2 e3
  obtain ⟨kb, ko, rfl, hkb, hk⟩ := h3 (by decide)
  obtain ⟨A', m, rc, hcell, hrow, _, _⟩ := hk 2 (by simp [kk])
  have hm : m = 4 := by rw [← hrow.1]; exact hl
  subst hm
  obtain ⟨rb, ro, rfl, hrb, hr⟩ := hrow.2 (by decide)
  have n1 := hc.ne_slice hcell
  have n2 := hc.ne_int (hr 0 (by decide)) (hr 1 (by decide))
  exact ⟨kb, ko, rb, ro, rc, rfl, rfl, fun w' g => ⟨(grown_cell g hkb n1 _).trans hcell, fun j hj => (grown_cell g hrb n2 _).trans (hr j hj)⟩⟩
theorem first_row {r : List Int} {A : Option Addr} {n c : Nat} (h : Rd w w.heap.size [keptD [r]] [.slice A n c]) : ∃ kb ko A' rc, n = 1 ∧ kb < w.heap.size ∧ A = some ⟨kb, ko, none⟩ ∧ w.cell? ⟨kb, ko, none⟩ = some (.slice A' r.length rc) ∧ Rd w w.heap.size (rowCells r) [.slice A' r.length rc] := by
  obtain ⟨_, _, _, e, hl, _, _, h3⟩ := h.kept
  injection e with e1 e2 e3
  subst e1 e2 e3
  have hn : n = 1 := hl.symm
  subst hn
  obtain ⟨kb, ko, rfl, hkb, hk⟩ := h3 (by decide)
  obtain ⟨A', m, rc, hcell, hrow, h1, h2⟩ := hk 0 (by simp)
  have hm : m = r.length := by rw [← hrow.1]; rfl
  subst hm
  exact ⟨kb, ko, A', rc, rfl, hkb, rfl, hcell, IRow.rd hrow h1 h2⟩
end

end Go.Proofs.Ytejcpoidoekleaa
