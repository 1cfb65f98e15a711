/- Parts of my texts: KA. -/
import Derived.Test.YthjjdelpdiipdaaGreatDoorRows
import Derived.Below
import Derived.Laws.OwnMore
import Derived.WalkKit
import Derived.Deep.Draws
import Derived.Deep.OwnRows
import Derived.Lib.Hide
import Derived.Deep.QuietTactic
import Derived.BigQuiet
import Derived.Laws.CopyOwn
import Derived.Maps.AppendAt
import Derived.OrdersHeld
import Derived.OpenShut
namespace Go.Proofs.YthjjdelpdiipdaaGreatDoor
set_option maxRecDepth 100000
set_option linter.unusedVariables false
open Go.RowKit
theorem ret_bool {a b : Bool} (h : a = b) : Ending.returned (.bool a) = .returned (.bool b) := by rw [h]
theorem ret_i64 {a b : Int} (h : a = b) : Ending.returned (.int .i64 a) = .returned (.int .i64 b) := by rw [h]
def ivals (xs : List Int) : List Value := xs.map (Value.int .i64)
theorem ivals_length (xs : List Int) : (ivals xs).length = xs.length := by simp [ivals]
theorem ivals_get (xs : List Int) (j : Nat) : (ivals xs)[j]? = (xs[j]?).map (Value.int .i64) := by simp [ivals]
def IRow (w : World) (B : Nat) (A : Option Addr) (n : Nat) (xs : List Int) : Prop :=
 xs.length = n ∧ (0 < n → ∃ b off, A = some ⟨b, off, none⟩ ∧ b < B ∧ ∀ j, j < n → w.cell? ⟨b, off + j, none⟩ = some (.int .i64 (xs.getD j 0)))
theorem IRow.len {w : World} {B : Nat} {A : Option Addr} {n : Nat} {xs : List Int} (h : IRow w B A n xs) : xs.length = n := h.1
theorem IRow.below {w w' : World} {B : Nat} {A : Option Addr} {n : Nat} {xs : List Int} (h : IRow w B A n xs) (hb : Below B w w') : IRow w' B A n xs := by
 refine ⟨h.1, fun hn => ?_⟩
 obtain ⟨b, off, rfl, hlt, hc⟩ := h.2 hn
 exact ⟨b, off, rfl, hlt, fun j hj => (hb.cell (p := ⟨b, off + j, none⟩) hlt).trans (hc j hj)⟩
theorem IRow.up {w : World} {B B' : Nat} {A : Option Addr} {n : Nat} {xs : List Int} (h : IRow w B A n xs) (hB : B ≤ B') : IRow w B' A n xs := by
 refine ⟨h.1, fun hn => ?_⟩
 obtain ⟨b, off, rfl, hlt, hc⟩ := h.2 hn
 exact ⟨b, off, rfl, by omega, hc⟩
theorem IRow.drewN {w : World} {B : Nat} {A : Option Addr} {n : Nat} {xs : List Int} (h : IRow w B A n xs) (m : Nat) : IRow (w.drewN m) B A n xs := h
theorem below_drewN {B : Nat} {a w : World} (h : Below B a w) (m : Nat) : Below B a (w.drewN m) := ⟨h.os, h.tape, h.output, h.size, h.block⟩
def Own (w : World) (base : Nat) (A : Option Addr) (n c : Nat) (xs : List Int) : Prop :=
 w.ownsRow base 2 1 (.slice A n c) n (ivals xs)
theorem Own.len {w : World} {base : Nat} {A : Option Addr} {n c : Nat} {xs : List Int} (h : Own w base A n c xs) : xs.length = n := by
 have := h.1
 simpa [ivals] using this
theorem Own.irow {w : World} {base : Nat} {A : Option Addr} {n c : Nat} {xs : List Int} (h : Own w base A n c xs) : IRow w w.heap.size A n xs := by
 refine ⟨h.len, fun hn => ?_⟩
 have hl := h.len
 rcases h.2 with ⟨_, h0⟩ | ⟨g, cap, cur, hv, hg, hh, hnc, hcm, hcs, htake⟩
 · omega
 · injection hv with h1 h2 h3
   subst h1 h3
   refine ⟨g, 0, rfl, ?_, fun j hj => ?_⟩
   · rcases Nat.lt_or_ge g w.heap.size with hlt | hge
     · exact hlt
     · rw [Array.getElem?_eq_none hge] at hh; cases hh
   · have hc := World.ownsRow.cellAt (w := w) (base := base) (e := 2) (size := 1) (g := g) (n := n) (cap := c) (xs := ivals xs) h j (by omega)
     rw [Nat.zero_add, hc, ivals_get, List.getElem?_eq_getElem (by omega)]
     simp [List.getD, List.getElem?_eq_getElem (show j < xs.length by omega)]
def IsRow (k : IntKind) (w : World) (a : Option Addr) (len cap : Nat) (zs : List Int) : Prop :=
 (a = none ∧ len = 0 ∧ cap = 0 ∧ zs = []) ∨
 ∃ x, a = some x ∧ len ≤ cap ∧ cap ≤ maxLen ∧ zs.length = cap ∧ (∀ i, i < zs.length → w.cell? (x.add i) = some (.int k (zs.getD i 0))) ∧ ∀ n ∈ zs, (Lit.int k n).wf = true
theorem jd {p : Prop} (h : p) : Hid p := h
theorem lc {w : World} {p : Addr} {u : Value} (h : w.cell? p = some u) : p.block < w.heap.size := by
 rcases Nat.lt_or_ge p.block w.heap.size with hlt | hge
 · exact hlt
 · unfold World.cell? at h
   rw [Array.getElem?_eq_none hge] at h
   simp at h
theorem cq {w v : World} {p : Addr} {u : Value} (h : Below w.heap.size w v) (f : w.cell? p = some u) : v.cell? p = some u := (h.cell (lc f)).trans f
theorem cu {B : Nat} {w v : World} {p : Addr} {u : Value} (h : Below B w v) (f : w.cell? p = some u) (hb : p.block < B) : v.cell? p = some u := (h.cell hb).trans f
theorem IsRow.irow {w : World} {a : Option Addr} {len cap : Nat} {zs : List Int} (h : IsRow .i64 w a len cap zs) : IRow w w.heap.size a len (zs.take len) := by
 rcases h with ⟨rfl, rfl, rfl, rfl⟩ | ⟨x, rfl, hl, hm, hz, hcell, hwz⟩
 · exact ⟨rfl, fun h => absurd h (by omega)⟩
 · refine ⟨by simp; omega, fun hn => ?_⟩
   obtain ⟨b, off, spot⟩ := x
   have hc := hcell 0 (by omega)
   have hspot : spot = none := by simpa [Addr.add] using World.cell?_spot hc
   subst hspot
   refine ⟨b, off, rfl, by simpa [Addr.add] using lc hc, fun j hj => ?_⟩
   have hj' := hcell j (by omega)
   have e : (⟨b, off, none⟩ : Addr).add j = ⟨b, off + j, none⟩ := by
    unfold Addr.add
    by_cases h0 : j = 0 <;> simp [h0]
   rw [e] at hj'
   rw [hj']
   simp [List.getD, hj]
theorem info64 : (Tryz.prog.info? 2).map (fun i => (i.zero, i.size, i.bytes)) = some (some (.int .i64 0), 1, 8) := by kernel_rfl
end Go.Proofs.YthjjdelpdiipdaaGreatDoor
namespace Go.Proofs.YthjjdelpdiipdaaGreatDoor
set_option maxRecDepth 100000
open Go.RowKit
theorem to_step (xs : List Int) (n k : Nat) (hl : xs.length = n) (hk : k < n) :
    (ivals (xs.take k ++ List.replicate (n - k) 0)).set k (.int .i64 (xs.getD k 0)) = ivals (xs.take (k + 1) ++ List.replicate (n - (k + 1)) 0) := by
 apply List.ext_getElem?
 intro j
 simp only [ivals, List.getElem?_set, List.getElem?_map, List.getElem?_append, List.length_map, List.length_append, List.length_take, List.length_replicate, List.getElem?_take, List.getElem?_replicate]
 have e1 : min k xs.length = k := by omega
 have e2 : min (k + 1) xs.length = k + 1 := by omega
 rw [e1, e2]
 by_cases h : k = j
 · subst h
   rw [if_pos rfl, if_pos (by omega), if_pos (by omega), if_pos (by omega)]
   simp [List.getD, List.getElem?_eq_getElem (show k < xs.length by omega)]
 · rw [if_neg h]
   by_cases h2 : j < k
   · rw [if_pos h2, if_pos h2, if_pos (by omega), if_pos (by omega)]
   · have g1 : ¬ j < k + 1 := by omega
     by_cases h3 : j < n
     · have g2 : j - k < n - k := by omega
       have g3 : j - (k + 1) < n - (k + 1) := by omega
       simp [h2, g1, g2, g3]
     · have g2 : ¬ j - k < n - k := by omega
       have g3 : ¬ j - (k + 1) < n - (k + 1) := by omega
       simp [h2, g1, g2, g3]
set_option maxHeartbeats 400000 in
theorem to_any (A : Option Addr) (n c : Nat) (xs : List Int) (w : World) (h : IRow w w.heap.size A n xs) (hn : n ≤ 1048576) :
    Calls Tryz.prog 18 #[.slice A n c] w fun e w' => e = .returned (.slice (some ⟨w.heap.size, 0, none⟩) n n) ∧ Own w' w.heap.size (some ⟨w.heap.size, 0, none⟩) n n xs ∧ Below w.heap.size w w' := by
 have hmk := run_make_row' (P := Tryz.prog) 60 2 (.int .i64 0) 8 Tryz.underlying60 info64 rfl .i64 .i64 n (by omega) (by omega)
 have hl := jd h.1
 go_enter Tryz.func18, Tryz.ntmps18
 go_wp2
 go_loopw [4] (fun i wr => ∃ k : Nat, k ≤ n ∧ i = .int .i64 k ∧ Own wr w.heap.size (some ⟨w.heap.size, 0, none⟩) n n (xs.take k ++ List.replicate (n - k) 0) ∧ Below w.heap.size w wr) (fun i _ => n - (intOf i).toNat)
 case atStart =>
  refine ⟨0, Nat.zero_le _, rfl, ?_, (Below.refl _ _).alloc (Nat.le_refl _) _⟩
  have := World.ownsRow_lit (base := w.heap.size) (e := 2) (size := 1) w (madeCells #[.int .i64 0] n) n (Nat.le_refl _) (by simp only [maxLen]; omega) (by rw [size_madeCells]; omega)
  rw [toList_madeCells_one] at this
  simpa [Own, ivals] using this
 case round =>
  obtain ⟨k, hk, rfl, hown, hbel⟩ := hrel
  clear hmk
  by_cases hlt : k < n
  · obtain ⟨b, off, rfl, hb, hc⟩ := h.2 (by omega)
    have hcell := (hbel.cell (p := ⟨b, off + k, none⟩) hb).trans (hc k hlt)
    obtain ⟨x, hx⟩ : ∃ x, x = xs.getD k 0 := ⟨_, rfl⟩
    rw [← hx] at hcell
    have HX := jd hx
    clear hx
    have hold : wr.cell? ⟨w.heap.size, k, none⟩ = some (.int .i64 0) := by
     rw [World.ownsRow.cellAt hown k (by omega), ivals_get, List.getElem?_append_right (by simp; omega), List.getElem?_replicate, if_pos (by have := hl.out; simp; omega)]
     rfl
    have hfr : wr.frozen? ⟨w.heap.size, k, none⟩ = false := World.ownsRow.frozenAt hown k
    have R := World.ownsRow.stored hown k (.int .i64 x)
    have R1 := jd (p := Own (wr.setCell ⟨w.heap.size, k, none⟩ (.int .i64 x)) w.heap.size (some ⟨w.heap.size, 0, none⟩) n n (xs.take (k + 1) ++ List.replicate (n - (k + 1)) 0)) (by
     have h1 := R.1
     rw [HX.out, to_step xs n k hl.out hlt] at h1
     rw [HX.out]
     exact h1)
    have R2 := jd (hbel.setCell (p := ⟨w.heap.size, k, none⟩) (Nat.le_refl _) (.int .i64 x))
    clear R hc h hown hbel
    go_wp2
    go_roundw
    case rel => exact ⟨k + 1, by omega, by go_num, R1.out, R2.out⟩
    case measure => simp [intOf]; omega
  · go_wp2
    go_ret
    have hkn : k = n := by omega
    subst hkn
    refine ⟨rfl, ?_, hbel⟩
    have := hown
    rw [Nat.sub_self, List.replicate_zero, List.append_nil, List.take_of_length_le (by have := hl.out; omega)] at this
    exact this
end Go.Proofs.YthjjdelpdiipdaaGreatDoor
namespace Go.Proofs.YthjjdelpdiipdaaGreatDoor
set_option maxRecDepth 100000
open Go.RowKit
def Drew (w w' : World) : Prop := ∃ m, w' = w.drewN m
theorem Drew.refl (w : World) : Drew w w := ⟨0, rfl⟩
theorem Drew.trans {a b c : World} (h : Drew a b) (k : Drew b c) : Drew a c := by
 obtain ⟨m, rfl⟩ := h
 obtain ⟨q, rfl⟩ := k
 exact ⟨m + q, by rw [World.drewN_drewN]⟩
theorem Drew.more {a b : World} (h : Drew a b) (m : Nat) : Drew a (b.drewN m) := h.trans ⟨m, rfl⟩
theorem Drew.below {a b : World} (h : Drew a b) (B : Nat) : Below B a b := by
 obtain ⟨m, rfl⟩ := h
 exact below_drewN (Below.refl _ _) m
theorem Drew.cell {a b : World} (h : Drew a b) (p : Addr) : b.cell? p = a.cell? p := by
 obtain ⟨m, rfl⟩ := h
 rfl
set_option maxHeartbeats 400000 in
theorem eq_yes (A A' : Option Addr) (n c c' B B' : Nat) (xs : List Int) (w : World) (h : IRow w B A n xs) (h' : IRow w B' A' n xs) (hn : n ≤ 1048577) :
    Calls Tryz.prog 20 #[.slice A n c, .slice A' n c'] w fun e w' => e = .returned (.bool true) ∧ Drew w w' := by
 go_enter Tryz.func20, Tryz.ntmps20
 go_wp2
 go_loopw [5] (fun i wr => ∃ k : Nat, k ≤ n ∧ i = .int .i64 k ∧ Drew w wr) (fun i _ => n - (intOf i).toNat)
 case atStart => exact ⟨0, Nat.zero_le _, rfl, Drew.refl _⟩
 case round =>
  obtain ⟨k, hk, rfl, hd⟩ := hrel
  by_cases hlt : k < n
  · obtain ⟨b, off, rfl, hb, hc⟩ := h.2 (by omega)
    obtain ⟨b', off', rfl, hb', hc'⟩ := h'.2 (by omega)
    have hcell := (hd.cell ⟨b, off + k, none⟩).trans (hc k hlt)
    have hcell' := (hd.cell ⟨b', off' + k, none⟩).trans (hc' k hlt)
    generalize xs.getD k 0 = x at hcell hcell'
    have i0 : (0 : Int) ≤ (k : Int) := by omega
    have i1 : (k : Int) < (n : Int) := by omega
    clear hc hc' h h'
    go_wp2
    go_quiet (fail)
    go_wp2
    go_roundw
    case rel => exact ⟨k + 1, by omega, by go_num, hd.more _⟩
    case measure => simp [intOf]; omega
  · go_wp2
    go_ret
    exact ⟨rfl, hd⟩
end Go.Proofs.YthjjdelpdiipdaaGreatDoor
namespace Go.Proofs.YthjjdelpdiipdaaGreatDoor
set_option maxRecDepth 100000
open Go.RowKit
theorem in_any (x a b : Int) (w : World) :
    Calls Tryz.prog 33 #[.int .i64 x, .int .i64 a, .int .i64 b] w fun e w' => e = .returned (.bool (decide (a ≤ x) && decide (x ≤ b))) ∧ w = w' := by
 by_cases h1 : a ≤ x
 · by_cases h2 : x ≤ b
   all_goals
    go_enter Tryz.func33, Tryz.ntmps33
    go_wp2
    go_ret
    exact ⟨by simp [h1, h2], rfl⟩
 · go_enter Tryz.func33, Tryz.ntmps33
   go_wp2
   go_ret
   exact ⟨ret_bool (by simp; omega), rfl⟩
end Go.Proofs.YthjjdelpdiipdaaGreatDoor
namespace Go.Proofs.YthjjdelpdiipdaaGreatDoor
set_option maxRecDepth 100000
open Go.RowKit
theorem cell_of_blk {w : World} {p : Nat} {cs : Array Value} {t : TypeId} (h : w.heap[p]? = some (.cells cs t (0, 0))) (i : Nat) : w.cell? ⟨p, i, none⟩ = cs[i]? := cell_of_row w p i cs t (0, 0) h
theorem free_of_blk {w : World} {p : Nat} {cs : Array Value} {t : TypeId} (h : w.heap[p]? = some (.cells cs t (0, 0))) (i : Nat) : w.frozen? ⟨p, i, none⟩ = false := frozen_of_row w p i cs t h
theorem set_blk {w : World} {p : Nat} {cs : Array Value} {t : TypeId} (h : w.heap[p]? = some (.cells cs t (0, 0))) (i : Nat) (u : Value) :
    (w.setCell ⟨p, i, none⟩ u).heap[p]? = some (.cells (cs.setIfInBounds i u) t (0, 0)) := heap_setCell_same w p i cs t u h
theorem grown_setCell (w : World) (p i : Nat) (u : Value) : w.grownBy (w.setCell ⟨p, i, none⟩ u) (some p) :=
 ⟨rfl, rfl, rfl, by simp, fun k _ hk => heap_setCell_other w ⟨p, i, none⟩ k u (fun e => hk (by simp [e]))⟩
section
variable {w w' : World} {base B : Nat} {A : Option Addr} {n c : Nat} {xs ys : List Int}
theorem Own.below (h : Own w base A n c xs) (hb : Below w.heap.size w w') : Own w' base A n c xs := by
 refine ⟨h.1, ?_⟩
 rcases h.2 with h0 | ⟨g, cap, cur, hv, hg, hh, r⟩
 · exact .inl h0
 · refine .inr ⟨g, cap, cur, hv, hg, ?_, r⟩
   rw [hb.block g]
   · exact hh
   · rcases Nat.lt_or_ge g w.heap.size with hlt | hge
     · exact hlt
     · rw [Array.getElem?_eq_none hge] at hh; cases hh
theorem Own.drew (h : Own w base A n c xs) (hd : Drew w w') : Own w' base A n c xs := h.below (hd.below _)
theorem Own.up {base' : Nat} (h : Own w base A n c xs) (hb : base' ≤ base) : Own w base' A n c xs := by
 refine ⟨h.1, ?_⟩
 rcases h.2 with h0 | ⟨g, cap, cur, hv, hg, r⟩
 · exact .inl h0
 · exact .inr ⟨g, cap, cur, hv, Nat.le_trans hb hg, r⟩
theorem Own.at_ (h : Own w base A n c xs) (hn : 0 < n) : ∃ g, A = some ⟨g, 0, none⟩ ∧ base ≤ g ∧ g < w.heap.size := by
 rcases h.2 with ⟨_, h0⟩ | ⟨g, cap, cur, hv, hg, hh, r⟩
 · omega
 · injection hv with h1 h2 h3
   refine ⟨g, h1, hg, ?_⟩
   rcases Nat.lt_or_ge g w.heap.size with hlt | hge
   · exact hlt
   · rw [Array.getElem?_eq_none hge] at hh; cases hh
theorem Own.ge (h : Own w base A n c xs) : ∀ k, (Value.slice A n c).ownBlock = some k → base ≤ k ∧ k < w.heap.size := World.ownsRow.lt h
theorem Own.kept {row : Option Nat} (h : Own w base A n c xs) (hg : w.grownBy w' row) (hr : ∀ k, row = some k → k < base) : Own w' base A n c xs := by
 refine World.ownsRow.kept h hg ?_
 cases hv : (Value.slice A n c).ownBlock with
 | none => exact .inl rfl
 | some k =>
  refine .inr fun e => ?_
  have := hr k e.symm
  have := (h.ge k hv).1
  omega
theorem Own.blk {g : Nat} (h : Own w base (some ⟨g, 0, none⟩) n n xs) : w.heap[g]? = some (.cells (ivals xs).toArray 2 (0, 0)) ∧ base ≤ g := by
 rcases h.2 with ⟨h0, _⟩ | ⟨g', cap, cur, hv, hg, hh, hnc, hcm, hcs, htake⟩
 · simp at h0
 · simp only [Value.slice.injEq, Option.some.injEq, Addr.mk.injEq, and_true, true_and] at hv
   obtain ⟨rfl, rfl⟩ := hv
   refine ⟨?_, hg⟩
   rw [hh, ← htake, List.take_of_length_le (by rw [Array.length_toList, hcs]; exact Nat.le_refl _)]
theorem IRow.cells {A' : Option Addr} {m : Nat} (h : IRow w B A' m ys) {ad : Addr} (ha : A' = some ad) : ∀ j u, (ivals ys)[j]? = some u → w.cell? (ad.add j) = some u := by
 intro j u hu
 have hl := h.1
 have hj : j < ys.length := by
  rcases Nat.lt_or_ge j ys.length with h0 | h0
  · exact h0
  · rw [ivals_get, List.getElem?_eq_none h0] at hu; cases hu
 obtain ⟨b, off, hA, _, hc⟩ := h.2 (by omega)
 rw [ha] at hA
 injection hA with hA
 subst hA
 have e : (⟨b, off, none⟩ : Addr).add j = ⟨b, off + j, none⟩ := by
  unfold Addr.add
  by_cases h0 : j = 0 <;> simp [h0]
 rw [e, hc j (by omega), ← hu, ivals_get]
 simp [List.getD, List.getElem?_eq_getElem hj]
end
def upFrom (k : Int) (n : Nat) : List Int := (List.range n).map fun (i : Nat) => k + (i : Int)
theorem upFrom_length (k : Int) (n : Nat) : (upFrom k n).length = n := by simp [upFrom]
theorem upFrom_get (k : Int) (n j : Nat) (h : j < n) : (upFrom k n).getD j 0 = k + (j : Int) := by simp [upFrom, List.getD, h]
theorem mark_step (xs : List Int) (k : Int) (n j : Nat) (hl : xs.length = n) (hj : j < n) :
    (ivals (upFrom k j ++ xs.drop j)).set j (.int .i64 (k + (j : Int))) = ivals (upFrom k (j + 1) ++ xs.drop (j + 1)) := by
 have h1 : ivals (upFrom k j ++ xs.drop j) = ivals (upFrom k j) ++ ivals (xs.drop j) := by simp [ivals]
 have h2 : xs.drop j = xs[j] :: xs.drop (j + 1) := List.drop_eq_getElem_cons (by omega)
 have h3 : upFrom k (j + 1) = upFrom k j ++ [k + (j : Int)] := by simp [upFrom, List.range_succ]
 rw [h1, List.set_append_right _ _ (by rw [ivals_length, upFrom_length]; omega), ivals_length, upFrom_length, Nat.sub_self, h2, h3]
 simp only [ivals, List.map_cons, List.map_append, List.set_cons_zero, List.append_assoc, List.cons_append, List.nil_append]
set_option maxHeartbeats 400000 in
theorem mark_any (A : Option Addr) (n c base : Nat) (xs : List Int) (w : World) (o : Own w base A n c xs) (hn : n ≤ 1048577) (k : Int) (k0 : 0 ≤ k) (k1 : k ≤ 1099511627776) :
    Calls Tryz.prog 21 #[.slice A n c, .int .i64 k] w fun e w' => e = .returned (.int .i64 (k + (n : Int))) ∧ Own w' base A n c (upFrom k n) ∧ w.grownBy w' (Value.slice A n c).ownBlock := by
 have hl := jd o.len
 have O := jd o
 clear o
 go_enter Tryz.func21, Tryz.ntmps21
 go_wp2
 go_loopw [1, 5] (fun q i wr => ∃ j : Nat, j ≤ n ∧ i = .int .i64 j ∧ q = .int .i64 (k + (j : Int)) ∧ Own wr base A n c (upFrom k j ++ xs.drop j) ∧ w.grownBy wr (Value.slice A n c).ownBlock) (fun _ i _ => n - (intOf i).toNat)
 case atStart => exact ⟨0, Nat.zero_le _, rfl, by simp, by simpa [upFrom] using O.out, World.grownBy.refl _ _⟩
 case round =>
  obtain ⟨j, hj, rfl, rfl, hown, hgr⟩ := hrel
  by_cases hlt : j < n
  · obtain ⟨g, rfl, _⟩ := O.out.at_ (by omega)
    have hold : wr.cell? ⟨g, j, none⟩ = some (.int .i64 (xs.getD j 0)) := by
     rw [World.ownsRow.cellAt hown j (by omega), ivals_get, List.getElem?_append_right (by rw [upFrom_length]; omega), upFrom_length, Nat.sub_self, List.drop_eq_getElem_cons (by have := hl.out; omega)]
     simp [List.getD, List.getElem?_eq_getElem (show j < xs.length by have := hl.out; omega)]
    generalize xs.getD j 0 = y at hold
    have hfr : wr.frozen? ⟨g, j, none⟩ = false := World.ownsRow.frozenAt hown j
    have R := World.ownsRow.stored hown j (.int .i64 (k + (j : Int)))
    have R1 := jd (p := Own (wr.setCell ⟨g, j, none⟩ (.int .i64 (k + (j : Int)))) base (some ⟨g, 0, none⟩) n c (upFrom k (j + 1) ++ xs.drop (j + 1))) (by
     have h1 := R.1
     rw [mark_step xs k n j hl.out hlt] at h1
     exact h1)
    have R2 := jd (hgr.trans R.2)
    clear R hown hgr O
    go_wp2
    go_roundw
    case rel => exact ⟨j + 1, by omega, by go_num, by go_num, R1.out, R2.out⟩
    case measure => simp [intOf]; omega
  · go_wp2
    go_ret
    have hjn : j = n := by omega
    subst hjn
    refine ⟨rfl, ?_, hgr⟩
    have := hown
    rw [List.drop_eq_nil_of_le (by have := hl.out; omega), List.append_nil] at this
    exact this
set_option maxHeartbeats 400000 in
theorem held_any (A : Option Addr) (n c B : Nat) (w : World) (k : Int) (h : IRow w B A n (upFrom k n)) (hn : n ≤ 1048577) (k0 : 0 ≤ k) (k1 : k ≤ 1099511627776) :
    Calls Tryz.prog 168 #[.slice A n c, .int .i64 k] w fun e w' => e = .returned (.int .i64 (k + (n : Int))) ∧ w = w' := by
 go_enter Tryz.func168, Tryz.ntmps168
 go_wp2
 go_loop [1, 5] (fun q i => ∃ j : Nat, j ≤ n ∧ i = .int .i64 j ∧ q = .int .i64 (k + (j : Int))) (fun _ i => n - (intOf i).toNat)
 case atStart => exact ⟨0, Nat.zero_le _, rfl, by simp⟩
 case round =>
  obtain ⟨j, hj, rfl, rfl⟩ := hrel
  by_cases hlt : j < n
  · obtain ⟨b, off, rfl, hb, hc⟩ := h.2 (by omega)
    have hcell := hc j hlt
    rw [upFrom_get k n j hlt] at hcell
    clear hc h
    go_wp2
    go_round
    case rel => exact ⟨j + 1, by omega, by go_num, by go_num⟩
    case measure => simp [intOf]; omega
  · go_wp2
    go_ret
    have hjn : j = n := by omega
    subst hjn
    exact ⟨rfl, rfl⟩
end Go.Proofs.YthjjdelpdiipdaaGreatDoor
namespace Go.Proofs.YthjjdelpdiipdaaGreatDoor
set_option maxRecDepth 100000
open Go.RowKit
def numOk (x : Int) : Bool := decide (0 ≤ x) && decide (x ≤ 1000000000)
def rowOk (xs : List Int) : Bool := decide (xs.length ≤ 48) && xs.all numOk
theorem rowOk_long {xs : List Int} (h : 48 < xs.length) : rowOk xs = false := by
 simp only [rowOk, Bool.and_eq_false_iff, decide_eq_false_iff_not]; exact .inl (by omega)
theorem rowOk_bad {xs : List Int} {k : Nat} (hk : k < xs.length) (h : numOk (xs.getD k 0) = false) : rowOk xs = false := by
 simp only [rowOk, Bool.and_eq_false_iff, List.all_eq_false]
 refine .inr ⟨xs.getD k 0, ?_, by rw [h]; simp⟩
 simp [List.getD, List.getElem?_eq_getElem hk]
theorem rowOk_end {xs : List Int} (hl : xs.length ≤ 48) (h : ∀ j, j < xs.length → numOk (xs.getD j 0) = true) : rowOk xs = true := by
 simp only [rowOk, Bool.and_eq_true, decide_eq_true_eq, List.all_eq_true]
 refine ⟨hl, fun x hx => ?_⟩
 obtain ⟨j, hj, rfl⟩ := List.getElem_of_mem hx
 have := h j hj
 simpa [List.getD, List.getElem?_eq_getElem hj] using this
def OkTo (xs : List Int) (k : Nat) : Prop := ∀ j, j < k → numOk (xs.getD j 0) = true
theorem OkTo.zero (xs : List Int) : OkTo xs 0 := fun j hj => absurd hj (by omega)
theorem OkTo.succ {xs : List Int} {k : Nat} (h : OkTo xs k) (hk : numOk (xs.getD k 0) = true) : OkTo xs (k + 1) := by
 intro j hj
 by_cases e : j = k
 · subst e; exact hk
 · exact h j (by omega)
set_option maxHeartbeats 400000 in
theorem sRowOk_any (A : Option Addr) (n c B : Nat) (xs : List Int) (w : World) (h : IRow w B A n xs) (hn : n ≤ 1048577) :
    Calls Tryz.prog 146 #[.slice A n c] w fun e w' => e = .returned (.bool (rowOk xs)) ∧ w = w' := by
 have hl := jd h.1
 by_cases h48 : 48 < n
 · have hr := jd (rowOk_long (xs := xs) (by rw [h.1]; exact h48))
   clear h
   go_enter Tryz.func146, Tryz.ntmps146
   go_wp2
   go_ret
   exact ⟨ret_bool hr.out.symm, rfl⟩
 · go_enter Tryz.func146, Tryz.ntmps146
   go_wp2
   go_loop [3] (fun i => ∃ k : Nat, k ≤ n ∧ i = .int .i64 k ∧ OkTo xs k) (fun i => n - (intOf i).toNat)
   case atStart => exact ⟨0, Nat.zero_le _, rfl, OkTo.zero _⟩
   case round =>
    obtain ⟨k, hk, rfl, ho⟩ := hrel
    by_cases hlt : k < n
    · obtain ⟨b, off, rfl, hb, hc⟩ := h.2 (by omega)
      have hcell := hc k hlt
      obtain ⟨x, hx⟩ : ∃ x, x = xs.getD k 0 := ⟨_, rfl⟩
      rw [← hx] at hcell
      have HX := jd hx
      clear hx hc h
      by_cases hok : 0 ≤ x ∧ x ≤ 1000000000
      · obtain ⟨h1, h2⟩ := hok
        have HO := jd (ho.succ (by rw [← HX.out]; simp [numOk, h1, h2]))
        go_wp2_with (go_at_call 33; refine (in_any _ _ _ _).mono ?_; rintro e w' ⟨rfl, rfl⟩)
        go_round
        case rel => exact ⟨k + 1, by omega, by go_num, HO.out⟩
        case measure => simp [intOf]; omega
      · have hv : (decide (0 ≤ x) && decide (x ≤ 1000000000)) = false := by
          simp only [Bool.and_eq_false_iff, decide_eq_false_iff_not]; omega
        have HO := jd (rowOk_bad (xs := xs) (k := k) (by have := hl.out; omega) (by rw [← HX.out]; exact hv))
        clear hok
        go_wp2_with (go_at_call 33; refine (in_any _ _ _ _).mono ?_; rintro e w' ⟨rfl, rfl⟩; rw [hv])
        go_ret
        exact ⟨ret_bool HO.out.symm, rfl⟩
    · go_wp2
      go_ret
      have hr := rowOk_end (xs := xs) (by have := hl.out; omega) (fun j hj => ho j (by have := hl.out; omega))
      exact ⟨ret_bool hr.symm, rfl⟩
set_option maxHeartbeats 400000 in
theorem iRowOk_any (A : Option Addr) (n c B : Nat) (xs : List Int) (w : World) (h : IRow w B A n xs) (hn : n ≤ 1048577) :
    Calls Tryz.prog 166 #[.slice A n c] w fun e w' => e = .returned (.bool (rowOk xs)) ∧ w = w' := by
 have hl := jd h.1
 by_cases h48 : 48 < n
 · have hr := jd (rowOk_long (xs := xs) (by rw [h.1]; exact h48))
   clear h
   go_enter Tryz.func166, Tryz.ntmps166
   go_wp2
   go_ret
   exact ⟨ret_bool hr.out.symm, rfl⟩
 · go_enter Tryz.func166, Tryz.ntmps166
   go_wp2
   go_loop [10] (fun i => ∃ k : Nat, k ≤ n ∧ i = .int .i64 k ∧ OkTo xs k) (fun i => n - (intOf i).toNat)
   case atStart => exact ⟨0, Nat.zero_le _, rfl, OkTo.zero _⟩
   case round =>
    obtain ⟨k, hk, rfl, ho⟩ := hrel
    by_cases hlt : k < n
    · obtain ⟨b, off, rfl, hb, hc⟩ := h.2 (by omega)
      have hcell := hc k hlt
      obtain ⟨x, hx⟩ : ∃ x, x = xs.getD k 0 := ⟨_, rfl⟩
      rw [← hx] at hcell
      have HX := jd hx
      clear hx hc h
      by_cases h1 : 0 ≤ x
      · by_cases h2 : x ≤ 1000000000
        · have HO := jd (ho.succ (by rw [← HX.out]; simp [numOk, h1, h2]))
          go_wp2
          go_round
          case rel => exact ⟨k + 1, by omega, by go_num, HO.out⟩
          case measure => simp [intOf]; omega
        · have HO := jd (rowOk_bad (xs := xs) (k := k) (by have := hl.out; omega) (by rw [← HX.out]; simp [numOk, h2]))
          go_wp2
          go_ret
          exact ⟨ret_bool HO.out.symm, rfl⟩
      · have HO := jd (rowOk_bad (xs := xs) (k := k) (by have := hl.out; omega) (by rw [← HX.out]; simp [numOk, h1]))
        go_wp2
        go_ret
        exact ⟨ret_bool HO.out.symm, rfl⟩
    · go_wp2
      go_ret
      have hr := rowOk_end (xs := xs) (by have := hl.out; omega) (fun j hj => ho j (by have := hl.out; omega))
      exact ⟨ret_bool hr.symm, rfl⟩
end Go.Proofs.YthjjdelpdiipdaaGreatDoor
namespace Go.Proofs.YthjjdelpdiipdaaGreatDoor
set_option maxRecDepth 100000
open Go.RowKit
end Go.Proofs.YthjjdelpdiipdaaGreatDoor
namespace Go.Proofs.YthjjdelpdiipdaaGreatDoor
set_option maxRecDepth 100000
open Go.RowKit
end Go.Proofs.YthjjdelpdiipdaaGreatDoor
namespace Go.Proofs.YthjjdelpdiipdaaGreatDoor
set_option maxRecDepth 100000
open Go.RowKit
inductive Dat where
 | int (n : Int)
 | bool (b : Bool)
 | rows (e : TypeId) (k : Nat) (cells : List Dat)
inductive Rd (w : World) (B : Nat) : List Dat → List Value → Prop
 | nil : Rd w B [] []
 | int {n ds vs} : Rd w B ds vs → Rd w B (.int n :: ds) (.int .i64 n :: vs)
 | bool {b ds vs} : Rd w B ds vs → Rd w B (.bool b :: ds) (.bool b :: vs)
 | row {e k A n c us cells ds vs} : cells.length = n * k → n ≤ c → c ≤ maxLen →
     (0 < n → ∃ b off, A = some ⟨b, off, none⟩ ∧ b < B ∧ ∀ j, j < n * k → w.cell? ⟨b, off + j, none⟩ = us[j]?) →
     Rd w B cells us → Rd w B ds vs → Rd w B (.rows e k cells :: ds) (.slice A n c :: vs)
inductive Ow (w : World) : List Dat → List Value → List Nat → Prop
 | nil : Ow w [] [] []
 | int {n ds vs fp} : Ow w ds vs fp → Ow w (.int n :: ds) (.int .i64 n :: vs) fp
 | bool {b ds vs fp} : Ow w ds vs fp → Ow w (.bool b :: ds) (.bool b :: vs) fp
 | row {e k v n us cells ds vs fp1 fp2} : w.ownsRow 0 e k v n us → Ow w cells us fp1 → Ow w ds vs fp2 →
     Ow w (.rows e k cells :: ds) (v :: vs) (v.ownBlock.toList ++ (fp1 ++ fp2))
structure Touch (S : List Nat) (w w' : World) : Prop where
 os : w'.os = w.os
 tape : w'.tape = w.tape
 output : w'.output = w.output
 size : w.heap.size ≤ w'.heap.size
 block : ∀ k, k < w.heap.size → k ∉ S → w'.heap[k]? = w.heap[k]?
theorem Touch.refl (S : List Nat) (w : World) : Touch S w w := ⟨rfl, rfl, rfl, Nat.le_refl _, fun _ _ _ => rfl⟩
theorem Touch.trans {S : List Nat} {a b c : World} (h : Touch S a b) (k : Touch S b c) : Touch S a c :=
 ⟨k.os.trans h.os, k.tape.trans h.tape, k.output.trans h.output, Nat.le_trans h.size k.size, fun i hi hn => (k.block i (Nat.lt_of_lt_of_le hi h.size) hn).trans (h.block i hi hn)⟩
theorem Touch.mono {S S' : List Nat} {a b : World} (h : Touch S a b) (hs : ∀ p ∈ S, p ∈ S') : Touch S' a b :=
 ⟨h.os, h.tape, h.output, h.size, fun i hi hn => h.block i hi (fun hm => hn (hs i hm))⟩
theorem Touch.of_below {a b : World} (h : Below a.heap.size a b) (S : List Nat) : Touch S a b := ⟨h.os, h.tape, h.output, h.size, fun i hi _ => h.block i hi⟩
theorem Touch.of_grown {a b : World} {row : Option Nat} (h : a.grownBy b row) {S : List Nat} (hs : ∀ p, row = some p → p ∈ S) : Touch S a b :=
 ⟨h.os, h.tape, h.output, h.size, fun i hi hn => h.block i hi (fun e => hn (hs i e.symm))⟩
theorem Touch.of_set {w : World} {p i : Nat} {u : Value} {S : List Nat} (hs : p ∈ S) : Touch S w (w.setCell ⟨p, i, none⟩ u) :=
 Touch.of_grown (grown_setCell w p i u) (fun q hq => by injection hq with hq; rw [← hq]; exact hs)
theorem Touch.drewN {S : List Nat} {a b : World} (h : Touch S a b) (m : Nat) : Touch S a (b.drewN m) := ⟨h.os, h.tape, h.output, h.size, h.block⟩
theorem Touch.drew {S : List Nat} {a b : World} (h : Touch S a b) : Touch S a b.drew := ⟨h.os, h.tape, h.output, h.size, h.block⟩
theorem Touch.below {S : List Nat} {a b : World} {B : Nat} (h : Touch S a b) (hS : ∀ p ∈ S, B ≤ p) (hB : B ≤ a.heap.size) : Below B a b :=
 ⟨h.os, h.tape, h.output, h.size, fun i hi => h.block i (by omega) (fun hm => by have := hS i hm; omega)⟩
def Blk (w : World) (p : Nat) (cs : Array Value) (t : TypeId) : Prop := w.heap[p]? = some (.cells cs t (0, 0))
section
variable {w w' : World} {p : Nat} {cs : Array Value} {t : TypeId}
theorem Blk.lt (h : Blk w p cs t) : p < w.heap.size := (Array.getElem?_eq_some_iff.1 h).1
theorem Blk.keep {B : Nat} (h : Blk w p cs t) (hb : Below B w w') (hp : p < B) : Blk w' p cs t := (hb.block p hp).trans h
theorem Blk.touch {S : List Nat} (h : Blk w p cs t) (hb : Touch S w w') (hp : p ∉ S) : Blk w' p cs t := (hb.block p h.lt hp).trans h
theorem Blk.cell (h : Blk w p cs t) (i : Nat) : w.cell? ⟨p, i, none⟩ = cs[i]? := cell_of_blk h i
theorem Blk.free (h : Blk w p cs t) (i : Nat) : w.frozen? ⟨p, i, none⟩ = false := free_of_blk h i
theorem Blk.set_ (h : Blk w p cs t) (i : Nat) (u : Value) : Blk (w.setCell ⟨p, i, none⟩ u) p (cs.setIfInBounds i u) t := set_blk h i u
theorem Blk.far (h : Blk w p cs t) {q i : Nat} (u : Value) (hne : p ≠ q) : Blk (w.setCell ⟨q, i, none⟩ u) p cs t := by
 unfold Blk at *
 rw [Below.heap_setCell w ⟨q, i, none⟩ u p hne]
 exact h
theorem Blk.new (w : World) (cs : Array Value) (t : TypeId) : Blk (w.alloc (.cells cs t)) w.heap.size cs t := heap_alloc_new w _
theorem Blk.alloc (h : Blk w p cs t) (o : Obj) : Blk (w.alloc o) p cs t := h.keep ((Below.refl _ _).alloc (Nat.le_refl _) _) h.lt
end
/-! ### Reading -/
section
variable {w w' : World} {B B' : Nat} {ds ds' : List Dat} {vs vs' : List Value} {fp : List Nat}
theorem Rd.len (h : Rd w B ds vs) : vs.length = ds.length := by
 induction h with
 | nil => rfl
 | int _ ih => simp [ih]
 | bool _ ih => simp [ih]
 | row _ _ _ _ _ _ _ ih => simp [ih]
theorem Rd.keep (h : Rd w B ds vs) (hb : Below B w w') : Rd w' B ds vs := by
 induction h with
 | nil => exact .nil
 | int _ ih => exact .int ih
 | bool _ ih => exact .bool ih
 | row h1 h2 h3 h4 _ _ ih1 ih2 =>
  refine .row h1 h2 h3 (fun hn => ?_) ih1 ih2
  obtain ⟨b, off, rfl, hlt, hc⟩ := h4 hn
  exact ⟨b, off, rfl, hlt, fun j hj => (hb.cell (p := ⟨b, off + j, none⟩) hlt).trans (hc j hj)⟩
theorem Rd.up (h : Rd w B ds vs) (hB : B ≤ B') : Rd w B' ds vs := by
 induction h with
 | nil => exact .nil
 | int _ ih => exact .int ih
 | bool _ ih => exact .bool ih
 | row h1 h2 h3 h4 _ _ ih1 ih2 =>
  refine .row h1 h2 h3 (fun hn => ?_) ih1 ih2
  obtain ⟨b, off, rfl, hlt, hc⟩ := h4 hn
  exact ⟨b, off, rfl, by omega, hc⟩
theorem Rd.append (h : Rd w B ds vs) (h' : Rd w B ds' vs') : Rd w B (ds ++ ds') (vs ++ vs') := by
 induction h with
 | nil => exact h'
 | int _ ih => exact .int ih
 | bool _ ih => exact .bool ih
 | row h1 h2 h3 h4 h5 _ _ ih2 => exact .row h1 h2 h3 h4 h5 ih2
theorem Rd.split : ∀ {ds ds' : List Dat} {vs : List Value}, Rd w B (ds ++ ds') vs → ∃ v1 v2, vs = v1 ++ v2 ∧ Rd w B ds v1 ∧ Rd w B ds' v2
 | [], _, vs, h => ⟨[], vs, rfl, .nil, h⟩
 | d :: ds, ds', vs, h => by
  cases h with
  | int h => obtain ⟨v1, v2, rfl, a, b⟩ := Rd.split h; exact ⟨_ :: v1, v2, rfl, .int a, b⟩
  | bool h => obtain ⟨v1, v2, rfl, a, b⟩ := Rd.split h; exact ⟨_ :: v1, v2, rfl, .bool a, b⟩
  | row h1 h2 h3 h4 h5 h => obtain ⟨v1, v2, rfl, a, b⟩ := Rd.split h; exact ⟨_ :: v1, v2, rfl, .row h1 h2 h3 h4 h5 a, b⟩
theorem Rd.one {n : Int} {v : Value} (h : Rd w B [.int n] [v]) : v = .int .i64 n := by cases h; rfl
/-! ### Owning -/
theorem Ow.len (h : Ow w ds vs fp) : vs.length = ds.length := by
 induction h with
 | nil => rfl
 | int _ ih => simp [ih]
 | bool _ ih => simp [ih]
 | row _ _ _ _ ih => simp [ih]
theorem ownsRow_at {e : TypeId} {k n base base' : Nat} {v : Value} {us : List Value} (h : w.ownsRow base e k v n us) (hb : ∀ g, v.ownBlock = some g → w'.heap[g]? = w.heap[g]?) (hbase : ∀ g, v.ownBlock = some g → base' ≤ g) : w'.ownsRow base' e k v n us := by
 refine ⟨h.1, ?_⟩
 rcases h.2 with h0 | ⟨g, cap, cur, hv, _, hh, r⟩
 · exact .inl h0
 · refine .inr ⟨g, cap, cur, hv, hbase g (by rw [hv]; rfl), ?_, r⟩
   rw [hb g (by rw [hv]; rfl)]
   exact hh
theorem Ow.lt (h : Ow w ds vs fp) : ∀ p ∈ fp, p < w.heap.size := by
 induction h with
 | nil => intro p hp; cases hp
 | int _ ih => exact ih
 | bool _ ih => exact ih
 | row h1 _ _ ih1 ih2 =>
  intro p hp
  rcases List.mem_append.1 hp with hp | hp
  · exact (World.ownsRow.lt h1 p (by simpa using hp)).2
  · rcases List.mem_append.1 hp with hp | hp
    · exact ih1 p hp
    · exact ih2 p hp
theorem Ow.same (h : Ow w ds vs fp) (hb : ∀ p ∈ fp, w'.heap[p]? = w.heap[p]?) : Ow w' ds vs fp := by
 induction h with
 | nil => exact .nil
 | int _ ih => exact .int (ih hb)
 | bool _ ih => exact .bool (ih hb)
 | row h1 _ _ ih1 ih2 =>
  refine .row (ownsRow_at h1 (fun g hg => hb g (by simp [hg])) (fun _ _ => Nat.zero_le _)) (ih1 fun p hp => hb p ?_) (ih2 fun p hp => hb p ?_)
  · exact List.mem_append_right _ (List.mem_append_left _ hp)
  · exact List.mem_append_right _ (List.mem_append_right _ hp)
theorem Ow.keep (h : Ow w ds vs fp) (hb : Below w.heap.size w w') : Ow w' ds vs fp := h.same fun p hp => hb.block p (h.lt p hp)
theorem Ow.touch {S : List Nat} (h : Ow w ds vs fp) (ht : Touch S w w') (hd : ∀ p ∈ fp, p ∉ S) : Ow w' ds vs fp := h.same fun p hp => ht.block p (h.lt p hp) (hd p hp)
theorem Ow.append {fp' : List Nat} (h : Ow w ds vs fp) (h' : Ow w ds' vs' fp') : Ow w (ds ++ ds') (vs ++ vs') (fp ++ fp') := by
 induction h with
 | nil => exact h'
 | int _ ih => exact .int ih
 | bool _ ih => exact .bool ih
 | row h1 h2 _ _ ih2 =>
  have := Ow.row h1 h2 ih2
  simpa [List.append_assoc] using this
theorem Ow.split : ∀ {ds ds' : List Dat} {vs : List Value} {fp : List Nat}, Ow w (ds ++ ds') vs fp → ∃ v1 v2 f1 f2, vs = v1 ++ v2 ∧ fp = f1 ++ f2 ∧ Ow w ds v1 f1 ∧ Ow w ds' v2 f2
 | [], _, vs, fp, h => ⟨[], vs, [], fp, rfl, rfl, .nil, h⟩
 | d :: ds, ds', vs, fp, h => by
  cases h with
  | int h => obtain ⟨v1, v2, f1, f2, rfl, rfl, a, b⟩ := Ow.split h; exact ⟨_ :: v1, v2, f1, f2, rfl, rfl, .int a, b⟩
  | bool h => obtain ⟨v1, v2, f1, f2, rfl, rfl, a, b⟩ := Ow.split h; exact ⟨_ :: v1, v2, f1, f2, rfl, rfl, .bool a, b⟩
  | row h1 h2 h =>
   obtain ⟨v1, v2, f1, f2, rfl, rfl, a, b⟩ := Ow.split h
   exact ⟨_ :: v1, v2, _, f2, rfl, by simp [List.append_assoc], .row h1 h2 a, b⟩
theorem ownsRow_cap {e : TypeId} {k n base : Nat} {v : Value} {us : List Value} (h : w.ownsRow base e k v n us) : ∃ A c, v = .slice A n c ∧ n ≤ c ∧ c ≤ maxLen ∧
    (0 < n → ∃ b, A = some ⟨b, 0, none⟩ ∧ b < w.heap.size ∧ ∀ j, j < n * k → w.cell? ⟨b, 0 + j, none⟩ = us[j]?) := by
 rcases h.2 with ⟨rfl, rfl⟩ | ⟨g, cap, cur, rfl, _, hh, h1, h2, _, ht⟩
 · exact ⟨none, 0, rfl, Nat.le_refl _, Nat.zero_le _, fun h => absurd h (by omega)⟩
 · refine ⟨_, cap, rfl, h1, h2, fun _ => ⟨g, rfl, (Array.getElem?_eq_some_iff.1 hh).1, fun j hj => ?_⟩⟩
   rw [Nat.zero_add, cell_of_row w g j cur e (0, 0) hh, ← ht, List.getElem?_take, if_pos hj]
   simp
theorem Ow.rd (h : Ow w ds vs fp) : Rd w w.heap.size ds vs := by
 induction h with
 | nil => exact .nil
 | int _ ih => exact .int ih
 | bool _ ih => exact .bool ih
 | row h1 h2 _ ih1 ih2 =>
  obtain ⟨A, c, rfl, a1, a2, a3⟩ := ownsRow_cap h1
  refine .row (by rw [← h2.len, h1.1]) a1 a2 (fun hn => ?_) ih1 ih2
  obtain ⟨b, rfl, hb, hc⟩ := a3 hn
  exact ⟨b, 0, rfl, hb, hc⟩
def Has (w : World) (base : Nat) (ds : List Dat) (vs : List Value) : Prop := ∃ fp, Ow w ds vs fp ∧ fp.Nodup ∧ ∀ p ∈ fp, base ≤ p
theorem Has.rd {base : Nat} (h : Has w base ds vs) : Rd w w.heap.size ds vs := by obtain ⟨_, h, _⟩ := h; exact h.rd
theorem Has.below {base : Nat} (h : Has w base ds vs) (hb : Below w.heap.size w w') : Has w' base ds vs := by
 obtain ⟨fp, h, r⟩ := h
 exact ⟨fp, h.keep hb, r⟩
theorem Has.up {base base' : Nat} (h : Has w base ds vs) (hb : base' ≤ base) : Has w base' ds vs := by
 obtain ⟨fp, h, hn, hp⟩ := h
 exact ⟨fp, h, hn, fun p hm => Nat.le_trans hb (hp p hm)⟩
theorem Has.len {base : Nat} (h : Has w base ds vs) : vs.length = ds.length := by obtain ⟨_, h, _⟩ := h; exact h.len
theorem Has.join {base : Nat} (h : Has w base ds vs) (hb : Below w.heap.size w w') (h' : Has w' w.heap.size ds' vs') (hle : base ≤ w.heap.size) : Has w' base (ds ++ ds') (vs ++ vs') := by
 obtain ⟨fp, h, hn, hp⟩ := h
 obtain ⟨fp', h', hn', hp'⟩ := h'
 have hlt := h.lt
 refine ⟨fp ++ fp', (h.keep hb).append h', List.nodup_append.2 ⟨hn, hn', fun p hm q hq e => ?_⟩, fun p hm => ?_⟩
 · have := hlt p hm
   have := hp' q hq
   omega
 · rcases List.mem_append.1 hm with hm | hm
   · exact hp p hm
   · exact Nat.le_trans hle (hp' p hm)
theorem Has.far {base p i : Nat} (h : Has w base ds vs) (u : Value) (hp : p < base) : Has (w.setCell ⟨p, i, none⟩ u) base ds vs := by
 obtain ⟨fp, h, hn, hge⟩ := h
 refine ⟨fp, h.touch (Touch.of_set (S := [p]) (by simp)) (fun q hq hm => ?_), hn, hge⟩
 have h1 := hge q hq
 have h2 : q = p := by simpa using hm
 omega
theorem Has.int {base : Nat} {n : Int} (h : Has w base ds vs) : Has w base (.int n :: ds) (.int .i64 n :: vs) := by
 obtain ⟨fp, h, r⟩ := h
 exact ⟨fp, .int h, r⟩
theorem Has.bool {base : Nat} {b : Bool} (h : Has w base ds vs) : Has w base (.bool b :: ds) (.bool b :: vs) := by
 obtain ⟨fp, h, r⟩ := h
 exact ⟨fp, .bool h, r⟩
theorem Has.nil (w : World) (base : Nat) : Has w base [] [] := ⟨[], .nil, List.nodup_nil, fun p hp => by cases hp⟩
end
/-! ### Slices of typed elements -/
def lst {α : Type} (e : TypeId) (k : Nat) (f : α → List Dat) (l : List α) : Dat := .rows e k (l.flatMap f)
section
variable {α : Type} {w w' : World} {B : Nat} {e : TypeId} {k : Nat} {f : α → List Dat} {l : List α}
theorem flatMap_len (hk : ∀ x, (f x).length = k) (l : List α) : (l.flatMap f).length = l.length * k := by
 induction l with
 | nil => simp
 | cons x l ih => simp [ih, hk, Nat.add_mul, Nat.add_comm]
theorem flatMap_at (l : List α) {j : Nat} (hj : j < l.length) : l.flatMap f = (l.take j).flatMap f ++ (f l[j] ++ (l.drop (j + 1)).flatMap f) := by
 have e : l = l.take j ++ (l[j] :: l.drop (j + 1)) := by rw [← List.drop_eq_getElem_cons hj, List.take_append_drop]
 have e2 : l.flatMap f = (l.take j ++ (l[j] :: l.drop (j + 1))).flatMap f := congrArg (List.flatMap f) e
 rw [e2, List.flatMap_append, List.flatMap_cons]
theorem Rd.lst {v : Value} (hk : ∀ x, (f x).length = k) (k0 : 0 < k) (h : Rd w B [lst e k f l] [v]) :
    ∃ A n c, v = .slice A n c ∧ l.length = n ∧ n ≤ c ∧ c ≤ maxLen ∧ (0 < n → ∃ b off, A = some ⟨b, off, none⟩ ∧ b < B ∧
     ∀ j (hj : j < l.length), ∃ es, es.length = k ∧ Rd w B (f l[j]) es ∧ ∀ i, i < k → w.cell? ⟨b, off + j * k + i, none⟩ = es[i]?) := by
 cases h with
 | @row _ _ A n c us _ _ _ h1 h2 h3 h4 h5 _ =>
  rw [flatMap_len hk] at h1
  have hl : l.length = n := Nat.eq_of_mul_eq_mul_right k0 h1
  refine ⟨A, n, c, rfl, hl, h2, h3, fun hn => ?_⟩
  obtain ⟨b, off, rfl, hb, hc⟩ := h4 hn
  refine ⟨b, off, rfl, hb, fun j hj => ?_⟩
  rw [flatMap_at l hj] at h5
  obtain ⟨v1, v2, rfl, r1, r2⟩ := h5.split
  obtain ⟨es, v3, rfl, r3, r4⟩ := r2.split
  have e1 : v1.length = j * k := by rw [r1.len, flatMap_len hk, List.length_take, Nat.min_eq_left (Nat.le_of_lt hj)]
  have e2 : es.length = k := by rw [r3.len, hk]
  refine ⟨es, e2, r3, fun i hi => ?_⟩
  have hlt : j * k + i < n * k := by
   have : (j + 1) * k ≤ n * k := Nat.mul_le_mul_right k (by omega)
   rw [Nat.add_mul, Nat.one_mul] at this
   omega
  rw [Nat.add_assoc, hc _ hlt, List.getElem?_append_right (by omega), e1, Nat.add_sub_cancel_left, List.getElem?_append_left (by omega)]
theorem Rd.of_lst {A : Option Addr} {n c : Nat} {us : List Value} (hk : ∀ x, (f x).length = k) (hl : l.length = n) (hc : n ≤ c) (hm : c ≤ maxLen)
    (hcell : 0 < n → ∃ b off, A = some ⟨b, off, none⟩ ∧ b < B ∧ ∀ j, j < n * k → w.cell? ⟨b, off + j, none⟩ = us[j]?) (hr : Rd w B (l.flatMap f) us) : Rd w B [Go.Proofs.YthjjdelpdiipdaaGreatDoor.lst e k f l] [.slice A n c] :=
 .row (by rw [flatMap_len hk, hl]) hc hm hcell hr .nil
end
end Go.Proofs.YthjjdelpdiipdaaGreatDoor
namespace Go.Proofs.YthjjdelpdiipdaaGreatDoor
set_option maxRecDepth 100000
open Go.RowKit
def rowD (xs : List Int) : Dat := lst 2 1 (fun x => [.int x]) xs
section
variable {w w' : World} {B base : Nat} {xs : List Int} {us : List Value} {fp : List Nat} {v : Value}
theorem rd_ints (h : Rd w B (xs.flatMap fun x => [Dat.int x]) us) : us = ivals xs := by
 induction xs generalizing us with
 | nil => cases h; rfl
 | cons x xs ih => cases h with | int h => rw [ih h]; rfl
theorem rd_ints_mk (xs : List Int) : Rd w B (xs.flatMap fun x => [Dat.int x]) (ivals xs) := by
 induction xs with
 | nil => exact .nil
 | cons x xs ih => exact .int ih
theorem ow_ints (h : Ow w (xs.flatMap fun x => [Dat.int x]) us fp) : us = ivals xs ∧ fp = [] := by
 induction xs generalizing us with
 | nil => cases h; exact ⟨rfl, rfl⟩
 | cons x xs ih =>
  cases h with
  | int h => obtain ⟨h1, h2⟩ := ih h; rw [h1]; exact ⟨rfl, h2⟩
theorem ow_ints_mk (xs : List Int) : Ow w (xs.flatMap fun x => [Dat.int x]) (ivals xs) [] := by
 induction xs with
 | nil => exact .nil
 | cons x xs ih => exact .int ih
theorem Rd.irow (h : Rd w B [rowD xs] [v]) : ∃ A n c, v = .slice A n c ∧ IRow w B A n xs ∧ n ≤ c ∧ c ≤ maxLen := by
 obtain ⟨A, n, c, rfl, hl, h1, h2, h3⟩ := Rd.lst (k := 1) (fun _ => rfl) Nat.one_pos h
 refine ⟨A, n, c, rfl, ⟨hl, fun hn => ?_⟩, h1, h2⟩
 obtain ⟨b, off, rfl, hb, hc⟩ := h3 hn
 refine ⟨b, off, rfl, hb, fun j hj => ?_⟩
 obtain ⟨es, he, hr, hcell⟩ := hc j (by omega)
 have := hcell 0 (by omega)
 rw [Nat.mul_one, Nat.add_zero] at this
 rw [this]
 cases hr with
 | int _ => simp [List.getD, List.getElem?_eq_getElem (show j < xs.length by omega)]
theorem IRow.rd {A : Option Addr} {n c : Nat} (h : IRow w B A n xs) (h1 : n ≤ c) (h2 : c ≤ maxLen) : Rd w B [rowD xs] [.slice A n c] := by
 refine Rd.of_lst (us := ivals xs) (fun _ => rfl) h.1 h1 h2 (fun hn => ?_) (rd_ints_mk xs)
 obtain ⟨b, off, rfl, hb, hc⟩ := h.2 hn
 refine ⟨b, off, rfl, hb, fun j hj => ?_⟩
 have hl := h.1
 rw [hc j (by omega), ivals_get, List.getElem?_eq_getElem (show j < xs.length by omega)]
 simp [List.getD, List.getElem?_eq_getElem (show j < xs.length by omega)]
theorem Ow.own (h : Ow w [rowD xs] [v] fp) : ∃ A n c, v = .slice A n c ∧ Own w 0 A n c xs ∧ fp = v.ownBlock.toList := by
 cases h with
 | @row _ _ _ n us _ _ _ _ _ h1 h2 h3 =>
  obtain ⟨rfl, rfl⟩ := ow_ints h2
  cases h3
  obtain ⟨A, c, rfl, _⟩ := ownsRow_cap h1
  exact ⟨A, n, c, rfl, h1, by simp⟩
theorem Own.ow {A : Option Addr} {n c : Nat} (o : Own w base A n c xs) : Ow w [rowD xs] [.slice A n c] (Value.slice A n c).ownBlock.toList := by
 have h := Ow.row (ds := []) (vs := []) (fp2 := []) (ownsRow_at (base' := 0) o (fun _ _ => rfl) (fun _ _ => Nat.zero_le _)) (ow_ints_mk xs) .nil
 rw [List.append_nil, List.append_nil] at h
 exact h
theorem Own.has {A : Option Addr} {n c : Nat} (o : Own w base A n c xs) : Has w base [rowD xs] [.slice A n c] := by
 refine ⟨_, o.ow, ?_, fun p hp => ?_⟩
 · cases (Value.slice A n c).ownBlock <;> simp
 · exact (o.ge p (by simpa using hp)).1
theorem Has.own (h : Has w base [rowD xs] [v]) : ∃ A n c, v = .slice A n c ∧ Own w base A n c xs := by
 obtain ⟨fp, h, _, hp⟩ := h
 obtain ⟨A, n, c, rfl, o, rfl⟩ := h.own
 exact ⟨A, n, c, rfl, ownsRow_at o (fun _ _ => rfl) (fun g hg => hp g (by simp [hg]))⟩
end
theorem Own.put_ {w : World} {base g n c : Nat} {xs : List Int} (o : Own w base (some ⟨g, 0, none⟩) n c xs) (j : Nat) (y : Int) : Own (w.setCell ⟨g, j, none⟩ (.int .i64 y)) base (some ⟨g, 0, none⟩) n c (xs.set j y) := by
 have h := (World.ownsRow.stored o j (.int .i64 y)).1
 have e : (ivals xs).set j (.int .i64 y) = ivals (xs.set j y) := by simp [ivals, List.map_set]
 rw [e] at h
 exact h
/-! ### Elements of an own slice -/
section
variable {α : Type} {w w' : World} {e : TypeId} {k : Nat} {f : α → List Dat} {l : List α} {v : Value} {us : List Value} {fp : List Nat}
theorem Ow.lst (hk : ∀ x, (f x).length = k) (k0 : 0 < k) (h : Ow w [lst e k f l] [v] fp) : ∃ us fp1, w.ownsRow 0 e k v l.length us ∧ Ow w (l.flatMap f) us fp1 ∧ fp = v.ownBlock.toList ++ fp1 := by
 cases h with
 | @row _ _ _ n us _ _ _ fp1 _ h1 h2 h3 =>
  cases h3
  have hl : n = l.length := by
   have := h2.len
   rw [h1.1, flatMap_len hk] at this
   exact Nat.eq_of_mul_eq_mul_right k0 this
  subst hl
  exact ⟨us, fp1, h1, h2, by simp⟩
theorem Ow.of_lst {fp1 : List Nat} {n : Nat} (h1 : w.ownsRow 0 e k v n us) (h2 : Ow w (l.flatMap f) us fp1) : Ow w [Go.Proofs.YthjjdelpdiipdaaGreatDoor.lst e k f l] [v] (v.ownBlock.toList ++ fp1) := by
 have := Ow.row (ds := []) (vs := []) (fp2 := []) h1 h2 .nil
 rw [List.append_nil] at this
 exact this
theorem Ow.at_ (hk : ∀ x, (f x).length = k) (h : Ow w (l.flatMap f) us fp) {j : Nat} (hj : j < l.length) : ∃ u1 es u2 f1 f2 f3, us = u1 ++ (es ++ u2) ∧ u1.length = j * k ∧ es.length = k ∧ fp = f1 ++ (f2 ++ f3) ∧
    Ow w ((l.take j).flatMap f) u1 f1 ∧ Ow w (f l[j]) es f2 ∧ Ow w ((l.drop (j + 1)).flatMap f) u2 f3 := by
 rw [flatMap_at l hj] at h
 obtain ⟨u1, v2, f1, g2, rfl, rfl, r1, r2⟩ := h.split
 obtain ⟨es, u2, f2, f3, rfl, rfl, r3, r4⟩ := r2.split
 exact ⟨u1, es, u2, f1, f2, f3, rfl, by rw [r1.len, flatMap_len hk, List.length_take, Nat.min_eq_left (Nat.le_of_lt hj)], by rw [r3.len, hk], rfl, r1, r3, r4⟩
theorem Ow.put {u1 es u2 : List Value} {f1 f2 f3 : List Nat} {j : Nat} (hj : j < l.length) {x : α} (r1 : Ow w ((l.take j).flatMap f) u1 f1) (r2 : Ow w (f x) es f2) (r3 : Ow w ((l.drop (j + 1)).flatMap f) u2 f3) :
    Ow w ((l.set j x).flatMap f) (u1 ++ (es ++ u2)) (f1 ++ (f2 ++ f3)) := by
 rw [List.set_eq_take_append_cons_drop, if_pos hj, List.flatMap_append, List.flatMap_cons]
 exact r1.append (r2.append r3)
theorem nodup_parts {a b c d : List Nat} (h : (a ++ (b ++ (c ++ d))).Nodup) : c.Nodup ∧ (∀ p ∈ c, p ∉ a ∧ p ∉ b ∧ p ∉ d) := by
 rw [List.nodup_append, List.nodup_append, List.nodup_append] at h
 obtain ⟨_, ⟨_, ⟨hc, _, hcd⟩, hb⟩, ha⟩ := h
 refine ⟨hc, fun p hp => ⟨fun hm => ?_, fun hm => ?_, fun hm => ?_⟩⟩
 · exact ha p hm p (List.mem_append_right _ (List.mem_append_left _ hp)) rfl
 · exact hb p hm p (List.mem_append_left _ hp) rfl
 · exact hcd p hp p hm rfl
theorem Ow.elem (hk : ∀ x, (f x).length = k) (k0 : 0 < k) (h : Ow w [Go.Proofs.YthjjdelpdiipdaaGreatDoor.lst e k f l] [v] fp) (hn : fp.Nodup) {j : Nat} (hj : j < l.length) :
    ∃ g c es f2, v = .slice (some ⟨g, 0, none⟩) l.length c ∧ l.length ≤ c ∧ c ≤ maxLen ∧ es.length = k ∧ (∀ i, i < k → w.cell? ⟨g, j * k + i, none⟩ = es[i]?) ∧ (∀ i, w.frozen? ⟨g, i, none⟩ = false) ∧ Ow w (f l[j]) es f2 ∧ f2.Nodup ∧ g ∉ f2 ∧ g ∈ fp ∧ (∀ p ∈ f2, p ∈ fp) ∧
    (∀ w' x, Touch f2 w w' → Ow w' (f x) es f2 → Ow w' [Go.Proofs.YthjjdelpdiipdaaGreatDoor.lst e k f (l.set j x)] [v] fp) ∧
    (∀ i u x, i < k → Ow (w.setCell ⟨g, j * k + i, none⟩ u) (f x) (es.set i u) f2 → Ow (w.setCell ⟨g, j * k + i, none⟩ u) [Go.Proofs.YthjjdelpdiipdaaGreatDoor.lst e k f (l.set j x)] [v] fp) := by
 obtain ⟨us, fp1, h1, h2, rfl⟩ := h.lst hk k0
 obtain ⟨u1, es, u2, f1, f2, f3, rfl, l1, l2, rfl, r1, r2, r3⟩ := h2.at_ hk hj
 obtain ⟨hn2, hnd⟩ := nodup_parts hn
 obtain ⟨g, c, hv⟩ : ∃ g c, v = .slice (some ⟨g, 0, none⟩) l.length c := by
  rcases h1.2 with ⟨_, h0⟩ | ⟨g, c, _, hv, _⟩
  · omega
  · exact ⟨g, c, hv⟩
 subst hv
 have hcap := ownsRow_cap h1
 obtain ⟨A', c', hv', hc1, hc2, _⟩ := hcap
 injection hv' with e1 _ e2
 subst e2
 have hg : g ∉ f2 := fun hm => (hnd g hm).1 (by simp [Value.ownBlock])
 have hn1 : ∀ p ∈ f1, p ≠ g := by
  rw [List.nodup_append] at hn
  intro p hp e
  exact hn.2.2 g (by simp [Value.ownBlock]) p (List.mem_append_left _ hp) e.symm
 have hn3 : ∀ p ∈ f3, p ≠ g := by
  rw [List.nodup_append] at hn
  intro p hp e
  exact hn.2.2 g (by simp [Value.ownBlock]) p (List.mem_append_right _ (List.mem_append_right _ hp)) e.symm
 have hlt : ∀ i, i < k → j * k + i < l.length * k := fun i hi => by
  have : (j + 1) * k ≤ l.length * k := Nat.mul_le_mul_right k (by omega)
  rw [Nat.add_mul, Nat.one_mul] at this
  omega
 refine ⟨g, c, es, f2, rfl, hc1, hc2, l2, fun i hi => ?_, fun i => World.ownsRow.frozenAt h1 i, r2, hn2, hg, by simp [Value.ownBlock], fun p hp => List.mem_append_right _ (List.mem_append_right _ (List.mem_append_left _ hp)), fun w' x ht ho => ?_, fun i u x hi ho => ?_⟩
 · rw [World.ownsRow.cellAt h1 _ (hlt i hi), List.getElem?_append_right (by omega), l1, Nat.add_sub_cancel_left, List.getElem?_append_left (by omega)]
 · refine Ow.of_lst (ownsRow_at h1 (fun q hq => ?_) (fun _ _ => Nat.zero_le _)) (Ow.put hj (r1.touch ht fun p hp hm => (hnd p hm).2.1 hp) ho (r3.touch ht fun p hp hm => (hnd p hm).2.2 hp))
   have hq' : g = q := by simpa [Value.ownBlock] using hq
   subst hq'
   exact ht.block g (World.ownsRow.lt h1 g rfl).2 hg
 · have hs := (World.ownsRow.stored h1 (j * k + i) u).1
   have hset : (u1 ++ (es ++ u2)).set (j * k + i) u = u1 ++ (es.set i u ++ u2) := by
    rw [List.set_append_right _ _ (by omega), l1, Nat.add_sub_cancel_left, List.set_append_left _ _ (by omega)]
   rw [hset] at hs
   have ht : Touch [g] w (w.setCell ⟨g, j * k + i, none⟩ u) := Touch.of_set (by simp)
   exact Ow.of_lst hs (Ow.put hj (r1.touch ht fun p hp hm => hn1 p hp (by simpa using hm)) ho (r3.touch ht fun p hp hm => hn3 p hp (by simpa using hm)))
theorem Ow.slots {g n c : Nat} (hk : ∀ x, (f x).length = k) (k0 : 0 < k) (h : Ow w [Go.Proofs.YthjjdelpdiipdaaGreatDoor.lst e k f l] [.slice (some ⟨g, 0, none⟩) n c] fp) {j : Nat} (hj : j < l.length) :
    ∃ es : List Value, es.length = k ∧ (∀ i, i < k → w.cell? ⟨g, j * k + i, none⟩ = es[i]?) ∧ ∀ i, w.frozen? ⟨g, i, none⟩ = false := by
 obtain ⟨us, fp1, h1, h2, rfl⟩ := h.lst hk k0
 obtain ⟨u1, es, u2, f1, f2, f3, rfl, l1, l2, rfl, r1, r2, r3⟩ := h2.at_ hk hj
 have hnl : n = l.length := by
  rcases h1.2 with ⟨h0, _⟩ | ⟨_, _, _, h0, _⟩
  · cases h0
  · injection h0
 rw [← hnl] at h1
 refine ⟨es, l2, fun i hi => ?_, fun i => World.ownsRow.frozenAt h1 i⟩
 have hlt : j * k + i < n * k := by
  have : (j + 1) * k ≤ n * k := Nat.mul_le_mul_right k (by omega)
  rw [Nat.add_mul, Nat.one_mul] at this
  omega
 rw [World.ownsRow.cellAt h1 _ hlt, List.getElem?_append_right (by omega), l1, Nat.add_sub_cancel_left, List.getElem?_append_left (by omega)]
end
end Go.Proofs.YthjjdelpdiipdaaGreatDoor
namespace Go.Proofs.YthjjdelpdiipdaaGreatDoor
set_option maxRecDepth 100000
open Go.RowKit
def puts (w : World) (g : Nat) : Nat → List Value → World
 | _, [] => w
 | o, v :: vs => puts (w.setCell ⟨g, o, none⟩ v) g (o + 1) vs
theorem puts_own {e : TypeId} {k n c g : Nat} {u2 : List Value} : ∀ (es' es u1 : List Value) (w : World), w.ownsRow 0 e k (.slice (some ⟨g, 0, none⟩) n c) n (u1 ++ (es ++ u2)) → es.length = es'.length →
    (puts w g u1.length es').ownsRow 0 e k (.slice (some ⟨g, 0, none⟩) n c) n (u1 ++ (es' ++ u2)) ∧ Touch [g] w (puts w g u1.length es')
 | [], es, u1, w, h, hl => by
  have : es = [] := List.eq_nil_of_length_eq_zero hl
  subst this
  exact ⟨h, Touch.refl _ _⟩
 | v :: es', [], _, _, _, hl => by cases hl
 | v :: es', x :: es, u1, w, h, hl => by
  have hs := (World.ownsRow.stored h u1.length v).1
  have e1 : (u1 ++ (x :: es ++ u2)).set u1.length v = (u1 ++ [v]) ++ (es ++ u2) := by
   rw [List.set_append_right _ _ (Nat.le_refl _), Nat.sub_self]
   simp
  rw [e1] at hs
  have ih := puts_own es' es (u1 ++ [v]) (w.setCell ⟨g, u1.length, none⟩ v) hs (by simpa using hl)
  have e2 : (u1 ++ [v]).length = u1.length + 1 := by simp
  rw [e2] at ih
  refine ⟨?_, (Touch.of_set (by simp)).trans ih.2⟩
  have := ih.1
  rw [List.append_assoc] at this
  exact this
section
variable {α : Type} {w w' : World} {e : TypeId} {k : Nat} {f : α → List Dat} {l : List α} {v : Value} {us : List Value} {fp : List Nat}
theorem Ow.one {ds : List Dat} {vs : List Value} (h : Ow w ds vs fp) : ∀ u ∈ vs, u.oneCell' = true := by
 induction h with
 | nil => intro u hu; cases hu
 | int _ ih => intro u hu; rcases List.mem_cons.1 hu with rfl | hu; · rfl
               exact ih u hu
 | bool _ ih => intro u hu; rcases List.mem_cons.1 hu with rfl | hu; · rfl
                exact ih u hu
 | row h1 _ _ _ ih =>
  intro u hu
  rcases List.mem_cons.1 hu with rfl | hu
  · obtain ⟨A, c, rfl, _⟩ := ownsRow_cap h1
    rfl
  · exact ih u hu
theorem nodup_swap {a b c c' d : List Nat} (h : (a ++ (b ++ (c ++ d))).Nodup) (hc : c'.Nodup) (hd : ∀ p ∈ c', p ∉ a ++ (b ++ (c ++ d))) : (a ++ (b ++ (c' ++ d))).Nodup := by
 have h' := h
 rw [List.nodup_append, List.nodup_append, List.nodup_append] at h ⊢
 obtain ⟨ha, ⟨hb, ⟨_, hdd, _⟩, hbd⟩, had⟩ := h
 refine ⟨ha, ⟨hb, ⟨hc, hdd, fun p hp q hq e => ?_⟩, fun p hp q hq e => ?_⟩, fun p hp q hq e => ?_⟩
 · subst e
   exact hd p hp (by simp [hq])
 · subst e
   rcases List.mem_append.1 hq with hq | hq
   · exact hd p hq (by simp [hp])
   · exact hbd p hp p (List.mem_append_right _ hq) rfl
 · subst e
   rcases List.mem_append.1 hq with hq | hq
   · exact had p hp p (List.mem_append_left _ hq) rfl
   · rcases List.mem_append.1 hq with hq | hq
     · exact hd p hq (by simp [hp])
     · exact had p hp p (by simp [hq]) rfl
theorem Ow.store {g n c : Nat} (hk : ∀ x, (f x).length = k) (k0 : 0 < k) (h : Ow w [Go.Proofs.YthjjdelpdiipdaaGreatDoor.lst e k f l] [.slice (some ⟨g, 0, none⟩) n c] fp) (hn : fp.Nodup) {j : Nat} (hj : j < l.length) {x : α} {es' : List Value} {f2' : List Nat}
    (ho : Ow w (f x) es' f2') (hn' : f2'.Nodup) (hd : ∀ p ∈ f2', p ∉ fp) :
    Touch [g] w (puts w g (j * k) es') ∧ ∃ fp', Ow (puts w g (j * k) es') [Go.Proofs.YthjjdelpdiipdaaGreatDoor.lst e k f (l.set j x)] [.slice (some ⟨g, 0, none⟩) n c] fp' ∧ fp'.Nodup ∧ ∀ p ∈ fp', p ∈ fp ∨ p ∈ f2' := by
 obtain ⟨us, fp1, h1, h2, rfl⟩ := h.lst hk k0
 obtain ⟨u1, es, u2, f1, f2, f3, rfl, l1, l2, rfl, r1, r2, r3⟩ := h2.at_ hk hj
 have hnl : n = l.length := by
  rcases h1.2 with ⟨h0, _⟩ | ⟨_, _, _, h0, _⟩
  · cases h0
  · injection h0
 rw [hnl] at h1 ⊢
 have hp := puts_own es' es u1 w h1 (by rw [l2, ho.len, hk])
 rw [l1] at hp
 have hg : ∀ p ∈ f1 ++ (f2 ++ f3), p ≠ g := by
  rw [List.nodup_append] at hn
  intro p hp e
  exact hn.2.2 g (by simp [Value.ownBlock]) p hp e.symm
 have hgd : ∀ p ∈ f2', p ≠ g := fun p hp e => hd p hp (by subst e; simp [Value.ownBlock])
 refine ⟨hp.2, _, Ow.of_lst hp.1 (Ow.put hj (r1.touch hp.2 fun p hp hm => hg p (by simp [hp]) (by simpa using hm)) (ho.touch hp.2 fun p hp hm => hgd p hp (by simpa using hm)) (r3.touch hp.2 fun p hp hm => hg p (by simp [hp]) (by simpa using hm))), nodup_swap hn hn' hd, fun p hp => ?_⟩
 simp only [List.mem_append] at hp ⊢
 rcases hp with h | h | h | h
 · exact .inl (.inl h)
 · exact .inl (.inr (.inl h))
 · exact .inr h
 · exact .inl (.inr (.inr (.inr h)))
/-! ### Zero values -/
theorem ow_zeros {x0 : α} {zs : List Value} (hz : Ow w (f x0) zs []) : ∀ n : Nat, Ow w ((List.replicate n x0).flatMap f) (List.replicate n zs).flatten []
 | 0 => .nil
 | n + 1 => by
  have := hz.append (ow_zeros hz n)
  simpa [List.replicate_succ] using this
theorem zeros_get (zs : List Value) (k : Nat) (hk : zs.length = k) : ∀ (n j : Nat), j < n * k → ((List.replicate n zs).flatten)[j]? = zs[j % k]?
 | 0, j, h => by simp at h
 | n + 1, j, h => by
  rw [List.replicate_succ, List.flatten_cons]
  by_cases hj : j < k
  · rw [List.getElem?_append_left (by omega), Nat.mod_eq_of_lt hj]
  · rw [List.getElem?_append_right (by omega), hk, zeros_get zs k hk n (j - k) (by rw [Nat.add_mul] at h; omega), ← Nat.mod_eq_sub_mod (by omega)]
theorem toList_made (zc : Array Value) (k n : Nat) (hk : zc.size = k) (k0 : 0 < k) : (madeCells zc (n * k)).toList = (List.replicate n zc.toList).flatten := by
 apply List.ext_getElem?
 intro j
 by_cases hj : j < n * k
 · rw [zeros_get zc.toList k (by simpa using hk) n j hj]
   subst hk
   have hm : j % zc.size < zc.size := Nat.mod_lt _ k0
   refine (show (madeCells zc (n * zc.size)).toList[j]? = some zc[j % zc.size] from ?_).trans (by simp [hm])
   simp [madeCells, hm, List.getElem?_range hj]
 · rw [List.getElem?_eq_none (by simp [madeCells]; omega), List.getElem?_eq_none]
   simp [hk]
   omega
theorem run_make_k {P : Program} (t e : TypeId) (z : Value) (zc : Array Value) (k bytes : Nat) (ht : P.underlying t = some (.slice e)) (hinfo : (P.info? e).map (fun i => (i.zero, i.size, i.bytes)) = some (some z, k, bytes)) (hz1 : z.cells = zc)
    (kl kc : IntKind) (n : Nat) (hbytes : bytes * n ≤ 281474976710656) (h63 : n ≤ 9223372036854775807) (w : World) :
    (Instr.makeSlice t (.int kl (n : Int)) (.int kc (n : Int))).run P w = .ok (.slice (some ⟨w.heap.size, 0, none⟩) n n) (w.alloc (.cells (madeCells zc (n * k)) e)) := by
 obtain ⟨i, hi, hzz⟩ := Option.map_eq_some_iff.1 hinfo
 simp only [Prod.mk.injEq] at hzz
 obtain ⟨hz, hs, hb⟩ := hzz
 have hb' : (i.bytes : Int) * (n : Int) ≤ 281474976710656 := by
  have h : ((i.bytes * n : Nat) : Int) ≤ 281474976710656 := by rw [hb]; omega
  rwa [Int.natCast_mul] at h
 have hr := run_make (P := P) w t e i z ht hi hz kl kc n n (by omega) (Int.le_refl _) hb' (by omega)
 simp only [Int.toNat_natCast, hs, hz1] at hr
 exact hr
theorem ow_made {x0 : α} {zc : Array Value} (hk : zc.size = k) (k0 : 0 < k) (n : Nat) (hm : n ≤ maxLen) (hz : ∀ w, Ow w (f x0) zc.toList []) :
    Ow (w.alloc (.cells (madeCells zc (n * k)) e)) [Go.Proofs.YthjjdelpdiipdaaGreatDoor.lst e k f (List.replicate n x0)] [.slice (some ⟨w.heap.size, 0, none⟩) n n] [w.heap.size] := by
 have h1 := World.ownsRow_lit (base := 0) (e := e) (size := k) w (madeCells zc (n * k)) n (Nat.zero_le _) hm (size_madeCells _ _)
 rw [toList_made zc k n hk k0] at h1
 have := Ow.of_lst h1 (ow_zeros (hz _) n)
 simpa [Value.ownBlock] using this
/-! ### Append -/
theorem wp_append_elem {P : Program} {t : TypeId} {z : Value} {bytes : Nat} {A : Option Addr} {n c hb : Nat} {es : List Value} {f2 : List Nat} {y : α} {op : Oper} {a : Act} {Q : Exit → Act → World → Prop} {K : Act → World → Prop}
    (s x : Operand) (hop : op.op = .call { callee := .builtin .append, args := #[s, x], argTypes := #[t, t] }) (ht : P.underlying t = some (.slice e))
    (hinfo : (P.info? e).map (fun i => (i.zero, i.size, i.bytes)) = some (some z, k, bytes)) (hzs : z.cells.size = k) (k0 : 0 < k) (hk : ∀ x, (f x).length = k)
    (hse : a.eval s = .slice A n c) (h : Ow w [Go.Proofs.YthjjdelpdiipdaaGreatDoor.lst e k f l] [.slice A n c] fp) (hn : fp.Nodup) (hx : a.eval x = .slice (some ⟨hb, 0, none⟩) 1 1)
    (hcell : ∀ i, i < k → w.cell? ⟨hb, i, none⟩ = es[i]?) (ho : Ow w (f y) es f2) (hn2 : f2.Nodup) (hd : ∀ p ∈ f2, p ∉ fp) (hl : n ≤ 1048577) (hby : bytes ≤ 1048576)
    (hK : ∀ A3 c3 w3 fp3, Ow w3 [Go.Proofs.YthjjdelpdiipdaaGreatDoor.lst e k f (l ++ [y])] [.slice A3 (n + 1) c3] fp3 → fp3.Nodup → (∀ p ∈ fp3, p ∈ fp ∨ p ∈ f2 ∨ p = w.heap.size) → Touch fp w w3 → K (a.put op.dst (.slice A3 (n + 1) c3)) w3) :
    Oper.wp P op a w K Q := by
 obtain ⟨us, fp1, h1, h2, rfl⟩ := h.lst hk k0
 have hnl : n = l.length := by
  rcases h1.2 with ⟨h0, h9⟩ | ⟨_, _, _, h0, _⟩
  · injection h0; omega
  · injection h0
 rw [← hnl] at h1
 obtain ⟨i0, hi0, hz⟩ := Option.map_eq_some_iff.1 hinfo
 simp only [Prod.mk.injEq] at hz
 obtain ⟨hz0, hz1, hz2⟩ := hz
 have hle : es.length = k := by rw [ho.len, hk]
 obtain ⟨v', w', hrun, q2, q3, _, q5⟩ := run_append_own_at (P := P) w 0 t op.type e i0 _ k bytes ht hi0 hz0 hz1 hz2 hzs k0 _ n _ h1 ⟨hb, 0, none⟩ 1 1 es (by omega)
  (by intro j u hj
      have hjk : j < k := by
       rcases Nat.lt_or_ge j es.length with h | h
       · omega
       · rw [List.getElem?_eq_none h] at hj; cases hj
      have hadd : (⟨hb, 0, none⟩ : Addr).add j = ⟨hb, j, none⟩ := by unfold Addr.add; split <;> simp_all
      rw [hadd, hcell j hjk, hj])
  ho.one (by simp only [maxLen]; omega)
  (by have : (n + 1) * bytes ≤ 1048578 * 1048576 := Nat.mul_le_mul (by omega) hby
      omega) (Nat.zero_le _)
 unfold Oper.wp execOp
 simp only [hop, resolve, invoke, builtin, Sem.run_bind, Sem.run_pure, Result.andThen_ok, List.map_toArray, List.map_cons, List.map_nil, hse, hx, hrun]
 rcases q2.2 with ⟨hv, hnm⟩ | ⟨g, cap, cur, hv, _⟩
 · omega
 subst hv
 have hlt := h.lt
 have tt : Touch (Value.slice A n c).ownBlock.toList w w' := Touch.of_grown q3 (fun p hp => by rw [hp]; simp)
 have hn' := hn
 rw [List.nodup_append] at hn'
 have hgnew : ∀ p ∈ fp1 ++ f2, p ≠ g := by
  intro p hp e
  subst e
  rcases q5 with q5 | q5
  · have hm : p ∈ (Value.slice A n c).ownBlock.toList := by rw [← q5]; simp [Value.ownBlock]
    rcases List.mem_append.1 hp with hp | hp
    · exact hn'.2.2 p hm p hp rfl
    · exact hd p hp (List.mem_append_left _ hm)
  · have e2 : p = w.heap.size := by simpa [Value.ownBlock] using q5
    rcases List.mem_append.1 hp with hp | hp
    · have := hlt p (List.mem_append_right _ hp); omega
    · have := ho.lt p hp; omega
 have hap : (l ++ [y]).flatMap f = l.flatMap f ++ f y := by simp
 have o1 := h2.touch tt (fun p hp hm => hn'.2.2 p hm p hp rfl)
 have o2 := ho.touch tt (fun p hp hm => hd p hp (List.mem_append_left _ hm))
 have o3 := o1.append o2
 rw [← hap] at o3
 refine hK _ _ w' _ (Ow.of_lst q2 o3) ?_ (fun p hp => ?_) (tt.mono fun p hp => List.mem_append_left _ hp)
 · rw [List.nodup_append, List.nodup_append]
   refine ⟨by simp [Value.ownBlock], ⟨hn'.2.1, hn2, fun p hp q hq e => hd q hq (by subst e; exact List.mem_append_right _ hp)⟩, fun p hp q hq e => ?_⟩
   have : p = g := by simpa [Value.ownBlock] using hp
   exact hgnew q hq (by rw [← e, this])
 · rcases List.mem_append.1 hp with hp | hp
   · have hpg : p = g := by simpa [Value.ownBlock] using hp
     subst hpg
     rcases q5 with q5 | q5
     · left
       refine List.mem_append_left _ ?_
       rw [← q5]
       simp [Value.ownBlock]
     · right; right
       simpa [Value.ownBlock] using q5
   · rcases List.mem_append.1 hp with hp | hp
     · exact .inl (List.mem_append_right _ hp)
     · exact .inr (.inl hp)
theorem wpList_append_elem {P : Program} {t : TypeId} {z : Value} {bytes : Nat} {A : Option Addr} {n c hb : Nat} {es : List Value} {f2 : List Nat} {y : α} {ops : Array Oper} {rest : List Oper} {op : Oper} {a : Act} {Q : Exit → Act → World → Prop}
    (hgd : op.guard = none) (s x : Operand) (hop : op.op = .call { callee := .builtin .append, args := #[s, x], argTypes := #[t, t] }) (ht : P.underlying t = some (.slice e))
    (hinfo : (P.info? e).map (fun i => (i.zero, i.size, i.bytes)) = some (some z, k, bytes)) (hzs : z.cells.size = k) (k0 : 0 < k) (hk : ∀ x, (f x).length = k)
    (hse : a.eval s = .slice A n c) (h : Ow w [Go.Proofs.YthjjdelpdiipdaaGreatDoor.lst e k f l] [.slice A n c] fp) (hn : fp.Nodup) (hx : a.eval x = .slice (some ⟨hb, 0, none⟩) 1 1)
    (hcell : ∀ i, i < k → w.cell? ⟨hb, i, none⟩ = es[i]?) (ho : Ow w (f y) es f2) (hn2 : f2.Nodup) (hd : ∀ p ∈ f2, p ∉ fp) (hl : n ≤ 1048577) (hby : bytes ≤ 1048576)
    (hK : ∀ A3 c3 w3 fp3, Ow w3 [Go.Proofs.YthjjdelpdiipdaaGreatDoor.lst e k f (l ++ [y])] [.slice A3 (n + 1) c3] fp3 → fp3.Nodup → (∀ p ∈ fp3, p ∈ fp ∨ p ∈ f2 ∨ p = w.heap.size) → Touch fp w w3 → wpList P ops Q rest (a.put op.dst (.slice A3 (n + 1) c3)) w3) :
    wpList P ops Q (op :: rest) a w :=
 wpList_plain hgd fun _ hK' => wp_append_elem s x hop ht hinfo hzs k0 hk hse h hn hx hcell ho hn2 hd hl hby fun A3 c3 w3 fp3 a1 a2 a3 a4 => hK' _ _ (hK A3 c3 w3 fp3 a1 a2 a3 a4)
end
end Go.Proofs.YthjjdelpdiipdaaGreatDoor
namespace Go.Proofs.YthjjdelpdiipdaaGreatDoor
set_option maxRecDepth 100000
open Go.RowKit
inductive Item where
 | blk (p : Nat) (cs : Array Value) (t : TypeId)
 | own (ds : List Dat) (vs : List Value) (fp : List Nat)
def Item.foot : Item → List Nat
 | .blk p _ _ => [p]
 | .own _ _ fp => fp
def Item.holds (w : World) : Item → Prop
 | .blk p cs t => Blk w p cs t
 | .own ds vs fp => Ow w ds vs fp
def foots (is : List Item) : List Nat := is.flatMap Item.foot
structure Sep (w : World) (base : Nat) (is : List Item) : Prop where
 holds : ∀ (n : Nat) (i : Item), is[n]? = some i → i.holds w
 nodup : (foots is).Nodup
 ge : ∀ p ∈ foots is, base ≤ p
section
variable {w w' : World} {base : Nat} {is : List Item}
theorem Item.lt {i : Item} (h : i.holds w) : ∀ p ∈ i.foot, p < w.heap.size := by
 cases i with
 | blk p cs t => intro q hq; have : q = p := by simpa [Item.foot] using hq
                 subst this; exact Blk.lt h
 | own ds vs fp => exact Ow.lt h
theorem Item.same {i : Item} (h : i.holds w) (hb : ∀ p ∈ i.foot, w'.heap[p]? = w.heap[p]?) : i.holds w' := by
 cases i with
 | blk p cs t => exact (hb p (by simp [Item.foot])).trans h
 | own ds vs fp => exact Ow.same h hb
theorem foot_mem {n : Nat} {i : Item} (h : is[n]? = some i) {p : Nat} (hp : p ∈ i.foot) : p ∈ foots is := List.mem_flatMap.2 ⟨i, List.mem_of_getElem? h, hp⟩
theorem Sep.lt (h : Sep w base is) : ∀ p ∈ foots is, p < w.heap.size := by
 intro p hp
 obtain ⟨i, hi, hp⟩ := List.mem_flatMap.1 hp
 obtain ⟨n, hn⟩ := List.getElem?_of_mem hi
 exact Item.lt (h.holds n i hn) p hp
theorem Sep.nil (w : World) (base : Nat) : Sep w base [] := ⟨fun n i h => by simp at h, by simp [foots], fun p hp => by simp [foots] at hp⟩
theorem Sep.keep (h : Sep w base is) (hb : Below w.heap.size w w') : Sep w' base is :=
 ⟨fun n i hi => Item.same (h.holds n i hi) (fun p hp => hb.block p (Item.lt (h.holds n i hi) p hp)), h.nodup, h.ge⟩
theorem Sep.box (h : Sep w base is) (hle : base ≤ w.heap.size) (cs : Array Value) (t : TypeId) : Sep (w.alloc (.cells cs t)) base (.blk w.heap.size cs t :: is) := by
 have hk := h.keep ((Below.refl w.heap.size w).alloc (Nat.le_refl _) (.cells cs t))
 have hlt := h.lt
 refine ⟨fun n i hi => ?_, ?_, fun p hp => ?_⟩
 · cases n with
   | zero => simp at hi; subst hi; exact Blk.new w cs t
   | succ n => exact hk.holds n i (by simpa using hi)
 · show (w.heap.size :: foots is).Nodup
   exact List.nodup_cons.2 ⟨fun hm => by have := hlt _ hm; omega, h.nodup⟩
 · rcases List.mem_cons.1 (show p ∈ w.heap.size :: foots is from hp) with rfl | hp
   · exact hle
   · exact h.ge p hp
theorem Sep.has {ds : List Dat} {vs : List Value} (h : Sep w base is) (hb : Below w.heap.size w w') (ho : Has w' w.heap.size ds vs) (hle : base ≤ w.heap.size) : ∃ fp, Sep w' base (.own ds vs fp :: is) := by
 obtain ⟨fp, ho, hn, hge⟩ := ho
 have hk := h.keep hb
 have hlt := h.lt
 refine ⟨fp, fun n i hi => ?_, ?_, fun p hp => ?_⟩
 · cases n with
   | zero => simp at hi; subst hi; exact ho
   | succ n => exact hk.holds n i (by simpa using hi)
 · show (fp ++ foots is).Nodup
   refine List.nodup_append.2 ⟨hn, h.nodup, fun p hp q hq e => ?_⟩
   have := hge p hp
   have := hlt q hq
   omega
 · rcases List.mem_append.1 (show p ∈ fp ++ foots is from hp) with hp | hp
   · exact Nat.le_trans hle (hge p hp)
   · exact h.ge p hp
theorem Sep.at_ (h : Sep w base is) (n : Nat) {p : Nat} {cs : Array Value} {t : TypeId} (hn : is[n]? = some (.blk p cs t)) : Blk w p cs t := h.holds n _ hn
theorem lk {w : World} {base : Nat} {is : List Item} (S : Sep w base is) (n q : Nat) {p : Nat} {cs : Array Value} {t : TypeId} {v : Value} (hn : is[n]? = some (.blk p cs t)) (hv : cs.toList[q]? = some v) : w.cell? ⟨p, q, none⟩ = some v := by
 rw [(S.at_ n hn).cell q, ← Array.getElem?_toList, hv]
theorem al {a w : World} {is : List Item} {o : Obj} (c : Below a.heap.size a w) (_S : Sep (w.alloc o) a.heap.size is) : Below a.heap.size a (w.alloc o) := c.alloc c.size o
theorem st {B p i : Nat} {a w : World} {is : List Item} {u : Value} (c : Below B a w) (_S : Sep (w.setCell ⟨p, i, none⟩ u) B is) (hp : B ≤ p) : Below B a (w.setCell ⟨p, i, none⟩ u) := c.setCell hp u
theorem Sep.own_ (h : Sep w base is) (n : Nat) {ds : List Dat} {vs : List Value} {fp : List Nat} (hn : is[n]? = some (.own ds vs fp)) : Ow w ds vs fp := h.holds n _ hn
theorem foots_split (is : List Item) {n : Nat} {i : Item} (hn : is[n]? = some i) : foots is = foots (is.take n) ++ (i.foot ++ foots (is.drop (n + 1))) := by
 have hlt : n < is.length := by
  rcases Nat.lt_or_ge n is.length with h | h
  · exact h
  · rw [List.getElem?_eq_none h] at hn; cases hn
 have e1 : is = is.take n ++ (is[n] :: is.drop (n + 1)) := by rw [← List.drop_eq_getElem_cons hlt, List.take_append_drop]
 have e2 : is[n] = i := by rw [List.getElem?_eq_getElem hlt] at hn; injection hn
 unfold foots
 conv => lhs; rw [e1, e2]
 rw [List.flatMap_append, List.flatMap_cons]
theorem Sep.nodup_own (h : Sep w base is) (n : Nat) {ds : List Dat} {vs : List Value} {fp : List Nat} (hn : is[n]? = some (.own ds vs fp)) : fp.Nodup := by
 have h1 := h.nodup
 rw [foots_split is hn, List.nodup_append, List.nodup_append] at h1
 exact h1.2.1.1
theorem Sep.mark (h : Sep w base is) (n : Nat) {ds ds' : List Dat} {vs : List Value} {fp : List Nat} (hn : is[n]? = some (.own ds vs fp)) (ht : Touch fp w w') (ho : Ow w' ds' vs fp) : Sep w' base (is.set n (.own ds' vs fp)) := by
 have hlt : n < is.length := by
  rcases Nat.lt_or_ge n is.length with h | h
  · exact h
  · rw [List.getElem?_eq_none h] at hn; cases hn
 have hf : foots (is.set n (.own ds' vs fp)) = foots is := by
  rw [foots_split is hn, List.set_eq_take_append_cons_drop, if_pos hlt]
  unfold foots
  rw [List.flatMap_append, List.flatMap_cons]
  rfl
 refine ⟨fun m i hi => ?_, by rw [hf]; exact h.nodup, by rw [hf]; exact h.ge⟩
 by_cases hmn : n = m
 · subst hmn
   rw [List.getElem?_set_self hlt] at hi
   injection hi with hi
   subst hi
   exact ho
 · rw [List.getElem?_set_ne hmn] at hi
   have hh := h.holds m i hi
   refine Item.same hh (fun p hp => ht.block p (Item.lt hh p hp) (fun hm => ?_))
   have hnd := h.nodup
   rw [foots_split is hn] at hnd
   have hpm : p ∈ foots (is.take n) ∨ p ∈ foots (is.drop (n + 1)) := by
    rcases Nat.lt_or_gt_of_ne hmn with h1 | h1
    · right
      exact foot_mem (n := m - (n + 1)) (i := i) (by rw [List.getElem?_drop]; rw [show n + 1 + (m - (n + 1)) = m by omega]; exact hi) hp
    · left
      exact foot_mem (n := m) (i := i) (by rw [List.getElem?_take, if_pos h1]; exact hi) hp
   rw [List.nodup_append] at hnd
   rcases hpm with h1 | h1
   · exact hnd.2.2 p h1 p (List.mem_append_left _ hm) rfl
   · have h2 := hnd.2.1
     rw [List.nodup_append] at h2
     exact h2.2.2 p hm p h1 rfl
theorem Sep.below (h : Sep w base is) (n : Nat) {ds : List Dat} {vs : List Value} {fp : List Nat} (hn : is[n]? = some (.own ds vs fp)) (ht : Touch fp w w') (hle : base ≤ w.heap.size) : Below base w w' :=
 ht.below (fun p hp => h.ge p (foot_mem hn hp)) hle
theorem Sep.merge {d1 d2 ds : List Dat} {v1 v2 vs : List Value} {fp f2 fp3 : List Nat} (h : Sep w base (.own d1 v1 fp :: .own d2 v2 f2 :: is)) (ht : Touch fp w w') (ho : Ow w' ds vs fp3) (nd : fp3.Nodup)
    (hsub : ∀ p ∈ fp3, p ∈ fp ∨ p ∈ f2 ∨ p = w.heap.size) (hle : base ≤ w.heap.size) : Sep w' base (.own ds vs fp3 :: is) := by
 have hnd := h.nodup
 have hlt := h.lt
 have hall : foots (.own d1 v1 fp :: .own d2 v2 f2 :: is) = fp ++ (f2 ++ foots is) := rfl
 rw [hall] at hnd hlt
 rw [List.nodup_append, List.nodup_append] at hnd
 obtain ⟨_, ⟨_, hni, h2⟩, h1⟩ := hnd
 have hne : ∀ p ∈ foots is, p ∉ fp := fun p hp hm => h1 p hm p (List.mem_append_right _ hp) rfl
 refine ⟨fun n i hi => ?_, ?_, fun p hp => ?_⟩
 · cases n with
   | zero => simp at hi; subst hi; exact ho
   | succ n =>
    have hi' : is[n]? = some i := by simpa using hi
    have hh := h.holds (n + 2) i (by simpa using hi')
    exact Item.same hh (fun p hp => ht.block p (Item.lt hh p hp) (hne p (foot_mem hi' hp)))
 · show (fp3 ++ foots is).Nodup
   refine List.nodup_append.2 ⟨nd, hni, fun p hp q hq e => ?_⟩
   subst e
   rcases hsub p hp with h3 | h3 | h3
   · exact hne p hq h3
   · exact h2 p h3 p hq rfl
   · have := hlt p (List.mem_append_right _ (List.mem_append_right _ hq))
     omega
 · rcases List.mem_append.1 (show p ∈ fp3 ++ foots is from hp) with hp | hp
   · rcases hsub p hp with h3 | h3 | h3
     · exact h.ge p (List.mem_append_left _ h3)
     · exact h.ge p (List.mem_append_right _ (List.mem_append_left _ h3))
     · omega
   · exact h.ge p (List.mem_append_right _ (List.mem_append_right _ hp))
theorem Sep.put (h : Sep w base is) (n : Nat) {p : Nat} {cs : Array Value} {t : TypeId} (hn : is[n]? = some (.blk p cs t)) (i : Nat) (u : Value) : Sep (w.setCell ⟨p, i, none⟩ u) base (is.set n (.blk p (cs.setIfInBounds i u) t)) := by
 have hlt : n < is.length := by
  rcases Nat.lt_or_ge n is.length with h | h
  · exact h
  · rw [List.getElem?_eq_none h] at hn; cases hn
 have hf : foots (is.set n (.blk p (cs.setIfInBounds i u) t)) = foots is := by
  rw [foots_split is hn, List.set_eq_take_append_cons_drop, if_pos hlt]
  unfold foots
  rw [List.flatMap_append, List.flatMap_cons]
  rfl
 refine ⟨fun m j hj => ?_, by rw [hf]; exact h.nodup, by rw [hf]; exact h.ge⟩
 by_cases hmn : n = m
 · subst hmn
   rw [List.getElem?_set_self hlt] at hj
   injection hj with hj
   subst hj
   exact (h.at_ n hn).set_ i u
 · rw [List.getElem?_set_ne hmn] at hj
   have hh := h.holds m j hj
   refine Item.same hh (fun q hq => Below.heap_setCell w ⟨p, i, none⟩ u q (fun e => ?_))
   have hqp : q = p := e
   subst hqp
   have hnd := h.nodup
   rw [foots_split is hn] at hnd
   have hpm : q ∈ foots (is.take n) ∨ q ∈ foots (is.drop (n + 1)) := by
    rcases Nat.lt_or_gt_of_ne hmn with h1 | h1
    · right
      exact foot_mem (n := m - (n + 1)) (i := j) (by rw [List.getElem?_drop]; rw [show n + 1 + (m - (n + 1)) = m by omega]; exact hj) hq
    · left
      exact foot_mem (n := m) (i := j) (by rw [List.getElem?_take, if_pos h1]; exact hj) hq
   rw [List.nodup_append] at hnd
   rcases hpm with h1 | h1
   · exact hnd.2.2 q h1 q (List.mem_append_left _ (by simp [Item.foot])) rfl
   · have h2 := hnd.2.1
     rw [List.nodup_append] at h2
     exact h2.2.2 q (by simp [Item.foot]) q h1 rfl
theorem Sep.drop (h : Sep w base is) (n : Nat) : Sep w base (is.drop n) := by
 have hf : foots is = foots (is.take n) ++ foots (is.drop n) := by
  unfold foots
  rw [← List.flatMap_append, List.take_append_drop]
 refine ⟨fun m i hi => h.holds (n + m) i (by rw [List.getElem?_drop] at hi; exact hi), ?_, fun p hp => h.ge p (by rw [hf]; exact List.mem_append_right _ hp)⟩
 have := h.nodup
 rw [hf, List.nodup_append] at this
 exact this.2.1
theorem Sep.swap {a b : Item} (h : Sep w base (a :: b :: is)) : Sep w base (b :: a :: is) := by
 have hf : foots (a :: b :: is) = a.foot ++ (b.foot ++ foots is) := rfl
 have hf' : foots (b :: a :: is) = b.foot ++ (a.foot ++ foots is) := rfl
 have hnd := h.nodup
 rw [hf, List.nodup_append, List.nodup_append] at hnd
 obtain ⟨n1, ⟨n2, n3, d23⟩, d1⟩ := hnd
 refine ⟨fun n i hi => ?_, ?_, fun p hp => ?_⟩
 · match n, hi with
   | 0, hi => exact h.holds 1 i hi
   | 1, hi => exact h.holds 0 i hi
   | n + 2, hi => exact h.holds (n + 2) i hi
 · rw [hf', List.nodup_append, List.nodup_append]
   refine ⟨n2, ⟨n1, n3, fun p hp q hq e => d1 p hp q (List.mem_append_right _ hq) e⟩, fun p hp q hq e => ?_⟩
   rcases List.mem_append.1 hq with hq | hq
   · exact d1 q hq p (List.mem_append_left _ hp) e.symm
   · exact d23 p hp q hq e
 · refine h.ge p ?_
   rw [hf'] at hp
   rw [hf]
   simp only [List.mem_append] at hp ⊢
   rcases hp with hp | hp | hp
   · exact .inr (.inl hp)
   · exact .inl hp
   · exact .inr (.inr hp)
theorem Sep.apart {d1 d2 : List Dat} {v1 v2 : List Value} {f1 f2 : List Nat} (h : Sep w base (.own d1 v1 f1 :: .own d2 v2 f2 :: is)) : ∀ p ∈ f2, p ∉ f1 := by
 have hnd := h.nodup
 have hall : foots (.own d1 v1 f1 :: .own d2 v2 f2 :: is) = f1 ++ (f2 ++ foots is) := rfl
 rw [hall, List.nodup_append] at hnd
 exact fun p hp hm => hnd.2.2 p hm p (List.mem_append_left _ hp) rfl
theorem Sep.own0 {ds : List Dat} {vs : List Value} (h : Sep w base is) (ho : Ow w ds vs []) : Sep w base (.own ds vs [] :: is) := by
 refine ⟨fun n i hi => ?_, h.nodup, h.ge⟩
 cases n with
 | zero => simp at hi; subst hi; exact ho
 | succ n => exact h.holds n i (by simpa using hi)
theorem Sep.split {d1 d2 : List Dat} {vs : List Value} {fp : List Nat} (h : Sep w base (.own (d1 ++ d2) vs fp :: is)) : ∃ v1 v2 f1 f2, vs = v1 ++ v2 ∧ Sep w base (.own d2 v2 f2 :: .own d1 v1 f1 :: is) := by
 obtain ⟨v1, v2, f1, f2, rfl, rfl, o1, o2⟩ := (h.own_ 0 rfl).split
 have hf : foots (.own (d1 ++ d2) (v1 ++ v2) (f1 ++ f2) :: is) = f1 ++ f2 ++ foots is := rfl
 have hf' : foots (.own d2 v2 f2 :: .own d1 v1 f1 :: is) = f2 ++ (f1 ++ foots is) := rfl
 have hnd := h.nodup
 rw [hf, List.append_assoc, List.nodup_append, List.nodup_append] at hnd
 obtain ⟨n1, ⟨n2, n3, d23⟩, d1'⟩ := hnd
 refine ⟨v1, v2, f1, f2, rfl, fun n i hi => ?_, ?_, fun p hp => ?_⟩
 · match n, hi with
   | 0, hi => simp at hi; subst hi; exact o2
   | 1, hi => simp at hi; subst hi; exact o1
   | n + 2, hi => exact h.holds (n + 1) i (by simpa using hi)
 · rw [hf', List.nodup_append, List.nodup_append]
   refine ⟨n2, ⟨n1, n3, fun p hp q hq e => d1' p hp q (List.mem_append_right _ hq) e⟩, fun p hp q hq e => ?_⟩
   rcases List.mem_append.1 hq with hq | hq
   · exact d1' q hq p (List.mem_append_left _ hp) e.symm
   · exact d23 p hp q hq e
 · refine h.ge p ?_
   rw [hf'] at hp
   rw [hf]
   simp only [List.mem_append] at hp ⊢
   rcases hp with hp | hp | hp
   · exact .inl (.inr hp)
   · exact .inl (.inl hp)
   · exact .inr hp
theorem Sep.pair {d1 d2 : List Dat} {v1 v2 : List Value} {f1 f2 : List Nat} (h : Sep w base (.own d1 v1 f1 :: .own d2 v2 f2 :: is)) : Has w base (d2 ++ d1) (v2 ++ v1) := by
 have hnd := h.nodup
 have hall : foots (.own d1 v1 f1 :: .own d2 v2 f2 :: is) = f1 ++ (f2 ++ foots is) := rfl
 rw [hall, List.nodup_append, List.nodup_append] at hnd
 refine ⟨f2 ++ f1, (h.own_ 1 rfl).append (h.own_ 0 rfl), List.nodup_append.2 ⟨hnd.2.1.1, hnd.1, fun p hp q hq e => hnd.2.2 q hq p (List.mem_append_left _ hp) e.symm⟩, fun p hp => ?_⟩
 rcases List.mem_append.1 hp with hp | hp
 · exact h.ge p (by rw [hall]; exact List.mem_append_right _ (List.mem_append_left _ hp))
 · exact h.ge p (by rw [hall]; exact List.mem_append_left _ hp)
theorem Sep.first {ds : List Dat} {vs : List Value} {fp : List Nat} (h : Sep w base (.own ds vs fp :: is)) : Has w base ds vs :=
 ⟨fp, h.own_ 0 rfl, h.nodup_own 0 rfl, fun p hp => h.ge p (List.mem_append_left _ hp)⟩
end
end Go.Proofs.YthjjdelpdiipdaaGreatDoor
namespace Go.Proofs.YthjjdelpdiipdaaGreatDoor
set_option maxRecDepth 100000
open Go.RowKit
section
variable {w w' : World} {base : Nat} {is is' : List Item}
theorem Sep.of_perm (h : Sep w base is) (hp : is.Perm is') : Sep w base is' := by
 have hf : (foots is).Perm (foots is') := hp.flatMap_right _
 refine ⟨fun n i hi => ?_, hf.nodup_iff.1 h.nodup, fun p hm => h.ge p (hf.mem_iff.2 hm)⟩
 have hm : i ∈ is := hp.mem_iff.2 (List.mem_of_getElem? hi)
 obtain ⟨k, hk⟩ := List.getElem?_of_mem hm
 exact h.holds k i hk
theorem Sep.tail {a : Item} (h : Sep w base (a :: is)) : Sep w base is := h.drop 1
theorem Sep.store {α : Type} {f : α → List Dat} {e : TypeId} {k g n c j : Nat} {l : List α} {fp f2 : List Nat} {x : α} {es : List Value} (hk : ∀ x, (f x).length = k) (k0 : 0 < k)
    (h : Sep w base (.own [lst e k f l] [.slice (some ⟨g, 0, none⟩) n c] fp :: .own (f x) es f2 :: is)) (hj : j < l.length) (hle : base ≤ w.heap.size) :
    ∃ fp', Sep (puts w g (j * k) es) base (.own [lst e k f (l.set j x)] [.slice (some ⟨g, 0, none⟩) n c] fp' :: is) ∧ Touch fp w (puts w g (j * k) es) := by
 have o1 := h.own_ 0 rfl
 obtain ⟨ht, fp', ho, hn, hsub⟩ := o1.store hk k0 (h.nodup_own 0 rfl) hj (h.own_ 1 rfl) (h.nodup_own 1 rfl) h.apart
 obtain ⟨us, fp1, _, _, hfp⟩ := o1.lst hk k0
 have hg : g ∈ fp := by rw [hfp]; simp [Value.ownBlock]
 have ht' : Touch fp w (puts w g (j * k) es) := ht.mono fun p hp => by
  have : p = g := by simpa using hp
  rw [this]
  exact hg
 exact ⟨fp', h.merge ht' ho hn (fun p hp => (hsub p hp).elim .inl (fun h => .inr (.inl h))) hle, ht'⟩
end
end Go.Proofs.YthjjdelpdiipdaaGreatDoor
namespace Go.Proofs.YthjjdelpdiipdaaGreatDoor
set_option maxRecDepth 100000
section
variable {P : Program} {ops : Array Oper} {Q : Exit → Act → World → Prop} {md : Region.Mode} {F : World → Prop} {last : Nat}
def wpAnyL (P : Program) (md : Region.Mode) (ops : Array Oper) (Q : Exit → Act → World → Prop) (F : World → Prop) (last : Nat) : Nat → Array Bool → Act → World → Prop
 | 0, listed, a, w => Region.ready md ops listed = [] ∧ Q .normal a w
 | fuel + 1, listed, a, w =>
  (Region.ready md ops listed = [] → Q .normal a w) ∧
  ∀ i ∈ Region.ready md ops listed, wpOp P ops Q i (fun a' w' => ((listed.setIfInBounds i true).getD last true = false → F w') ∧ wpAnyL P md ops Q F last fuel (listed.setIfInBounds i true) a' w') a w
theorem wpAny_of_L : ∀ (fuel : Nat) (listed : Array Bool) (a : Act) (w : World), wpAnyL P md ops Q F last fuel listed a w → wpAny P md ops Q fuel listed a w
 | 0, _, _, _, h => h
 | fuel + 1, _, _, _, h => ⟨h.1, fun i hi => wpOp_mono (fun a' w' h' => wpAny_of_L fuel _ a' w' h'.2) (h.2 i hi)⟩
theorem wpAnyL_first {i : Nat} {oi ol : Oper} {v : Value} (hi : ops[i]? = some oi) (hol : ops[last]? = some ol) (hil : i ≠ last) (hwait : ∃ e ∈ ol.after, Region.binds md e = true ∧ e.on = i)
    (hsel : ∀ (j : Nat) (o : Oper) cs b, ops[j]? = some o → o.op ≠ .select cs b)
    (hQ : ∀ c a w, Q (.panic c) (a.put oi.dst v) w → Q (.panic c) a w) :
    ∀ (fuel : Nat) (listed : Array Bool) (a : Act) (w : World),
     (∀ j oj, ops[j]? = some oj → j ≠ i → listed.getD j true = false → (∀ e ∈ oj.after, Region.binds md e = true → e.on ≠ i) → oi.apart ops oj = true) →
     i ∈ Region.ready md ops listed → YieldsIf P ops F oi v a → listed.getD last true = false → F w →
     wpAnyL P md ops Q F last fuel (listed.setIfInBounds i true) (a.put oi.dst v) w → wpAnyL P md ops Q F last (fuel + 1) listed a w := by
 intro fuel
 induction fuel with
 | zero =>
  intro listed a w _ hr hy _ hS H
  refine ⟨fun h => (by rw [h] at hr; cases hr), fun j hj => ?_⟩
  by_cases hji : j = i
  · subst hji; exact hy.wpOp hi hS ⟨fun _ => hS, H⟩
  · have := ready_mono hj hji
    rw [H.1] at this
    cases this
 | succ fuel ih =>
  intro listed a w hfree hr hy hlast hS H
  refine ⟨fun h => (by rw [h] at hr; cases hr), fun j hj => ?_⟩
  by_cases hji : j = i
  · subst hji; exact hy.wpOp hi hS ⟨fun _ => hS, H⟩
  · have h1 := H.2 j (ready_mono hj hji)
    obtain ⟨hjun, oj, hoj, hall⟩ := mem_ready.1 hj
    have hnot : ∀ e ∈ oj.after, Region.binds md e = true → e.on ≠ i := fun e he hb heq => by
     have h1 := hall e he hb
     have h0 := (mem_ready.1 hr).1
     rw [heq] at h1
     rcases Nat.lt_or_ge i listed.size with h' | h'
     · simp [h'] at h0 h1; rw [h0] at h1; cases h1
     · simp [Array.getElem?_eq_none h'] at h1
    have hjl : j ≠ last := fun e => by
     subst e
     rw [hoj] at hol
     injection hol with hol
     subst hol
     obtain ⟨e, he, hb, hon⟩ := hwait
     exact hnot e he hb hon
    have h2 := wpOp_putIf hoj (hfree j oj hoj hji hjun hnot) (fun cs b => hsel i oi cs b hi) (fun cs b => hsel j oj cs b hoj) hQ hy h1
    have hfree' : ∀ k ok, ops[k]? = some ok → k ≠ i → (listed.setIfInBounds j true).getD k true = false →
        (∀ e ∈ ok.after, Region.binds md e = true → e.on ≠ i) → oi.apart ops ok = true := fun k ok hk hki hun hno => by
     refine hfree k ok hk hki ?_ hno
     by_cases hjk : j = k
     · subst hjk; exact hjun
     · rw [getD_set_ne true hjk] at hun; exact hun
    have hl2 : (listed.setIfInBounds j true).getD last true = false := by rw [getD_set_ne true hjl]; exact hlast
    have hl3 : ((listed.setIfInBounds i true).setIfInBounds j true).getD last true = false := by
     rw [getD_set_ne true hjl, getD_set_ne true hil]
     exact hlast
    refine wpOp_mono (fun a' w' h3 => ?_) h2
    have hF := h3.2.1 hl3
    refine ⟨fun _ => hF, ih (listed.setIfInBounds j true) a' w' hfree' (ready_mono hr (Ne.symm hji)) h3.1 hl2 hF ?_⟩
    rw [Array.setIfInBounds_comm _ _ hji]
    exact h3.2.2
def waitsFor (md : Region.Mode) (ops : Array Oper) (last i : Nat) : Bool := match ops[last]? with | some o => o.after.any (fun e => Region.binds md e && e.on == i) | none => false
theorem waits_spec {i : Nat} (h : waitsFor md ops last i = true) : ∃ ol, ops[last]? = some ol ∧ ∃ e ∈ ol.after, Region.binds md e = true ∧ e.on = i := by
 unfold waitsFor at h
 split at h
 · rename_i o ho
   rw [Array.any_eq_true'] at h
   obtain ⟨e, he, h2⟩ := h
   simp only [Bool.and_eq_true, beq_iff_eq] at h2
   exact ⟨o, ho, e, he, h2.1, h2.2⟩
 · cases h
theorem wpAnyL_take {i : Nat} {oi : Oper} {v : Value} {fuel : Nat} {listed : Array Bool} {a : Act} {w : World} (hi : ops[i]? = some oi)
    (hil : (i == last) = false) (hw : waitsFor md ops last i = true) (hs : Region.noSelect ops = true) (hf : Region.free md ops listed i = true) (hr : (Region.ready md ops listed).contains i = true)
    (hl : listed.getD last true = false) (hQ : ∀ c a w, Q (.panic c) (a.put oi.dst v) w → Q (.panic c) a w) (hS : F w) (hy : YieldsIf P ops F oi v a)
    (h : wpAnyL P md ops Q F last fuel (listed.setIfInBounds i true) (a.put oi.dst v) w) : wpAnyL P md ops Q F last (fuel + 1) listed a w := by
 obtain ⟨ol, hol, hwait⟩ := waits_spec hw
 exact wpAnyL_first hi hol (by simpa using hil) hwait (Region.noSelect_spec hs) hQ fuel listed a w (Region.free_spec hi hf) (by simpa using hr) hy hl hS h
theorem tk (i : Nat) {oi : Oper} {v : Value} {fuel : Nat} {listed : Array Bool} {a : Act} {w : World} (hi : ops[i]? = some oi) (hil : (i == last) = false) (hS : F w) (hy : YieldsIf P ops F oi v a)
    (h : wpAnyL P md ops Q F last fuel (listed.setIfInBounds i true) (a.put oi.dst v) w) (hw : waitsFor md ops last i = true := by kernel_rfl) (hs : Region.noSelect ops = true := by kernel_rfl) (hf : Region.free md ops listed i = true := by kernel_rfl) (hr : (Region.ready md ops listed).contains i = true := by kernel_rfl)
    (hl : listed.getD last true = false := by kernel_rfl) (hQ : ∀ c a w, Q (.panic c) (a.put oi.dst v) w → Q (.panic c) a w := by exact fun _ _ _ h => h) : wpAnyL P md ops Q F last (fuel + 1) listed a w := wpAnyL_take hi hil hw hs hf hr hl hQ hS hy h
theorem wpAnyL_step {i : Nat} {o : Oper} {fuel : Nat} {listed : Array Bool} {a : Act} {w : World} (hr : Region.ready md ops listed = [i]) (ho : ops[i]? = some o) (hg : o.guard = none)
    (h : ∀ K : Act → World → Prop, (∀ a' w', ((listed.setIfInBounds i true).getD last true = false → F w') → wpAnyL P md ops Q F last fuel (listed.setIfInBounds i true) a' w' → K a' w') → Oper.wp P o a w K Q) :
    wpAnyL P md ops Q F last (fuel + 1) listed a w := by
 refine ⟨fun h0 => (by rw [hr] at h0; cases h0), fun j hj => ?_⟩
 rw [hr] at hj
 have hji : j = i := by simpa using hj
 subst hji
 unfold wpOp
 simp only [ho]
 have hw : Region.wanted o (yielded ops a.tmps) = true := by simp [Region.wanted, hg]
 rw [if_pos hw]
 exact .inl (h _ fun a' w' h1 h2 => ⟨h1, h2⟩)
theorem wpAnyL_done {listed : Array Bool} {a : Act} {w : World} (hr : Region.ready md ops listed = []) (h : Q .normal a w) : ∀ fuel, wpAnyL P md ops Q F last fuel listed a w
 | 0 => ⟨hr, h⟩
 | _ + 1 => ⟨fun _ => h, by rw [hr]; simp⟩
theorem wp_region_L (F : World → Prop) (last : Nat) {id : Nat} {a : Act} {w : World} (hm : P.follows .mixedOrders = true)
    (h : wpAnyL P .any ops Q F last ops.size (Array.replicate ops.size false) a w.drew) : (Code.region id ops true).wp P Q a w :=
 wp_region_any hm (wpAny_of_L _ _ _ _ h)
end
end Go.Proofs.YthjjdelpdiipdaaGreatDoor
namespace Go.Proofs.YthjjdelpdiipdaaGreatDoor
set_option maxRecDepth 100000
section
variable {P : Program} {ops : Array Oper} {Q : Exit → Act → World → Prop} {md : Region.Mode} {F : World → Prop} {last : Nat}
theorem wpAnyL_pure0 {i : Nat} {oi : Oper} {v : Value} (hi : ops[i]? = some oi) (hil : i ≠ last)
    (hsel : ∀ (j : Nat) (o : Oper) cs b, ops[j]? = some o → o.op ≠ .select cs b)
    (hQ : ∀ c a w, Q (.panic c) (a.put oi.dst v) w → Q (.panic c) a w) :
    ∀ (fuel : Nat) (listed : Array Bool) (a : Act) (w : World),
     (∀ j oj, ops[j]? = some oj → j ≠ i → listed.getD j true = false → (∀ e ∈ oj.after, Region.binds md e = true → e.on ≠ i) → oi.apart ops oj = true) →
     i ∈ Region.ready md ops listed → YieldsIf P ops (fun _ => True) oi v a → (listed.getD last true = false → F w) →
     wpAnyL P md ops Q F last fuel (listed.setIfInBounds i true) (a.put oi.dst v) w → wpAnyL P md ops Q F last (fuel + 1) listed a w := by
 intro fuel
 induction fuel with
 | zero =>
  intro listed a w _ hr hy hS H
  refine ⟨fun h => (by rw [h] at hr; cases hr), fun j hj => ?_⟩
  by_cases hji : j = i
  · subst hji
    exact hy.wpOp hi trivial ⟨fun h => hS (by rw [getD_set_ne true hil] at h; exact h), H⟩
  · have := ready_mono hj hji
    rw [H.1] at this
    cases this
 | succ fuel ih =>
  intro listed a w hfree hr hy hS H
  refine ⟨fun h => (by rw [h] at hr; cases hr), fun j hj => ?_⟩
  by_cases hji : j = i
  · subst hji
    exact hy.wpOp hi trivial ⟨fun h => hS (by rw [getD_set_ne true hil] at h; exact h), H⟩
  · have h1 := H.2 j (ready_mono hj hji)
    obtain ⟨hjun, oj, hoj, hall⟩ := mem_ready.1 hj
    have hnot : ∀ e ∈ oj.after, Region.binds md e = true → e.on ≠ i := fun e he hb heq => by
     have h1 := hall e he hb
     have h0 := (mem_ready.1 hr).1
     rw [heq] at h1
     rcases Nat.lt_or_ge i listed.size with h' | h'
     · simp [h'] at h0 h1; rw [h0] at h1; cases h1
     · simp [Array.getElem?_eq_none h'] at h1
    have h2 := wpOp_putIf hoj (hfree j oj hoj hji hjun hnot) (fun cs b => hsel i oi cs b hi) (fun cs b => hsel j oj cs b hoj) hQ hy h1
    have hfree' : ∀ k ok, ops[k]? = some ok → k ≠ i → (listed.setIfInBounds j true).getD k true = false →
        (∀ e ∈ ok.after, Region.binds md e = true → e.on ≠ i) → oi.apart ops ok = true := fun k ok hk hki hun hno => by
     refine hfree k ok hk hki ?_ hno
     by_cases hjk : j = k
     · subst hjk; exact hjun
     · rw [getD_set_ne true hjk] at hun; exact hun
    refine wpOp_mono (fun a' w' h3 => ?_) h2
    have hF : (listed.setIfInBounds j true).getD last true = false → F w' := fun h => h3.2.1 (by
     rw [Array.setIfInBounds_comm _ _ (Ne.symm hji), getD_set_ne true hil]
     exact h)
    refine ⟨hF, ih (listed.setIfInBounds j true) a' w' hfree' (ready_mono hr (Ne.symm hji)) h3.1 hF ?_⟩
    rw [Array.setIfInBounds_comm _ _ hji]
    exact h3.2.2
theorem wpAnyL_pure {i : Nat} {oi : Oper} {v : Value} {fuel : Nat} {listed : Array Bool} {a : Act} {w : World} (hi : ops[i]? = some oi)
    (hil : (i == last) = false) (hs : Region.noSelect ops = true) (hf : Region.free md ops listed i = true) (hr : (Region.ready md ops listed).contains i = true)
    (hQ : ∀ c a w, Q (.panic c) (a.put oi.dst v) w → Q (.panic c) a w) (hS : F w) (hy : YieldsIf P ops (fun _ => True) oi v a)
    (h : wpAnyL P md ops Q F last fuel (listed.setIfInBounds i true) (a.put oi.dst v) w) : wpAnyL P md ops Q F last (fuel + 1) listed a w :=
 wpAnyL_pure0 hi (by simpa using hil) (Region.noSelect_spec hs) hQ fuel listed a w (Region.free_spec hi hf) (by simpa using hr) hy (fun _ => hS) h
theorem wpAnyL_two {i k : Nat} {oi ok : Oper} {fuel : Nat} {listed : Array Bool} {a : Act} {w : World} (hr : Region.ready md ops listed = [i, k]) (hoi : ops[i]? = some oi) (hgi : oi.guard = none) (hok : ops[k]? = some ok) (hgk : ok.guard = none)
    (h : ∀ K : Act → World → Prop, (∀ a' w', ((listed.setIfInBounds i true).getD last true = false → F w') → wpAnyL P md ops Q F last fuel (listed.setIfInBounds i true) a' w' → K a' w') → Oper.wp P oi a w K Q)
    (h' : ∀ K : Act → World → Prop, (∀ a' w', ((listed.setIfInBounds k true).getD last true = false → F w') → wpAnyL P md ops Q F last fuel (listed.setIfInBounds k true) a' w' → K a' w') → Oper.wp P ok a w K Q) :
    wpAnyL P md ops Q F last (fuel + 1) listed a w := by
 refine ⟨fun h0 => (by rw [hr] at h0; cases h0), fun j hj => ?_⟩
 rw [hr] at hj
 have hji : j = i ∨ j = k := by simpa using hj
 rcases hji with rfl | rfl
 · unfold wpOp
   simp only [hoi]
   have hw : Region.wanted oi (yielded ops a.tmps) = true := by simp [Region.wanted, hgi]
   rw [if_pos hw]
   exact .inl (h _ fun a' w' h1 h2 => ⟨h1, h2⟩)
 · unfold wpOp
   simp only [hok]
   have hw : Region.wanted ok (yielded ops a.tmps) = true := by simp [Region.wanted, hgk]
   rw [if_pos hw]
   exact .inl (h' _ fun a' w' h1 h2 => ⟨h1, h2⟩)
end
end Go.Proofs.YthjjdelpdiipdaaGreatDoor
namespace Go.Proofs.YthjjdelpdiipdaaGreatDoor
set_option maxRecDepth 100000
open Go.RowKit
end Go.Proofs.YthjjdelpdiipdaaGreatDoor
namespace Go.Proofs.YthjjdelpdiipdaaGreatDoor
set_option maxRecDepth 100000
open Go.RowKit
def pre {α : Type} (g : α → Nat) (l : List α) (j : Nat) : Nat := ((l.take j).map g).sum
section
variable {α : Type} {g : α → Nat} {l : List α} {j k : Nat}
theorem pre_zero : pre g l 0 = 0 := by simp [pre]
theorem pre_succ (h : j < l.length) : pre g l (j + 1) = pre g l j + g l[j] := by
 unfold pre
 rw [List.take_succ_eq_append_getElem h, List.map_append, List.sum_append]
 simp
theorem pre_mono (h : j ≤ k) : pre g l j ≤ pre g l k := by
 induction k with
 | zero => have : j = 0 := by omega
           subst this; exact Nat.le_refl _
 | succ k ih =>
  rcases Nat.lt_or_ge j (k + 1) with h1 | h1
  · refine Nat.le_trans (ih (by omega)) ?_
    by_cases hk : k < l.length
    · rw [pre_succ hk]; omega
    · unfold pre
      rw [List.take_of_length_le (by omega), List.take_of_length_le (by omega)]
      exact Nat.le_refl _
  · have : j = k + 1 := by omega
    subst this; exact Nat.le_refl _
theorem pre_all : pre g l l.length = (l.map g).sum := by simp [pre]
theorem pre_le : pre g l j ≤ (l.map g).sum := by
 rw [← pre_all]
 rcases Nat.lt_or_ge j l.length with h | h
 · exact pre_mono (Nat.le_of_lt h)
 · unfold pre
   rw [List.take_of_length_le h, List.take_of_length_le (Nat.le_refl _)]
   exact Nat.le_refl _
theorem pre_at (h : j < l.length) : pre g l j + g l[j] ≤ (l.map g).sum := by rw [← pre_succ h]; exact pre_le
end
def rowC (r : List Int) : List Dat := [rowD r]
theorem rowC_len (r : List Int) : (rowC r).length = 1 := rfl
def left (L : Int) (t : Nat) : Int := if (t : Int) ≤ L then L - (t : Int) else -1
section
variable {w : World} {B : Nat} {v0 v1 : Value}
theorem Rd.two {a b : Dat} {vs : List Value} (h : Rd w B [a, b] vs) : ∃ u0 u1, vs = [u0, u1] ∧ Rd w B [a] [u0] ∧ Rd w B [b] [u1] := by
 obtain ⟨x, y, rfl, h0, h1⟩ := Rd.split (ds := [a]) (ds' := [b]) h
 have l0 := h0.len
 have l1 := h1.len
 match x, y, l0, l1 with
 | [u0], [u1], _, _ => exact ⟨u0, u1, rfl, h0, h1⟩
theorem Rd.pair {a b : Dat} (h0 : Rd w B [a] [v0]) (h1 : Rd w B [b] [v1]) : Rd w B [a, b] [v0, v1] := h0.append h1
end
theorem fill_step {α : Type} {x0 : α} {l : List α} {n j : Nat} (hl : l.length = n) (hj : j < l.length) : (l.take j ++ List.replicate (n - j) x0).set j l[j] = l.take (j + 1) ++ List.replicate (n - (j + 1)) x0 := by
 obtain ⟨q, hq⟩ : ∃ q, n - j = q + 1 := ⟨n - j - 1, by omega⟩
 rw [hq, show n - (j + 1) = q by omega, List.set_append_right _ _ (by simp; omega), List.length_take, Nat.min_eq_left (Nat.le_of_lt hj), Nat.sub_self, List.replicate_succ, List.take_succ_eq_append_getElem hj]
 simp only [List.set_cons_zero, List.append_assoc, List.cons_append, List.nil_append]
theorem infoRow : (Tryz.prog.info? 60).map (fun i => (i.zero, i.size, i.bytes)) = some (some (.slice none 0 0), 1, 24) := by kernel_rfl
theorem ow_nil_row (w : World) : Ow w [rowD []] [.slice none 0 0] [] := Ow.row (n := 0) (us := []) (fp1 := []) (fp2 := []) (World.ownsRow_nil w 0 _ _) .nil .nil
/-! ### Numbers that follow each other -/
theorem upFrom_add (k : Int) (a b : Nat) : upFrom k (a + b) = upFrom k a ++ upFrom (k + (a : Int)) b := by
 apply List.ext_getElem?
 intro j
 by_cases h1 : j < a
 · rw [List.getElem?_append_left (by rw [upFrom_length]; exact h1)]
   simp [upFrom, h1, show j < a + b by omega]
 · rw [List.getElem?_append_right (by rw [upFrom_length]; omega), upFrom_length]
   by_cases h2 : j < a + b
   · simp [upFrom, h2, show j - a < b by omega]
     omega
   · simp [upFrom, h2, show ¬ j - a < b by omega]
section
variable {α : Type} (g : α → List Int)
def nums (l : List α) (j : Nat) : Nat := pre (fun x => (g x).length) l j
variable {g} {l : List α} {j : Nat}
theorem nums_flat : ((l.take j).flatMap g).length = nums g l j := by
 rw [List.length_flatMap]
 rfl
theorem flat_at {k : Int} (h : l.flatMap g = upFrom k (l.flatMap g).length) (hj : j < l.length) : g l[j] = upFrom (k + (nums g l j : Int)) (g l[j]).length := by
 have e : l.flatMap g = (l.take j).flatMap g ++ (g l[j] ++ (l.drop (j + 1)).flatMap g) := by
  have e1 : l = l.take j ++ (l[j] :: l.drop (j + 1)) := by rw [← List.drop_eq_getElem_cons hj, List.take_append_drop]
  have e2 : l.flatMap g = (l.take j ++ (l[j] :: l.drop (j + 1))).flatMap g := congrArg (List.flatMap g) e1
  rw [e2, List.flatMap_append, List.flatMap_cons]
 rw [e] at h
 rw [List.length_append, List.length_append, upFrom_add, upFrom_add, nums_flat] at h
 have h1 := List.append_inj_right h (by rw [upFrom_length, nums_flat])
 exact List.append_inj_left h1 (by rw [upFrom_length])
theorem flat_step {k : Int} {x : α} (hj : j < l.length) (h : (l.take j).flatMap g = upFrom k (nums g l j)) (hx : g x = upFrom (k + (nums g l j : Int)) (g x).length) :
    ((l.set j x).take (j + 1)).flatMap g = upFrom k (nums g l j + (g x).length) := by
 have e : (l.set j x).take (j + 1) = l.take j ++ [x] := by
  have hlt : (l.take j).length = j := by simp; omega
  rw [List.set_eq_take_append_cons_drop, if_pos hj, List.take_append, hlt, show j + 1 - j = 1 by omega, List.take_of_length_le (by omega)]
  rfl
 rw [e, List.flatMap_append, h, upFrom_add, ← hx]
 simp
end
theorem nums_map {α : Type} {g : α → List Int} {l l' : List α} (h : l'.map (fun x => (g x).length) = l.map (fun x => (g x).length)) (j : Nat) : nums g l' j = nums g l j := by
 unfold nums pre
 rw [List.map_take, List.map_take, h]
theorem set_map {α β : Type} {f : α → β} {l : List α} {j : Nat} {x : α} (hj : j < l.length) (h : f x = f l[j]) : (l.set j x).map f = l.map f := by
 rw [List.map_set, h]
 have : (l.map f)[j]'(by simpa using hj) = f l[j] := by simp
 rw [← this, List.set_getElem_self]
theorem Own.touch {w w' : World} {S : List Nat} {base : Nat} {A : Option Addr} {n c : Nat} {xs : List Int} (o : Own w base A n c xs) (h : Touch S w w') (hd : ∀ p ∈ (Value.slice A n c).ownBlock.toList, p ∉ S) : Own w' base A n c xs :=
 ownsRow_at o (fun g hg => h.block g (o.ge g hg).2 (hd g (by simp [hg]))) (fun g hg => (o.ge g hg).1)
theorem len_of_map {α : Type} {g : α → Nat} {l l' : List α} (h : l'.map g = l.map g) : l'.length = l.length := by simpa using congrArg List.length h
section
variable {w w' : World} {B base : Nat} {is : List Item} {ds ds' : List Dat} {vs vs' : List Value} {fp : List Nat}
theorem Rd.cut (h : Rd w B (ds ++ ds') (vs ++ vs')) (hl : ds.length = vs.length) : Rd w B ds vs ∧ Rd w B ds' vs' := by
 obtain ⟨x, y, e, h1, h2⟩ := h.split
 obtain ⟨rfl, rfl⟩ := List.append_inj e (by rw [← hl, h1.len])
 exact ⟨h1, h2⟩
theorem Ow.cut (h : Ow w (ds ++ ds') (vs ++ vs') fp) (hl : ds.length = vs.length) : ∃ f1 f2, fp = f1 ++ f2 ∧ Ow w ds vs f1 ∧ Ow w ds' vs' f2 := by
 obtain ⟨x, y, f1, f2, e, rfl, h1, h2⟩ := h.split
 obtain ⟨rfl, rfl⟩ := List.append_inj e (by rw [← hl, h1.len])
 exact ⟨f1, f2, rfl, h1, h2⟩
theorem Sep.boxAt (h : Sep w base is) (hle : base ≤ w.heap.size) (p : Nat) (hp : w.heap.size = p) (cs : Array Value) (t : TypeId) : Sep (w.alloc (.cells cs t)) base (.blk p cs t :: is) := by
 subst hp
 exact h.box hle cs t
theorem Sep.cut (h : Sep w base (.own (ds ++ ds') (vs ++ vs') fp :: is)) (hl : ds.length = vs.length) : ∃ f1 f2, Sep w base (.own ds' vs' f2 :: .own ds vs f1 :: is) := by
 obtain ⟨x, y, f1, f2, e, h1⟩ := h.split
 have l1 := (h1.own_ 1 rfl).len
 obtain ⟨rfl, rfl⟩ := List.append_inj e (by rw [← hl, l1])
 exact ⟨f1, f2, h1⟩
end
theorem Sep.base_le {w : World} {base : Nat} {is : List Item} (h : Sep w base is) (n : Nat) {p : Nat} {cs : Array Value} {t : TypeId} (hn : is[n]? = some (.blk p cs t)) : base ≤ p := h.ge p (foot_mem hn (by simp [Item.foot]))
theorem foots_sub {is' is : List Item} (h : is'.Sublist is) : (foots is').Sublist (foots is) := by
 induction h with
 | slnil => exact List.Sublist.refl _
 | cons a _ ih => exact List.Sublist.trans ih (List.sublist_append_right _ _)
 | cons_cons a _ ih => exact List.Sublist.append (List.Sublist.refl a.foot) ih
theorem Sep.sub {w : World} {base : Nat} {is is' : List Item} (h : Sep w base is) (hs : is'.Sublist is) : Sep w base is' := by
 refine ⟨fun n i hi => ?_, List.Nodup.sublist (foots_sub hs) h.nodup, fun p hp => h.ge p ((foots_sub hs).subset hp)⟩
 obtain ⟨k, hk⟩ := List.getElem?_of_mem (hs.subset (List.mem_of_getElem? hi))
 exact h.holds k i hk
theorem Sep.grown {w w' : World} {base p : Nat} {is : List Item} (h : Sep w base is) (g : w.grownBy w' (some p)) (hp : p < base) : Sep w' base is :=
 ⟨fun n i hi => Item.same (h.holds n i hi) (fun q hq => g.block q (Item.lt (h.holds n i hi) q hq) (fun e => by injection e with e; have := h.ge q (foot_mem hi hq); omega)), h.nodup, h.ge⟩
theorem Sep.more {w : World} {base : Nat} {is : List Item} {ds : List Dat} {vs : List Value} {lo : Nat} (h : Sep w base is) (ho : Has w lo ds vs) (hd : ∀ p ∈ foots is, p < lo) (hle : base ≤ lo) : ∃ fp, Sep w base (.own ds vs fp :: is) := by
 obtain ⟨fp, ho, hn, hge⟩ := ho
 refine ⟨fp, fun n i hi => ?_, ?_, fun p hp => ?_⟩
 · cases n with
   | zero => simp at hi; subst hi; exact ho
   | succ n => exact h.holds n i (by simpa using hi)
 · show (fp ++ foots is).Nodup
   refine List.nodup_append.2 ⟨hn, h.nodup, fun p hp q hq e => ?_⟩
   have := hge p hp
   have := hd q hq
   omega
 · rcases List.mem_append.1 (show p ∈ fp ++ foots is from hp) with hp | hp
   · exact Nat.le_trans hle (hge p hp)
   · exact h.ge p hp
section
variable {W : World} {is : List Item} {ds ds' : List Dat} {vs vs' : List Value}
theorem Sep.join {base : Nat} {f1 f2 : List Nat} (h : Sep W base (.own ds' vs' f2 :: .own ds vs f1 :: is)) : Sep W base (.own (ds ++ ds') (vs ++ vs') (f1 ++ f2) :: is) := by
 have hnd := h.nodup
 have e1 : foots (.own ds' vs' f2 :: .own ds vs f1 :: is) = f2 ++ (f1 ++ foots is) := rfl
 have e2 : foots (.own (ds ++ ds') (vs ++ vs') (f1 ++ f2) :: is) = (f1 ++ f2) ++ foots is := rfl
 have hp : (foots (.own ds' vs' f2 :: .own ds vs f1 :: is)).Perm (foots (.own (ds ++ ds') (vs ++ vs') (f1 ++ f2) :: is)) := by
  rw [e1, e2, ← List.append_assoc]
  exact List.Perm.append_right _ List.perm_append_comm
 refine ⟨fun n i hi => ?_, hp.nodup_iff.1 hnd, fun q hq => h.ge q (hp.mem_iff.2 hq)⟩
 cases n with
 | zero => simp at hi; subst hi; exact (h.own_ 1 rfl).append (h.own_ 0 rfl)
 | succ n => exact h.holds (n + 2) i (by simpa using hi)
end
theorem Sep.pick {w : World} {base : Nat} {is : List Item} (h : Sep w base is) (n : Nat) {i : Item} (hn : is[n]? = some i) : Sep w base (i :: is.eraseIdx n) := by
 have hlt : n < is.length := by
  rcases Nat.lt_or_ge n is.length with h | h
  · exact h
  · rw [List.getElem?_eq_none h] at hn; cases hn
 have e2 : is[n] = i := by rw [List.getElem?_eq_getElem hlt] at hn; injection hn
 refine h.of_perm ?_
 rw [List.eraseIdx_eq_take_drop_succ, ← e2]
 have e1 : is = is.take n ++ (is[n] :: is.drop (n + 1)) := by rw [← List.drop_eq_getElem_cons hlt, List.take_append_drop]
 exact (List.Perm.of_eq e1).trans List.perm_middle
theorem Blk.grown {w w' : World} {p q : Nat} {cs : Array Value} {t : TypeId} (h : Blk w p cs t) (g : w.grownBy w' (some q)) (hne : p ≠ q) : Blk w' p cs t := (g.block p h.lt (fun e => by injection e with e; omega)).trans h
end Go.Proofs.YthjjdelpdiipdaaGreatDoor
namespace Go.Proofs.YthjjdelpdiipdaaGreatDoor
set_option maxRecDepth 100000
open Go.RowKit
theorem szRow_any (A : Option Addr) (m c : Nat) (L : Int) (w : World) (l0 : 0 ≤ L) (l1 : L ≤ 1048576) (hm : m ≤ maxLen) :
    Calls Tryz.prog 144 #[.slice A m c, .int .i64 L] w fun e w' => e = .returned (.int .i64 (left L m)) ∧ w = w' := by
 unfold maxLen at hm
 by_cases h : (m : Int) ≤ L
 · rw [left, if_pos h]
   go_enter Tryz.func144, Tryz.ntmps144
   go_wp2
   go_ret
   exact ⟨rfl, rfl⟩
 · rw [left, if_neg h]
   go_enter Tryz.func144, Tryz.ntmps144
   go_wp2
   go_ret
   exact ⟨rfl, rfl⟩
end Go.Proofs.YthjjdelpdiipdaaGreatDoor
namespace Go.Proofs.YthjjdelpdiipdaaGreatDoor
set_option maxRecDepth 100000
open Go.RowKit
def BRow (w : World) (B : Nat) (A : Option Addr) (n : Nat) : Prop :=
 0 < n → ∃ b off, A = some ⟨b, off, none⟩ ∧ b < B ∧ ∀ j, j < n → ∃ x : Int, w.cell? ⟨b, off + j, none⟩ = some (.int .u8 x) ∧ 0 ≤ x ∧ x ≤ 255
theorem BRow.below {w w' : World} {B : Nat} {A : Option Addr} {n : Nat} (h : BRow w B A n) (hb : Below B w w') : BRow w' B A n := by
 intro hn
 obtain ⟨b, off, rfl, hlt, hc⟩ := h hn
 refine ⟨b, off, rfl, hlt, fun j hj => ?_⟩
 obtain ⟨x, hx, r⟩ := hc j hj
 exact ⟨x, (hb.cell (p := ⟨b, off + j, none⟩) hlt).trans hx, r⟩
end Go.Proofs.YthjjdelpdiipdaaGreatDoor
namespace Go.Proofs.YthjjdelpdiipdaaGreatDoor
set_option maxRecDepth 100000
open Go.RowKit
section
variable {α : Type} {w w' : World} {e : TypeId} {k : Nat} {f : α → List Dat} {l : List α} {fp : List Nat}
theorem Ow.storeFront {g n c : Nat} (hk : ∀ x, (f x).length = k) (k0 : 0 < k) (h : Ow w [Go.Proofs.YthjjdelpdiipdaaGreatDoor.lst e k f l] [.slice (some ⟨g, 0, none⟩) n c] fp) (hn : fp.Nodup) {j : Nat} (hj : j < l.length) {x : α} {xs xs' : List Int} {rest : List Dat}
    (hf : f l[j] = (xs.flatMap fun y => [Dat.int y]) ++ rest) (hf' : f x = (xs'.flatMap fun y => [Dat.int y]) ++ rest) (hl : xs.length = xs'.length) :
    Touch [g] w (puts w g (j * k) (ivals xs')) ∧ Ow (puts w g (j * k) (ivals xs')) [Go.Proofs.YthjjdelpdiipdaaGreatDoor.lst e k f (l.set j x)] [.slice (some ⟨g, 0, none⟩) n c] fp := by
 obtain ⟨us, fp1, h1, h2, rfl⟩ := h.lst hk k0
 obtain ⟨u1, es, u2, f1, f2, f3, rfl, l1, l2, rfl, r1, r2, r3⟩ := h2.at_ hk hj
 have hnl : n = l.length := by
  rcases h1.2 with ⟨h0, _⟩ | ⟨_, _, _, h0, _⟩
  · cases h0
  · injection h0
 rw [hnl] at h1 ⊢
 rw [hf] at r2
 obtain ⟨e1, e2, g1, g2, rfl, rfl, s1, s2⟩ := r2.split
 obtain ⟨rfl, rfl⟩ := ow_ints s1
 have h1' : w.ownsRow 0 e k (.slice (some ⟨g, 0, none⟩) l.length c) l.length (u1 ++ (ivals xs ++ (e2 ++ u2))) := by
  have : u1 ++ (ivals xs ++ e2 ++ u2) = u1 ++ (ivals xs ++ (e2 ++ u2)) := by rw [List.append_assoc]
  rw [← this]
  exact h1
 have hp := puts_own (ivals xs') (ivals xs) u1 w h1' (by rw [ivals_length, ivals_length, hl])
 rw [l1] at hp
 have hg : ∀ p ∈ f1 ++ (([] ++ g2) ++ f3), p ≠ g := by
  rw [List.nodup_append] at hn
  intro p hp e
  exact hn.2.2 g (by simp [Value.ownBlock]) p hp e.symm
 refine ⟨hp.2, ?_⟩
 have hx : Ow (puts w g (j * k) (ivals xs')) (f x) (ivals xs' ++ e2) ([] ++ g2) := by
  rw [hf']
  exact (ow_ints_mk xs').append (s2.touch hp.2 fun p hp hm => hg p (by simp [hp]) (by simpa using hm))
 have h3 : (puts w g (j * k) (ivals xs')).ownsRow 0 e k (.slice (some ⟨g, 0, none⟩) l.length c) l.length (u1 ++ ((ivals xs' ++ e2) ++ u2)) := by
  have : u1 ++ ((ivals xs' ++ e2) ++ u2) = u1 ++ (ivals xs' ++ (e2 ++ u2)) := by rw [List.append_assoc]
  rw [this]
  exact hp.1
 exact Ow.of_lst h3 (Ow.put hj (r1.touch hp.2 fun p hp hm => hg p (by simp [hp]) (by simpa using hm)) hx (r3.touch hp.2 fun p hp hm => hg p (by simp [hp]) (by simpa using hm)))
end
theorem Sep.addOw {w : World} {is : List Item} {ds : List Dat} {vs : List Value} {f : List Nat} (h : Sep w 0 is) (o : Ow w ds vs f) (hn : (f ++ foots is).Nodup) : Sep w 0 (.own ds vs f :: is) := by
 refine ⟨fun n i hi => ?_, hn, fun p _ => Nat.zero_le p⟩
 cases n with
 | zero => simp at hi; subst hi; exact o
 | succ n => exact h.holds n i (by simpa using hi)
/-! ### The first cell -/
theorem Rd.int_cons {w : World} {B : Nat} {x : Int} {ds : List Dat} {v : Value} {vs : List Value} (h : Rd w B (.int x :: ds) (v :: vs)) : v = .int .i64 x ∧ Rd w B ds vs := by
 cases h with
 | int h => exact ⟨rfl, h⟩
theorem Rd.bool_cons {w : World} {B : Nat} {x : Bool} {ds : List Dat} {v : Value} {vs : List Value} (h : Rd w B (.bool x :: ds) (v :: vs)) : v = .bool x ∧ Rd w B ds vs := by
 cases h with
 | bool h => exact ⟨rfl, h⟩
theorem Ow.int_cons {w : World} {x : Int} {ds : List Dat} {v : Value} {vs : List Value} {fp : List Nat} (h : Ow w (.int x :: ds) (v :: vs) fp) : v = .int .i64 x ∧ Ow w ds vs fp := by
 cases h with
 | int h => exact ⟨rfl, h⟩
theorem Ow.bool_cons {w : World} {x : Bool} {ds : List Dat} {v : Value} {vs : List Value} {fp : List Nat} (h : Ow w (.bool x :: ds) (v :: vs) fp) : v = .bool x ∧ Ow w ds vs fp := by
 cases h with
 | bool h => exact ⟨rfl, h⟩
theorem Ow.nil_foot {w : World} {fp : List Nat} (h : Ow w [] [] fp) : fp = [] := by
 cases h
 rfl
theorem upFrom_zero (k : Int) : upFrom k 0 = [] := rfl
theorem upFrom_cons (k : Int) (n : Nat) : upFrom k (n + 1) = k :: upFrom (k + 1) n := by
 rw [Nat.add_comm n 1, upFrom_add]
 simp [upFrom]
end Go.Proofs.YthjjdelpdiipdaaGreatDoor
namespace Go.Proofs.YthjjdelpdiipdaaGreatDoor
set_option maxRecDepth 100000
open Go.RowKit
end Go.Proofs.YthjjdelpdiipdaaGreatDoor
