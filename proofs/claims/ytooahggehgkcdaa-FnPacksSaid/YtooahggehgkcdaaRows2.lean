/-
  Slices of slices of int64: what reads as a list of lists, what a call owns, and the laws' helpers that count, copy, compare, mark and look.
-/
import Derived.Test.YtooahggehgkcdaaTo
import Derived.Test.YtooahggehgkcdaaCopy
import Derived.Deep.Matrix
namespace Go.Proofs.Ytooahggehgkcdaa
open Go.RowKit

/-- The slice value '.slice A n c' reads as the rows xss, below block B. -/
def SRow (w : World) (B : Nat) (A : Option Addr) (n : Nat) (xss : List (List Int)) : Prop :=
  xss.length = n ∧ (0 < n → ∃ b off, A = some ⟨b, off, none⟩ ∧ b < B ∧ ∀ j, j < n → ∃ A' m c', w.cell? ⟨b, off + j, none⟩ = some (.slice A' m c') ∧ IRow w B A' m (xss.getD j []) ∧ m ≤ c' ∧ c' ≤ maxLen)

section
variable {w w' : World} {B B' base top : Nat} {A : Option Addr} {n c : Nat} {xss : List (List Int)}

theorem SRow.below (h : SRow w B A n xss) (hb : Below B w w') : SRow w' B A n xss := by
  refine ⟨h.1, fun hn => ?_⟩
  obtain ⟨b, off, rfl, hlt, hc⟩ := h.2 hn
  refine ⟨b, off, rfl, hlt, fun j hj => ?_⟩
  obtain ⟨A', m, c', h1, h2, h3⟩ := hc j hj
  exact ⟨A', m, c', (hb.cell (p := ⟨b, off + j, none⟩) hlt).trans h1, h2.below hb, h3⟩

theorem SRow.up (h : SRow w B A n xss) (hB : B ≤ B') : SRow w B' A n xss := by
  refine ⟨h.1, fun hn => ?_⟩
  obtain ⟨b, off, rfl, hlt, hc⟩ := h.2 hn
  refine ⟨b, off, rfl, by omega, fun j hj => ?_⟩
  obtain ⟨A', m, c', h1, h2, h3⟩ := hc j hj
  exact ⟨A', m, c', h1, h2.up hB, h3⟩

theorem SRow.drewN (h : SRow w B A n xss) (m : Nat) : SRow (w.drewN m) B A n xss := h

/-- What a call owns from 'base' on: a slice of rows, each in a row of its own. -/
def SOwn (w : World) (base top : Nat) (A : Option Addr) (n c : Nat) (xss : List (List Int)) : Prop :=
  ∃ vs : List Value, w.ownsRow base 24 1 (.slice A n c) n vs ∧ xss.length = n ∧
    (∀ j, j < n → ∃ A' m c', vs[j]? = some (.slice A' m c') ∧ Own w base A' m c' (xss.getD j [])) ∧
    (∀ i j, i < j → j < n → ∀ p, (vs.getD i (.slice none 0 0)).ownBlock = some p → (vs.getD j (.slice none 0 0)).ownBlock ≠ some p) ∧
    (∀ j, j < n → ∀ p, (vs.getD j (.slice none 0 0)).ownBlock = some p → p < top)

theorem own_cap {xs : List Int} (o : Own w base A n c xs) : n ≤ c ∧ c ≤ maxLen := by
  rcases o.2 with ⟨hv, _⟩ | ⟨g, cap, cur, hv, _, _, hnc, hm, _⟩
  · injection hv; subst_vars; exact ⟨Nat.le_refl _, Nat.zero_le _⟩
  · injection hv; subst_vars; exact ⟨hnc, hm⟩

theorem SOwn.srow (h : SOwn w base top A n c xss) : SRow w w.heap.size A n xss := by
  obtain ⟨vs, ho, hl, hin, _⟩ := h
  refine ⟨hl, fun hn => ?_⟩
  rcases ho.2 with ⟨_, h0⟩ | ⟨g, cap, cur, hv, hg, hh, r⟩
  · omega
  · injection hv with h1 h2 h3
    subst h1 h3
    refine ⟨g, 0, rfl, ?_, fun j hj => ?_⟩
    · rcases Nat.lt_or_ge g w.heap.size with hlt | hge
      · exact hlt
      · rw [Array.getElem?_eq_none hge] at hh; cases hh
    · obtain ⟨A', m, c', h1, h2⟩ := hin j hj
      refine ⟨A', m, c', ?_, h2.irow, own_cap h2⟩
      rw [Nat.zero_add, World.ownsRow.cellAt ho j (by omega), h1]

theorem ownsRow_below {e : TypeId} {v : Value} {vs : List Value} (h : w.ownsRow base e 1 v n vs) (hb : Below w.heap.size w w') : w'.ownsRow base e 1 v n vs := by
  refine ⟨h.1, ?_⟩
  rcases h.2 with h0 | ⟨g, cap, cur, hv, hg, hh, r⟩
  · exact .inl h0
  · refine .inr ⟨g, cap, cur, hv, hg, ?_, r⟩
    rw [hb.block g]
    · exact hh
    · rcases Nat.lt_or_ge g w.heap.size with hlt | hge
      · exact hlt
      · rw [Array.getElem?_eq_none hge] at hh; cases hh

theorem SOwn.below (h : SOwn w base top A n c xss) (hb : Below w.heap.size w w') : SOwn w' base top A n c xss := by
  obtain ⟨vs, ho, hl, hin, hd, ht⟩ := h
  refine ⟨vs, ownsRow_below ho hb, hl, fun j hj => ?_, hd, ht⟩
  obtain ⟨A', m, c', h1, h2⟩ := hin j hj
  exact ⟨A', m, c', h1, h2.below hb⟩

theorem SOwn.drew (h : SOwn w base top A n c xss) (hd : Drew w w') : SOwn w' base top A n c xss := h.below (hd.below _)

theorem SOwn.up {base' : Nat} (h : SOwn w base top A n c xss) (hb : base' ≤ base) : SOwn w base' top A n c xss := by
  obtain ⟨vs, ho, hl, hin, hd, ht⟩ := h
  refine ⟨vs, ⟨ho.1, ?_⟩, hl, fun j hj => ?_, hd, ht⟩
  · rcases ho.2 with h0 | ⟨g, cap, cur, hv, hg, r⟩
    · exact .inl h0
    · exact .inr ⟨g, cap, cur, hv, Nat.le_trans hb hg, r⟩
  · obtain ⟨A', m, c', h1, h2⟩ := hin j hj
    exact ⟨A', m, c', h1, h2.up hb⟩

/-- All blocks of an own slice of rows lie from 'base' on: what is written below stays out of it. -/
theorem SOwn.kept {row : Option Nat} (h : SOwn w base top A n c xss) (hg : w.grownBy w' row) (hr : ∀ k, row = some k → k < base) : SOwn w' base top A n c xss := by
  obtain ⟨vs, ho, hl, hin, hd, ht⟩ := h
  refine ⟨vs, World.ownsRow.kept ho hg ?_, hl, fun j hj => ?_, hd, ht⟩
  · cases hv : (Value.slice A n c).ownBlock with
    | none => exact .inl rfl
    | some k =>
      refine .inr fun e => ?_
      have := hr k e.symm
      have := (World.ownsRow.lt ho k hv).1
      omega
  · obtain ⟨A', m, c', h1, h2⟩ := hin j hj
    exact ⟨A', m, c', h1, h2.kept hg hr⟩

end

/-- Of the blocks that are there, only those from 'base' to below 'top' may have been written. -/
structure Within (base top : Nat) (w w' : World) : Prop where
  os : w'.os = w.os
  tape : w'.tape = w.tape
  output : w'.output = w.output
  size : w.heap.size ≤ w'.heap.size
  block : ∀ k, k < w.heap.size → (k < base ∨ top ≤ k) → w'.heap[k]? = w.heap[k]?

theorem Within.refl (base top : Nat) (w : World) : Within base top w w := ⟨rfl, rfl, rfl, Nat.le_refl _, fun _ _ _ => rfl⟩
theorem Within.grown {base top : Nat} {a w w' : World} {row : Option Nat} (h : Within base top a w) (g : w.grownBy w' row) (hr : ∀ k, row = some k → base ≤ k ∧ k < top) : Within base top a w' :=
  ⟨g.os.trans h.os, g.tape.trans h.tape, g.output.trans h.output, Nat.le_trans h.size g.size, fun k hk ho =>
    (g.block k (Nat.lt_of_lt_of_le hk h.size) (fun e => by have := hr k e.symm; omega)).trans (h.block k hk ho)⟩
theorem Within.below {base top B : Nat} {w w' : World} (h : Within base top w w') (hB : B ≤ base) (hw : B ≤ w.heap.size) : Below B w w' :=
  ⟨h.os, h.tape, h.output, h.size, fun k hk => h.block k (by omega) (.inl (by omega))⟩
theorem Own.within {w w' : World} {base top base' : Nat} {A : Option Addr} {n c : Nat} {xs : List Int} (o : Own w base' A n c xs) (h : Within base top w w') (ht : top ≤ base') : Own w' base' A n c xs := by
  refine ⟨o.1, ?_⟩
  rcases o.2 with h0 | ⟨g, cap, cur, hv, hg, hh, r⟩
  · exact .inl h0
  · refine .inr ⟨g, cap, cur, hv, hg, ?_, r⟩
    rw [h.block g]
    · exact hh
    · rcases Nat.lt_or_ge g w.heap.size with hlt | hge
      · exact hlt
      · rw [Array.getElem?_eq_none hge] at hh; cases hh
    · exact .inr (by omega)

/-! ### How many numbers and rows -/

def lensTo (xss : List (List Int)) (k : Nat) : Nat := ((xss.take k).map List.length).sum
def tot (xss : List (List Int)) : Nat := xss.length + lensTo xss xss.length

theorem lensTo_succ {xss : List (List Int)} {k : Nat} (h : k < xss.length) : lensTo xss (k + 1) = lensTo xss k + (xss.getD k []).length := by
  unfold lensTo
  rw [List.take_succ_eq_append_getElem h, List.map_append, List.sum_append]
  simp [List.getD, List.getElem?_eq_getElem h]
theorem lensTo_zero (xss : List (List Int)) : lensTo xss 0 = 0 := by simp [lensTo]
theorem lensTo_mono {xss : List (List Int)} {j k : Nat} (h : j ≤ k) (hk : k ≤ xss.length) : lensTo xss j ≤ lensTo xss k := by
  induction k with
  | zero => have : j = 0 := by omega
            subst this; exact Nat.le_refl _
  | succ k ih =>
    rcases Nat.lt_or_ge j (k + 1) with h1 | h1
    · have := ih (by omega) (by omega)
      rw [lensTo_succ (by omega)]
      omega
    · have : j = k + 1 := by omega
      subst this; exact Nat.le_refl _

def szLeft (L t : Nat) : Int := if t ≤ L then (L : Int) - (t : Int) else -1

theorem sz_any (A : Option Addr) (m c : Nat) (left : Int) (w : World) (l0 : 0 ≤ left) (l1 : left ≤ 1048576) (hm : m ≤ maxLen) :
    Calls Try.prog 57 #[.slice A m c, .int .i64 left] w fun e w' => e = .returned (.int .i64 (if (m : Int) ≤ left then left - (m : Int) else -1)) ∧ w = w' := by
  unfold maxLen at hm
  by_cases h : (m : Int) ≤ left
  · go_enter Try.func57, Try.ntmps57
    go_wp2
    go_ret
    exact ⟨rfl, rfl⟩
  · go_enter Try.func57, Try.ntmps57
    go_wp2
    go_ret
    exact ⟨rfl, rfl⟩

set_option maxHeartbeats 800000 in
theorem szs_any (A : Option Addr) (n c B : Nat) (xss : List (List Int)) (w : World) (h : SRow w B A n xss) (hn : n ≤ maxLen) :
    Calls Try.prog 36 #[.slice A n c, .int .i64 1048576] w fun e w' => e = .returned (.int .i64 (szLeft 1048576 (tot xss))) ∧ w = w' := by
  unfold maxLen at hn
  have hl := Lib.hid h.1
  by_cases hbig : 1048576 < n
  · have HS := Lib.hid (show szLeft 1048576 (tot xss) = -1 by
      unfold szLeft tot
      rw [if_neg]
      have := hl.out
      omega)
    clear h
    go_enter Try.func36, Try.ntmps36
    go_wp2
    go_ret
    exact ⟨ret_i64 HS.out.symm, rfl⟩
  · go_enter Try.func36, Try.ntmps36
    go_wp2
    go_loop [1, 5] (fun l i => ∃ k : Nat, k ≤ n ∧ i = .int .i64 (k : Int) ∧ n + lensTo xss k ≤ 1048576 ∧ l = .int .i64 (1048576 - ((n : Int) + (lensTo xss k : Int)))) (fun _ i => n - (intOf i).toNat)
    case atStart => exact ⟨0, Nat.zero_le _, rfl, by rw [lensTo_zero]; omega, by rw [lensTo_zero]; go_num⟩
    case round =>
      obtain ⟨k, hk, rfl, hle, rfl⟩ := hrel
      by_cases hlt : k < n
      · obtain ⟨b, off, rfl, hb, hc⟩ := h.2 (by omega)
        obtain ⟨A', m, c', hcell, hrow, hmc, hcm⟩ := hc k hlt
        have hs := lensTo_succ (xss := xss) (k := k) (by have := hl.out; omega)
        rw [hrow.1] at hs
        have HS := Lib.hid hs
        have HM := Lib.hid (lensTo_mono (xss := xss) (j := k + 1) (k := n) (by omega) (by have := hl.out; omega))
        generalize lensTo xss k = t at HS hle
        have hml : m ≤ maxLen := Nat.le_trans hmc hcm
        clear hs hc h hrow
        by_cases hfit : (m : Int) ≤ 1048576 - ((n : Int) + (t : Int))
        · go_wp2_with fail
          refine (sz_any A' m c' _ _ (by omega) (by omega) hml).mono ?_
          rintro e w' ⟨rfl, rfl⟩
          rw [if_pos hfit]
          have q0 : ¬ (1048576 - ((n : Int) + (t : Int)) - (m : Int) < 0) := by omega
          go_wp2
          go_round
          case rel => exact ⟨k + 1, by omega, by go_num, by rw [HS.out]; omega, by rw [HS.out]; go_num⟩
          case measure => simp [intOf]; omega
        · have HZ := Lib.hid (show szLeft 1048576 (tot xss) = -1 by
            unfold szLeft tot
            rw [if_neg]
            have h1 := hl.out
            have h2 := HM.out
            have h3 := HS.out
            rw [h1]
            omega)
          go_wp2_with fail
          refine (sz_any A' m c' _ _ (by omega) (by omega) hml).mono ?_
          rintro e w' ⟨rfl, rfl⟩
          rw [if_neg (by omega)]
          go_wp2
          go_ret
          exact ⟨ret_i64 HZ.out.symm, rfl⟩
      · go_wp2
        go_ret
        have hkn : k = n := by omega
        subst hkn
        refine ⟨ret_i64 ?_, rfl⟩
        unfold szLeft tot
        rw [hl.out, if_pos hle]
        omega

end Go.Proofs.Ytooahggehgkcdaa
