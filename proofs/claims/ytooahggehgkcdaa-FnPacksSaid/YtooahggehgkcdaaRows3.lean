/-
  The laws' helpers over slices of slices of int64: a copy, a comparison, a marking, a look at the marks.
-/
import Derived.Test.YtooahggehgkcdaaRows2
namespace Go.Proofs.Ytooahggehgkcdaa
open Go.RowKit

theorem infoRow : (Try.prog.info? 24).map (fun i => (i.zero, i.size, i.bytes)) = some (some (.slice none 0 0), 1, 24) := by kernel_rfl

/-- The first k rows have been copied. -/
def CopTo (w wr : World) (n : Nat) (xss : List (List Int)) (k : Nat) : Prop :=
  ∃ vs : List Value, vs.length = k ∧ wr.ownsRow w.heap.size 24 1 (.slice (some ⟨w.heap.size, 0, none⟩) n n) n (vs ++ List.replicate (n - k) (.slice none 0 0)) ∧
    (∀ j, j < k → ∃ A' m c', vs[j]? = some (.slice A' m c') ∧ Own wr (w.heap.size + 1) A' m c' (xss.getD j [])) ∧
    (∀ i j, i < j → j < k → ∀ p, (vs.getD i (.slice none 0 0)).ownBlock = some p → (vs.getD j (.slice none 0 0)).ownBlock ≠ some p)

theorem CopTo.start (w : World) (n : Nat) (xss : List (List Int)) (hn : n ≤ maxLen) : CopTo w (w.alloc (.cells (madeCells #[.slice none 0 0] n) 24)) n xss 0 := by
  have := World.ownsRow_lit (base := w.heap.size) (e := 24) (size := 1) w (madeCells #[.slice none 0 0] n) n (Nat.le_refl _) hn (by rw [size_madeCells]; omega)
  rw [toList_madeCells_one] at this
  exact ⟨[], rfl, by simpa using this, fun j hj => absurd hj (by omega), fun i j _ hj => absurd hj (by omega)⟩

theorem CopTo.step {w wr w1 : World} {n k : Nat} {xss : List (List Int)} {m : Nat} (h : CopTo w wr n xss k) (hk : k < n)
    (o : Own w1 wr.heap.size (some ⟨wr.heap.size, 0, none⟩) m m (xss.getD k [])) (b1 : Below wr.heap.size wr w1) (hz : w.heap.size < wr.heap.size) :
    CopTo w (w1.setCell ⟨w.heap.size, k, none⟩ (.slice (some ⟨wr.heap.size, 0, none⟩) m m)) n xss (k + 1) := by
  obtain ⟨vs, hl, ho, hin, hd⟩ := h
  have ho1 := ownsRow_below ho b1
  have R := World.ownsRow.stored ho1 k (.slice (some ⟨wr.heap.size, 0, none⟩) m m)
  have g := R.2
  refine ⟨vs ++ [.slice (some ⟨wr.heap.size, 0, none⟩) m m], by simp [hl], ?_, fun j hj => ?_, fun i j hij hj p hp => ?_⟩
  · have h1 := R.1
    have e : (vs ++ List.replicate (n - k) (Value.slice none 0 0)).set k (.slice (some ⟨wr.heap.size, 0, none⟩) m m) = vs ++ [.slice (some ⟨wr.heap.size, 0, none⟩) m m] ++ List.replicate (n - (k + 1)) (.slice none 0 0) := by
      rw [List.set_append_right _ _ (by omega), hl, Nat.sub_self, show n - k = (n - (k + 1)) + 1 from by omega, List.replicate_succ, List.set_cons_zero, List.append_assoc]
      rfl
    rw [e] at h1
    exact h1
  · by_cases hjk : j < k
    · obtain ⟨A', m', c', h1, h2⟩ := hin j hjk
      refine ⟨A', m', c', ?_, (h2.below b1).kept g (fun q hq => by injection hq with hq; omega)⟩
      rw [List.getElem?_append_left (by omega)]
      exact h1
    · have e : j = k := by omega
      subst e
      refine ⟨_, m, m, ?_, (o.up (by omega)).kept g (fun q hq => by injection hq with hq; omega)⟩
      rw [List.getElem?_append_right (by omega), hl, Nat.sub_self]
      rfl
  · by_cases hjk : j < k
    · have e1 : (vs ++ [Value.slice (some ⟨wr.heap.size, 0, none⟩) m m]).getD i (.slice none 0 0) = vs.getD i (.slice none 0 0) := by
        simp [List.getD, List.getElem?_append_left (show i < vs.length by omega)]
      have e2 : (vs ++ [Value.slice (some ⟨wr.heap.size, 0, none⟩) m m]).getD j (.slice none 0 0) = vs.getD j (.slice none 0 0) := by
        simp [List.getD, List.getElem?_append_left (show j < vs.length by omega)]
      rw [e1] at hp
      rw [e2]
      exact hd i j hij hjk p hp
    · have e : j = k := by omega
      subst e
      have e1 : (vs ++ [Value.slice (some ⟨wr.heap.size, 0, none⟩) m m]).getD i (.slice none 0 0) = vs.getD i (.slice none 0 0) := by
        simp [List.getD, List.getElem?_append_left (show i < vs.length by omega)]
      have e2 : (vs ++ [Value.slice (some ⟨wr.heap.size, 0, none⟩) m m]).getD j (.slice none 0 0) = .slice (some ⟨wr.heap.size, 0, none⟩) m m := by
        simp [List.getD, hl]
      rw [e1] at hp
      rw [e2]
      obtain ⟨A', m', c', h1, h2⟩ := hin i hij
      have e3 : vs.getD i (.slice none 0 0) = .slice A' m' c' := by simp [List.getD, h1]
      rw [e3] at hp
      have := (h2.ge p hp).2
      intro hq
      simp [Value.ownBlock] at hq
      omega

set_option maxHeartbeats 800000 in
theorem tos_any (A : Option Addr) (n c : Nat) (xss : List (List Int)) (w : World) (h : SRow w w.heap.size A n xss) (ht : tot xss ≤ 1048576) :
    Calls Try.prog 38 #[.slice A n c] w fun e w' => e = .returned (.slice (some ⟨w.heap.size, 0, none⟩) n n) ∧ SOwn w' w.heap.size w'.heap.size (some ⟨w.heap.size, 0, none⟩) n n xss ∧ Below w.heap.size w w' := by
  have hl := Lib.hid h.1
  have hn : n ≤ 1048576 := by have := hl.out; unfold tot at ht; omega
  have HT := Lib.hid ht
  clear ht
  have hmk := run_make_row' (P := Try.prog) 35 24 (.slice none 0 0) 24 Try.underlying35 infoRow rfl .i64 .i64 n (by omega) (by omega)
  go_enter Try.func38, Try.ntmps38
  go_wp2
  go_loopw [4] (fun i wr => ∃ k : Nat, k ≤ n ∧ i = .int .i64 (k : Int) ∧ CopTo w wr n xss k ∧ Below w.heap.size w wr ∧ w.heap.size < wr.heap.size) (fun i _ => n - (intOf i).toNat)
  case atStart => exact ⟨0, Nat.zero_le _, rfl, CopTo.start w n xss (by simp only [maxLen]; omega), (Below.refl _ _).alloc (Nat.le_refl _) _, by simp⟩
  case round =>
    obtain ⟨k, hk, rfl, hcop, hbel, hz⟩ := hrel
    clear hmk
    by_cases hlt : k < n
    · have hw := h.below hbel
      obtain ⟨b, off, rfl, hb, hc⟩ := hw.2 (by omega)
      obtain ⟨A', m, c', hcell, hrow, hmc, hcm⟩ := hc k hlt
      have hs := lensTo_succ (xss := xss) (k := k) (by have := hl.out; omega)
      have hmono := lensTo_mono (xss := xss) (j := k + 1) (k := xss.length) (by have := hl.out; omega) (Nat.le_refl _)
      have hm : m ≤ 1048576 := by
        have h1 := HT.out
        have h2 := hrow.1
        unfold tot at h1
        omega
      obtain ⟨vs, hvl, hvo, _, _⟩ := id hcop
      have hold0 : wr.cell? ⟨w.heap.size, k, none⟩ = some (.slice none 0 0) := by
        rw [World.ownsRow.cellAt hvo k (by omega), List.getElem?_append_right (by omega), hvl, Nat.sub_self, List.getElem?_replicate, if_pos (by omega)]
      clear hc hs hmono hw
      go_wp2_with fail
      refine (to_any A' m c' _ _ (hrow.up (Nat.le_of_lt hz)) hm).mono ?_
      rintro e w1 ⟨rfl, o1, b1⟩
      have hold : w1.cell? ⟨w.heap.size, k, none⟩ = some (.slice none 0 0) := (b1.cell (p := ⟨w.heap.size, k, none⟩) hz).trans hold0
      have hfr : w1.frozen? ⟨w.heap.size, k, none⟩ = false := World.ownsRow.frozenAt (ownsRow_below hvo b1) k
      have R1 := Lib.hid (hcop.step hlt o1 b1 hz)
      have R2 := Lib.hid ((hbel.trans (b1.mono (Nat.le_of_lt hz))).setCell (p := ⟨w.heap.size, k, none⟩) (Nat.le_refl _) (.slice (some ⟨wr.heap.size, 0, none⟩) m m))
      have z1 := b1.size
      clear hcop hbel hvo hold0 o1 b1 hrow h
      go_wp2
      go_roundw
      case rel => exact ⟨k + 1, by omega, by go_num, R1.out, R2.out, by simp; omega⟩
      case measure => simp [intOf]; omega
    · go_wp2
      go_ret
      have hkn : k = n := by omega
      subst hkn
      refine ⟨rfl, ?_, hbel⟩
      obtain ⟨vs, hvl, hvo, hin, hd⟩ := hcop
      rw [Nat.sub_self, List.replicate_zero, List.append_nil] at hvo
      refine ⟨vs, hvo, hl.out, fun j hj => by obtain ⟨A', m, c', h1, h2⟩ := hin j hj; exact ⟨A', m, c', h1, h2.up (by omega)⟩, hd, fun j hj p hp => ?_⟩
      obtain ⟨A', m, c', h1, h2⟩ := hin j hj
      rw [show vs.getD j (.slice none 0 0) = .slice A' m c' by simp [List.getD, h1]] at hp
      exact (h2.ge p hp).2

set_option maxHeartbeats 800000 in
theorem eqs_yes (A A' : Option Addr) (n c c' B B' : Nat) (xss : List (List Int)) (w : World) (h : SRow w B A n xss) (h' : SRow w B' A' n xss) (ht : tot xss ≤ 1048577) :
    Calls Try.prog 39 #[.slice A n c, .slice A' n c'] w fun e w' => e = .returned (.bool true) ∧ Drew w w' := by
  have hl := Lib.hid h.1
  have hn : n ≤ 1048577 := by have := hl.out; unfold tot at ht; omega
  have HT := Lib.hid ht
  clear ht
  go_enter Try.func39, Try.ntmps39
  go_wp2
  go_loopw [5] (fun i wr => ∃ k : Nat, k ≤ n ∧ i = .int .i64 (k : Int) ∧ Drew w wr) (fun i _ => n - (intOf i).toNat)
  case atStart => exact ⟨0, Nat.zero_le _, rfl, Drew.refl _⟩
  case round =>
    obtain ⟨k, hk, rfl, hd⟩ := hrel
    by_cases hlt : k < n
    · have hw := h.below (hd.below _)
      have hw' := h'.below (hd.below _)
      obtain ⟨b, off, rfl, hb, hc⟩ := hw.2 (by omega)
      obtain ⟨b', off', rfl, hb', hc'⟩ := hw'.2 (by omega)
      obtain ⟨A1, m1, c1, hcell, hrow, _⟩ := hc k hlt
      obtain ⟨A2, m2, c2, hcell', hrow', _⟩ := hc' k hlt
      obtain rfl : m1 = m2 := by rw [← hrow.1, ← hrow'.1]
      have hs := lensTo_succ (xss := xss) (k := k) (by have := hl.out; omega)
      have hmono := lensTo_mono (xss := xss) (j := k + 1) (k := xss.length) (by have := hl.out; omega) (Nat.le_refl _)
      have hm : m1 ≤ 1048577 := by
        have h1 := HT.out
        have h2 := hrow.1
        unfold tot at h1
        omega
      have hq := Lib.hid (fun q => eq_yes A1 A2 m1 c1 c2 _ _ _ (wr.drewN q) (hrow.drewN q) (hrow'.drewN q) hm)
      have i0 : (0 : Int) ≤ (k : Int) := by omega
      have i1 : (k : Int) < (n : Int) := by omega
      clear hc hc' h h' hs hmono hw hw' hrow hrow'
      go_wp2
      go_quiet ((go_at_call 27; exact Calls.quiet_of (hq.out _)))
      go_wp2
      go_roundw
      case rel => exact ⟨k + 1, by omega, by go_num, hd.more _⟩
      case measure => simp [intOf]; omega
    · go_wp2
      go_ret
      exact ⟨rfl, hd⟩

end Go.Proofs.Ytooahggehgkcdaa
