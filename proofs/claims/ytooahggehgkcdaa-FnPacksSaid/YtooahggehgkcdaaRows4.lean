/-
  The laws' helpers over slices of slices of int64 that mark every number in its turn and look whether the marks are there.
-/
import Derived.Test.YtooahggehgkcdaaRows3
namespace Go.Proofs.Ytooahggehgkcdaa
open Go.RowKit

/-- The rows after the first j of them have been marked from k on. -/
def marked (k : Int) (xss : List (List Int)) (j : Nat) : List (List Int) :=
  (List.range xss.length).map fun (i : Nat) => if i < j then upFrom (k + (lensTo xss i : Int)) (xss.getD i []).length else xss.getD i []

theorem marked_length (k : Int) (xss : List (List Int)) (j : Nat) : (marked k xss j).length = xss.length := by simp [marked]
theorem marked_get (k : Int) (xss : List (List Int)) (j : Nat) {i : Nat} (hi : i < xss.length) :
    (marked k xss j).getD i [] = if i < j then upFrom (k + (lensTo xss i : Int)) (xss.getD i []).length else xss.getD i [] := by
  have e : (marked k xss j)[i]? = some (if i < j then upFrom (k + (lensTo xss i : Int)) (xss.getD i []).length else xss.getD i []) := by
    unfold marked
    rw [List.getElem?_map, List.getElem?_range hi]
    rfl
  rw [List.getD, e]
  rfl

section
variable {w w1 : World} {base top : Nat} {A : Option Addr} {n c : Nat}

theorem own_ne_outer {vs : List Value} {base' : Nat} {A' : Option Addr} {m c' : Nat} {xs : List Int} (ho : w.ownsRow base 24 1 (.slice A n c) n vs) (o : Own w base' A' m c' xs) :
    (Value.slice A n c).ownBlock = none ∨ (Value.slice A n c).ownBlock ≠ (Value.slice A' m c').ownBlock := by
  rcases ho.2 with ⟨hv, _⟩ | ⟨g, cap, cur, hv, _, hh, _⟩
  · left; rw [hv]; rfl
  · right
    rcases o.2 with ⟨hv', _⟩ | ⟨g', cap', cur', hv', _, hh', _⟩
    · rw [hv, hv']; simp [Value.ownBlock]
    · rw [hv, hv']
      intro e
      simp [Value.ownBlock] at e
      subst e
      rw [hh] at hh'
      injection hh' with hh'
      injection hh' with _ ht
      exact absurd ht (by decide)

theorem sown_step {k : Int} {xss : List (List Int)} {j : Nat} (hl : xss.length = n) (hj : j < n) {A' : Option Addr} {m c' : Nat} {vs : List Value}
    (ho : w.ownsRow base 24 1 (.slice A n c) n vs) (hin : ∀ i, i < n → ∃ A' m c', vs[i]? = some (.slice A' m c') ∧ Own w base A' m c' ((marked k xss j).getD i []))
    (hd : ∀ i j, i < j → j < n → ∀ p, (vs.getD i (.slice none 0 0)).ownBlock = some p → (vs.getD j (.slice none 0 0)).ownBlock ≠ some p) (htop : ∀ j, j < n → ∀ p, (vs.getD j (.slice none 0 0)).ownBlock = some p → p < top)
    (hv : vs[j]? = some (.slice A' m c')) (o : Own w base A' m c' (xss.getD j [])) (o1 : Own w1 base A' m c' (upFrom (k + (lensTo xss j : Int)) m)) (g : w.grownBy w1 (Value.slice A' m c').ownBlock) :
    SOwn w1 base top A n c (marked k xss (j + 1)) := by
  have hvj : vs.getD j (.slice none 0 0) = .slice A' m c' := by simp [List.getD, hv]
  refine ⟨vs, World.ownsRow.kept ho g (own_ne_outer ho o), by rw [marked_length, hl], fun i hi => ?_, hd, htop⟩
  rw [marked_get k xss (j + 1) (by omega)]
  by_cases hij : i = j
  · subst hij
    refine ⟨A', m, c', hv, ?_⟩
    rw [if_pos (by omega), o.len]
    exact o1
  · obtain ⟨A2, m2, c2, h1, h2⟩ := hin i hi
    refine ⟨A2, m2, c2, h1, ?_⟩
    have hvi : vs.getD i (.slice none 0 0) = .slice A2 m2 c2 := by simp [List.getD, h1]
    rw [marked_get k xss j (by omega)] at h2
    have e : (if i < j + 1 then upFrom (k + (lensTo xss i : Int)) (xss.getD i []).length else xss.getD i []) = if i < j then upFrom (k + (lensTo xss i : Int)) (xss.getD i []).length else xss.getD i [] := by
      by_cases h3 : i < j
      · rw [if_pos h3, if_pos (by omega)]
      · rw [if_neg h3, if_neg (by omega)]
    rw [e]
    refine World.ownsRow.kept h2 g ?_
    cases hb : (Value.slice A2 m2 c2).ownBlock with
    | none => exact .inl rfl
    | some p =>
      right
      intro hq
      rcases Nat.lt_or_ge i j with h3 | h3
      · exact hd i j h3 hj p (by rw [hvi]; exact hb) (by rw [hvj]; exact hq.symm)
      · exact hd j i (by omega) hi p (by rw [hvj]; exact hq.symm) (by rw [hvi]; exact hb)
end

set_option maxHeartbeats 800000 in
theorem marks_any (A : Option Addr) (n c base top : Nat) (xss : List (List Int)) (w : World) (o : SOwn w base top A n c xss) (ht : tot xss ≤ 1048577) (k : Int) (k0 : 0 ≤ k) (k1 : k ≤ 1048577) :
    Calls Try.prog 40 #[.slice A n c, .int .i64 k] w fun e w' => e = .returned (.int .i64 (k + (lensTo xss n : Int))) ∧ SOwn w' base top A n c (marked k xss n) ∧ Within base top w w' := by
  obtain ⟨_, _, hl0, _⟩ := id o
  have hl := Lib.hid hl0
  have hn : n ≤ 1048577 := by unfold tot at ht; omega
  have HT := Lib.hid ht
  have O := Lib.hid o
  clear o ht hl0
  go_enter Try.func40, Try.ntmps40
  go_wp2
  go_loopw [1, 5] (fun q i wr => ∃ j : Nat, j ≤ n ∧ i = .int .i64 (j : Int) ∧ q = .int .i64 (k + (lensTo xss j : Int)) ∧ SOwn wr base top A n c (marked k xss j) ∧ Within base top w wr) (fun _ i _ => n - (intOf i).toNat)
  case atStart =>
    refine ⟨0, Nat.zero_le _, rfl, by rw [lensTo_zero]; simp, ?_, Within.refl _ _ _⟩
    obtain ⟨vs, ho, hl0, hin, hd, htp⟩ := O.out
    refine ⟨vs, ho, by rw [marked_length]; exact hl0, fun j hj => ?_, hd, htp⟩
    obtain ⟨A', m, c', h1, h2⟩ := hin j hj
    refine ⟨A', m, c', h1, ?_⟩
    rw [marked_get k xss 0 (by omega), if_neg (by omega)]
    exact h2
  case round =>
    obtain ⟨j, hj, rfl, rfl, hown, hbel⟩ := hrel
    by_cases hlt : j < n
    · obtain ⟨vs, ho, _, hin, hd, htp⟩ := id hown
      obtain ⟨A', m, c', hv, o'⟩ := hin j hlt
      rw [marked_get k xss j (by have := hl.out; omega), if_neg (by omega)] at o'
      have hA : ∃ g, A = some ⟨g, 0, none⟩ := by
        rcases ho.2 with ⟨_, h0⟩ | ⟨g, cap, cur, hv, _⟩
        · omega
        · injection hv with h1; exact ⟨g, h1⟩
      obtain ⟨g, rfl⟩ := hA
      have hcell : wr.cell? ⟨g, j, none⟩ = some (.slice A' m c') := by rw [World.ownsRow.cellAt ho j (by omega), hv]
      have hs := lensTo_succ (xss := xss) (k := j) (by have := hl.out; omega)
      have hmono := lensTo_mono (xss := xss) (j := j + 1) (k := xss.length) (by have := hl.out; omega) (Nat.le_refl _)
      have hml := o'.len
      have hm : m ≤ 1048577 := by
        have h1 := HT.out
        unfold tot at h1
        omega
      have hq : (lensTo xss j : Int) ≤ 1048577 := by
        have h1 := HT.out
        unfold tot at h1
        omega
      have HS := Lib.hid (show lensTo xss (j + 1) = lensTo xss j + m by rw [hs, hml])
      have IN := Lib.hid hin
      have HD := Lib.hid hd
      have HP := Lib.hid htp
      have hvj : vs.getD j (.slice none 0 0) = .slice A' m c' := by simp [List.getD, hv]
      have HJ := Lib.hid hvj
      clear hs hmono hml hin hd hown htp hvj
      go_wp2_with fail
      refine (mark_any A' m c' base _ _ o' hm _ (by omega) (by omega)).mono ?_
      rintro e w1 ⟨rfl, o1, g1⟩
      have R := Lib.hid (sown_step hl.out hlt ho IN.out HD.out HP.out hv o' o1 g1)
      have B := Lib.hid (hbel.grown g1 (fun p hp => ⟨(o'.ge p hp).1, HP.out j hlt p (by rw [HJ.out]; exact hp)⟩))
      clear o1 g1 o' ho hbel IN HD HP HJ
      go_wp2
      go_roundw
      case rel => exact ⟨j + 1, by omega, by go_num, by rw [HS.out]; go_num, R.out, B.out⟩
      case measure => simp [intOf]; omega
    · go_wp2
      go_ret
      have hjn : j = n := by omega
      subst hjn
      exact ⟨rfl, hown, hbel⟩

set_option maxHeartbeats 800000 in
theorem helds_any (A : Option Addr) (n c B : Nat) (xss : List (List Int)) (w : World) (k : Int) (h : SRow w B A n (marked k xss n)) (hl0 : xss.length = n) (ht : tot xss ≤ 1048577) (k0 : 0 ≤ k) (k1 : k ≤ 1048577) :
    Calls Try.prog 42 #[.slice A n c, .int .i64 k] w fun e w' => e = .returned (.int .i64 (k + (lensTo xss n : Int))) ∧ w = w' := by
  have hl := Lib.hid hl0
  have hn : n ≤ 1048577 := by unfold tot at ht; omega
  have HT := Lib.hid ht
  clear ht hl0
  go_enter Try.func42, Try.ntmps42
  go_wp2
  go_loop [1, 5] (fun q i => ∃ j : Nat, j ≤ n ∧ i = .int .i64 (j : Int) ∧ q = .int .i64 (k + (lensTo xss j : Int))) (fun _ i => n - (intOf i).toNat)
  case atStart => exact ⟨0, Nat.zero_le _, rfl, by rw [lensTo_zero]; simp⟩
  case round =>
    obtain ⟨j, hj, rfl, rfl⟩ := hrel
    by_cases hlt : j < n
    · obtain ⟨b, off, rfl, hb, hc⟩ := h.2 (by omega)
      obtain ⟨A', m, c', hcell, hrow, _⟩ := hc j hlt
      rw [marked_get k xss n (by have := hl.out; omega), if_pos hlt] at hrow
      have hml := hrow.1
      rw [upFrom_length] at hml
      rw [hml] at hrow
      have hs := lensTo_succ (xss := xss) (k := j) (by have := hl.out; omega)
      have hmono := lensTo_mono (xss := xss) (j := j + 1) (k := xss.length) (by have := hl.out; omega) (Nat.le_refl _)
      have hm : m ≤ 1048577 := by
        have h1 := HT.out
        unfold tot at h1
        omega
      have hq : (lensTo xss j : Int) ≤ 1048577 := by
        have h1 := HT.out
        unfold tot at h1
        omega
      have HS := Lib.hid (show lensTo xss (j + 1) = lensTo xss j + m by rw [hs, hml])
      clear hs hmono hml hc h
      go_wp2_with fail
      refine (held_any A' m c' _ _ _ hrow hm (by omega) (by omega)).mono ?_
      rintro e w1 ⟨rfl, rfl⟩
      have q0 : ¬ (k + (lensTo xss j : Int) + (m : Int) < 0) := by omega
      go_wp2
      go_round
      case rel => exact ⟨j + 1, by omega, by go_num, by rw [HS.out]; go_num⟩
      case measure => simp [intOf]; omega
    · go_wp2
      go_ret
      have hjn : j = n := by omega
      subst hjn
      exact ⟨rfl, rfl⟩

end Go.Proofs.Ytooahggehgkcdaa
