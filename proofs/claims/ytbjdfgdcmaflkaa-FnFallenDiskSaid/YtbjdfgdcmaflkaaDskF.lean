/-
  The model's draw of fates: a short list of numbers in new memory.
-/
import Derived.Test.YtbjdfgdcmaflkaaDrawR
import Derived.Test.YtbjdfgdcmaflkaaRepI
namespace Go.Proofs.Ytbjdfgdcmaflkaa
open Go.RowKit

/-- Some list of at most 8 numbers in new memory is handed back; nothing but the cursor p is written. -/
def DrawnRow8 (w : World) (B p : Nat) (e : Ending) (w' : World) : Prop :=
  ∃ A n c xs, e = .returned (.slice A n c) ∧ Own w' w.heap.size A n c xs ∧ n ≤ 8 ∧ Cur w' B p ∧ w.grownBy w' (some p)

set_option maxHeartbeats 1600000 in
theorem drawFates_any (B p : Nat) (w : World) (h : Cur w B p) :
    Calls Try.prog 45 #[.pointer (some ⟨p, 0, none⟩)] w (DrawnRow8 w B p) := by
  have hp := h.lt
  have c0 := Lib.hid (cur_alloc h (.cells #[] 2))
  have o0 := Lib.hid (own_empty w)
  have g0 := Lib.hid (World.grownBy_alloc w (.cells #[] 2) (some p))
  clear h
  go_enter Try.func45, Try.ntmps45
  go_wp2_with fail
  refine (below_any B p _ c0.out 9 (by omega) (by omega)).mono ?_
  rintro e w1 ⟨x, ⟨x0, x1⟩, rfl, c1, g1⟩
  have o1 := Lib.hid (o0.out.kept g1 (fun k hk => by injection hk with hk; omega))
  have G1 := Lib.hid (g0.out.trans g1)
  have C1 := Lib.hid c1
  obtain ⟨q, rfl⟩ := Int.eq_ofNat_of_zero_le x0
  clear c1 g1
  go_wp2
  go_loopw [3, 4] (fun r i wr => ∃ (k n c : Nat) (A : Option Addr) (xs : List Int), i = .int .i64 (k : Int) ∧ n + k ≤ 8 ∧ r = .slice A n c ∧ Own wr w.heap.size A n c xs ∧ Cur wr B p ∧ w.grownBy wr (some p)) (fun _ i _ => (intOf i).toNat)
  case atStart => exact ⟨q, 0, 0, _, [], rfl, by omega, rfl, o1.out, C1.out, G1.out⟩
  case round =>
    obtain ⟨k, n, c, A, xs, rfl, hnk, rfl, hown, hcur, hgr⟩ := hrel
    clear o1 C1 G1
    rcases k with _ | k
    · go_wp2_with fail
      refine (once_any B p _ hcur 8 (by omega) (by omega)).mono ?_
      rintro e w2 ⟨b, rfl, c2, g2⟩
      have o2 := hown.kept g2 (fun j hj => by injection hj with hj; omega)
      have g02 := hgr.trans g2
      clear hown hcur hgr g2
      cases b
      · go_wp2
        go_ret
        exact ⟨A, n, c, xs, rfl, o2, by omega, c2, g02⟩
      · by_cases hn0 : 0 < n
        · obtain ⟨g, rfl, hg, _⟩ := o2.at_ hn0
          have i0 : (0 : Int) < (n : Int) := by omega
          go_wp2_with fail
          refine (odd_any B p _ c2).mono ?_
          rintro e w3 ⟨y, _, rfl, c3, g3⟩
          have o3 := o2.kept g3 (fun j hj => by injection hj with hj; omega)
          have g03 := g02.trans g3
          have ck := o3.cell_ (j := 0) hn0
          have fk : w3.frozen? ⟨g, 0, none⟩ = false := World.ownsRow.frozenAt o3 0
          generalize xs.getD 0 0 = z at ck
          have O4 := Lib.hid (o3.put_ 0 y)
          have gs := grown_setCell w3 g 0 (.int .i64 y)
          have C4 := Lib.hid (c3.kept gs (fun k hk => by injection hk with hk; omega))
          have G4 := Lib.hid (g03.andThen gs (fun j hj => .inl (by injection hj with hj; omega)))
          clear c2 g02 o2 c3 g3 o3 g03 gs
          go_wp2
          go_ret
          exact ⟨_, n, c, _, rfl, O4.out, by omega, C4.out, G4.out⟩
        · have i0 : ¬ ((0 : Int) < (n : Int)) := by omega
          go_wp2
          go_ret
          exact ⟨A, n, c, xs, rfl, o2, by omega, c2, g02⟩
    · have i0 : (0 : Int) < (k : Int) + 1 := by omega
      go_wp2_with fail
      refine (below_any B p _ hcur 3 (by omega) (by omega)).mono ?_
      rintro e w2 ⟨y, _, rfl, c2, g2⟩
      have o2 := hown.kept g2 (fun j hj => by injection hj with hj; omega)
      have g02 := hgr.trans g2
      have o2' := o2.below ((Below.refl _ w2).alloc (Nat.le_refl _) (.cells #[.int .i64 y] 2))
      have r2 := (own_one w2 y).irow
      have zb : w.heap.size ≤ (w2.alloc (.cells #[.int .i64 y] 2)).heap.size := by have := g02.size; simp; omega
      clear hown hcur hgr g2
      go_wp2_with (first
        | (at_builtin
           refine wpList_append_ints rfl (.tmp 12) (.tmp 15) rfl rfl o2' rfl r2 zb (by omega) ?_
           intro A3 c3 w3 o3 g3 e3))
      have R := push_ints c2 hp g02 o2 g3 rfl
      go_roundw
      case rel => exact ⟨k, n + 1, c3, A3, xs ++ [y], by go_num, by omega, rfl, o3, R.1, R.2⟩
      case measure => simp [intOf]

end Go.Proofs.Ytbjdfgdcmaflkaa
