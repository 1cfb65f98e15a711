/-
  The model's draw of a short row in new memory.
-/
import Derived.Test.YtbjdfgdcmaflkaaDrawN
namespace Go.Proofs.Ytbjdfgdcmaflkaa
open Go.RowKit

/-- Some row of at most 50 numbers in new memory is handed back; nothing but the cursor p is written. -/
def DrawnRow (w : World) (B p : Nat) (e : Ending) (w' : World) : Prop :=
  ∃ A n c xs, e = .returned (.slice A n c) ∧ Own w' w.heap.size A n c xs ∧ n ≤ 50 ∧ Cur w' B p ∧ w.grownBy w' (some p)

theorem cur_alloc {w : World} {B p : Nat} (h : Cur w B p) (o : Obj) : Cur (w.alloc o) B p := h.kept (World.grownBy_alloc w o none) (fun k hk => by cases hk)

/-- One number more at the end of an own row: what stands behind 'append(row, x)'. -/
theorem push_ints {w w1 w2 : World} {B p base : Nat} {A : Option Addr} {n c : Nat} {xs : List Int} {x : Int}
    (c1 : Cur w1 B p) (hp : p < base) (g1 : w.grownBy w1 (some p)) (o1 : Own w1 base A n c xs)
    (g2 : (w1.alloc (.cells #[.int .i64 x] 2)).grownBy w2 (Value.slice A n c).ownBlock) (hbase : w.heap.size = base) :
    Cur w2 B p ∧ w.grownBy w2 (some p) := by
  have ge : ∀ k, (Value.slice A n c).ownBlock = some k → base ≤ k := fun k hk => (o1.ge k hk).1
  refine ⟨(cur_alloc c1 _).kept g2 (fun k hk => by have := ge k hk; omega), ?_⟩
  exact (g1.trans (World.grownBy_alloc w1 _ (some p))).andThen g2 (fun j hj => .inl (by have := ge j hj; omega))

/-- .. of at most 7 numbers. -/
def DrawnRow7 (w : World) (B p : Nat) (e : Ending) (w' : World) : Prop :=
  ∃ A n c xs, e = .returned (.slice A n c) ∧ Own w' w.heap.size A n c xs ∧ n ≤ 7 ∧ Cur w' B p ∧ w.grownBy w' (some p)

set_option maxHeartbeats 1600000 in
theorem drawRow_any7 (B p : Nat) (w : World) (h : Cur w B p) :
    Calls Try.prog 81 #[.pointer (some ⟨p, 0, none⟩)] w (DrawnRow7 w B p) := by
  have hp := h.lt
  have c0 := Lib.hid (cur_alloc h (.cells #[] 2))
  have o0 := Lib.hid (own_empty w)
  have g0 := Lib.hid (World.grownBy_alloc w (.cells #[] 2) (some p))
  clear h
  go_enter Try.func81, Try.ntmps81
  go_wp2_with fail
  refine (below_any B p _ c0.out 8 (by omega) (by omega)).mono ?_
  rintro e w1 ⟨x, ⟨x0, x1⟩, rfl, c1, g1⟩
  have o1 := Lib.hid (o0.out.kept g1 (fun k hk => by injection hk with hk; omega))
  have G1 := Lib.hid (g0.out.trans g1)
  have C1 := Lib.hid c1
  obtain ⟨q, rfl⟩ := Int.eq_ofNat_of_zero_le x0
  clear c1 g1
  go_wp2
  go_loopw [3, 4] (fun r i wr => ∃ (k n c : Nat) (A : Option Addr) (xs : List Int), i = .int .i64 (k : Int) ∧ n + k ≤ 7 ∧ r = .slice A n c ∧ Own wr w.heap.size A n c xs ∧ Cur wr B p ∧ w.grownBy wr (some p)) (fun _ i _ => (intOf i).toNat)
  case atStart => exact ⟨q, 0, 0, _, [], rfl, by omega, rfl, o1.out, C1.out, G1.out⟩
  case round =>
    obtain ⟨k, n, c, A, xs, rfl, hnk, rfl, hown, hcur, hgr⟩ := hrel
    rcases k with _ | k
    · go_wp2
      go_ret
      exact ⟨A, n, c, xs, rfl, hown, by omega, hcur, hgr⟩
    · have i0 : (0 : Int) < (k : Int) + 1 := by omega
      go_wp2_with fail
      refine (below_any B p _ hcur 50 (by omega) (by omega)).mono ?_
      rintro e w2 ⟨y, _, rfl, c2, g2⟩
      have o2 := hown.kept g2 (fun j hj => by injection hj with hj; omega)
      have g02 := hgr.trans g2
      have o2' := o2.below ((Below.refl _ w2).alloc (Nat.le_refl _) (.cells #[.int .i64 y] 2))
      have r2 := (own_one w2 y).irow
      have zb : w.heap.size ≤ (w2.alloc (.cells #[.int .i64 y] 2)).heap.size := by have := g02.size; simp; omega
      clear hown hcur hgr g2
      go_wp2_with (first
        | (at_builtin
           refine wpList_append_ints rfl (.tmp 12) (.tmp 15) rfl rfl o2' rfl r2 zb (by omega) ?_
           intro A3 c3 w3 o3 g3 e3))
      have R := push_ints c2 hp g02 o2 g3 rfl
      go_roundw
      case rel => exact ⟨k, n + 1, c3, A3, xs ++ [y], by go_num, by omega, rfl, o3, R.1, R.2⟩
      case measure => simp [intOf]

end Go.Proofs.Ytbjdfgdcmaflkaa
