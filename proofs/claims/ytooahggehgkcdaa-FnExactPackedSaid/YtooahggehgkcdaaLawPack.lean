/-
  The law FnExactPacked answers true at every slice of slices of int64, and writes nothing that was there.
-/
import Derived.Test.YtooahggehgkcdaaPackI
namespace Go.Proofs.Ytooahggehgkcdaa
open Go.RowKit

theorem szLeft_yes {t : Nat} (h : t ≤ 1048576) : szLeft 1048576 t = 1048576 - (t : Int) := by unfold szLeft; rw [if_pos h]; rfl
theorem szLeft_no {t : Nat} (h : ¬ t ≤ 1048576) : szLeft 1048576 t = -1 := by unfold szLeft; rw [if_neg h]

set_option maxHeartbeats 3200000 in
theorem lawPack (A : Option Addr) (n c : Nat) (xss : List (List Int)) (w : World) (h : SRow w w.heap.size A n xss) (hm : n ≤ maxLen) :
    Calls Try.prog 10 #[.slice A n c] w fun e w' => e = .returned (.bool true) ∧ Below w.heap.size w w' := by
  by_cases ht : tot xss ≤ 1048576
  · have HS := Lib.hid (szLeft_yes ht)
    have hws := packed_len xss
    go_enter Try.func10, Try.ntmps10
    go_wp2_with fail
    refine (szs_any A n c _ xss _ h hm).mono ?_
    rintro e w' ⟨rfl, rfl⟩
    rw [HS.out]
    have q0 : ¬ (1048576 - (tot xss : Int) < 0) := by omega
    go_wp2_with fail
    refine (tos_any A n c xss _ h ht).mono ?_
    rintro e w1 ⟨rfl, o1, b1⟩
    have z1 := b1.size
    go_wp2_with fail
    refine (sPack_any _ n n xss _ o1.srow (by omega)).mono ?_
    rintro e w2 ⟨A2, n2, c2, rfl, o2, b12⟩
    have b2 := b1.trans (b12.mono z1)
    have r2 := o2.irow
    have hn2 : n2 ≤ 48 := by rw [← o2.len]; exact hws
    go_wp2_with fail
    refine (tos_any A n c xss _ ((h.below b2).up b2.size) ht).mono ?_
    rintro e w3 ⟨rfl, o3, b23⟩
    have z3 := b23.size
    have b3 := b2.trans (b23.mono b2.size)
    go_wp2_with fail
    refine (iPack_any _ n n xss _ o3.srow (by omega)).mono ?_
    rintro e w4 ⟨A4, n4, c4, rfl, o4, b34⟩
    obtain rfl : n2 = n4 := by rw [← o2.len, ← o4.len]
    have z4 := b34.size
    have b24 := b23.trans (b34.mono z3)
    have b4 := b3.trans (b34.mono b3.size)
    go_wp2_with fail
    refine (eq_yes _ _ n2 _ _ _ _ (packed xss) _ o4.irow (r2.below b24) (by omega)).mono ?_
    rintro e w5 ⟨rfl, d5⟩
    have b5 := b4.trans (d5.below _)
    have o35 := (o3.below b34).drew d5
    have o45 := o4.drew d5
    have b25 := b24.trans (d5.below _)
    go_wp2_with fail
    refine (tos_any A n c xss _ ((h.below b5).up b5.size) ht).mono ?_
    rintro e w6 ⟨rfl, o6, b56⟩
    have b6 := b5.trans (b56.mono b5.size)
    have b26 := b25.trans (b56.mono b25.size)
    have o36 := o35.below b56
    have o46 := o45.below b56
    go_wp2_with fail
    refine (eqs_yes _ _ n _ _ _ _ xss _ o36.srow o6.srow (by omega)).mono ?_
    rintro e w7 ⟨rfl, d7⟩
    have b7 := b6.trans (d7.below _)
    have b27 := b26.trans (d7.below _)
    have o37 := o36.drew d7
    have o47 := o46.drew d7
    have hz7 : w3.heap.size ≤ w7.heap.size := by
      have := (d7.below w6.heap.size).size
      have := b56.size
      have := (d5.below w4.heap.size).size
      omega
    go_wp2_with fail
    refine (marks_any _ n _ _ _ xss _ o37 (by omega) 1 (by omega) (by omega)).mono ?_
    rintro e w8 ⟨rfl, o38, g8⟩
    have b78 : Below w2.heap.size w7 w8 := g8.below (Nat.le_refl _) (by omega)
    have b8 := b7.trans (b78.mono b2.size)
    have b28 := b27.trans b78
    have o48 := o47.within g8 (Nat.le_refl _)
    have hzl : (lensTo xss n : Int) ≤ 1048576 := by
      have h1 := h.1
      unfold tot at ht
      rw [h1] at ht
      omega
    clear o47 o45 o46 o35 o36
    go_wp2_with fail
    refine (eq_yes _ _ n2 _ _ _ _ (packed xss) _ o48.irow (r2.below b28) (by omega)).mono ?_
    rintro e w9 ⟨rfl, d9⟩
    have b9 := b8.trans (d9.below _)
    have b29 := b28.trans (d9.below _)
    have o49 := o48.drew d9
    clear o48
    go_wp2_with fail
    refine (mark_any _ n2 _ _ _ _ o49 (by omega) 1 (by omega) (by omega)).mono ?_
    rintro e w10 ⟨rfl, o410, g10⟩
    have b10 := b9.grown g10 b9.size (fun k hk => by have := (o49.ge k hk).1; have := b3.size; omega)
    have b210 := b29.grown g10 b29.size (fun k hk => by have := (o49.ge k hk).1; omega)
    go_wp2_with fail
    refine (held_any _ n2 _ _ _ 1 o410.irow (by omega) (by omega) (by omega)).mono ?_
    rintro e w10' ⟨rfl, rfl⟩
    go_wp2_with fail
    refine (tos_any A n c xss _ ((h.below b10).up b10.size) ht).mono ?_
    rintro e w11 ⟨rfl, o11, b1011⟩
    have b11 := b10.trans (b1011.mono b10.size)
    have b211 := b210.trans (b1011.mono b210.size)
    have o411 := o410.below b1011
    go_wp2_with fail
    refine (iPack_any _ n n xss _ o11.srow (by omega)).mono ?_
    rintro e w12 ⟨A12, n12, c12, rfl, o12, b1112⟩
    obtain rfl : n2 = n12 := by rw [← o2.len, ← o12.len]
    have b12' := b11.trans (b1112.mono b11.size)
    have b212 := b211.trans (b1112.mono b211.size)
    have o412 := o411.below b1112
    go_wp2_with fail
    refine (eq_yes _ _ n2 _ _ _ _ (packed xss) _ o12.irow (r2.below b212) (by omega)).mono ?_
    rintro e w13 ⟨rfl, d13⟩
    have b13 := b12'.trans (d13.below _)
    have o413 := o412.drew d13
    go_wp2_with fail
    refine (held_any _ n2 _ _ _ 1 o413.irow (by omega) (by omega) (by omega)).mono ?_
    rintro e w13' ⟨rfl, rfl⟩
    go_wp2
    go_ret
    exact ⟨rfl, b13⟩
  · have HS := Lib.hid (szLeft_no ht)
    go_enter Try.func10, Try.ntmps10
    go_wp2_with fail
    refine (szs_any A n c _ xss _ h hm).mono ?_
    rintro e w' ⟨rfl, rfl⟩
    rw [HS.out]
    go_wp2
    go_ret
    exact ⟨rfl, Below.refl _ _⟩

end Go.Proofs.Ytooahggehgkcdaa
