/-
  The law FnExactUnpacked answers true at every slice of int64, and writes nothing that was there.
-/
import Derived.Test.YtooahggehgkcdaaTo
import Derived.Test.YtooahggehgkcdaaUnpT
namespace Go.Proofs.Ytooahggehgkcdaa
open Go.RowKit

theorem unp_tot (xs : List Int) : tot (unpacked xs).1 ≤ 48 := by
  unfold unpacked
  split
  · rename_i h
    have h1 := rowOk_len h.1
    have h2 := lens_rowsTo (xs := xs) (k := numAt xs 0) (by rw [h.2.2]; exact Nat.le_refl _)
    unfold tot
    simp only [rowsTo_length]
    omega
  · simp [tot, lensTo]

theorem row_at'' {g n c : Nat} (k : Nat) (h : (Value.slice (some ⟨g, 0, none⟩) n c).ownBlock = some k) : k = g := by
  simp [Value.ownBlock] at h
  exact h.symm

set_option maxHeartbeats 1600000 in
theorem lawUnp (A : Option Addr) (n c : Nat) (xs : List Int) (w : World) (h : IRow w w.heap.size A n xs) (hm : n ≤ maxLen) :
    Calls Try.prog 11 #[.slice A n c] w fun e w' => e = .returned (.bool true) ∧ Below w.heap.size w w' := by
  unfold maxLen at hm
  by_cases hn : 1048576 < n
  · clear h
    go_enter Try.func11, Try.ntmps11
    go_wp2
    go_ret
    exact ⟨rfl, Below.refl _ _⟩
  have hws := unp_tot xs
  have hws0 : (unpacked xs).1.length ≤ 48 := by unfold tot at hws; omega
  go_enter Try.func11, Try.ntmps11
  go_wp2_with fail
  refine (to_any A n c xs _ h (by omega)).mono ?_
  rintro e w1 ⟨rfl, o1, b1⟩
  have z1 := b1.size
  go_wp2_with fail
  refine (sUnp_any _ n n xs _ o1.irow (by omega) (Nat.le_refl _)).mono ?_
  rintro e w2 ⟨A2, n2, c2, rfl, o2, b12⟩
  have z2 := b12.size
  have b2 := b1.trans (b12.mono z1)
  obtain ⟨_, _, hl2, _⟩ := id o2
  have r2 := o2.srow
  have hn2 : n2 ≤ 48 := by rw [← hl2]; exact hws0
  go_wp2_with fail
  refine (to_any A n c xs _ ((h.below b2).up b2.size) (by omega)).mono ?_
  rintro e w3 ⟨rfl, o3, b23⟩
  have z3 := b23.size
  have b3 := b2.trans (b23.mono b2.size)
  have hlt3 : w2.heap.size < w3.heap.size := by
    have := (o3.ge w2.heap.size rfl).2
    exact this
  go_wp2_with fail
  refine (iUnp_any _ n n xs _ o3.irow (by omega) (Nat.le_refl _)).mono ?_
  rintro e w4 ⟨A4, n4, c4, rfl, o4, b34⟩
  obtain ⟨_, _, hl4, _⟩ := id o4
  obtain rfl : n2 = n4 := by rw [← hl2, ← hl4]
  have z4 := b34.size
  have b24 := b23.trans (b34.mono z3)
  have b4 := b3.trans (b34.mono b3.size)
  go_wp2_with fail
  refine (eqs_yes _ _ n2 _ _ _ _ (unpacked xs).1 _ o4.srow (r2.below b24) (by omega)).mono ?_
  rintro e w5 ⟨rfl, d5⟩
  have b5 := b4.trans (d5.below _)
  have z5 := (d5.below w4.heap.size).size
  have o35 := (o3.below b34).drew d5
  have o45 := o4.drew d5
  have b25 := b24.trans (d5.below _)
  go_wp2_with fail
  refine (to_any A n c xs _ ((h.below b5).up b5.size) (by omega)).mono ?_
  rintro e w6 ⟨rfl, o6, b56⟩
  have b6 := b5.trans (b56.mono b5.size)
  have b26 := b25.trans (b56.mono b25.size)
  have o36 := o35.below b56
  have o46 := o45.below b56
  go_wp2_with fail
  refine (eq_yes _ _ n _ _ _ _ xs _ o36.irow o6.irow (by omega)).mono ?_
  rintro e w7 ⟨rfl, d7⟩
  have b7 := b6.trans (d7.below _)
  have b27 := b26.trans (d7.below _)
  have o37 := o36.drew d7
  have o47 := o46.drew d7
  clear o35 o36 o45 o46
  go_wp2_with fail
  refine (mark_any _ n _ _ xs _ o37 (by omega) 1 (by omega) (by omega)).mono ?_
  rintro e w8 ⟨rfl, o38, g8⟩
  have b8 := b7.grown g8 b7.size (fun k hk => by have := row_at'' k hk; have := b2.size; omega)
  have b28 := b27.grown g8 b27.size (fun k hk => by have := row_at'' k hk; omega)
  have o48 := o47.kept g8 (fun k hk => by have := row_at'' k hk; omega)
  clear o47
  go_wp2_with fail
  refine (eqs_yes _ _ n2 _ _ _ _ (unpacked xs).1 _ o48.srow (r2.below b28) (by omega)).mono ?_
  rintro e w9 ⟨rfl, d9⟩
  have b9 := b8.trans (d9.below _)
  have b29 := b28.trans (d9.below _)
  have o49 := o48.drew d9
  clear o48
  go_wp2_with fail
  refine (marks_any _ n2 _ _ _ _ _ o49 (by omega) 1 (by omega) (by omega)).mono ?_
  rintro e w10 ⟨rfl, o410, g10⟩
  have b10 := b9.trans (g10.below b3.size b9.size)
  have b210 := b29.trans (g10.below z3 b29.size)
  have hzl : (lensTo (unpacked xs).1 n2 : Int) ≤ 48 := by
    have h1 := hws
    unfold tot at h1
    rw [hl2] at h1
    omega
  go_wp2_with fail
  refine (helds_any _ n2 _ _ _ _ 1 o410.srow hl2 (by omega) (by omega) (by omega)).mono ?_
  rintro e w10' ⟨rfl, rfl⟩
  go_wp2_with fail
  refine (to_any A n c xs _ ((h.below b10).up b10.size) (by omega)).mono ?_
  rintro e w11 ⟨rfl, o11, b1011⟩
  have b11 := b10.trans (b1011.mono b10.size)
  have b211 := b210.trans (b1011.mono b210.size)
  have o411 := o410.below b1011
  go_wp2_with fail
  refine (iUnp_any _ n n xs _ o11.irow (by omega) (Nat.le_refl _)).mono ?_
  rintro e w12 ⟨A12, n12, c12, rfl, o12, b1112⟩
  obtain ⟨_, _, hl12, _⟩ := id o12
  obtain rfl : n2 = n12 := by rw [← hl2, ← hl12]
  have b12' := b11.trans (b1112.mono b11.size)
  have b212 := b211.trans (b1112.mono b211.size)
  have o412 := o411.below b1112
  go_wp2_with fail
  refine (eqs_yes _ _ n2 _ _ _ _ (unpacked xs).1 _ o12.srow (r2.below b212) (by omega)).mono ?_
  rintro e w13 ⟨rfl, d13⟩
  have b13 := b12'.trans (d13.below _)
  have o413 := o412.drew d13
  go_wp2_with fail
  refine (helds_any _ n2 _ _ _ _ 1 o413.srow hl2 (by omega) (by omega) (by omega)).mono ?_
  rintro e w13' ⟨rfl, rfl⟩
  go_wp2
  go_ret
  exact ⟨rfl, b13⟩

end Go.Proofs.Ytooahggehgkcdaa
