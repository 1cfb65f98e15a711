/-
  The law FnPacks answers true at every slice of bytes, and writes nothing that was there.
-/
import Derived.Test.YtooahggehgkcdaaPackMath
import Derived.Test.YtooahggehgkcdaaLike2
import Derived.Test.YtooahggehgkcdaaDraw3
import Derived.Test.YtooahggehgkcdaaPackI
import Derived.Test.YtooahggehgkcdaaUnpT
namespace Go.Proofs.Ytooahggehgkcdaa
open Go.RowKit

theorem bigp_any (A : Option Addr) (n c : Nat) (w : World) :
    Calls Try.prog 12 #[.slice A n c] w fun e w' => e = .returned (.bool (decide (4096 < n))) ∧ w = w' := by
  go_enter Try.func12, Try.ntmps12
  go_wp2
  go_ret
  exact ⟨ret_bool (by simp; omega), rfl⟩

/-- The literal rows [[1], [2, 3]]. -/
theorem lit_rows (w : World) :
    SRow (((w.alloc (.cells #[.int .i64 1] 2)).alloc (.cells #[.int .i64 2, .int .i64 3] 2)).alloc (.cells #[.slice (some ⟨w.heap.size, 0, none⟩) 1 1, .slice (some ⟨w.heap.size + 1, 0, none⟩) 2 2] 24))
      (w.heap.size + 3) (some ⟨w.heap.size + 2, 0, none⟩) 2 [[1], [2, 3]] := by
  refine ⟨rfl, fun _ => ⟨w.heap.size + 2, 0, rfl, by omega, fun j hj => ?_⟩⟩
  have e0 : (((w.alloc (.cells #[.int .i64 1] 2)).alloc (.cells #[.int .i64 2, .int .i64 3] 2)).alloc (.cells #[.slice (some ⟨w.heap.size, 0, none⟩) 1 1, .slice (some ⟨w.heap.size + 1, 0, none⟩) 2 2] 24)).heap[w.heap.size + 2]? = some (.cells #[.slice (some ⟨w.heap.size, 0, none⟩) 1 1, .slice (some ⟨w.heap.size + 1, 0, none⟩) 2 2] 24 (0, 0)) := by
    have := heap_alloc_new ((w.alloc (.cells #[.int .i64 1] 2)).alloc (.cells #[.int .i64 2, .int .i64 3] 2)) (.cells #[.slice (some ⟨w.heap.size, 0, none⟩) 1 1, .slice (some ⟨w.heap.size + 1, 0, none⟩) 2 2] 24)
    simpa using this
  have e1 : (((w.alloc (.cells #[.int .i64 1] 2)).alloc (.cells #[.int .i64 2, .int .i64 3] 2)).alloc (.cells #[.slice (some ⟨w.heap.size, 0, none⟩) 1 1, .slice (some ⟨w.heap.size + 1, 0, none⟩) 2 2] 24)).heap[w.heap.size]? = some (.cells #[.int .i64 1] 2 (0, 0)) := by
    rw [Below.heap_alloc _ _ _ (by simp; omega), Below.heap_alloc _ _ _ (by simp)]
    exact heap_alloc_new w _
  have e2 : (((w.alloc (.cells #[.int .i64 1] 2)).alloc (.cells #[.int .i64 2, .int .i64 3] 2)).alloc (.cells #[.slice (some ⟨w.heap.size, 0, none⟩) 1 1, .slice (some ⟨w.heap.size + 1, 0, none⟩) 2 2] 24)).heap[w.heap.size + 1]? = some (.cells #[.int .i64 2, .int .i64 3] 2 (0, 0)) := by
    rw [Below.heap_alloc _ _ _ (by simp)]
    have := heap_alloc_new (w.alloc (.cells #[.int .i64 1] 2)) (.cells #[.int .i64 2, .int .i64 3] 2)
    simpa using this
  generalize (((w.alloc (.cells #[.int .i64 1] 2)).alloc (.cells #[.int .i64 2, .int .i64 3] 2)).alloc (.cells #[.slice (some ⟨w.heap.size, 0, none⟩) 1 1, .slice (some ⟨w.heap.size + 1, 0, none⟩) 2 2] 24)) = W at e0 e1 e2
  rcases (show j = 0 ∨ j = 1 from by omega) with rfl | rfl
  · refine ⟨_, 1, 1, cell_of_blk e0 0, ⟨rfl, fun _ => ⟨w.heap.size, 0, rfl, by omega, fun i hi => ?_⟩⟩, Nat.le_refl _, by decide⟩
    obtain rfl : i = 0 := by omega
    exact cell_of_blk e1 0
  · refine ⟨_, 2, 2, cell_of_blk e0 1, ⟨rfl, fun _ => ⟨w.heap.size + 1, 0, rfl, by omega, fun i hi => ?_⟩⟩, Nat.le_refl _, by decide⟩
    rcases (show i = 0 ∨ i = 1 from by omega) with rfl | rfl
    · exact cell_of_blk e2 0
    · exact cell_of_blk e2 1

set_option maxHeartbeats 3200000 in
theorem lawPacks (A : Option Addr) (n c : Nat) (w : World) (h : BRow w w.heap.size A n) (hm : n ≤ maxLen) :
    Calls Try.prog 4 #[.slice A n c] w fun e w' => e = .returned (.bool true) ∧ Below w.heap.size w w' := by
  unfold maxLen at hm
  by_cases hn : 4096 < n
  · clear h
    go_enter Try.func4, Try.ntmps4
    go_wp2_with fail
    refine (bigp_any A n c _).mono ?_
    rintro e w' ⟨rfl, rfl⟩
    rw [decide_eq_true hn]
    go_wp2
    go_ret
    exact ⟨rfl, Below.refl _ _⟩
  go_enter Try.func4, Try.ntmps4
  go_wp2_with fail
  refine (bigp_any A n c _).mono ?_
  rintro e w' ⟨rfl, rfl⟩
  rw [decide_eq_false hn]
  go_wp2_with fail
  refine (drawPacked_any A n c _ h (by omega)).mono ?_
  rintro e w1 ⟨G1, k1, d1, xss, rfl, s1, ht, b1⟩
  have z1 := b1.size
  go_wp2_with fail
  refine (iPack_any G1 k1 d1 xss _ s1.srow (by omega)).mono ?_
  rintro e w2 ⟨A2, n2, c2, rfl, o2, b12⟩
  have b2 := b1.trans (b12.mono z1)
  have hl2 := o2.len
  have hn2 : n2 ≤ 48 := by rw [← hl2]; exact packed_len xss
  by_cases h0 : 0 < n2
  · have HU := Lib.hid (unp_packed (xss := xss) (by rw [hl2]; exact h0))
    have hcap := (own_cap o2).1
    go_wp2_with fail
    refine (iUnp_any A2 n2 c2 _ _ o2.irow (by omega) hcap).mono ?_
    rintro e w3 ⟨A3, n3, c3, rfl, s3, b23⟩
    rw [HU.out] at s3
    rw [HU.out]
    have hk31 : n3 = k1 := by
      obtain ⟨_, _, h3, _⟩ := id s3
      obtain ⟨_, _, h1, _⟩ := id s1
      rw [← h3, ← h1]
    subst hk31
    have b13 := b12.trans (b23.mono b12.size)
    have b3 := b2.trans (b23.mono b2.size)
    go_wp2_with fail
    refine (likes_yes A3 G1 n3 c3 d1 _ _ xss _ s3.srow (s1.srow.below b13) (by omega)).mono ?_
    rintro e w4 ⟨rfl, d4⟩
    have b4 := b3.trans (d4.below _)
    clear s1 s3 o2 b1 b12 b2 b13 b23 b3 d4 HU hl2 z1
    go_wp2_with fail
    refine (drawUnpacked_any A n c _ ((h.below b4).up_ b4.size) (by omega)).mono ?_
    rintro e w5 ⟨A5, n5, c5, ys, rfl, o5, hn5, b45⟩
    have b5 := b4.trans (b45.mono b4.size)
    have hcap5 := (own_cap o5).1
    have hl5 := Lib.hid o5.len
    go_wp2_with fail
    refine (iUnp_any A5 n5 c5 ys _ o5.irow (by omega) hcap5).mono ?_
    rintro e w6 ⟨A6, n6, c6, rfl, s6, b56⟩
    have b6 := b5.trans (b56.mono b5.size)
    cases hg : (unpacked ys).2
    · have L := Lib.hid (lit_rows w6)
      go_wp2_with fail
      refine (iPack_any _ 2 2 [[1], [2, 3]] _ (L.out.up (by simp)) (by decide)).mono ?_
      rintro e w7 ⟨A7, n7, c7, rfl, o7, b7⟩
      obtain rfl : n7 = 6 := by rw [← o7.len]; exact packed_six
      have b7' := (((b6.alloc b6.size (.cells #[.int .i64 1] 2)).alloc (by have := b6.size; simp; omega) (.cells #[.int .i64 2, .int .i64 3] 2)).alloc (by have := b6.size; simp; omega) (.cells #[.slice (some ⟨w6.heap.size, 0, none⟩) 1 1, .slice (some ⟨w6.heap.size + 1, 0, none⟩) 2 2] 24)).trans (b7.mono (by have := b6.size; simp; omega))
      go_wp2
      go_ret
      exact ⟨rfl, b7'⟩
    · have HG := Lib.hid (packed_unp (ys := ys) hg)
      have ht6 : tot (unpacked ys).1 ≤ 1048577 := by
        have h1 := unp_tot' ys
        omega
      clear hg
      go_wp2_with fail
      refine (iPack_any A6 n6 c6 _ _ s6.srow ht6).mono ?_
      rintro e w7 ⟨A7, n7, c7, rfl, o7, b67⟩
      rw [HG.out] at o7
      obtain rfl : n5 = n7 := by rw [← hl5.out, ← o7.len]
      have b7 := b6.trans (b67.mono b6.size)
      go_wp2_with fail
      refine (like_yes A7 A5 n5 c7 c5 _ _ ys _ o7.irow ((o5.irow.below b56).below (b67.mono b56.size)) (by omega)).mono ?_
      rintro e w8 ⟨rfl, d8⟩
      have b8 := b7.trans (d8.below _)
      have L := Lib.hid (lit_rows w8)
      clear o5 s6 o7 b56 b67 d8 b7 b6 b5 b4
      go_wp2_with fail
      refine (iPack_any _ 2 2 [[1], [2, 3]] _ (L.out.up (by simp)) (by decide)).mono ?_
      rintro e w9 ⟨A9, n9, c9, rfl, o9, b9⟩
      obtain rfl : n9 = 6 := by rw [← o9.len]; exact packed_six
      have b9' := (((b8.alloc b8.size (.cells #[.int .i64 1] 2)).alloc (by have := b8.size; simp; omega) (.cells #[.int .i64 2, .int .i64 3] 2)).alloc (by have := b8.size; simp; omega) (.cells #[.slice (some ⟨w8.heap.size, 0, none⟩) 1 1, .slice (some ⟨w8.heap.size + 1, 0, none⟩) 2 2] 24)).trans (b9.mono (by have := b8.size; simp; omega))
      go_wp2
      go_ret
      exact ⟨rfl, b9'⟩
  · have b4 := b2
    clear s1 o2 b1 b12 b2 hl2 z1
    go_wp2_with fail
    refine (drawUnpacked_any A n c _ ((h.below b4).up_ b4.size) (by omega)).mono ?_
    rintro e w5 ⟨A5, n5, c5, ys, rfl, o5, hn5, b45⟩
    have b5 := b4.trans (b45.mono b4.size)
    have hcap5 := (own_cap o5).1
    have hl5 := Lib.hid o5.len
    go_wp2_with fail
    refine (iUnp_any A5 n5 c5 ys _ o5.irow (by omega) hcap5).mono ?_
    rintro e w6 ⟨A6, n6, c6, rfl, s6, b56⟩
    have b6 := b5.trans (b56.mono b5.size)
    cases hg : (unpacked ys).2
    · have L := Lib.hid (lit_rows w6)
      go_wp2_with fail
      refine (iPack_any _ 2 2 [[1], [2, 3]] _ (L.out.up (by simp)) (by decide)).mono ?_
      rintro e w7 ⟨A7, n7, c7, rfl, o7, b7⟩
      obtain rfl : n7 = 6 := by rw [← o7.len]; exact packed_six
      have b7' := (((b6.alloc b6.size (.cells #[.int .i64 1] 2)).alloc (by have := b6.size; simp; omega) (.cells #[.int .i64 2, .int .i64 3] 2)).alloc (by have := b6.size; simp; omega) (.cells #[.slice (some ⟨w6.heap.size, 0, none⟩) 1 1, .slice (some ⟨w6.heap.size + 1, 0, none⟩) 2 2] 24)).trans (b7.mono (by have := b6.size; simp; omega))
      go_wp2
      go_ret
      exact ⟨rfl, b7'⟩
    · have HG := Lib.hid (packed_unp (ys := ys) hg)
      have ht6 : tot (unpacked ys).1 ≤ 1048577 := by
        have h1 := unp_tot' ys
        omega
      clear hg
      go_wp2_with fail
      refine (iPack_any A6 n6 c6 _ _ s6.srow ht6).mono ?_
      rintro e w7 ⟨A7, n7, c7, rfl, o7, b67⟩
      rw [HG.out] at o7
      obtain rfl : n5 = n7 := by rw [← hl5.out, ← o7.len]
      have b7 := b6.trans (b67.mono b6.size)
      go_wp2_with fail
      refine (like_yes A7 A5 n5 c7 c5 _ _ ys _ o7.irow ((o5.irow.below b56).below (b67.mono b56.size)) (by omega)).mono ?_
      rintro e w8 ⟨rfl, d8⟩
      have b8 := b7.trans (d8.below _)
      have L := Lib.hid (lit_rows w8)
      clear o5 s6 o7 b56 b67 d8 b7 b6 b5 b4
      go_wp2_with fail
      refine (iPack_any _ 2 2 [[1], [2, 3]] _ (L.out.up (by simp)) (by decide)).mono ?_
      rintro e w9 ⟨A9, n9, c9, rfl, o9, b9⟩
      obtain rfl : n9 = 6 := by rw [← o9.len]; exact packed_six
      have b9' := (((b8.alloc b8.size (.cells #[.int .i64 1] 2)).alloc (by have := b8.size; simp; omega) (.cells #[.int .i64 2, .int .i64 3] 2)).alloc (by have := b8.size; simp; omega) (.cells #[.slice (some ⟨w8.heap.size, 0, none⟩) 1 1, .slice (some ⟨w8.heap.size + 1, 0, none⟩) 2 2] 24)).trans (b9.mono (by have := b8.size; simp; omega))
      go_wp2
      go_ret
      exact ⟨rfl, b9'⟩

end Go.Proofs.Ytooahggehgkcdaa
