/-
  Packed, of the program's model: the number of rows, then each row's length and numbers, in new memory; else the empty slice.
-/
import Derived.Test.YtooahggehgkcdaaRows4
import Derived.Test.YtooahggehgkcdaaWith
namespace Go.Proofs.Ytooahggehgkcdaa
open Go.RowKit

def packTo (xss : List (List Int)) (k : Nat) : List Int := (xss.length : Int) :: (xss.take k).flatMap fun r => (r.length : Int) :: r
def packed (xss : List (List Int)) : List Int := if xss.all rowOk = true ∧ (packTo xss xss.length).length ≤ 48 then packTo xss xss.length else []

theorem packTo_zero (xss : List (List Int)) : packTo xss 0 = [(xss.length : Int)] := by simp [packTo]
theorem packTo_succ {xss : List (List Int)} {k : Nat} (h : k < xss.length) : packTo xss (k + 1) = packTo xss k ++ [((xss.getD k []).length : Int)] ++ xss.getD k [] := by
  unfold packTo
  rw [List.take_succ_eq_append_getElem h, List.flatMap_append]
  simp [List.getD, List.getElem?_eq_getElem h]
theorem packTo_len_succ {xss : List (List Int)} {k : Nat} (h : k < xss.length) : (packTo xss (k + 1)).length = (packTo xss k).length + 1 + (xss.getD k []).length := by
  rw [packTo_succ h]; simp; omega
theorem packTo_mono {xss : List (List Int)} {j k : Nat} (h : j ≤ k) (hk : k ≤ xss.length) : (packTo xss j).length + (k - j) ≤ (packTo xss k).length := by
  induction k with
  | zero => have : j = 0 := by omega
            subst this; simp
  | succ k ih =>
    rcases Nat.lt_or_ge j (k + 1) with h1 | h1
    · have := ih (by omega) (by omega)
      rw [packTo_len_succ (by omega)]
      omega
    · have : j = k + 1 := by omega
      subst this; simp

theorem packed_bad {xss : List (List Int)} {k : Nat} (hk : k < xss.length) (h : rowOk (xss.getD k []) = false) : packed xss = [] := by
  unfold packed
  rw [if_neg]
  rintro ⟨ha, _⟩
  rw [List.all_eq_true] at ha
  have := ha (xss.getD k []) (by simp [List.getD, List.getElem?_eq_getElem hk])
  rw [h] at this
  cases this
theorem packed_long {xss : List (List Int)} {k : Nat} (hk : k < xss.length) (h : 48 < (packTo xss k).length + 1 + (xss.getD k []).length) : packed xss = [] := by
  unfold packed
  rw [if_neg]
  rintro ⟨_, hb⟩
  have h1 := packTo_len_succ hk
  have h2 := packTo_mono (xss := xss) (j := k + 1) (k := xss.length) (by omega) (Nat.le_refl _)
  omega
theorem packed_many {xss : List (List Int)} (h : 48 ≤ xss.length) : packed xss = [] := by
  unfold packed
  rw [if_neg]
  rintro ⟨_, hb⟩
  have h2 := packTo_mono (xss := xss) (j := 0) (k := xss.length) (by omega) (Nat.le_refl _)
  rw [packTo_zero] at h2
  simp at h2
  omega

/-- The first k rows are rows. -/
def OkRows (xss : List (List Int)) (k : Nat) : Prop := ∀ j, j < k → rowOk (xss.getD j []) = true
theorem OkRows.zero (xss : List (List Int)) : OkRows xss 0 := fun j hj => absurd hj (by omega)
theorem OkRows.succ {xss : List (List Int)} {k : Nat} (h : OkRows xss k) (hk : rowOk (xss.getD k []) = true) : OkRows xss (k + 1) := by
  intro j hj
  by_cases e : j = k
  · subst e; exact hk
  · exact h j (by omega)
theorem packed_end {xss : List (List Int)} (h : OkRows xss xss.length) (hl : (packTo xss xss.length).length ≤ 48) : packed xss = packTo xss xss.length := by
  unfold packed
  rw [if_pos]
  refine ⟨?_, hl⟩
  rw [List.all_eq_true]
  intro r hr
  obtain ⟨j, hj, rfl⟩ := List.getElem_of_mem hr
  have := h j hj
  simpa [List.getD, List.getElem?_eq_getElem hj] using this

theorem packed_len (xss : List (List Int)) : (packed xss).length ≤ 48 := by
  unfold packed
  split
  · rename_i h; exact h.2
  · simp

set_option maxHeartbeats 1600000 in
theorem sPack_any (A : Option Addr) (n c : Nat) (xss : List (List Int)) (w : World) (h : SRow w w.heap.size A n xss) (ht : tot xss ≤ 1048577) :
    Calls Try.prog 37 #[.slice A n c] w (MadeRow w (packed xss)) := by
  have hl := Lib.hid h.1
  have hn : n ≤ 1048577 := by have := hl.out; unfold tot at ht; omega
  have HT := Lib.hid ht
  clear ht
  by_cases h48 : 48 ≤ n
  · have HP := Lib.hid (packed_many (xss := xss) (by rw [hl.out]; exact h48))
    clear h
    go_enter Try.func37, Try.ntmps37
    go_wp2
    go_ret
    refine ⟨_, 0, 0, rfl, ?_, (Below.refl _ _).alloc (Nat.le_refl _) _⟩
    rw [HP.out]
    exact own_empty w
  · have o0 : Own (w.alloc (.cells #[.int .i64 (n : Int)] 2)) w.heap.size (some ⟨w.heap.size, 0, none⟩) 1 1 (packTo xss 0) := by
      rw [packTo_zero, hl.out]; exact own_one w (n : Int)
    have O0 := Lib.hid o0
    clear o0
    go_enter Try.func37, Try.ntmps37
    go_wp2
    go_loopw [3, 4] (fun r i wr => ∃ (k m d : Nat) (G : Option Addr), k ≤ n ∧ i = .int .i64 (k : Int) ∧ r = .slice G m d ∧ m ≤ 48 ∧ Own wr w.heap.size G m d (packTo xss k) ∧ OkRows xss k ∧ Below w.heap.size w wr) (fun _ i _ => n - (intOf i).toNat)
    case atStart => exact ⟨0, 1, 1, _, Nat.zero_le _, rfl, rfl, by omega, O0.out, OkRows.zero _, (Below.refl _ _).alloc (Nat.le_refl _) _⟩
    case round =>
      obtain ⟨k, m, d, G, hk, rfl, rfl, hm, hown, hok, hbel⟩ := hrel
      have hlm := Lib.hid hown.len
      by_cases hlt : k < n
      · have hw := h.below hbel
        obtain ⟨b, off, rfl, hb, hc⟩ := hw.2 (by omega)
        obtain ⟨A', q, c', hcell, hrow, hmc, hcm⟩ := hc k hlt
        obtain ⟨r, hr⟩ : ∃ r, r = xss.getD k [] := ⟨_, rfl⟩
        rw [← hr] at hrow
        have hlr := Lib.hid hrow.1
        have HR := Lib.hid hr
        have hs := lensTo_succ (xss := xss) (k := k) (by have := hl.out; omega)
        have hmono := lensTo_mono (xss := xss) (j := k + 1) (k := xss.length) (by have := hl.out; omega) (Nat.le_refl _)
        have hq : q ≤ 1048577 := by
          have h1 := HT.out
          have h2 := hrow.1
          rw [hr] at h2
          unfold tot at h1
          omega
        have i0 : (0 : Int) ≤ (k : Int) := by omega
        have i1 : (k : Int) < (n : Int) := by omega
        have z := hbel.size
        clear hc hs hmono hw hr
        cases hro : rowOk r
        · have HP := Lib.hid (packed_bad (xss := xss) (k := k) (by have := hl.out; omega) (by rw [← HR.out]; exact hro))
          go_wp2_with fail
          refine (sRowOk_any A' q c' _ r _ hrow hq).mono ?_
          rintro e w' ⟨rfl, rfl⟩
          rw [hro]
          go_wp2
          go_ret
          refine ⟨_, 0, 0, rfl, ?_, hbel.alloc z _⟩
          rw [HP.out]
          exact (own_empty wr).up z
        · have HO := Lib.hid hro
          clear hro
          by_cases hfit : m + 1 + q ≤ 48
          · have HN := Lib.hid (packTo_succ (xss := xss) (k := k) (by have := hl.out; omega))
            have HK := Lib.hid (hok.succ (by rw [← HR.out]; exact HO.out))
            have ha : Below wr.heap.size wr (wr.alloc (.cells #[.int .i64 (q : Int)] 2)) := (Below.refl _ _).alloc (Nat.le_refl _) _
            have o1 := hown.below ha
            have r1 := (own_one wr (q : Int)).irow
            have f0 : ¬ (48 : Int) < (m : Int) + 1 + (q : Int) := by omega
            go_wp2_with fail
            refine (sRowOk_any A' q c' _ r _ hrow hq).mono ?_
            rintro e w' ⟨rfl, rfl⟩
            rw [HO.out]
            have hcellA : ∀ o, (wr.alloc o).cell? ⟨b, off + k, none⟩ = some (.slice A' q c') := fun o => (World.cell?_alloc_lt wr o ⟨b, off + k, none⟩ (by show b < _; omega)).trans hcell
            go_wp2_with (first
              | (at_builtin
                 refine wpList_append_ints rfl (.tmp 37) (.tmp 43) rfl rfl o1 rfl r1 (Nat.le_trans z ha.size) (by omega) ?_
                 intro G2 d2 w2 o2 g2 e2
                 have b2 := hbel.trans ((ha.mono z).grown g2 (Nat.le_trans z ha.size) (fun p hp => (o1.ge p hp).1))
                 have hcell2 : w2.cell? ⟨b, off + k, none⟩ = some (.slice A' q c') := ((((ha.mono z).grown g2 (Nat.le_trans z ha.size) (fun p hp => (o1.ge p hp).1))).cell (p := ⟨b, off + k, none⟩) hb).trans hcell
                 have r2 := hrow.below ((ha.mono z).grown g2 (Nat.le_trans z ha.size) (fun p hp => (o1.ge p hp).1)))
              | (at_builtin
                 refine wpList_append_ints rfl (.tmp 45) (.tmp 49) rfl rfl o2 rfl r2 b2.size (by omega) ?_
                 intro G3 d3 w3 o3 g3 e3))
            have b3 := b2.grown g3 b2.size (fun p hp => (o2.ge p hp).1)
            have o3' : Own w3 w.heap.size G3 (m + 1 + q) d3 (packTo xss (k + 1)) := by
              rw [HN.out, ← HR.out, hlr.out]; exact o3
            go_roundw
            case rel => exact ⟨k + 1, m + 1 + q, d3, G3, by omega, by go_num, rfl, hfit, o3', HK.out, b3⟩
            case measure => simp [intOf]; omega
          · have HP := Lib.hid (packed_long (xss := xss) (k := k) (by have := hl.out; omega) (by rw [hlm.out, ← HR.out, hlr.out]; omega))
            have f0 : (48 : Int) < (m : Int) + 1 + (q : Int) := by omega
            go_wp2_with fail
            refine (sRowOk_any A' q c' _ r _ hrow hq).mono ?_
            rintro e w' ⟨rfl, rfl⟩
            rw [HO.out]
            go_wp2
            go_ret
            refine ⟨_, 0, 0, rfl, ?_, hbel.alloc z _⟩
            rw [HP.out]
            exact (own_empty wr).up z
      · go_wp2
        go_ret
        have hkn : k = xss.length := by have := hl.out; omega
        refine ⟨G, m, d, rfl, ?_, hbel⟩
        rw [packed_end (xss := xss) (by rw [← hkn]; exact hok) (by rw [← hkn, hlm.out]; exact hm), ← hkn]
        exact hown

end Go.Proofs.Ytooahggehgkcdaa
