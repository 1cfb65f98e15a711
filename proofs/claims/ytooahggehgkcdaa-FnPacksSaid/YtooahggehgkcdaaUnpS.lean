/-
  Unpacked, of the program's model: the rows of a packed row, each in new memory, and true; else no rows and false.
-/
import Derived.Test.YtooahggehgkcdaaUnpM
namespace Go.Proofs.Ytooahggehgkcdaa
open Go.RowKit

/-- New rows and a bool are handed back; what was there is as it was. -/
def MadeRows (w : World) (r : List (List Int) × Bool) (e : Ending) (w' : World) : Prop :=
  ∃ A n c, e = .returned (.tuple #[.slice A n c, .bool r.2]) ∧ SOwn w' w.heap.size w'.heap.size A n c r.1 ∧ Below w.heap.size w w'

theorem sown_empty (w : World) (top : Nat) : SOwn (w.alloc (.cells #[] 24)) w.heap.size top (some ⟨w.heap.size, 0, none⟩) 0 0 [] := by
  have := World.ownsRow_lit (base := w.heap.size) (e := 24) (size := 1) w #[] 0 (Nat.le_refl _) (Nat.zero_le _) rfl
  exact ⟨[], by simpa using this, rfl, fun j hj => absurd hj (by omega), fun i j _ hj => absurd hj (by omega), fun j hj => absurd hj (by omega)⟩
theorem sown_nil (w : World) (base top : Nat) : SOwn w base top none 0 0 [] :=
  ⟨[], World.ownsRow_nil _ _ _ _, rfl, fun j hj => absurd hj (by omega), fun i j _ hj => absurd hj (by omega), fun j hj => absurd hj (by omega)⟩

theorem IRow.cut {w : World} {B b off n : Nat} {xs : List Int} (h : IRow w B (some ⟨b, off, none⟩) n xs) {i m : Nat} (hm : i + m ≤ n) : IRow w B (some ⟨b, off + i, none⟩) m ((xs.drop i).take m) := by
  have hl := h.1
  refine ⟨by simp; omega, fun h0 => ?_⟩
  obtain ⟨b', off', hA, hb, hc⟩ := h.2 (by omega)
  simp only [Option.some.injEq, Addr.mk.injEq, and_true] at hA
  obtain ⟨rfl, rfl⟩ := hA
  refine ⟨b, off + i, rfl, hb, fun j hj => ?_⟩
  have := hc (i + j) (by omega)
  rw [Nat.add_assoc, this]
  simp [List.getD, hj]
theorem IRow.none' {w : World} {B : Nat} {A : Option Addr} : IRow w B A 0 [] := ⟨rfl, fun h => absurd h (by omega)⟩

theorem num_cast {xs : List Int} (h : rowOk xs = true) (i : Nat) : xs.getD i 0 = (numAt xs i : Int) := by
  have := (rowOk_num h i).1
  unfold numAt
  omega

set_option maxHeartbeats 3200000 in
theorem sUnp_any (A : Option Addr) (n c : Nat) (xs : List Int) (w : World) (h : IRow w w.heap.size A n xs) (hn : n ≤ 1048577) (hcap : n ≤ c) :
    Calls Try.prog 41 #[.slice A n c] w (MadeRows w (unpacked xs)) := by
  have hl := Lib.hid h.1
  cases hr : rowOk xs
  · have HW := Lib.hid (unp_no hr)
    go_enter Try.func41, Try.ntmps41
    go_wp2_with fail
    refine (sRowOk_any A n c _ xs _ h hn).mono ?_
    rintro e w' ⟨rfl, rfl⟩
    rw [hr]
    go_wp2
    go_ret2
    refine ⟨_, 0, 0, by rw [HW.out]; rfl, ?_, (Below.refl _ _).alloc (Nat.le_refl _) _⟩
    rw [HW.out]
    exact sown_empty w _
  have HR := Lib.hid hr
  clear hr
  by_cases hn0 : n = 0
  · subst hn0
    have HW := Lib.hid (unp_nil hl.out)
    go_enter Try.func41, Try.ntmps41
    go_wp2_with fail
    refine (sRowOk_any A 0 c _ xs _ h hn).mono ?_
    rintro e w' ⟨rfl, rfl⟩
    rw [HR.out]
    go_wp2
    go_ret2
    refine ⟨_, 0, 0, by rw [HW.out]; rfl, ?_, (Below.refl _ _).alloc (Nat.le_refl _) _⟩
    rw [HW.out]
    exact sown_empty w _
  have hne : ((n : Int) == 0) = false := by simp; omega
  have n48 : n ≤ 48 := by rw [← hl.out]; exact rowOk_len HR.out
  obtain ⟨b, off, rfl, hb, hc⟩ := h.2 (by omega)
  have HC := Lib.hid (fun i (hi : i < n) => (hc i hi).trans (by rw [num_cast HR.out i]))
  clear hc
  go_enter Try.func41, Try.ntmps41
  go_wp2_with fail
  refine (sRowOk_any _ n c _ xs _ h hn).mono ?_
  rintro e w' ⟨rfl, rfl⟩
  rw [HR.out]
  go_wp2
  go_loopw [4, 5] (fun r a wr => ∃ (k d : Nat) (G : Option Addr), k ≤ numAt xs 0 ∧ r = .slice G k d ∧ a = .int .i64 (posTo xs k : Int) ∧ posTo xs k ≤ n ∧ SOwn wr w.heap.size wr.heap.size G k d (rowsTo xs k) ∧ Below w.heap.size w wr) (fun _ a _ => n - (intOf a).toNat)
  case atStart => exact ⟨0, 0, _, Nat.zero_le _, rfl, rfl, by show 1 ≤ n; omega, sown_empty w _, (Below.refl _ _).alloc (Nat.le_refl _) _⟩
  case round =>
    obtain ⟨k, d, G, hk, rfl, rfl, hp, hown, hbel⟩ := hrel
    have z := hbel.size
    have c0 : wr.cell? ⟨b, off, none⟩ = some (.int .i64 (numAt xs 0 : Int)) := (hbel.cell (p := ⟨b, off, none⟩) hb).trans (HC.out 0 (by omega))
    have np : (0 : Int) < (n : Int) := by omega
    have hkp : k + 1 ≤ posTo xs k := by have := posTo_mono (xs := xs) (j := 0) (k := k) (by omega); have h0 : posTo xs 0 = 1 := rfl; omega
    by_cases hlt : k < numAt xs 0
    · have HN := Lib.hid (show posTo xs (k + 1) = posTo xs k + 1 + numAt xs (posTo xs k) from rfl)
      have HRS := Lib.hid (rowsTo_succ xs k)
      have HCP := Lib.hid (fun (hi : posTo xs k < n) => (hbel.cell (p := ⟨b, off + posTo xs k, none⟩) hb).trans (HC.out _ hi))
      have HSH := Lib.hid (fun hs => unp_short (xs := xs) (k := k) hlt hs)
      have HIR := Lib.hid (fun (hi : posTo xs k + 1 + numAt xs (posTo xs k) ≤ n) => (h.below hbel).cut (i := posTo xs k + 1) (m := numAt xs (posTo xs k)) hi)
      have HRA := Lib.hid (show rowAt xs k = (xs.drop (posTo xs k + 1)).take (numAt xs (posTo xs k)) from rfl)
      generalize numAt xs 0 = M at *
      generalize posTo xs k = P at *
      generalize numAt xs P = X at *
      by_cases hPn : P < n
      · have cP := HCP.out hPn
        by_cases hX : P + 1 + X ≤ n
        · have f0 : ¬ ((n : Int) - (P : Int) - 1 < (X : Int)) := by omega
          clear h HC
          by_cases hcc : c = P + 1
          · obtain rfl : X = 0 := by omega
            have hcc1 : c ≤ P + 1 := by omega
            have hcc2 : P + 1 ≤ c := by omega
            clear hcc
            have hra : rowAt xs k = [] := by rw [HRA.out]; simp
            have HRA' := Lib.hid hra
            clear hra
            go_wp2_with fail
            refine (sCopy_any _ 0 _ (rowAt xs k) _ (by rw [HRA'.out]; exact IRow.none') (by omega)).mono ?_
            rintro e w1 ⟨A1, q, c1, rfl, o1, b1⟩
            obtain ⟨w2, hw2⟩ : ∃ w2, w2 = w1.alloc (.cells #[.slice A1 q c1] 24) := ⟨_, rfl⟩
            have b2 : Below w1.heap.size w1 w2 := by rw [hw2]; exact (Below.refl _ _).alloc (Nat.le_refl _) _
            have hN : w2.cell? ⟨w1.heap.size, 0, none⟩ = some (.slice A1 q c1) := by rw [hw2]; simp
            have S2 := (hown.below b1).below b2
            have O2 := (o1.up z).below b2
            have hnew : ∀ p, (Value.slice A1 q c1).ownBlock = some p → wr.heap.size ≤ p ∧ p < w1.heap.size := fun p hp => o1.ge p hp
            have z1 := b1.size
            have z2 := b2.size
            have b12 : Below wr.heap.size wr w2 := b1.trans (b2.mono z1)
            have HW2 := Lib.hid hw2
            rw [hw2] at hN S2 O2 z2 b12
            clear hw2 b2 o1 b1 hown HCP
            go_wp2_with (first
              | (at_builtin
                 refine wpList_append_row rfl (.tmp 39) (.tmp 52) rfl rfl S2 rfl hN O2 hnew z1 (by omega) (by omega) ?_
                 intro G3 d3 w3 S3 g3 ge3
                 have b3 := b12.mono z
                 have b03 := (hbel.trans b3).grown g3 (by omega) ge3
                 have cP3 : w3.cell? ⟨b, off + P, none⟩ = some (.int .i64 0) := ((b3.grown g3 (by omega) ge3).cell (p := ⟨b, off + P, none⟩) hb).trans cP
                 have z3 := g3.size))
            have S4 : SOwn w3 w.heap.size w3.heap.size G3 (k + 1) d3 (rowsTo xs (k + 1)) := by
              rw [HRS.out]; exact S3.top_up (by omega)
            go_roundw
            case rel => exact ⟨k + 1, d3, G3, by omega, rfl, by rw [HN.out]; go_num, by rw [HN.out]; exact hX, S4, b03⟩
            case measure => simp [intOf]; omega
          · go_wp2_with fail
            refine (sCopy_any _ X _ (rowAt xs k) _ (by rw [HRA.out]; exact (HIR.out hX).up z) (by omega)).mono ?_
            rintro e w1 ⟨A1, q, c1, rfl, o1, b1⟩
            obtain ⟨w2, hw2⟩ : ∃ w2, w2 = w1.alloc (.cells #[.slice A1 q c1] 24) := ⟨_, rfl⟩
            have b2 : Below w1.heap.size w1 w2 := by rw [hw2]; exact (Below.refl _ _).alloc (Nat.le_refl _) _
            have hN : w2.cell? ⟨w1.heap.size, 0, none⟩ = some (.slice A1 q c1) := by rw [hw2]; simp
            have S2 := (hown.below b1).below b2
            have O2 := (o1.up z).below b2
            have hnew : ∀ p, (Value.slice A1 q c1).ownBlock = some p → wr.heap.size ≤ p ∧ p < w1.heap.size := fun p hp => o1.ge p hp
            have z1 := b1.size
            have z2 := b2.size
            have b12 : Below wr.heap.size wr w2 := b1.trans (b2.mono z1)
            have HW2 := Lib.hid hw2
            rw [hw2] at hN S2 O2 z2 b12
            clear hw2 b2 o1 b1 hown HCP
            go_wp2_with (first
              | (at_builtin
                 refine wpList_append_row rfl (.tmp 39) (.tmp 52) rfl rfl S2 rfl hN O2 hnew z1 (by omega) (by omega) ?_
                 intro G3 d3 w3 S3 g3 ge3
                 have b3 := b12.mono z
                 have b03 := (hbel.trans b3).grown g3 (by omega) ge3
                 have cP3 : w3.cell? ⟨b, off + P, none⟩ = some (.int .i64 (X : Int)) := ((b3.grown g3 (by omega) ge3).cell (p := ⟨b, off + P, none⟩) hb).trans cP
                 have z3 := g3.size))
            have S4 : SOwn w3 w.heap.size w3.heap.size G3 (k + 1) d3 (rowsTo xs (k + 1)) := by
              rw [HRS.out]; exact S3.top_up (by omega)
            go_roundw
            case rel => exact ⟨k + 1, d3, G3, by omega, rfl, by rw [HN.out]; go_num, by rw [HN.out]; exact hX, S4, b03⟩
            case measure => simp [intOf]; omega
        · have f0 : (n : Int) - (P : Int) - 1 < (X : Int) := by omega
          have HU := Lib.hid (HSH.out (by rw [HN.out, hl.out]; omega))
          clear h HC
          go_wp2
          go_ret2
          refine ⟨_, 0, 0, by rw [HU.out]; rfl, ?_, hbel.alloc z _⟩
          rw [HU.out]
          exact (sown_empty wr _).up z
      · have HU := Lib.hid (HSH.out (by rw [HN.out, hl.out]; omega))
        have f0 : (n : Int) ≤ (P : Int) := by omega
        clear h HC
        go_wp2
        go_ret2
        refine ⟨_, 0, 0, by rw [HU.out]; rfl, ?_, hbel.alloc z _⟩
        rw [HU.out]
        exact (sown_empty wr _).up z
    · obtain rfl : k = numAt xs 0 := by omega
      by_cases he : posTo xs (numAt xs 0) = xs.length
      · have HU := Lib.hid (unp_yes HR.out (by rw [hl.out]; omega) he)
        have he' : posTo xs (numAt xs 0) = n := by rw [he, hl.out]
        have HS := Lib.hid hown
        rw [he']
        clear h HC he he' hown
        generalize numAt xs 0 = M at *
        go_wp2
        go_ret2
        refine ⟨G, M, d, by rw [HU.out]; rfl, ?_, hbel⟩
        rw [HU.out]
        exact HS.out
      · have HU := Lib.hid (unp_rest he)
        have hne2 : ((posTo xs (numAt xs 0) : Int) != (n : Int)) = true := by
          rw [bne_iff_ne]
          intro e
          exact he (by rw [hl.out]; omega)
        clear h HC he hown
        generalize posTo xs (numAt xs 0) = P at *
        generalize numAt xs 0 = M at *
        go_wp2
        go_ret2
        refine ⟨_, 0, 0, by rw [HU.out]; rfl, ?_, hbel.alloc z _⟩
        rw [HU.out]
        exact (sown_empty wr _).up z

end Go.Proofs.Ytooahggehgkcdaa
