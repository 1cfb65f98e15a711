/-
  Unpacked, of the program: the whole function answers as the mathematics of unpacking says.
-/
import Derived.Test.YtooahggehgkcdaaUnpI
namespace Go.Proofs.Ytooahggehgkcdaa
open Go.RowKit

set_option maxHeartbeats 3200000 in
theorem iUnp_any (A : Option Addr) (n c : Nat) (xs : List Int) (w : World) (h : IRow w w.heap.size A n xs) (hn : n ≤ 1048577) (hcap : n ≤ c) :
    Calls Try.prog 22 #[.slice A n c] w (MadeRows w (unpacked xs)) := by
  have hl := Lib.hid h.1
  cases hr : rowOk xs
  · have HW := Lib.hid (unp_no hr)
    go_enter Try.func22, Try.ntmps22
    go_wp2_with fail
    refine (iRowOk_any A n c _ xs _ h hn).mono ?_
    rintro e w' ⟨rfl, rfl⟩
    rw [hr]
    go_wp2
    go_ret2
    refine ⟨_, 0, 0, by rw [HW.out]; rfl, ?_, Below.refl _ _⟩
    rw [HW.out]
    exact sown_nil _ _ _
  have HR := Lib.hid hr
  clear hr
  have t0 : TakeCur (w.alloc (.cells #[.slice A n c, .int .i64 0] 58)) w.heap.size A n c 0 := heap_alloc_new w _
  have b0 : Below w.heap.size w (w.alloc (.cells #[.slice A n c, .int .i64 0] 58)) := (Below.refl _ _).alloc (Nat.le_refl _) _
  by_cases hn0 : n = 0
  · subst hn0
    have HW := Lib.hid (unp_nil hl.out)
    go_enter Try.func22, Try.ntmps22
    go_wp2_with fail
    refine (iRowOk_any A 0 c _ xs _ h hn).mono ?_
    rintro e w' ⟨rfl, rfl⟩
    rw [HR.out]
    go_wp2_with fail
    refine (takeLength_end _ _ A 0 c t0 hn).mono ?_
    rintro e w1 ⟨rfl, d1⟩
    go_wp2
    go_ret2
    refine ⟨_, 0, 0, by rw [HW.out]; rfl, ?_, b0.trans (d1.below _)⟩
    rw [HW.out]
    exact sown_nil _ _ _
  have n48 : n ≤ 48 := by rw [← hl.out]; exact rowOk_len HR.out
  obtain ⟨b, off, rfl, hb, _⟩ := h.2 (by omega)
  have hnc := Lib.hid (num_cast HR.out)
  go_enter Try.func22, Try.ntmps22
  go_wp2_with fail
  refine (iRowOk_any _ n c _ xs _ h hn).mono ?_
  rintro e w' ⟨rfl, rfl⟩
  rw [HR.out]
  go_wp2_with fail
  refine (takeLength_yes _ _ _ _ n c 0 xs t0 (h.below b0) hn (by omega)).mono ?_
  rintro e w1 ⟨rfl, t1, g1⟩
  rw [hnc.out 0]
  have b1 := b0.grown g1 b0.size (fun k hk => by injection hk with hk; omega)
  have z1 : w.heap.size < w1.heap.size := blk_lt t1
  have T1 := Lib.hid (t1.kept (World.grownBy_alloc w1 (.cells #[] 24) none) (fun k hk => by cases hk))
  have B1 := Lib.hid (b1.alloc (Nat.le_of_lt z1) (.cells #[] 24))
  have S1 := Lib.hid ((sown_empty w1 (w1.alloc (.cells #[] 24)).heap.size).up (base' := w.heap.size + 1) z1)
  have m48 : numAt xs 0 ≤ 1000000000 := by have := (rowOk_num HR.out 0).2; unfold numAt; omega
  clear t0 b0 t1 g1 b1
  go_wp2
  go_loopw [7, 25] (fun r i wr => ∃ (k d : Nat) (G : Option Addr), k ≤ numAt xs 0 ∧ r = .slice G k d ∧ i = .int .i64 (k : Int) ∧ posTo xs k ≤ n ∧ TakeCur wr w.heap.size (some ⟨b, off, none⟩) n c (posTo xs k) ∧ SOwn wr (w.heap.size + 1) wr.heap.size G k d (rowsTo xs k) ∧ Below w.heap.size w wr) (fun _ i _ => numAt xs 0 - (intOf i).toNat)
  case atStart => exact ⟨0, 0, _, Nat.zero_le _, rfl, rfl, by show 1 ≤ n; omega, T1.out, S1.out, B1.out⟩
  case round =>
    obtain ⟨k, d, G, hk, rfl, rfl, hp, htk, hown, hbel⟩ := hrel
    clear T1 S1 B1
    have z : w.heap.size < wr.heap.size := blk_lt htk
    have hr := h.below hbel
    have hkp : k + 1 ≤ posTo xs k := by have := posTo_mono (xs := xs) (j := 0) (k := k) (by omega); have h0 : posTo xs 0 = 1 := rfl; omega
    by_cases hlt : k < numAt xs 0
    · by_cases hfit : posTo xs k + 1 + numAt xs (posTo xs k) ≤ n
      · have HN := Lib.hid (show posTo xs (k + 1) = posTo xs k + 1 + numAt xs (posTo xs k) from rfl)
        have HRS := Lib.hid (rowsTo_succ xs k)
        have htr := takeRow_yes wr w.heap.size w.heap.size b off n c (posTo xs k) xs htk hr (Nat.le_refl _) hn hcap (hnc.out _) hfit
        rw [show (xs.drop (posTo xs k + 1)).take (numAt xs (posTo xs k)) = rowAt xs k from rfl] at htr
        have HTR := Lib.hid htr
        have HF := Lib.hid hfit
        clear htr h hr htk hfit
        generalize numAt xs 0 = M at *
        go_wp2_with fail
        refine HTR.out.mono ?_
        rintro e w1 ⟨A1, q, c1, rfl, o1, t1, g1⟩
        have zz := g1.size
        have s1 := hown.kept g1 (fun p hp => by injection hp with hp; omega)
        obtain ⟨w2, hw2⟩ : ∃ w2, w2 = w1.alloc (.cells #[.slice A1 q c1] 24) := ⟨_, rfl⟩
        have b2 : Below w1.heap.size w1 w2 := by rw [hw2]; exact (Below.refl _ _).alloc (Nat.le_refl _) _
        have hN : w2.cell? ⟨w1.heap.size, 0, none⟩ = some (.slice A1 q c1) := by rw [hw2]; simp
        have S2 := s1.below b2
        have O2 := (o1.up (base' := w.heap.size + 1) z).below b2
        have hnew : ∀ p, (Value.slice A1 q c1).ownBlock = some p → wr.heap.size ≤ p ∧ p < w1.heap.size := fun p hp => o1.ge p hp
        have g12 : wr.grownBy w2 (some w.heap.size) := g1.trans (below_grownBy b2 _)
        have t2 := t1.kept (below_grownBy b2 none) (fun p hp => by cases hp)
        have z2 := b2.size
        have T2 := Lib.hid t2
        have G12 := Lib.hid g12
        rw [hw2] at hN S2 O2 z2 T2 G12
        clear hw2 b2 o1 g1 t1 hown s1 t2 g12 HTR
        go_wp2_with (first
          | (at_builtin
             refine wpList_append_row rfl (.tmp 34) (.tmp 36) rfl rfl S2 rfl hN O2 hnew zz (by omega) (by omega) ?_
             intro G3 d3 w3 S3 g3 ge3
             have T3 := Lib.hid (T2.out.kept g3 (fun p hp => by have := ge3 p hp; omega))
             have B3 := Lib.hid ((hbel.grown G12.out hbel.size (fun p hp => by injection hp with hp; omega)).grown g3 (by omega) (fun p hp => by have := ge3 p hp; omega))
             have z3 := g3.size))
        have S4 : SOwn w3 (w.heap.size + 1) w3.heap.size G3 (k + 1) d3 (rowsTo xs (k + 1)) := by
          rw [HRS.out]; exact S3.top_up (by omega)
        have T4 : TakeCur w3 w.heap.size (some ⟨b, off, none⟩) n c (posTo xs (k + 1)) := by
          rw [HN.out]; exact T3.out
        go_roundw
        case rel => exact ⟨k + 1, d3, G3, by omega, rfl, by go_num, by rw [HN.out]; exact HF.out, T4, S4, B3.out⟩
        case measure => simp [intOf]; omega
      · have HU := Lib.hid (unp_short (xs := xs) (k := k) hlt (by show _ < posTo xs k + 1 + _; rw [hl.out]; omega))
        have HTR := Lib.hid (takeRow_no wr w.heap.size (some ⟨b, off, none⟩) n c (posTo xs k) xs htk (hr.up (Nat.le_of_lt z)) hn hp (hnc.out _) (by omega))
        clear h hr htk hown
        generalize numAt xs 0 = M at *
        go_wp2_with fail
        refine HTR.out.mono ?_
        rintro e w1 ⟨rfl, g1⟩
        go_wp2
        go_ret2
        refine ⟨_, 0, 0, by rw [HU.out]; rfl, ?_, hbel.grown g1 hbel.size (fun p hp => by injection hp with hp; omega)⟩
        rw [HU.out]
        exact sown_nil _ _ _
    · obtain rfl : k = numAt xs 0 := by omega
      have HL := Lib.hid (left_any wr w.heap.size (some ⟨b, off, none⟩) n c (posTo xs (numAt xs 0)) htk hn hp)
      by_cases he : posTo xs (numAt xs 0) = xs.length
      · have HU := Lib.hid (unp_yes HR.out (by rw [hl.out]; omega) he)
        have he' : posTo xs (numAt xs 0) = n := by rw [he, hl.out]
        have HS := Lib.hid hown
        have HE := Lib.hid he'
        clear h he he' hown hr htk
        generalize posTo xs (numAt xs 0) = P at *
        generalize numAt xs 0 = M at *
        go_wp2_with fail
        refine HL.out.mono ?_
        rintro e w1 ⟨rfl, d1⟩
        rw [HE.out, Int.sub_self]
        go_wp2
        go_ret2
        refine ⟨G, M, d, by rw [HU.out]; rfl, ?_, hbel.trans (d1.below _)⟩
        rw [HU.out]
        exact ((HS.out.drew d1).up (by omega)).top_up (d1.below wr.heap.size).size
      · have HU := Lib.hid (unp_rest he)
        have hne2 : (((n : Int) - (posTo xs (numAt xs 0) : Int)) != 0) = true := by
          rw [bne_iff_ne]
          intro e
          exact he (by rw [hl.out]; omega)
        clear h he hown hr htk
        generalize posTo xs (numAt xs 0) = P at *
        generalize numAt xs 0 = M at *
        go_wp2_with fail
        refine HL.out.mono ?_
        rintro e w1 ⟨rfl, d1⟩
        go_wp2
        go_ret2
        refine ⟨_, 0, 0, by rw [HU.out]; rfl, ?_, hbel.trans (d1.below _)⟩
        rw [HU.out]
        exact sown_nil _ _ _

end Go.Proofs.Ytooahggehgkcdaa
