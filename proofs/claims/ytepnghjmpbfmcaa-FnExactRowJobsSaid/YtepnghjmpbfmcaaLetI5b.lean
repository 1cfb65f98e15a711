/-
  Chapter 11: entries read from a row, of the program (by program, wip/gen/genleti5.py).
-/
import Derived.Test.YtepnghjmpbfmcaaLetI5a
import Derived.RegionTactic
import Derived.BigQuiet
import Derived.Laws.EntriesVeiled
namespace Go.Proofs.Ytepnghjmpbfmcaa
set_option maxRecDepth 100000
open Go.RowKit

set_option linter.unusedVariables false
set_option maxHeartbeats 12800000 in
theorem iEntsFrom_any (A : Option Addr) (n cc B k : Nat) (d : List Int) (w : World) (h : IRow w B A n d) (hB : B ≤ w.heap.size) (hk : n = 9 * k) (hk5 : k ≤ 24) (hnc : n ≤ cc) (hcm : cc ≤ maxLen) :
    Calls Try.prog 68 #[.slice A n cc] w (MadeEntryS w (entsFrom d k)) := by
  unfold maxLen at hcm
  obtain ⟨fp0, S0⟩ := (Sep.nil w w.heap.size).has (Below.refl _ _) (has_nil_entsL w w.heap.size) (Nat.le_refl _)
  have c0 := Below.refl w.heap.size w
  go_enter Try.func68, Try.ntmps68
  go_wp2
  go_loopw [0, 3] (fun rv u wr => ∃ (j r nn cn : Nat) (A' G : Option Addr) (m gc : Nat) (fp : List Nat), j + r = k ∧ rv = .slice A' nn cn ∧ nn = 9 * r ∧ nn ≤ cn ∧ cn ≤ cc ∧ IRow w B A' nn (d.drop (9 * j)) ∧ u = .slice G m gc ∧ m = j ∧ Sep wr w.heap.size [.own [entD (entsFrom d j)] [.slice G m gc] fp] ∧ Below w.heap.size w wr) (fun rv _ _ => lenV rv)
  case atStart => exact ⟨0, k, _, _, _, _, _, _, _, by omega, rfl, hk, hnc, Nat.le_refl _, h, rfl, rfl, S0, c0⟩
  case round =>
    obtain ⟨j, r, nn, cn, A', G, m, gc, fp, hjr, rfl, hnn, hncn, hccn, hir, rfl, hm, S, c⟩ := hrel
    clear S0 c0 h hk hnc
    by_cases hr : r = 0
    case pos =>
      have g1 : decide ((9 : Int) ≤ (nn : Int)) = false := decide_eq_false (by omega)
      have e9 : j = k := by omega
      have H := Lib.hid S.first
      have CC := Lib.hid c
      have G1 : decide ((nn : Int) ≥ 9) = false := decide_eq_false (by omega)
      have G2 : decide (9 ≤ (nn : Int)) = false := decide_eq_false (by omega)
      have G3 : decide (9 ≤ nn) = false := decide_eq_false (by omega)
      have HJ := Lib.hid e9
      clear S c hir hjr hnn hr e9 g1
      go_wp2
      go_ret
      exact ⟨_, _, _, rfl, by rw [← HJ.out]; exact H.out, CC.out⟩
    case neg =>
      have G1 : decide ((nn : Int) ≥ 9) = true := decide_eq_true (by omega)
      have G2 : decide (9 ≤ (nn : Int)) = true := decide_eq_true (by omega)
      have G3 : decide (9 ≤ nn) = true := decide_eq_true (by omega)
      have hmk : m ≤ 24 := by omega
      have HM := Lib.hid hm
      clear hm
      obtain ⟨b, off, rfl, hb, hc⟩ := hir.2 (by omega)
      obtain ⟨x0, x1, x2, x3, x4, x5, x6, x7, x8, hx⟩ : ∃ x0 x1 x2 x3 x4 x5 x6 x7 x8 : Int, ofEnt (d.drop (9 * j)) = ⟨x0, x1, x2, x3, x4, x5, x6, x7, x8⟩ := ⟨_, _, _, _, _, _, _, _, _, rfl⟩
      have HX := Lib.hid hx
      have hx9 : ofEnt ((d.drop (9 * j)).take 9) = ⟨x0, x1, x2, x3, x4, x5, x6, x7, x8⟩ := by rw [← hx]; unfold ofEnt; simp [List.getD]
      have HX9 := Lib.hid hx9
      have HT := Lib.hid (hir.takeL (m := 9) (by omega))
      have hc9 : (9 : Int) ≤ (cn : Int) := by omega
      have hc9n : 9 ≤ cn := by omega
      have hn9 : (9 : Int) ≤ (nn : Int) := by omega
      have HI := Lib.hid hir
      have HNN := Lib.hid hnn
      clear hir hx hx9 hc hnn
      have HN := Lib.hid (show entsFrom d (j + 1) = entsFrom d j ++ [⟨x0, x1, x2, x3, x4, x5, x6, x7, x8⟩] by rw [entsFrom_succ, HX.out])
      go_wp2_with fail
      refine (iEntryOf_any b off cn B _ x0 x1 x2 x3 x4 x5 x6 x7 x8 HX9.out _ (HT.out.below (c.mono hB)) (Nat.le_trans hB c.size) hc9n).mono ?_
      rintro e w1 ⟨rfl, b1⟩
      replace c := c.trans (b1.mono c.size)
      replace S := S.keep b1
      clear b1
      replace S := S.boxAt c.size (w1.heap.size) rfl #[.int .i64 x0, .int .i64 x1, .int .i64 x2, .int .i64 x3, .int .i64 x4, .int .i64 x5, .int .i64 x6, .int .i64 x7, .int .i64 x8] 83
      replace c := c.alloc c.size (.cells #[.int .i64 x0, .int .i64 x1, .int .i64 x2, .int .i64 x3, .int .i64 x4, .int .i64 x5, .int .i64 x6, .int .i64 x7, .int .i64 x8] 83)
      have HC : ∀ i, i < 9 → (w1.alloc (.cells #[.int .i64 x0, .int .i64 x1, .int .i64 x2, .int .i64 x3, .int .i64 x4, .int .i64 x5, .int .i64 x6, .int .i64 x7, .int .i64 x8] 83)).cell? ⟨w1.heap.size, i, none⟩ = [Value.int .i64 x0, Value.int .i64 x1, Value.int .i64 x2, Value.int .i64 x3, Value.int .i64 x4, Value.int .i64 x5, Value.int .i64 x6, Value.int .i64 x7, Value.int .i64 x8][i]? := fun i hi => by
        have h1 := (S.at_ 0 rfl).cell i
        rw [h1]
        simp
      replace S := (S.tail).own0 (ds := entC ⟨x0, x1, x2, x3, x4, x5, x6, x7, x8⟩) (vs := [.int .i64 x0, .int .i64 x1, .int .i64 x2, .int .i64 x3, .int .i64 x4, .int .i64 x5, .int .i64 x6, .int .i64 x7, .int .i64 x8]) (.int (.int (.int (.int (.int (.int (.int (.int (.int (.nil))))))))))
      replace S := S.swap
      have hgc := Lib.hid c
      by_cases hcn : cn = 9
      case pos =>
        have e9 : nn = 9 := by have := HNN.out; omega
        have hr1 : r = 1 := by have := HNN.out; omega
        have HE := Lib.hid (show ∀ Z : Option Addr, IRow w B Z (nn - 9) (d.drop (9 * (j + 1))) from fun Z => by
          have e7 : nn - 9 = 0 := by have := HNN.out; omega
          rw [e7]
          exact IRow.emptyL (by have h7 := HI.out.1; have h8 := HNN.out; rw [List.length_drop] at h7 ⊢; omega))
        have HE0 := Lib.hid (show ∀ Z : Option Addr, IRow w B Z 0 (d.drop (9 * (j + 1))) from fun Z => by have h9 := HE.out Z; rwa [e9] at h9)
        go_wp2_with (first
          | (at_builtin
             refine wpList_append_elem (l := entsFrom d j) (y := (⟨x0, x1, x2, x3, x4, x5, x6, x7, x8⟩ : EntM)) rfl (.tmp 7) (.tmp 11) (by rfl) Try.underlying54 infoEntry (by rfl) (by decide) entC_len (by rfl) (S.own_ 0 rfl) (S.nodup_own 0 rfl) (by rfl) HC (S.own_ 1 rfl) (S.nodup_own 1 rfl) S.apart (by omega) (by omega) ?_
             intro A3 c3 w3 fp3 o3 n3 s3 t3))
        have S3 := Lib.hid (S.merge t3 o3 n3 s3 hgc.out.size)
        have C3 := Lib.hid (hgc.out.trans (S.below 0 rfl t3 hgc.out.size))
        clear S c o3 n3 s3 t3 HC hgc
        go_wp2
        go_roundw
        case rel => exact ⟨j + 1, r - 1, 0, 0, _, A3, m + 1, c3, fp3, by omega, rfl, by have := HNN.out; omega, by have := HNN.out; omega, by have := HNN.out; omega, HE0.out _, rfl, by have := HM.out; omega, by rw [HN.out]; exact S3.out, C3.out⟩
        case measure => (have := HNN.out; simp [lenV] <;> omega)
      case neg =>
        by_cases hr1 : r = 1
        case pos =>
          have HE := Lib.hid (show ∀ Z : Option Addr, IRow w B Z (nn - 9) (d.drop (9 * (j + 1))) from fun Z => by
            have e7 : nn - 9 = 0 := by have := HNN.out; omega
            rw [e7]
            exact IRow.emptyL (by have h7 := HI.out.1; have h8 := HNN.out; rw [List.length_drop] at h7 ⊢; omega))
          go_wp2_with (first
            | (at_builtin
               refine wpList_append_elem (l := entsFrom d j) (y := (⟨x0, x1, x2, x3, x4, x5, x6, x7, x8⟩ : EntM)) rfl (.tmp 7) (.tmp 11) (by rfl) Try.underlying54 infoEntry (by rfl) (by decide) entC_len (by rfl) (S.own_ 0 rfl) (S.nodup_own 0 rfl) (by rfl) HC (S.own_ 1 rfl) (S.nodup_own 1 rfl) S.apart (by omega) (by omega) ?_
               intro A3 c3 w3 fp3 o3 n3 s3 t3))
          have S3 := Lib.hid (S.merge t3 o3 n3 s3 hgc.out.size)
          have C3 := Lib.hid (hgc.out.trans (S.below 0 rfl t3 hgc.out.size))
          clear S c o3 n3 s3 t3 HC hgc
          go_wp2
          go_roundw
          case rel => exact ⟨j + 1, r - 1, nn - 9, cn - 9, _, A3, m + 1, c3, fp3, by omega, rfl, by have := HNN.out; omega, by have := HNN.out; omega, by have := HNN.out; omega, HE.out _, rfl, by have := HM.out; omega, by rw [HN.out]; exact S3.out, C3.out⟩
          case measure => (have := HNN.out; simp [lenV] <;> omega)
        case neg =>
          have HD := Lib.hid (show IRow w B (some ⟨b, off + 9, none⟩) (nn - 9) (d.drop (9 * (j + 1))) by
            have e8 : 9 * (j + 1) = 9 * j + 9 := by omega
            rw [e8, ← List.drop_drop]
            exact HI.out.dropL (m := 9) (by have := HNN.out; omega))
          go_wp2_with (first
            | (at_builtin
               refine wpList_append_elem (l := entsFrom d j) (y := (⟨x0, x1, x2, x3, x4, x5, x6, x7, x8⟩ : EntM)) rfl (.tmp 7) (.tmp 11) (by rfl) Try.underlying54 infoEntry (by rfl) (by decide) entC_len (by rfl) (S.own_ 0 rfl) (S.nodup_own 0 rfl) (by rfl) HC (S.own_ 1 rfl) (S.nodup_own 1 rfl) S.apart (by omega) (by omega) ?_
               intro A3 c3 w3 fp3 o3 n3 s3 t3))
          have S3 := Lib.hid (S.merge t3 o3 n3 s3 hgc.out.size)
          have C3 := Lib.hid (hgc.out.trans (S.below 0 rfl t3 hgc.out.size))
          clear S c o3 n3 s3 t3 HC hgc
          go_wp2
          go_roundw
          case rel => exact ⟨j + 1, r - 1, nn - 9, cn - 9, _, A3, m + 1, c3, fp3, by omega, rfl, by have := HNN.out; omega, by have := HNN.out; omega, by have := HNN.out; omega, HD.out, rfl, by have := HM.out; omega, by rw [HN.out]; exact S3.out, C3.out⟩
          case measure => (have := HNN.out; simp [lenV] <;> omega)

end Go.Proofs.Ytepnghjmpbfmcaa
