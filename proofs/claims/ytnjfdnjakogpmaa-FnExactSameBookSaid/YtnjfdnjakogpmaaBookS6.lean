/-
  Chapter 8: a part of a book, of the model (by program, wip/gen/genbooks6.py).
-/
import Derived.Test.YtnjfdnjakogpmaaBookS3
import Derived.RegionTactic
import Derived.BigQuiet
import Derived.Laws.EntriesVeiled
namespace Go.Proofs.Ytnjfdnjakogpmaa
set_option maxRecDepth 100000
open Go.RowKit

set_option maxHeartbeats 12800000 in
theorem sPart_any (x0 x1 : Int) (A : Option Addr) (n cc B : Nat) (l : List EntM) (x k : Int) (w : World) (h : Rd w B [entD l] [.slice A n cc]) (hB : B ≤ w.heap.size) (hs : entSz l ≤ 1048577) :
    Calls Try.prog 40 #[.agg #[.int .i64 x0, .int .i64 x1, .slice A n cc], .int .i64 x, .int .i64 k] w (MadeEntryS w (partM ⟨x0, x1, l⟩ x k)) := by
  have HH := Lib.hid h
  obtain ⟨_, _, _, e, hl, _, hcm, hel⟩ := h.ents
  injection e with e1 e2 e3
  subst e1 e2 e3
  have hn : n ≤ 1048577 := by unfold entSz at hs; omega
  have HL := Lib.hid hl
  clear h
  have S := Sep.nil w w.heap.size
  have c := Below.refl w.heap.size w
  replace S := S.boxAt c.size (w.heap.size) rfl #[.int .i64 x0, .int .i64 x1, .slice A n cc] 29
  replace c := c.alloc c.size (.cells #[.int .i64 x0, .int .i64 x1, .slice A n cc] 29)
  replace S := S.boxAt c.size (w.heap.size + 1) (by simp) #[] 37
  replace c := c.alloc c.size (.cells #[] 37)
  replace S := S.blk0 (k := 9) (f := entC)
  go_enter Try.func40, Try.ntmps40
  have f0 : ((w.alloc (.cells #[.int .i64 x0, .int .i64 x1, .slice A n cc] 29)).alloc (.cells #[] 37)).cell? ⟨w.heap.size, 0, none⟩ = some (.int .i64 x0) := (S.at_ 1 rfl).cell 0
  have f1 : ((w.alloc (.cells #[.int .i64 x0, .int .i64 x1, .slice A n cc] 29)).alloc (.cells #[] 37)).cell? ⟨w.heap.size, 1, none⟩ = some (.int .i64 x1) := (S.at_ 1 rfl).cell 1
  have f2 : ((w.alloc (.cells #[.int .i64 x0, .int .i64 x1, .slice A n cc] 29)).alloc (.cells #[] 37)).cell? ⟨w.heap.size, 2, none⟩ = some (.slice A n cc) := (S.at_ 1 rfl).cell 2
  go_wp2_with fail
  generalize (w.alloc (.cells #[.int .i64 x0, .int .i64 x1, .slice A n cc] 29)).alloc (.cells #[] 37) = w1 at *
  refine (sBookOk_any x0 x1 A n cc B l _ (HH.out.keep (c.mono hB)) (Nat.le_trans hB c.size) hs).mono ?_
  rintro e w2 ⟨rfl, b2⟩
  replace c := c.trans (b2.mono c.size)
  replace S := S.keep b2
  clear b2 f0 f1 f2
  have S0 := Lib.hid S
  have B0 := Lib.hid c
  clear S c
  cases hok : bookB ⟨x0, x1, l⟩
  case false =>
    have HD := Lib.hid (show partM ⟨x0, x1, l⟩ x k = [] by unfold partM; rw [hok]; rfl)
    have H := Lib.hid S0.out.first
    clear hok hel hcm hl
    go_wp2
    go_ret
    exact ⟨_, _, _, rfl, by rw [HD.out]; exact H.out, B0.out⟩
  case true =>
    have HE := Lib.hid (fun h9 => part_end (b := ⟨x0, x1, l⟩) hok (x := x) (m := k) h9)
    have HF := Lib.hid (fun j h9 => part_full (b := ⟨x0, x1, l⟩) hok (x := x) (m := k) (j := j) h9)
    clear hok hcm hl
    go_wp2
    go_loopw [7, 8] (fun u i wr => ∃ (j : Nat) (G : Option Addr) (m gc : Nat) (fp : List Nat), j ≤ n ∧ i = .int .i64 (j : Int) ∧ u = .slice G m gc ∧ m ≤ j ∧ m ≤ k.toNat ∧ Sep wr w.heap.size [.own [entD (partN l x j)] [.slice G m gc] fp, .blk w.heap.size #[.int .i64 x0, .int .i64 x1, .slice A n cc] 29] ∧ Below w.heap.size w wr) (fun _ i _ => n - (intOf i).toNat)
    case atStart => exact ⟨0, _, _, _, _, Nat.zero_le _, rfl, rfl, Nat.le_refl _, Nat.zero_le _, S0.out, B0.out⟩
    case round =>
      obtain ⟨j, G, m, gc, fp, hj, rfl, rfl, hm, hmk, S, c⟩ := hrel
      clear S0 B0
      have HLM := Lib.hid (show (partN l x j).length = m by
        obtain ⟨_, _, _, e, h9, _⟩ := (S.own_ 0 rfl).rd.ents
        injection e with e1 e2 e3
        subst e1 e2 e3
        exact h9)
      by_cases hlt : j < n
      case neg =>
        obtain rfl : j = n := by omega
        have f0 : wr.cell? ⟨w.heap.size, 0, none⟩ = some (.int .i64 x0) := (S.at_ 1 rfl).cell 0
        have f1 : wr.cell? ⟨w.heap.size, 1, none⟩ = some (.int .i64 x1) := (S.at_ 1 rfl).cell 1
        have f2 : wr.cell? ⟨w.heap.size, 2, none⟩ = some (.slice A j cc) := (S.at_ 1 rfl).cell 2
        have hj0 : decide ((j : Int) < (j : Int)) = false := decide_eq_false (by omega)
        have e := HE.out (by rw [HL.out, HLM.out]; exact hmk)
        rw [show (partN l x j) = partM ⟨x0, x1, l⟩ x k by rw [e]; show _ = partN l x l.length; rw [HL.out]] at S
        have H := Lib.hid S.first
        have C := Lib.hid c
        clear hel S c e
        go_wp2
        go_ret
        exact ⟨_, _, _, rfl, H.out, C.out⟩
      case pos =>
        have c1 : (j : Int) < (n : Int) := by omega
        by_cases hmx : (m : Int) < k
        case neg =>
          have d2 : decide ((m : Int) < k) = false := decide_eq_false hmx
          have f0 : wr.cell? ⟨w.heap.size, 0, none⟩ = some (.int .i64 x0) := (S.at_ 1 rfl).cell 0
          have f1 : wr.cell? ⟨w.heap.size, 1, none⟩ = some (.int .i64 x1) := (S.at_ 1 rfl).cell 1
          have f2 : wr.cell? ⟨w.heap.size, 2, none⟩ = some (.slice A n cc) := (S.at_ 1 rfl).cell 2
          have e := HF.out j (by rw [HLM.out]; omega)
          rw [show (partN l x j) = partM ⟨x0, x1, l⟩ x k from e.symm] at S
          have H := Lib.hid S.first
          have C := Lib.hid c
          clear hel S c e
          go_wp2
          go_ret
          exact ⟨_, _, _, rfl, H.out, C.out⟩
        case pos =>
          have d2 : decide ((m : Int) < k) = true := decide_eq_true hmx
          obtain ⟨b, off, rfl, hb, hc⟩ := hel (by omega)
          have hjl : j < l.length := by have := HL.out; omega
          obtain ⟨hc0, hc1, hc2, hc3, hc4, hc5, hc6, hc7, hc8⟩ := hc j hjl
          have cs0 := (c.cell (p := ⟨b, off + j * 9, none⟩) (show b < _ by omega)).trans hc0
          have cs1 := (c.cell (p := ⟨b, off + j * 9 + 1, none⟩) (show b < _ by omega)).trans hc1
          have cs2 := (c.cell (p := ⟨b, off + j * 9 + 2, none⟩) (show b < _ by omega)).trans hc2
          have cs3 := (c.cell (p := ⟨b, off + j * 9 + 3, none⟩) (show b < _ by omega)).trans hc3
          have cs4 := (c.cell (p := ⟨b, off + j * 9 + 4, none⟩) (show b < _ by omega)).trans hc4
          have cs5 := (c.cell (p := ⟨b, off + j * 9 + 5, none⟩) (show b < _ by omega)).trans hc5
          have cs6 := (c.cell (p := ⟨b, off + j * 9 + 6, none⟩) (show b < _ by omega)).trans hc6
          have cs7 := (c.cell (p := ⟨b, off + j * 9 + 7, none⟩) (show b < _ by omega)).trans hc7
          have cs8 := (c.cell (p := ⟨b, off + j * 9 + 8, none⟩) (show b < _ by omega)).trans hc8
          obtain ⟨z0, hz0⟩ : ∃ q, q = l[j].idx := ⟨_, rfl⟩
          rw [← hz0] at cs0
          obtain ⟨z1, hz1⟩ : ∃ q, q = l[j].tm := ⟨_, rfl⟩
          rw [← hz1] at cs1
          obtain ⟨z2, hz2⟩ : ∃ q, q = l[j].cl := ⟨_, rfl⟩
          rw [← hz2] at cs2
          obtain ⟨z3, hz3⟩ : ∃ q, q = l[j].sq := ⟨_, rfl⟩
          rw [← hz3] at cs3
          obtain ⟨z4, hz4⟩ : ∃ q, q = l[j].kd := ⟨_, rfl⟩
          rw [← hz4] at cs4
          obtain ⟨z5, hz5⟩ : ∃ q, q = l[j].oa := ⟨_, rfl⟩
          rw [← hz5] at cs5
          obtain ⟨z6, hz6⟩ : ∃ q, q = l[j].ob := ⟨_, rfl⟩
          rw [← hz6] at cs6
          obtain ⟨z7, hz7⟩ : ∃ q, q = l[j].oc := ⟨_, rfl⟩
          rw [← hz7] at cs7
          obtain ⟨z8, hz8⟩ : ∃ q, q = l[j].od := ⟨_, rfl⟩
          rw [← hz8] at cs8
          have hmk2 : l[j] = ⟨z0, z1, z2, z3, z4, z5, z6, z7, z8⟩ := by rw [hz0, hz1, hz2, hz3, hz4, hz5, hz6, hz7, hz8]
          have HM := Lib.hid hmk2
          have HA := Lib.hid (fun h : x ≤ z0 => partN_yes (x := x) hjl (by rw [hmk2]; exact h))
          have HB := Lib.hid (fun h : ¬ x ≤ z0 => partN_no (x := x) hjl (by rw [hmk2]; exact h))
          have f0 : wr.cell? ⟨w.heap.size, 0, none⟩ = some (.int .i64 x0) := (S.at_ 1 rfl).cell 0
          have f1 : wr.cell? ⟨w.heap.size, 1, none⟩ = some (.int .i64 x1) := (S.at_ 1 rfl).cell 1
          have f2 : wr.cell? ⟨w.heap.size, 2, none⟩ = some (.slice (some ⟨b, off, none⟩) n cc) := (S.at_ 1 rfl).cell 2
          have hk1 : m + 1 ≤ k.toNat := by omega
          clear hmk2 hc hel HE HF hz0 hz1 hz2 hz3 hz4 hz5 hz6 hz7 hz8 hc0 hc1 hc2 hc3 hc4 hc5 hc6 hc7 hc8
          by_cases hd : x ≤ z0
          case neg =>
            have HN := Lib.hid (HB.out hd)
            have e1 : decide (x ≤ z0) = false := decide_eq_false hd
            have e2 : decide (z0 ≥ x) = false := decide_eq_false hd
            have SS := Lib.hid S
            have CC := Lib.hid c
            clear S c
            go_wp2
            go_roundw
            case rel => exact ⟨j + 1, G, m, gc, fp, by omega, by go_num, rfl, by omega, hmk, by rw [HN.out]; exact SS.out, CC.out⟩
            case measure => simp [intOf]; omega
          case pos =>
            have HN := Lib.hid (show partN l x (j + 1) = partN l x j ++ [⟨z0, z1, z2, z3, z4, z5, z6, z7, z8⟩] by rw [HA.out hd, HM.out])
            have e1 : decide (x ≤ z0) = true := decide_eq_true hd
            have e2 : decide (z0 ≥ x) = true := decide_eq_true hd
            replace S := S.boxAt c.size (wr.heap.size) rfl #[.int .i64 z0, .int .i64 z1, .int .i64 z2, .int .i64 z3, .int .i64 z4, .int .i64 z5, .int .i64 z6, .int .i64 z7, .int .i64 z8] 37
            replace c := c.alloc c.size (.cells #[.int .i64 z0, .int .i64 z1, .int .i64 z2, .int .i64 z3, .int .i64 z4, .int .i64 z5, .int .i64 z6, .int .i64 z7, .int .i64 z8] 37)
            have HC : ∀ i, i < 9 → (wr.alloc (.cells #[.int .i64 z0, .int .i64 z1, .int .i64 z2, .int .i64 z3, .int .i64 z4, .int .i64 z5, .int .i64 z6, .int .i64 z7, .int .i64 z8] 37)).cell? ⟨wr.heap.size, i, none⟩ = [Value.int .i64 z0, Value.int .i64 z1, Value.int .i64 z2, Value.int .i64 z3, Value.int .i64 z4, Value.int .i64 z5, Value.int .i64 z6, Value.int .i64 z7, Value.int .i64 z8][i]? := fun i hi => by
              have h1 := (S.at_ 0 rfl).cell i
              rw [h1]
              simp
            replace S := (S.tail).own0 (ds := entC ⟨z0, z1, z2, z3, z4, z5, z6, z7, z8⟩) (vs := [.int .i64 z0, .int .i64 z1, .int .i64 z2, .int .i64 z3, .int .i64 z4, .int .i64 z5, .int .i64 z6, .int .i64 z7, .int .i64 z8]) (.int (.int (.int (.int (.int (.int (.int (.int (.int (.nil))))))))))
            replace S := S.swap
            have hgc := Lib.hid c
            go_wp2_with (first
              | (at_builtin
                 refine wpList_append_elem (l := partN l x j) (y := (⟨z0, z1, z2, z3, z4, z5, z6, z7, z8⟩ : EntM)) rfl (.tmp 35) (.tmp 41) (by rfl) Try.underlying27 infoEntry (by rfl) (by decide) entC_len (by rfl) (S.own_ 0 rfl) (S.nodup_own 0 rfl) (by rfl) HC (S.own_ 1 rfl) (S.nodup_own 1 rfl) S.apart (by omega) (by omega) ?_
                 intro A3 c3 w3 fp3 o3 n3 s3 t3))
            have S3 := Lib.hid (S.merge t3 o3 n3 s3 hgc.out.size)
            have C3 := Lib.hid (hgc.out.trans (S.below 0 rfl t3 hgc.out.size))
            clear S c o3 n3 s3 t3 HC hgc
            go_roundw
            case rel => exact ⟨j + 1, A3, m + 1, c3, fp3, by omega, by go_num, rfl, by omega, hk1, by rw [HN.out]; exact S3.out, C3.out⟩
            case measure => simp [intOf]; omega

end Go.Proofs.Ytnjfdnjakogpmaa
