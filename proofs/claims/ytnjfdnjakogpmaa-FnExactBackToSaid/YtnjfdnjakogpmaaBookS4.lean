/-
  Chapter 8: a book grown by a list of entries, of the model (by program, wip/gen/genbooks4.py).
-/
import Derived.Test.YtnjfdnjakogpmaaBookS3
import Derived.Test.YtnjfdnjakogpmaaBookN
import Derived.RegionTactic
import Derived.BigQuiet
import Derived.Laws.EntriesVeiled
import Derived.Deep.DeepCutAuto
namespace Go.Proofs.Ytnjfdnjakogpmaa
set_option maxRecDepth 100000
open Go.RowKit

set_option maxHeartbeats 12800000 in
theorem sGrown_any (x0 x1 : Int) (A : Option Addr) (n cc B : Nat) (l : List EntM) (A5 : Option Addr) (n5 c5 B5 : Nat) (ls : List EntM) (w : World) (h : Rd w B [entD l] [.slice A n cc]) (hB : B ≤ w.heap.size) (hs : entSz l ≤ 1048577) (h5 : Rd w B5 [entD ls] [.slice A5 n5 c5]) (hB5 : B5 ≤ w.heap.size) (hs5 : entSz ls ≤ 1048577) :
    Calls Try.prog 31 #[.agg #[.int .i64 x0, .int .i64 x1, .slice A n cc], .slice A5 n5 c5] w (MadeB w (growM ⟨x0, x1, l⟩ ls)) := by
  have HH := Lib.hid h
  obtain ⟨_, _, _, e, hl, _, hcm, hel⟩ := h.ents
  injection e with e1 e2 e3
  subst e1 e2 e3
  have hn : n ≤ 1048577 := by unfold entSz at hs; omega
  have HL := Lib.hid hl
  clear hel hcm h
  obtain ⟨_, _, _, e, hl5, _, _, hel5⟩ := h5.ents
  injection e with e1 e2 e3
  subst e1 e2 e3
  have hn5 : n5 ≤ 1048577 := by unfold entSz at hs5; omega
  have HL5 := Lib.hid hl5
  clear h5 hl5 hs5
  have S := Sep.nil w w.heap.size
  have c := Below.refl w.heap.size w
  replace S := S.boxAt c.size (w.heap.size) rfl #[.int .i64 x0, .int .i64 x1, .slice A n cc] 29
  replace c := c.alloc c.size (.cells #[.int .i64 x0, .int .i64 x1, .slice A n cc] 29)
  replace S := S.boxAt c.size (w.heap.size + 1) (by simp) #[.int .i64 0, .int .i64 0, .slice none 0 0] 29
  replace c := c.alloc c.size (.cells #[.int .i64 0, .int .i64 0, .slice none 0 0] 29)
  go_enter Try.func31, Try.ntmps31
  have f0 : ((w.alloc (.cells #[.int .i64 x0, .int .i64 x1, .slice A n cc] 29)).alloc (.cells #[.int .i64 0, .int .i64 0, .slice none 0 0] 29)).cell? ⟨w.heap.size, 0, none⟩ = some (.int .i64 x0) := (S.at_ 1 rfl).cell 0
  have f1 : ((w.alloc (.cells #[.int .i64 x0, .int .i64 x1, .slice A n cc] 29)).alloc (.cells #[.int .i64 0, .int .i64 0, .slice none 0 0] 29)).cell? ⟨w.heap.size, 1, none⟩ = some (.int .i64 x1) := (S.at_ 1 rfl).cell 1
  have f2 : ((w.alloc (.cells #[.int .i64 x0, .int .i64 x1, .slice A n cc] 29)).alloc (.cells #[.int .i64 0, .int .i64 0, .slice none 0 0] 29)).cell? ⟨w.heap.size, 2, none⟩ = some (.slice A n cc) := (S.at_ 1 rfl).cell 2
  go_wp2_with fail
  generalize (w.alloc (.cells #[.int .i64 x0, .int .i64 x1, .slice A n cc] 29)).alloc (.cells #[.int .i64 0, .int .i64 0, .slice none 0 0] 29) = w1 at *
  refine (sBookOk_any x0 x1 A n cc B l _ (HH.out.keep (c.mono hB)) (Nat.le_trans hB c.size) hs).mono ?_
  rintro e w2 ⟨rfl, b2⟩
  replace c := c.trans (b2.mono c.size)
  replace S := S.keep b2
  clear b2 f0 f1 f2
  cases hok : bookB ⟨x0, x1, l⟩
  case false =>
    have HV := Lib.hid (show growM ⟨x0, x1, l⟩ ls = (book0, false) by unfold growM; rw [hok]; rfl)
    clear hel5
    have f3 : w2.cell? ⟨w.heap.size + 1, 0, none⟩ = some (.int .i64 0) := (S.at_ 0 rfl).cell 0
    have f4 := (S.at_ 0 rfl).free 0
    have f5 : w2.cell? ⟨w.heap.size + 1, 1, none⟩ = some (.int .i64 0) := (S.at_ 0 rfl).cell 1
    have f6 := (S.at_ 0 rfl).free 1
    have f7 : w2.cell? ⟨w.heap.size + 1, 2, none⟩ = some (.slice none 0 0) := (S.at_ 0 rfl).cell 2
    have f8 := (S.at_ 0 rfl).free 2
    replace S := S.put 0 rfl 0 (.int .i64 0)
    replace c := c.setCell (p := ⟨w.heap.size + 1, 0, none⟩) (by show w.heap.size ≤ w.heap.size + 1; omega) (.int .i64 0)
    replace S := S.put 0 rfl 1 (.int .i64 0)
    replace c := c.setCell (p := ⟨w.heap.size + 1, 1, none⟩) (by show w.heap.size ≤ w.heap.size + 1; omega) (.int .i64 0)
    replace S := S.put 0 rfl 2 (.slice none 0 0)
    replace c := c.setCell (p := ⟨w.heap.size + 1, 2, none⟩) (by show w.heap.size ≤ w.heap.size + 1; omega) (.slice none 0 0)
    clear hok
    have r0 := Lib.hid ((S.at_ 0 rfl).cell 0)
    have r1 := Lib.hid ((S.at_ 0 rfl).cell 1)
    have r2 := Lib.hid ((S.at_ 0 rfl).cell 2)
    have CC := Lib.hid c
    clear S c
    go_wp2
    exact bodyPost_ret (v := .tuple #[.agg #[.int .i64 0, .int .i64 0, .slice none 0 0], .bool false]) (by simp [results, Try.results31, go_sem, r0.out, r1.out, r2.out]) rfl ⟨_, _, _, _, _, by rw [HV.out], by rw [HV.out]; exact has_book0 _ _, CC.out⟩
  case true =>
    have hl20 : l.length ≤ 20 := bookB_len hok
    have HOK := Lib.hid hok
    have HGM := Lib.hid (show growM ⟨x0, x1, l⟩ ls = if ls.length ≤ 20 then (if growB ⟨x0, x1, l⟩ ls = true then (more ⟨x0, x1, l⟩ ls, true) else (⟨x0, x1, l⟩, false)) else (⟨x0, x1, l⟩, false) by unfold growM; rw [if_pos hok])
    clear hok
    have f3 : w2.cell? ⟨w.heap.size, 0, none⟩ = some (.int .i64 x0) := (S.at_ 1 rfl).cell 0
    have f4 : w2.cell? ⟨w.heap.size, 1, none⟩ = some (.int .i64 x1) := (S.at_ 1 rfl).cell 1
    have f5 : w2.cell? ⟨w.heap.size, 2, none⟩ = some (.slice A n cc) := (S.at_ 1 rfl).cell 2
    go_wp2_with fail
    refine (sCopy_any x0 x1 A n cc B l _ (HH.out.keep (c.mono hB)) (Nat.le_trans hB c.size) hs).mono ?_
    rintro e w3 ⟨A2, c2, rfl, o, b2⟩
    obtain ⟨fp_u, S'⟩ := S.has b2 o c.size
    replace c := c.trans (b2.mono c.size)
    clear S; have S := S'; clear S' o b2 f3 f4 f5
    by_cases h20 : 20 < n5
    case pos =>
      have HV := Lib.hid (show growM ⟨x0, x1, l⟩ ls = (⟨x0, x1, l⟩, false) by rw [HGM.out, if_neg (by rw [HL5.out]; omega)])
      have d1 : decide ((n5 : Int) > 20) = true := decide_eq_true (by omega)
      have d2 : decide ((20 : Int) < (n5 : Int)) = true := decide_eq_true (by omega)
      clear hel5
      replace S := S.boxAt c.size (w3.heap.size) rfl #[.int .i64 x0, .int .i64 x1, .slice A2 n c2] 29
      replace c := c.alloc c.size (.cells #[.int .i64 x0, .int .i64 x1, .slice A2 n c2] 29)
      replace S := S.pick 1 rfl
      have f6 : (w3.alloc (.cells #[.int .i64 x0, .int .i64 x1, .slice A2 n c2] 29)).cell? ⟨w3.heap.size, 0, none⟩ = some (.int .i64 x0) := (S.at_ 1 rfl).cell 0
      have f7 : (w3.alloc (.cells #[.int .i64 x0, .int .i64 x1, .slice A2 n c2] 29)).cell? ⟨w3.heap.size, 1, none⟩ = some (.int .i64 x1) := (S.at_ 1 rfl).cell 1
      have f8 : (w3.alloc (.cells #[.int .i64 x0, .int .i64 x1, .slice A2 n c2] 29)).cell? ⟨w3.heap.size, 2, none⟩ = some (.slice A2 n c2) := (S.at_ 1 rfl).cell 2
      have f9 : (w3.alloc (.cells #[.int .i64 x0, .int .i64 x1, .slice A2 n c2] 29)).cell? ⟨w.heap.size + 1, 0, none⟩ = some (.int .i64 0) := (S.at_ 2 rfl).cell 0
      have f10 := (S.at_ 2 rfl).free 0
      have f11 : (w3.alloc (.cells #[.int .i64 x0, .int .i64 x1, .slice A2 n c2] 29)).cell? ⟨w.heap.size + 1, 1, none⟩ = some (.int .i64 0) := (S.at_ 2 rfl).cell 1
      have f12 := (S.at_ 2 rfl).free 1
      have f13 : (w3.alloc (.cells #[.int .i64 x0, .int .i64 x1, .slice A2 n c2] 29)).cell? ⟨w.heap.size + 1, 2, none⟩ = some (.slice none 0 0) := (S.at_ 2 rfl).cell 2
      have f14 := (S.at_ 2 rfl).free 2
      replace S := S.put 2 rfl 0 (.int .i64 x0)
      replace c := c.setCell (p := ⟨w.heap.size + 1, 0, none⟩) (by show w.heap.size ≤ w.heap.size + 1; omega) (.int .i64 x0)
      replace S := S.put 2 rfl 1 (.int .i64 x1)
      replace c := c.setCell (p := ⟨w.heap.size + 1, 1, none⟩) (by show w.heap.size ≤ w.heap.size + 1; omega) (.int .i64 x1)
      replace S := S.put 2 rfl 2 (.slice A2 n c2)
      replace c := c.setCell (p := ⟨w.heap.size + 1, 2, none⟩) (by show w.heap.size ≤ w.heap.size + 1; omega) (.slice A2 n c2)
      have H := Lib.hid S.first
      have r0 := Lib.hid ((S.at_ 2 rfl).cell 0)
      have r1 := Lib.hid ((S.at_ 2 rfl).cell 1)
      have r2 := Lib.hid ((S.at_ 2 rfl).cell 2)
      have CC := Lib.hid c
      clear S c
      go_wp2
      exact bodyPost_ret (v := .tuple #[.agg #[.int .i64 x0, .int .i64 x1, .slice A2 n c2], .bool false]) (by simp [results, Try.results31, go_sem, r0.out, r1.out, r2.out]) rfl ⟨_, _, _, _, _, by rw [HV.out], by rw [HV.out]; exact has_mk H.out, CC.out⟩
    case neg =>
      have d1 : decide ((n5 : Int) > 20) = false := decide_eq_false (by omega)
      have d2 : decide ((20 : Int) < (n5 : Int)) = false := decide_eq_false (by omega)
      replace S := S.boxAt c.size (w3.heap.size) rfl #[.int .i64 x0, .int .i64 x1, .slice A2 n c2] 29
      replace c := c.alloc c.size (.cells #[.int .i64 x0, .int .i64 x1, .slice A2 n c2] 29)
      replace S := S.pick 1 rfl
      go_wp2
      generalize w3.alloc (.cells #[.int .i64 x0, .int .i64 x1, .slice A2 n c2] 29) = w4 at *
      obtain ⟨qo, hqo⟩ : ∃ q, q = w3.heap.size := ⟨_, rfl⟩
      rw [← hqo] at S ⊢
      clear hqo
      have S0 := Lib.hid S
      have B0 := Lib.hid c
      clear S c d1 d2
      have T0 := Lib.hid (show l = l ++ ls.take 0 by rw [List.take_zero, List.append_nil])
      go_loopw [7] (fun i wr => ∃ (j : Nat) (G : Option Addr) (m gc : Nat) (fp : List Nat), j ≤ n5 ∧ i = .int .i64 (j : Int) ∧ (∀ q, q < j → growAt ⟨x0, x1, l⟩ ls q = true) ∧ Sep wr w.heap.size [.own [entD (l ++ ls.take j)] [.slice G m gc] fp, .blk qo #[.int .i64 x0, .int .i64 x1, .slice G m gc] 29, .blk (w.heap.size + 1) #[.int .i64 0, .int .i64 0, .slice none 0 0] 29, .blk w.heap.size #[.int .i64 x0, .int .i64 x1, .slice A n cc] 29] ∧ Below w.heap.size w wr) (fun i _ => n5 - (intOf i).toNat)
      case atStart => exact ⟨0, _, _, _, _, Nat.zero_le _, rfl, fun q hq => absurd hq (by omega), by rw [← T0.out]; exact S0.out, B0.out⟩
      case round =>
        obtain ⟨j, G, m, gc, fp, hj, rfl, hall, S, c⟩ := hrel
        clear S0 B0
        have HA := Lib.hid hall
        by_cases hlt : j < n5
        case neg =>
          obtain rfl : j = n5 := by omega
          have htk : ls.take j = ls := List.take_of_length_le (by rw [HL5.out]; exact Nat.le_refl _)
          rw [htk] at S
          have HV := Lib.hid (show growM ⟨x0, x1, l⟩ ls = (more ⟨x0, x1, l⟩ ls, true) by rw [HGM.out, if_pos (by rw [HL5.out]; omega), if_pos ((growB_iff _ _).2 fun q hq => hall q (by have := HL5.out; omega))])
          clear hall hel5 htk
          have f6 : wr.cell? ⟨qo, 0, none⟩ = some (.int .i64 x0) := (S.at_ 1 rfl).cell 0
          have f7 : wr.cell? ⟨qo, 1, none⟩ = some (.int .i64 x1) := (S.at_ 1 rfl).cell 1
          have f8 : wr.cell? ⟨qo, 2, none⟩ = some (.slice G m gc) := (S.at_ 1 rfl).cell 2
          have f9 : wr.cell? ⟨w.heap.size + 1, 0, none⟩ = some (.int .i64 0) := (S.at_ 2 rfl).cell 0
          have f10 := (S.at_ 2 rfl).free 0
          have f11 : wr.cell? ⟨w.heap.size + 1, 1, none⟩ = some (.int .i64 0) := (S.at_ 2 rfl).cell 1
          have f12 := (S.at_ 2 rfl).free 1
          have f13 : wr.cell? ⟨w.heap.size + 1, 2, none⟩ = some (.slice none 0 0) := (S.at_ 2 rfl).cell 2
          have f14 := (S.at_ 2 rfl).free 2
          replace S := S.put 2 rfl 0 (.int .i64 x0)
          replace c := c.setCell (p := ⟨w.heap.size + 1, 0, none⟩) (by show w.heap.size ≤ w.heap.size + 1; omega) (.int .i64 x0)
          replace S := S.put 2 rfl 1 (.int .i64 x1)
          replace c := c.setCell (p := ⟨w.heap.size + 1, 1, none⟩) (by show w.heap.size ≤ w.heap.size + 1; omega) (.int .i64 x1)
          replace S := S.put 2 rfl 2 (.slice G m gc)
          replace c := c.setCell (p := ⟨w.heap.size + 1, 2, none⟩) (by show w.heap.size ≤ w.heap.size + 1; omega) (.slice G m gc)
          have H := Lib.hid S.first
          have r0 := Lib.hid ((S.at_ 2 rfl).cell 0)
          have r1 := Lib.hid ((S.at_ 2 rfl).cell 1)
          have r2 := Lib.hid ((S.at_ 2 rfl).cell 2)
          have CC := Lib.hid c
          clear S c
          go_wp2
          exact bodyPost_ret (v := .tuple #[.agg #[.int .i64 x0, .int .i64 x1, .slice G m gc], .bool true]) (by simp [results, Try.results31, go_sem, r0.out, r1.out, r2.out]) rfl ⟨_, _, _, _, _, by rw [HV.out], by rw [HV.out]; exact has_mk H.out, CC.out⟩
        case pos =>
          obtain ⟨b, off, rfl, hb, hc⟩ := hel5 (by omega)
          have hjl : j < ls.length := by have := HL5.out; omega
          obtain ⟨hc0, hc1, hc2, hc3, hc4, hc5, hc6, hc7, hc8⟩ := hc j hjl
          have hok2 := grown_ok (l := ls) HOK.out j (by omega) hall
          have HAM := Lib.hid (app_more hok2 hjl)
          obtain ⟨e0, he0⟩ : ∃ q, q = ls[j].idx := ⟨_, rfl⟩
          rw [← he0] at hc0
          obtain ⟨e1, he1⟩ : ∃ q, q = ls[j].tm := ⟨_, rfl⟩
          rw [← he1] at hc1
          obtain ⟨e2, he2⟩ : ∃ q, q = ls[j].cl := ⟨_, rfl⟩
          rw [← he2] at hc2
          obtain ⟨e3, he3⟩ : ∃ q, q = ls[j].sq := ⟨_, rfl⟩
          rw [← he3] at hc3
          obtain ⟨e4, he4⟩ : ∃ q, q = ls[j].kd := ⟨_, rfl⟩
          rw [← he4] at hc4
          obtain ⟨e5, he5⟩ : ∃ q, q = ls[j].oa := ⟨_, rfl⟩
          rw [← he5] at hc5
          obtain ⟨e6, he6⟩ : ∃ q, q = ls[j].ob := ⟨_, rfl⟩
          rw [← he6] at hc6
          obtain ⟨e7, he7⟩ : ∃ q, q = ls[j].oc := ⟨_, rfl⟩
          rw [← he7] at hc7
          obtain ⟨e8, he8⟩ : ∃ q, q = ls[j].od := ⟨_, rfl⟩
          rw [← he8] at hc8
          have hmk : ls[j] = ⟨e0, e1, e2, e3, e4, e5, e6, e7, e8⟩ := by rw [he0, he1, he2, he3, he4, he5, he6, he7, he8]
          rw [hmk] at HAM
          have hsz : entSz (l ++ ls.take j) ≤ 1048577 := by unfold entSz; rw [List.length_append, List.length_take]; omega
          have j0 : (0 : Int) ≤ (j : Int) := by omega
          have j1 : (j : Int) < (n5 : Int) := by omega
          have HJ := Lib.hid hjl
          clear hc hmk hok2 hel5 he0 he1 he2 he3 he4 he5 he6 he7 he8
          have k9 := hb
          cases hg : growAt ⟨x0, x1, l⟩ ls j
          case false =>
            have HAP := Lib.hid (HAM.out.trans (if_neg (by rw [hg]; decide)))
            have HV := Lib.hid (show growM ⟨x0, x1, l⟩ ls = (⟨x0, x1, l⟩, false) by rw [HGM.out, if_pos (by rw [HL5.out]; omega), if_neg (by rw [growB_step hjl hg]; decide)])
            clear hg hall HAM hjl
            go_wp2_with fail
            refine wp_region_L (fun v => v.cell? ⟨qo, 0, none⟩ = some (.int .i64 x0) ∧ v.cell? ⟨qo, 1, none⟩ = some (.int .i64 x1) ∧ v.cell? ⟨qo, 2, none⟩ = some (.slice G m gc) ∧ v.cell? ⟨b, off + j * 9, none⟩ = some (.int .i64 e0) ∧ v.cell? ⟨b, off + j * 9 + 1, none⟩ = some (.int .i64 e1) ∧ v.cell? ⟨b, off + j * 9 + 2, none⟩ = some (.int .i64 e2) ∧ v.cell? ⟨b, off + j * 9 + 3, none⟩ = some (.int .i64 e3) ∧ v.cell? ⟨b, off + j * 9 + 4, none⟩ = some (.int .i64 e4) ∧ v.cell? ⟨b, off + j * 9 + 5, none⟩ = some (.int .i64 e5) ∧ v.cell? ⟨b, off + j * 9 + 6, none⟩ = some (.int .i64 e6) ∧ v.cell? ⟨b, off + j * 9 + 7, none⟩ = some (.int .i64 e7) ∧ v.cell? ⟨b, off + j * 9 + 8, none⟩ = some (.int .i64 e8)) 11 (by kernel_rfl) ?_
            replace S := S.keep ((Below.refl _ _).drew)
            replace c := c.drew
            generalize wr.drew = w5 at *
            have HF : w5.cell? ⟨qo, 0, none⟩ = some (.int .i64 x0) ∧ w5.cell? ⟨qo, 1, none⟩ = some (.int .i64 x1) ∧ w5.cell? ⟨qo, 2, none⟩ = some (.slice G m gc) ∧ w5.cell? ⟨b, off + j * 9, none⟩ = some (.int .i64 e0) ∧ w5.cell? ⟨b, off + j * 9 + 1, none⟩ = some (.int .i64 e1) ∧ w5.cell? ⟨b, off + j * 9 + 2, none⟩ = some (.int .i64 e2) ∧ w5.cell? ⟨b, off + j * 9 + 3, none⟩ = some (.int .i64 e3) ∧ w5.cell? ⟨b, off + j * 9 + 4, none⟩ = some (.int .i64 e4) ∧ w5.cell? ⟨b, off + j * 9 + 5, none⟩ = some (.int .i64 e5) ∧ w5.cell? ⟨b, off + j * 9 + 6, none⟩ = some (.int .i64 e6) ∧ w5.cell? ⟨b, off + j * 9 + 7, none⟩ = some (.int .i64 e7) ∧ w5.cell? ⟨b, off + j * 9 + 8, none⟩ = some (.int .i64 e8) := ⟨(S.at_ 1 rfl).cell 0, (S.at_ 1 rfl).cell 1, (S.at_ 1 rfl).cell 2, (c.cell (p := ⟨b, off + j * 9, none⟩) (show b < _ by omega)).trans hc0, (c.cell (p := ⟨b, off + j * 9 + 1, none⟩) (show b < _ by omega)).trans hc1, (c.cell (p := ⟨b, off + j * 9 + 2, none⟩) (show b < _ by omega)).trans hc2, (c.cell (p := ⟨b, off + j * 9 + 3, none⟩) (show b < _ by omega)).trans hc3, (c.cell (p := ⟨b, off + j * 9 + 4, none⟩) (show b < _ by omega)).trans hc4, (c.cell (p := ⟨b, off + j * 9 + 5, none⟩) (show b < _ by omega)).trans hc5, (c.cell (p := ⟨b, off + j * 9 + 6, none⟩) (show b < _ by omega)).trans hc6, (c.cell (p := ⟨b, off + j * 9 + 7, none⟩) (show b < _ by omega)).trans hc7, (c.cell (p := ⟨b, off + j * 9 + 8, none⟩) (show b < _ by omega)).trans hc8⟩
            refine wpAnyL_take (i := 0) (v := ?_) rfl rfl (by kernel_rfl) (by kernel_rfl) (by kernel_rfl) (by kernel_rfl) (by kernel_rfl) (fun _ _ _ h => h) HF (Or.inl ⟨by rfl, ?_⟩) ?_
            rotate_left 1
            · (rintro v ⟨a0, a1, a2, a3, a4, a5, a6, a7, a8, a9, a10, a11⟩; go_simp; try with_reducible rfl)
            try simp only [Act.put]
            refine wpAnyL_take (i := 1) (v := ?_) rfl rfl (by kernel_rfl) (by kernel_rfl) (by kernel_rfl) (by kernel_rfl) (by kernel_rfl) (fun _ _ _ h => h) HF (Or.inl ⟨by rfl, ?_⟩) ?_
            rotate_left 1
            · (rintro v ⟨a0, a1, a2, a3, a4, a5, a6, a7, a8, a9, a10, a11⟩; go_simp; try with_reducible rfl)
            try simp only [Act.put]
            refine wpAnyL_take (i := 2) (v := ?_) rfl rfl (by kernel_rfl) (by kernel_rfl) (by kernel_rfl) (by kernel_rfl) (by kernel_rfl) (fun _ _ _ h => h) HF (Or.inl ⟨by rfl, ?_⟩) ?_
            rotate_left 1
            · (rintro v ⟨a0, a1, a2, a3, a4, a5, a6, a7, a8, a9, a10, a11⟩; go_simp; try with_reducible rfl)
            try simp only [Act.put]
            refine wpAnyL_take (i := 3) (v := ?_) rfl rfl (by kernel_rfl) (by kernel_rfl) (by kernel_rfl) (by kernel_rfl) (by kernel_rfl) (fun _ _ _ h => h) HF (Or.inl ⟨by rfl, ?_⟩) ?_
            rotate_left 1
            · (rintro v ⟨a0, a1, a2, a3, a4, a5, a6, a7, a8, a9, a10, a11⟩; go_simp; try with_reducible rfl)
            try simp only [Act.put]
            refine wpAnyL_take (i := 4) (v := ?_) rfl rfl (by kernel_rfl) (by kernel_rfl) (by kernel_rfl) (by kernel_rfl) (by kernel_rfl) (fun _ _ _ h => h) HF (Or.inl ⟨by rfl, ?_⟩) ?_
            rotate_left 1
            · (rintro v ⟨a0, a1, a2, a3, a4, a5, a6, a7, a8, a9, a10, a11⟩; go_simp; try with_reducible rfl)
            try simp only [Act.put]
            refine wpAnyL_two (i := 5) (k := 9) (by kernel_rfl) rfl rfl rfl rfl ?_ ?_
            · intro K hK
              go_simp
              refine (sApp_any x0 x1 G m gc _ (l ++ ls.take j) e0 e1 e2 e3 e4 e5 e6 e7 e8 _ ((S.own_ 0 rfl).rd) (Nat.le_refl _) hsz).mono ?_
              rintro e w6 ⟨y0, y1, A3, n3, c3, rfl, o', b9⟩
              have e9 := HAP.out
              have o2 : Has w6 _ (BookM.cells (appM (more ⟨x0, x1, l⟩ (ls.take j)) ⟨e0, e1, e2, e3, e4, e5, e6, e7, e8⟩).1) _ := o'
              rw [e9] at o2
              obtain ⟨z0, z1, o⟩ := has_split o2
              have hfl : (appM ⟨x0, x1, l ++ ls.take j⟩ ⟨e0, e1, e2, e3, e4, e5, e6, e7, e8⟩).2 = false := congrArg Prod.snd e9
              rw [hfl]
              clear e9 hfl o' o2
              have z2 : x0 = y0 := z0.symm
              have z3 : x1 = y1 := z1.symm
              clear z0 z1
              subst z2 z3
              obtain ⟨fp_nx, S'⟩ := S.has b9 o c.size
              replace c := c.trans (b9.mono c.size)
              clear S; have S := S'; clear S' o b9
              clear HF
              have HF : w6.cell? ⟨qo, 0, none⟩ = some (.int .i64 x0) ∧ w6.cell? ⟨qo, 1, none⟩ = some (.int .i64 x1) ∧ w6.cell? ⟨qo, 2, none⟩ = some (.slice G m gc) ∧ w6.cell? ⟨b, off + j * 9, none⟩ = some (.int .i64 e0) ∧ w6.cell? ⟨b, off + j * 9 + 1, none⟩ = some (.int .i64 e1) ∧ w6.cell? ⟨b, off + j * 9 + 2, none⟩ = some (.int .i64 e2) ∧ w6.cell? ⟨b, off + j * 9 + 3, none⟩ = some (.int .i64 e3) ∧ w6.cell? ⟨b, off + j * 9 + 4, none⟩ = some (.int .i64 e4) ∧ w6.cell? ⟨b, off + j * 9 + 5, none⟩ = some (.int .i64 e5) ∧ w6.cell? ⟨b, off + j * 9 + 6, none⟩ = some (.int .i64 e6) ∧ w6.cell? ⟨b, off + j * 9 + 7, none⟩ = some (.int .i64 e7) ∧ w6.cell? ⟨b, off + j * 9 + 8, none⟩ = some (.int .i64 e8) := ⟨(S.at_ 2 rfl).cell 0, (S.at_ 2 rfl).cell 1, (S.at_ 2 rfl).cell 2, (c.cell (p := ⟨b, off + j * 9, none⟩) (show b < _ by omega)).trans hc0, (c.cell (p := ⟨b, off + j * 9 + 1, none⟩) (show b < _ by omega)).trans hc1, (c.cell (p := ⟨b, off + j * 9 + 2, none⟩) (show b < _ by omega)).trans hc2, (c.cell (p := ⟨b, off + j * 9 + 3, none⟩) (show b < _ by omega)).trans hc3, (c.cell (p := ⟨b, off + j * 9 + 4, none⟩) (show b < _ by omega)).trans hc4, (c.cell (p := ⟨b, off + j * 9 + 5, none⟩) (show b < _ by omega)).trans hc5, (c.cell (p := ⟨b, off + j * 9 + 6, none⟩) (show b < _ by omega)).trans hc6, (c.cell (p := ⟨b, off + j * 9 + 7, none⟩) (show b < _ by omega)).trans hc7, (c.cell (p := ⟨b, off + j * 9 + 8, none⟩) (show b < _ by omega)).trans hc8⟩
              refine hK _ _ (fun _ => HF) ?_
              clear hK K
              try simp only [Act.put]
              refine wpAnyL_pure (i := 6) (v := ?_) rfl rfl (by kernel_rfl) (by kernel_rfl) (by kernel_rfl) (fun _ _ _ h => h) HF (Or.inl ⟨by rfl, ?_⟩) ?_
              rotate_left 1
              · (intro v _; go_simp; try with_reducible rfl)
              try simp only [Act.put]
              refine wpAnyL_pure (i := 7) (v := ?_) rfl rfl (by kernel_rfl) (by kernel_rfl) (by kernel_rfl) (fun _ _ _ h => h) HF (Or.inl ⟨by rfl, ?_⟩) ?_
              rotate_left 1
              · (intro v _; go_simp; try with_reducible rfl)
              try simp only [Act.put]
              refine wpAnyL_pure (i := 8) (v := ?_) rfl rfl (by kernel_rfl) (by kernel_rfl) (by kernel_rfl) (fun _ _ _ h => h) HF (Or.inl ⟨by rfl, ?_⟩) ?_
              rotate_left 1
              · (intro v _; go_simp; try with_reducible rfl)
              try simp only [Act.put]
              refine wpAnyL_step (i := 9) (by kernel_rfl) rfl rfl ?_
              intro K hK
              go_simp
              replace S := S.boxAt c.size (w6.heap.size) rfl #[.int .i64 0, .int .i64 0, .slice none 0 0] 29
              replace c := c.alloc c.size (.cells #[.int .i64 0, .int .i64 0, .slice none 0 0] 29)
              clear HF
              have HF : (w6.alloc (.cells #[.int .i64 0, .int .i64 0, .slice none 0 0] 29)).cell? ⟨qo, 0, none⟩ = some (.int .i64 x0) ∧ (w6.alloc (.cells #[.int .i64 0, .int .i64 0, .slice none 0 0] 29)).cell? ⟨qo, 1, none⟩ = some (.int .i64 x1) ∧ (w6.alloc (.cells #[.int .i64 0, .int .i64 0, .slice none 0 0] 29)).cell? ⟨qo, 2, none⟩ = some (.slice G m gc) ∧ (w6.alloc (.cells #[.int .i64 0, .int .i64 0, .slice none 0 0] 29)).cell? ⟨b, off + j * 9, none⟩ = some (.int .i64 e0) ∧ (w6.alloc (.cells #[.int .i64 0, .int .i64 0, .slice none 0 0] 29)).cell? ⟨b, off + j * 9 + 1, none⟩ = some (.int .i64 e1) ∧ (w6.alloc (.cells #[.int .i64 0, .int .i64 0, .slice none 0 0] 29)).cell? ⟨b, off + j * 9 + 2, none⟩ = some (.int .i64 e2) ∧ (w6.alloc (.cells #[.int .i64 0, .int .i64 0, .slice none 0 0] 29)).cell? ⟨b, off + j * 9 + 3, none⟩ = some (.int .i64 e3) ∧ (w6.alloc (.cells #[.int .i64 0, .int .i64 0, .slice none 0 0] 29)).cell? ⟨b, off + j * 9 + 4, none⟩ = some (.int .i64 e4) ∧ (w6.alloc (.cells #[.int .i64 0, .int .i64 0, .slice none 0 0] 29)).cell? ⟨b, off + j * 9 + 5, none⟩ = some (.int .i64 e5) ∧ (w6.alloc (.cells #[.int .i64 0, .int .i64 0, .slice none 0 0] 29)).cell? ⟨b, off + j * 9 + 6, none⟩ = some (.int .i64 e6) ∧ (w6.alloc (.cells #[.int .i64 0, .int .i64 0, .slice none 0 0] 29)).cell? ⟨b, off + j * 9 + 7, none⟩ = some (.int .i64 e7) ∧ (w6.alloc (.cells #[.int .i64 0, .int .i64 0, .slice none 0 0] 29)).cell? ⟨b, off + j * 9 + 8, none⟩ = some (.int .i64 e8) := ⟨(S.at_ 3 rfl).cell 0, (S.at_ 3 rfl).cell 1, (S.at_ 3 rfl).cell 2, (c.cell (p := ⟨b, off + j * 9, none⟩) (show b < _ by omega)).trans hc0, (c.cell (p := ⟨b, off + j * 9 + 1, none⟩) (show b < _ by omega)).trans hc1, (c.cell (p := ⟨b, off + j * 9 + 2, none⟩) (show b < _ by omega)).trans hc2, (c.cell (p := ⟨b, off + j * 9 + 3, none⟩) (show b < _ by omega)).trans hc3, (c.cell (p := ⟨b, off + j * 9 + 4, none⟩) (show b < _ by omega)).trans hc4, (c.cell (p := ⟨b, off + j * 9 + 5, none⟩) (show b < _ by omega)).trans hc5, (c.cell (p := ⟨b, off + j * 9 + 6, none⟩) (show b < _ by omega)).trans hc6, (c.cell (p := ⟨b, off + j * 9 + 7, none⟩) (show b < _ by omega)).trans hc7, (c.cell (p := ⟨b, off + j * 9 + 8, none⟩) (show b < _ by omega)).trans hc8⟩
              refine hK _ _ (fun _ => HF) ?_
              clear hK K
              try simp only [Act.put]
              generalize hw : w6.alloc (.cells #[.int .i64 0, .int .i64 0, .slice none 0 0] 29) = w7 at *
              clear hw
              obtain ⟨qb, hqb⟩ : ∃ q, q = w6.heap.size := ⟨_, rfl⟩
              rw [← hqb] at S ⊢
              clear hqb
              have f6 : w7.cell? ⟨qb, 0, none⟩ = some (.int .i64 0) := (S.at_ 0 rfl).cell 0
              have f7 := (S.at_ 0 rfl).free 0
              have f8 : w7.cell? ⟨qb, 1, none⟩ = some (.int .i64 0) := (S.at_ 0 rfl).cell 1
              have f9 := (S.at_ 0 rfl).free 1
              have f10 : w7.cell? ⟨qb, 2, none⟩ = some (.slice none 0 0) := (S.at_ 0 rfl).cell 2
              have f11 := (S.at_ 0 rfl).free 2
              refine wpAnyL_step (i := 10) (by kernel_rfl) rfl rfl ?_
              intro K hK
              go_simp
              replace c := c.setCell (p := ⟨qb, 0, none⟩) (S.base_le 0 rfl) (.int .i64 x0)
              replace S := S.put 0 rfl 0 (.int .i64 x0)
              replace c := c.setCell (p := ⟨qb, 1, none⟩) (S.base_le 0 rfl) (.int .i64 x1)
              replace S := S.put 0 rfl 1 (.int .i64 x1)
              replace c := c.setCell (p := ⟨qb, 2, none⟩) (S.base_le 0 rfl) (.slice A3 n3 c3)
              replace S := S.put 0 rfl 2 (.slice A3 n3 c3)
              clear HF
              have HF : (((w7.setCell ⟨qb, 0, none⟩ (.int .i64 x0)).setCell ⟨qb, 1, none⟩ (.int .i64 x1)).setCell ⟨qb, 2, none⟩ (.slice A3 n3 c3)).cell? ⟨qo, 0, none⟩ = some (.int .i64 x0) ∧ (((w7.setCell ⟨qb, 0, none⟩ (.int .i64 x0)).setCell ⟨qb, 1, none⟩ (.int .i64 x1)).setCell ⟨qb, 2, none⟩ (.slice A3 n3 c3)).cell? ⟨qo, 1, none⟩ = some (.int .i64 x1) ∧ (((w7.setCell ⟨qb, 0, none⟩ (.int .i64 x0)).setCell ⟨qb, 1, none⟩ (.int .i64 x1)).setCell ⟨qb, 2, none⟩ (.slice A3 n3 c3)).cell? ⟨qo, 2, none⟩ = some (.slice G m gc) ∧ (((w7.setCell ⟨qb, 0, none⟩ (.int .i64 x0)).setCell ⟨qb, 1, none⟩ (.int .i64 x1)).setCell ⟨qb, 2, none⟩ (.slice A3 n3 c3)).cell? ⟨b, off + j * 9, none⟩ = some (.int .i64 e0) ∧ (((w7.setCell ⟨qb, 0, none⟩ (.int .i64 x0)).setCell ⟨qb, 1, none⟩ (.int .i64 x1)).setCell ⟨qb, 2, none⟩ (.slice A3 n3 c3)).cell? ⟨b, off + j * 9 + 1, none⟩ = some (.int .i64 e1) ∧ (((w7.setCell ⟨qb, 0, none⟩ (.int .i64 x0)).setCell ⟨qb, 1, none⟩ (.int .i64 x1)).setCell ⟨qb, 2, none⟩ (.slice A3 n3 c3)).cell? ⟨b, off + j * 9 + 2, none⟩ = some (.int .i64 e2) ∧ (((w7.setCell ⟨qb, 0, none⟩ (.int .i64 x0)).setCell ⟨qb, 1, none⟩ (.int .i64 x1)).setCell ⟨qb, 2, none⟩ (.slice A3 n3 c3)).cell? ⟨b, off + j * 9 + 3, none⟩ = some (.int .i64 e3) ∧ (((w7.setCell ⟨qb, 0, none⟩ (.int .i64 x0)).setCell ⟨qb, 1, none⟩ (.int .i64 x1)).setCell ⟨qb, 2, none⟩ (.slice A3 n3 c3)).cell? ⟨b, off + j * 9 + 4, none⟩ = some (.int .i64 e4) ∧ (((w7.setCell ⟨qb, 0, none⟩ (.int .i64 x0)).setCell ⟨qb, 1, none⟩ (.int .i64 x1)).setCell ⟨qb, 2, none⟩ (.slice A3 n3 c3)).cell? ⟨b, off + j * 9 + 5, none⟩ = some (.int .i64 e5) ∧ (((w7.setCell ⟨qb, 0, none⟩ (.int .i64 x0)).setCell ⟨qb, 1, none⟩ (.int .i64 x1)).setCell ⟨qb, 2, none⟩ (.slice A3 n3 c3)).cell? ⟨b, off + j * 9 + 6, none⟩ = some (.int .i64 e6) ∧ (((w7.setCell ⟨qb, 0, none⟩ (.int .i64 x0)).setCell ⟨qb, 1, none⟩ (.int .i64 x1)).setCell ⟨qb, 2, none⟩ (.slice A3 n3 c3)).cell? ⟨b, off + j * 9 + 7, none⟩ = some (.int .i64 e7) ∧ (((w7.setCell ⟨qb, 0, none⟩ (.int .i64 x0)).setCell ⟨qb, 1, none⟩ (.int .i64 x1)).setCell ⟨qb, 2, none⟩ (.slice A3 n3 c3)).cell? ⟨b, off + j * 9 + 8, none⟩ = some (.int .i64 e8) := ⟨(S.at_ 3 rfl).cell 0, (S.at_ 3 rfl).cell 1, (S.at_ 3 rfl).cell 2, (c.cell (p := ⟨b, off + j * 9, none⟩) (show b < _ by omega)).trans hc0, (c.cell (p := ⟨b, off + j * 9 + 1, none⟩) (show b < _ by omega)).trans hc1, (c.cell (p := ⟨b, off + j * 9 + 2, none⟩) (show b < _ by omega)).trans hc2, (c.cell (p := ⟨b, off + j * 9 + 3, none⟩) (show b < _ by omega)).trans hc3, (c.cell (p := ⟨b, off + j * 9 + 4, none⟩) (show b < _ by omega)).trans hc4, (c.cell (p := ⟨b, off + j * 9 + 5, none⟩) (show b < _ by omega)).trans hc5, (c.cell (p := ⟨b, off + j * 9 + 6, none⟩) (show b < _ by omega)).trans hc6, (c.cell (p := ⟨b, off + j * 9 + 7, none⟩) (show b < _ by omega)).trans hc7, (c.cell (p := ⟨b, off + j * 9 + 8, none⟩) (show b < _ by omega)).trans hc8⟩
              refine hK _ _ (fun _ => HF) ?_
              clear hK K
              try simp only [Act.put]
              generalize ((w7.setCell ⟨qb, 0, none⟩ (.int .i64 x0)).setCell ⟨qb, 1, none⟩ (.int .i64 x1)).setCell ⟨qb, 2, none⟩ (.slice A3 n3 c3) = w8 at *
              clear f6 f7 f8 f9 f10 f11
              refine wpAnyL_step (i := 11) (by kernel_rfl) rfl rfl ?_
              intro K hK
              go_simp
              refine hK _ _ (fun h => nomatch (show true = false from h)) ?_
              clear hK K
              try simp only [Act.put]
              refine wpAnyL_done (by kernel_rfl) ?_ _
              clear HF
              have f12 : w8.cell? ⟨w.heap.size, 0, none⟩ = some (.int .i64 x0) := (S.at_ 5 rfl).cell 0
              have f13 : w8.cell? ⟨w.heap.size, 1, none⟩ = some (.int .i64 x1) := (S.at_ 5 rfl).cell 1
              have f14 : w8.cell? ⟨w.heap.size, 2, none⟩ = some (.slice A n cc) := (S.at_ 5 rfl).cell 2
              go_wp2_with fail
              refine (sCopy_any x0 x1 A n cc B l _ (HH.out.keep (c.mono hB)) (Nat.le_trans hB c.size) hs).mono ?_
              rintro e w9 ⟨A4, c4, rfl, o, b2⟩
              obtain ⟨fp_cp, S'⟩ := S.has b2 o c.size
              replace c := c.trans (b2.mono c.size)
              clear S; have S := S'; clear S' o b2 f12 f13 f14
              have f15 : w9.cell? ⟨w.heap.size + 1, 0, none⟩ = some (.int .i64 0) := (S.at_ 5 rfl).cell 0
              have f16 := (S.at_ 5 rfl).free 0
              have f17 : w9.cell? ⟨w.heap.size + 1, 1, none⟩ = some (.int .i64 0) := (S.at_ 5 rfl).cell 1
              have f18 := (S.at_ 5 rfl).free 1
              have f19 : w9.cell? ⟨w.heap.size + 1, 2, none⟩ = some (.slice none 0 0) := (S.at_ 5 rfl).cell 2
              have f20 := (S.at_ 5 rfl).free 2
              replace S := S.put 5 rfl 0 (.int .i64 x0)
              replace c := c.setCell (p := ⟨w.heap.size + 1, 0, none⟩) (by show w.heap.size ≤ w.heap.size + 1; omega) (.int .i64 x0)
              replace S := S.put 5 rfl 1 (.int .i64 x1)
              replace c := c.setCell (p := ⟨w.heap.size + 1, 1, none⟩) (by show w.heap.size ≤ w.heap.size + 1; omega) (.int .i64 x1)
              replace S := S.put 5 rfl 2 (.slice A4 n c4)
              replace c := c.setCell (p := ⟨w.heap.size + 1, 2, none⟩) (by show w.heap.size ≤ w.heap.size + 1; omega) (.slice A4 n c4)
              have H := Lib.hid S.first
              have r0 := Lib.hid ((S.at_ 5 rfl).cell 0)
              have r1 := Lib.hid ((S.at_ 5 rfl).cell 1)
              have r2 := Lib.hid ((S.at_ 5 rfl).cell 2)
              have CC := Lib.hid c
              clear S c
              go_wp2
              exact bodyPost_ret (v := .tuple #[.agg #[.int .i64 x0, .int .i64 x1, .slice A4 n c4], .bool false]) (by simp [results, Try.results31, go_sem, r0.out, r1.out, r2.out]) rfl ⟨_, _, _, _, _, by rw [HV.out], by rw [HV.out]; exact has_mk H.out, CC.out⟩
            · intro K hK
              go_simp
              replace S := S.boxAt c.size (w5.heap.size) rfl #[.int .i64 0, .int .i64 0, .slice none 0 0] 29
              replace c := c.alloc c.size (.cells #[.int .i64 0, .int .i64 0, .slice none 0 0] 29)
              clear HF
              have HF : (w5.alloc (.cells #[.int .i64 0, .int .i64 0, .slice none 0 0] 29)).cell? ⟨qo, 0, none⟩ = some (.int .i64 x0) ∧ (w5.alloc (.cells #[.int .i64 0, .int .i64 0, .slice none 0 0] 29)).cell? ⟨qo, 1, none⟩ = some (.int .i64 x1) ∧ (w5.alloc (.cells #[.int .i64 0, .int .i64 0, .slice none 0 0] 29)).cell? ⟨qo, 2, none⟩ = some (.slice G m gc) ∧ (w5.alloc (.cells #[.int .i64 0, .int .i64 0, .slice none 0 0] 29)).cell? ⟨b, off + j * 9, none⟩ = some (.int .i64 e0) ∧ (w5.alloc (.cells #[.int .i64 0, .int .i64 0, .slice none 0 0] 29)).cell? ⟨b, off + j * 9 + 1, none⟩ = some (.int .i64 e1) ∧ (w5.alloc (.cells #[.int .i64 0, .int .i64 0, .slice none 0 0] 29)).cell? ⟨b, off + j * 9 + 2, none⟩ = some (.int .i64 e2) ∧ (w5.alloc (.cells #[.int .i64 0, .int .i64 0, .slice none 0 0] 29)).cell? ⟨b, off + j * 9 + 3, none⟩ = some (.int .i64 e3) ∧ (w5.alloc (.cells #[.int .i64 0, .int .i64 0, .slice none 0 0] 29)).cell? ⟨b, off + j * 9 + 4, none⟩ = some (.int .i64 e4) ∧ (w5.alloc (.cells #[.int .i64 0, .int .i64 0, .slice none 0 0] 29)).cell? ⟨b, off + j * 9 + 5, none⟩ = some (.int .i64 e5) ∧ (w5.alloc (.cells #[.int .i64 0, .int .i64 0, .slice none 0 0] 29)).cell? ⟨b, off + j * 9 + 6, none⟩ = some (.int .i64 e6) ∧ (w5.alloc (.cells #[.int .i64 0, .int .i64 0, .slice none 0 0] 29)).cell? ⟨b, off + j * 9 + 7, none⟩ = some (.int .i64 e7) ∧ (w5.alloc (.cells #[.int .i64 0, .int .i64 0, .slice none 0 0] 29)).cell? ⟨b, off + j * 9 + 8, none⟩ = some (.int .i64 e8) := ⟨(S.at_ 2 rfl).cell 0, (S.at_ 2 rfl).cell 1, (S.at_ 2 rfl).cell 2, (c.cell (p := ⟨b, off + j * 9, none⟩) (show b < _ by omega)).trans hc0, (c.cell (p := ⟨b, off + j * 9 + 1, none⟩) (show b < _ by omega)).trans hc1, (c.cell (p := ⟨b, off + j * 9 + 2, none⟩) (show b < _ by omega)).trans hc2, (c.cell (p := ⟨b, off + j * 9 + 3, none⟩) (show b < _ by omega)).trans hc3, (c.cell (p := ⟨b, off + j * 9 + 4, none⟩) (show b < _ by omega)).trans hc4, (c.cell (p := ⟨b, off + j * 9 + 5, none⟩) (show b < _ by omega)).trans hc5, (c.cell (p := ⟨b, off + j * 9 + 6, none⟩) (show b < _ by omega)).trans hc6, (c.cell (p := ⟨b, off + j * 9 + 7, none⟩) (show b < _ by omega)).trans hc7, (c.cell (p := ⟨b, off + j * 9 + 8, none⟩) (show b < _ by omega)).trans hc8⟩
              refine hK _ _ (fun _ => HF) ?_
              clear hK K
              try simp only [Act.put]
              generalize hw : w5.alloc (.cells #[.int .i64 0, .int .i64 0, .slice none 0 0] 29) = w6 at *
              clear hw
              obtain ⟨qb, hqb⟩ : ∃ q, q = w5.heap.size := ⟨_, rfl⟩
              rw [← hqb] at S ⊢
              clear hqb
              refine wpAnyL_step (i := 5) (by kernel_rfl) rfl rfl ?_
              intro K hK
              go_simp
              refine (sApp_any x0 x1 G m gc _ (l ++ ls.take j) e0 e1 e2 e3 e4 e5 e6 e7 e8 _ ((S.own_ 1 rfl).rd) (Nat.le_refl _) hsz).mono ?_
              rintro e w7 ⟨y0, y1, A3, n3, c3, rfl, o', b9⟩
              have e9 := HAP.out
              have o2 : Has w7 _ (BookM.cells (appM (more ⟨x0, x1, l⟩ (ls.take j)) ⟨e0, e1, e2, e3, e4, e5, e6, e7, e8⟩).1) _ := o'
              rw [e9] at o2
              obtain ⟨z0, z1, o⟩ := has_split o2
              have hfl : (appM ⟨x0, x1, l ++ ls.take j⟩ ⟨e0, e1, e2, e3, e4, e5, e6, e7, e8⟩).2 = false := congrArg Prod.snd e9
              rw [hfl]
              clear e9 hfl o' o2
              have z2 : x0 = y0 := z0.symm
              have z3 : x1 = y1 := z1.symm
              clear z0 z1
              subst z2 z3
              obtain ⟨fp_nx, S'⟩ := S.has b9 o c.size
              replace c := c.trans (b9.mono c.size)
              clear S; have S := S'; clear S' o b9
              clear HF
              have HF : w7.cell? ⟨qo, 0, none⟩ = some (.int .i64 x0) ∧ w7.cell? ⟨qo, 1, none⟩ = some (.int .i64 x1) ∧ w7.cell? ⟨qo, 2, none⟩ = some (.slice G m gc) ∧ w7.cell? ⟨b, off + j * 9, none⟩ = some (.int .i64 e0) ∧ w7.cell? ⟨b, off + j * 9 + 1, none⟩ = some (.int .i64 e1) ∧ w7.cell? ⟨b, off + j * 9 + 2, none⟩ = some (.int .i64 e2) ∧ w7.cell? ⟨b, off + j * 9 + 3, none⟩ = some (.int .i64 e3) ∧ w7.cell? ⟨b, off + j * 9 + 4, none⟩ = some (.int .i64 e4) ∧ w7.cell? ⟨b, off + j * 9 + 5, none⟩ = some (.int .i64 e5) ∧ w7.cell? ⟨b, off + j * 9 + 6, none⟩ = some (.int .i64 e6) ∧ w7.cell? ⟨b, off + j * 9 + 7, none⟩ = some (.int .i64 e7) ∧ w7.cell? ⟨b, off + j * 9 + 8, none⟩ = some (.int .i64 e8) := ⟨(S.at_ 3 rfl).cell 0, (S.at_ 3 rfl).cell 1, (S.at_ 3 rfl).cell 2, (c.cell (p := ⟨b, off + j * 9, none⟩) (show b < _ by omega)).trans hc0, (c.cell (p := ⟨b, off + j * 9 + 1, none⟩) (show b < _ by omega)).trans hc1, (c.cell (p := ⟨b, off + j * 9 + 2, none⟩) (show b < _ by omega)).trans hc2, (c.cell (p := ⟨b, off + j * 9 + 3, none⟩) (show b < _ by omega)).trans hc3, (c.cell (p := ⟨b, off + j * 9 + 4, none⟩) (show b < _ by omega)).trans hc4, (c.cell (p := ⟨b, off + j * 9 + 5, none⟩) (show b < _ by omega)).trans hc5, (c.cell (p := ⟨b, off + j * 9 + 6, none⟩) (show b < _ by omega)).trans hc6, (c.cell (p := ⟨b, off + j * 9 + 7, none⟩) (show b < _ by omega)).trans hc7, (c.cell (p := ⟨b, off + j * 9 + 8, none⟩) (show b < _ by omega)).trans hc8⟩
              refine hK _ _ (fun _ => HF) ?_
              clear hK K
              try simp only [Act.put]
              refine wpAnyL_pure (i := 6) (v := ?_) rfl rfl (by kernel_rfl) (by kernel_rfl) (by kernel_rfl) (fun _ _ _ h => h) HF (Or.inl ⟨by rfl, ?_⟩) ?_
              rotate_left 1
              · (intro v _; go_simp; try with_reducible rfl)
              try simp only [Act.put]
              refine wpAnyL_pure (i := 7) (v := ?_) rfl rfl (by kernel_rfl) (by kernel_rfl) (by kernel_rfl) (fun _ _ _ h => h) HF (Or.inl ⟨by rfl, ?_⟩) ?_
              rotate_left 1
              · (intro v _; go_simp; try with_reducible rfl)
              try simp only [Act.put]
              refine wpAnyL_pure (i := 8) (v := ?_) rfl rfl (by kernel_rfl) (by kernel_rfl) (by kernel_rfl) (fun _ _ _ h => h) HF (Or.inl ⟨by rfl, ?_⟩) ?_
              rotate_left 1
              · (intro v _; go_simp; try with_reducible rfl)
              try simp only [Act.put]
              have f6 : w7.cell? ⟨qb, 0, none⟩ = some (.int .i64 0) := (S.at_ 1 rfl).cell 0
              have f7 := (S.at_ 1 rfl).free 0
              have f8 : w7.cell? ⟨qb, 1, none⟩ = some (.int .i64 0) := (S.at_ 1 rfl).cell 1
              have f9 := (S.at_ 1 rfl).free 1
              have f10 : w7.cell? ⟨qb, 2, none⟩ = some (.slice none 0 0) := (S.at_ 1 rfl).cell 2
              have f11 := (S.at_ 1 rfl).free 2
              refine wpAnyL_step (i := 10) (by kernel_rfl) rfl rfl ?_
              intro K hK
              go_simp
              replace c := c.setCell (p := ⟨qb, 0, none⟩) (S.base_le 1 rfl) (.int .i64 x0)
              replace S := S.put 1 rfl 0 (.int .i64 x0)
              replace c := c.setCell (p := ⟨qb, 1, none⟩) (S.base_le 1 rfl) (.int .i64 x1)
              replace S := S.put 1 rfl 1 (.int .i64 x1)
              replace c := c.setCell (p := ⟨qb, 2, none⟩) (S.base_le 1 rfl) (.slice A3 n3 c3)
              replace S := S.put 1 rfl 2 (.slice A3 n3 c3)
              clear HF
              have HF : (((w7.setCell ⟨qb, 0, none⟩ (.int .i64 x0)).setCell ⟨qb, 1, none⟩ (.int .i64 x1)).setCell ⟨qb, 2, none⟩ (.slice A3 n3 c3)).cell? ⟨qo, 0, none⟩ = some (.int .i64 x0) ∧ (((w7.setCell ⟨qb, 0, none⟩ (.int .i64 x0)).setCell ⟨qb, 1, none⟩ (.int .i64 x1)).setCell ⟨qb, 2, none⟩ (.slice A3 n3 c3)).cell? ⟨qo, 1, none⟩ = some (.int .i64 x1) ∧ (((w7.setCell ⟨qb, 0, none⟩ (.int .i64 x0)).setCell ⟨qb, 1, none⟩ (.int .i64 x1)).setCell ⟨qb, 2, none⟩ (.slice A3 n3 c3)).cell? ⟨qo, 2, none⟩ = some (.slice G m gc) ∧ (((w7.setCell ⟨qb, 0, none⟩ (.int .i64 x0)).setCell ⟨qb, 1, none⟩ (.int .i64 x1)).setCell ⟨qb, 2, none⟩ (.slice A3 n3 c3)).cell? ⟨b, off + j * 9, none⟩ = some (.int .i64 e0) ∧ (((w7.setCell ⟨qb, 0, none⟩ (.int .i64 x0)).setCell ⟨qb, 1, none⟩ (.int .i64 x1)).setCell ⟨qb, 2, none⟩ (.slice A3 n3 c3)).cell? ⟨b, off + j * 9 + 1, none⟩ = some (.int .i64 e1) ∧ (((w7.setCell ⟨qb, 0, none⟩ (.int .i64 x0)).setCell ⟨qb, 1, none⟩ (.int .i64 x1)).setCell ⟨qb, 2, none⟩ (.slice A3 n3 c3)).cell? ⟨b, off + j * 9 + 2, none⟩ = some (.int .i64 e2) ∧ (((w7.setCell ⟨qb, 0, none⟩ (.int .i64 x0)).setCell ⟨qb, 1, none⟩ (.int .i64 x1)).setCell ⟨qb, 2, none⟩ (.slice A3 n3 c3)).cell? ⟨b, off + j * 9 + 3, none⟩ = some (.int .i64 e3) ∧ (((w7.setCell ⟨qb, 0, none⟩ (.int .i64 x0)).setCell ⟨qb, 1, none⟩ (.int .i64 x1)).setCell ⟨qb, 2, none⟩ (.slice A3 n3 c3)).cell? ⟨b, off + j * 9 + 4, none⟩ = some (.int .i64 e4) ∧ (((w7.setCell ⟨qb, 0, none⟩ (.int .i64 x0)).setCell ⟨qb, 1, none⟩ (.int .i64 x1)).setCell ⟨qb, 2, none⟩ (.slice A3 n3 c3)).cell? ⟨b, off + j * 9 + 5, none⟩ = some (.int .i64 e5) ∧ (((w7.setCell ⟨qb, 0, none⟩ (.int .i64 x0)).setCell ⟨qb, 1, none⟩ (.int .i64 x1)).setCell ⟨qb, 2, none⟩ (.slice A3 n3 c3)).cell? ⟨b, off + j * 9 + 6, none⟩ = some (.int .i64 e6) ∧ (((w7.setCell ⟨qb, 0, none⟩ (.int .i64 x0)).setCell ⟨qb, 1, none⟩ (.int .i64 x1)).setCell ⟨qb, 2, none⟩ (.slice A3 n3 c3)).cell? ⟨b, off + j * 9 + 7, none⟩ = some (.int .i64 e7) ∧ (((w7.setCell ⟨qb, 0, none⟩ (.int .i64 x0)).setCell ⟨qb, 1, none⟩ (.int .i64 x1)).setCell ⟨qb, 2, none⟩ (.slice A3 n3 c3)).cell? ⟨b, off + j * 9 + 8, none⟩ = some (.int .i64 e8) := ⟨(S.at_ 3 rfl).cell 0, (S.at_ 3 rfl).cell 1, (S.at_ 3 rfl).cell 2, (c.cell (p := ⟨b, off + j * 9, none⟩) (show b < _ by omega)).trans hc0, (c.cell (p := ⟨b, off + j * 9 + 1, none⟩) (show b < _ by omega)).trans hc1, (c.cell (p := ⟨b, off + j * 9 + 2, none⟩) (show b < _ by omega)).trans hc2, (c.cell (p := ⟨b, off + j * 9 + 3, none⟩) (show b < _ by omega)).trans hc3, (c.cell (p := ⟨b, off + j * 9 + 4, none⟩) (show b < _ by omega)).trans hc4, (c.cell (p := ⟨b, off + j * 9 + 5, none⟩) (show b < _ by omega)).trans hc5, (c.cell (p := ⟨b, off + j * 9 + 6, none⟩) (show b < _ by omega)).trans hc6, (c.cell (p := ⟨b, off + j * 9 + 7, none⟩) (show b < _ by omega)).trans hc7, (c.cell (p := ⟨b, off + j * 9 + 8, none⟩) (show b < _ by omega)).trans hc8⟩
              refine hK _ _ (fun _ => HF) ?_
              clear hK K
              try simp only [Act.put]
              generalize ((w7.setCell ⟨qb, 0, none⟩ (.int .i64 x0)).setCell ⟨qb, 1, none⟩ (.int .i64 x1)).setCell ⟨qb, 2, none⟩ (.slice A3 n3 c3) = w8 at *
              clear f6 f7 f8 f9 f10 f11
              refine wpAnyL_step (i := 11) (by kernel_rfl) rfl rfl ?_
              intro K hK
              go_simp
              refine hK _ _ (fun h => nomatch (show true = false from h)) ?_
              clear hK K
              try simp only [Act.put]
              refine wpAnyL_done (by kernel_rfl) ?_ _
              clear HF
              have f12 : w8.cell? ⟨w.heap.size, 0, none⟩ = some (.int .i64 x0) := (S.at_ 5 rfl).cell 0
              have f13 : w8.cell? ⟨w.heap.size, 1, none⟩ = some (.int .i64 x1) := (S.at_ 5 rfl).cell 1
              have f14 : w8.cell? ⟨w.heap.size, 2, none⟩ = some (.slice A n cc) := (S.at_ 5 rfl).cell 2
              go_wp2_with fail
              refine (sCopy_any x0 x1 A n cc B l _ (HH.out.keep (c.mono hB)) (Nat.le_trans hB c.size) hs).mono ?_
              rintro e w9 ⟨A4, c4, rfl, o, b2⟩
              obtain ⟨fp_cp, S'⟩ := S.has b2 o c.size
              replace c := c.trans (b2.mono c.size)
              clear S; have S := S'; clear S' o b2 f12 f13 f14
              have f15 : w9.cell? ⟨w.heap.size + 1, 0, none⟩ = some (.int .i64 0) := (S.at_ 5 rfl).cell 0
              have f16 := (S.at_ 5 rfl).free 0
              have f17 : w9.cell? ⟨w.heap.size + 1, 1, none⟩ = some (.int .i64 0) := (S.at_ 5 rfl).cell 1
              have f18 := (S.at_ 5 rfl).free 1
              have f19 : w9.cell? ⟨w.heap.size + 1, 2, none⟩ = some (.slice none 0 0) := (S.at_ 5 rfl).cell 2
              have f20 := (S.at_ 5 rfl).free 2
              replace S := S.put 5 rfl 0 (.int .i64 x0)
              replace c := c.setCell (p := ⟨w.heap.size + 1, 0, none⟩) (by show w.heap.size ≤ w.heap.size + 1; omega) (.int .i64 x0)
              replace S := S.put 5 rfl 1 (.int .i64 x1)
              replace c := c.setCell (p := ⟨w.heap.size + 1, 1, none⟩) (by show w.heap.size ≤ w.heap.size + 1; omega) (.int .i64 x1)
              replace S := S.put 5 rfl 2 (.slice A4 n c4)
              replace c := c.setCell (p := ⟨w.heap.size + 1, 2, none⟩) (by show w.heap.size ≤ w.heap.size + 1; omega) (.slice A4 n c4)
              have H := Lib.hid S.first
              have r0 := Lib.hid ((S.at_ 5 rfl).cell 0)
              have r1 := Lib.hid ((S.at_ 5 rfl).cell 1)
              have r2 := Lib.hid ((S.at_ 5 rfl).cell 2)
              have CC := Lib.hid c
              clear S c
              go_wp2
              exact bodyPost_ret (v := .tuple #[.agg #[.int .i64 x0, .int .i64 x1, .slice A4 n c4], .bool false]) (by simp [results, Try.results31, go_sem, r0.out, r1.out, r2.out]) rfl ⟨_, _, _, _, _, by rw [HV.out], by rw [HV.out]; exact has_mk H.out, CC.out⟩
          case true =>
            have HAP := Lib.hid (HAM.out.trans (if_pos hg))
            have HN := Lib.hid (show ∀ q, q < j + 1 → growAt ⟨x0, x1, l⟩ ls q = true from fun q hq => by
              rcases Nat.lt_or_ge q j with h1 | h1
              · exact hall q h1
              · obtain rfl : q = j := by omega
                exact hg)
            clear hg hall HAM hjl
            go_wp2_with fail
            refine wp_region_L (fun v => v.cell? ⟨qo, 0, none⟩ = some (.int .i64 x0) ∧ v.cell? ⟨qo, 1, none⟩ = some (.int .i64 x1) ∧ v.cell? ⟨qo, 2, none⟩ = some (.slice G m gc) ∧ v.cell? ⟨b, off + j * 9, none⟩ = some (.int .i64 e0) ∧ v.cell? ⟨b, off + j * 9 + 1, none⟩ = some (.int .i64 e1) ∧ v.cell? ⟨b, off + j * 9 + 2, none⟩ = some (.int .i64 e2) ∧ v.cell? ⟨b, off + j * 9 + 3, none⟩ = some (.int .i64 e3) ∧ v.cell? ⟨b, off + j * 9 + 4, none⟩ = some (.int .i64 e4) ∧ v.cell? ⟨b, off + j * 9 + 5, none⟩ = some (.int .i64 e5) ∧ v.cell? ⟨b, off + j * 9 + 6, none⟩ = some (.int .i64 e6) ∧ v.cell? ⟨b, off + j * 9 + 7, none⟩ = some (.int .i64 e7) ∧ v.cell? ⟨b, off + j * 9 + 8, none⟩ = some (.int .i64 e8)) 11 (by kernel_rfl) ?_
            replace S := S.keep ((Below.refl _ _).drew)
            replace c := c.drew
            generalize wr.drew = w5 at *
            have HF : w5.cell? ⟨qo, 0, none⟩ = some (.int .i64 x0) ∧ w5.cell? ⟨qo, 1, none⟩ = some (.int .i64 x1) ∧ w5.cell? ⟨qo, 2, none⟩ = some (.slice G m gc) ∧ w5.cell? ⟨b, off + j * 9, none⟩ = some (.int .i64 e0) ∧ w5.cell? ⟨b, off + j * 9 + 1, none⟩ = some (.int .i64 e1) ∧ w5.cell? ⟨b, off + j * 9 + 2, none⟩ = some (.int .i64 e2) ∧ w5.cell? ⟨b, off + j * 9 + 3, none⟩ = some (.int .i64 e3) ∧ w5.cell? ⟨b, off + j * 9 + 4, none⟩ = some (.int .i64 e4) ∧ w5.cell? ⟨b, off + j * 9 + 5, none⟩ = some (.int .i64 e5) ∧ w5.cell? ⟨b, off + j * 9 + 6, none⟩ = some (.int .i64 e6) ∧ w5.cell? ⟨b, off + j * 9 + 7, none⟩ = some (.int .i64 e7) ∧ w5.cell? ⟨b, off + j * 9 + 8, none⟩ = some (.int .i64 e8) := ⟨(S.at_ 1 rfl).cell 0, (S.at_ 1 rfl).cell 1, (S.at_ 1 rfl).cell 2, (c.cell (p := ⟨b, off + j * 9, none⟩) (show b < _ by omega)).trans hc0, (c.cell (p := ⟨b, off + j * 9 + 1, none⟩) (show b < _ by omega)).trans hc1, (c.cell (p := ⟨b, off + j * 9 + 2, none⟩) (show b < _ by omega)).trans hc2, (c.cell (p := ⟨b, off + j * 9 + 3, none⟩) (show b < _ by omega)).trans hc3, (c.cell (p := ⟨b, off + j * 9 + 4, none⟩) (show b < _ by omega)).trans hc4, (c.cell (p := ⟨b, off + j * 9 + 5, none⟩) (show b < _ by omega)).trans hc5, (c.cell (p := ⟨b, off + j * 9 + 6, none⟩) (show b < _ by omega)).trans hc6, (c.cell (p := ⟨b, off + j * 9 + 7, none⟩) (show b < _ by omega)).trans hc7, (c.cell (p := ⟨b, off + j * 9 + 8, none⟩) (show b < _ by omega)).trans hc8⟩
            refine wpAnyL_take (i := 0) (v := ?_) rfl rfl (by kernel_rfl) (by kernel_rfl) (by kernel_rfl) (by kernel_rfl) (by kernel_rfl) (fun _ _ _ h => h) HF (Or.inl ⟨by rfl, ?_⟩) ?_
            rotate_left 1
            · (rintro v ⟨a0, a1, a2, a3, a4, a5, a6, a7, a8, a9, a10, a11⟩; go_simp; try with_reducible rfl)
            try simp only [Act.put]
            refine wpAnyL_take (i := 1) (v := ?_) rfl rfl (by kernel_rfl) (by kernel_rfl) (by kernel_rfl) (by kernel_rfl) (by kernel_rfl) (fun _ _ _ h => h) HF (Or.inl ⟨by rfl, ?_⟩) ?_
            rotate_left 1
            · (rintro v ⟨a0, a1, a2, a3, a4, a5, a6, a7, a8, a9, a10, a11⟩; go_simp; try with_reducible rfl)
            try simp only [Act.put]
            refine wpAnyL_take (i := 2) (v := ?_) rfl rfl (by kernel_rfl) (by kernel_rfl) (by kernel_rfl) (by kernel_rfl) (by kernel_rfl) (fun _ _ _ h => h) HF (Or.inl ⟨by rfl, ?_⟩) ?_
            rotate_left 1
            · (rintro v ⟨a0, a1, a2, a3, a4, a5, a6, a7, a8, a9, a10, a11⟩; go_simp; try with_reducible rfl)
            try simp only [Act.put]
            refine wpAnyL_take (i := 3) (v := ?_) rfl rfl (by kernel_rfl) (by kernel_rfl) (by kernel_rfl) (by kernel_rfl) (by kernel_rfl) (fun _ _ _ h => h) HF (Or.inl ⟨by rfl, ?_⟩) ?_
            rotate_left 1
            · (rintro v ⟨a0, a1, a2, a3, a4, a5, a6, a7, a8, a9, a10, a11⟩; go_simp; try with_reducible rfl)
            try simp only [Act.put]
            refine wpAnyL_take (i := 4) (v := ?_) rfl rfl (by kernel_rfl) (by kernel_rfl) (by kernel_rfl) (by kernel_rfl) (by kernel_rfl) (fun _ _ _ h => h) HF (Or.inl ⟨by rfl, ?_⟩) ?_
            rotate_left 1
            · (rintro v ⟨a0, a1, a2, a3, a4, a5, a6, a7, a8, a9, a10, a11⟩; go_simp; try with_reducible rfl)
            try simp only [Act.put]
            refine wpAnyL_two (i := 5) (k := 9) (by kernel_rfl) rfl rfl rfl rfl ?_ ?_
            · intro K hK
              go_simp
              refine (sApp_any x0 x1 G m gc _ (l ++ ls.take j) e0 e1 e2 e3 e4 e5 e6 e7 e8 _ ((S.own_ 0 rfl).rd) (Nat.le_refl _) hsz).mono ?_
              rintro e w6 ⟨y0, y1, A3, n3, c3, rfl, o', b9⟩
              have e9 := HAP.out
              have o2 : Has w6 _ (BookM.cells (appM (more ⟨x0, x1, l⟩ (ls.take j)) ⟨e0, e1, e2, e3, e4, e5, e6, e7, e8⟩).1) _ := o'
              rw [e9] at o2
              obtain ⟨z0, z1, o⟩ := has_split o2
              have hfl : (appM ⟨x0, x1, l ++ ls.take j⟩ ⟨e0, e1, e2, e3, e4, e5, e6, e7, e8⟩).2 = true := congrArg Prod.snd e9
              rw [hfl]
              clear e9 hfl o' o2
              have z2 : x0 = y0 := z0.symm
              have z3 : x1 = y1 := z1.symm
              clear z0 z1
              subst z2 z3
              obtain ⟨fp_nx, S'⟩ := S.has b9 o c.size
              replace c := c.trans (b9.mono c.size)
              clear S; have S := S'; clear S' o b9
              clear HF
              have HF : w6.cell? ⟨qo, 0, none⟩ = some (.int .i64 x0) ∧ w6.cell? ⟨qo, 1, none⟩ = some (.int .i64 x1) ∧ w6.cell? ⟨qo, 2, none⟩ = some (.slice G m gc) ∧ w6.cell? ⟨b, off + j * 9, none⟩ = some (.int .i64 e0) ∧ w6.cell? ⟨b, off + j * 9 + 1, none⟩ = some (.int .i64 e1) ∧ w6.cell? ⟨b, off + j * 9 + 2, none⟩ = some (.int .i64 e2) ∧ w6.cell? ⟨b, off + j * 9 + 3, none⟩ = some (.int .i64 e3) ∧ w6.cell? ⟨b, off + j * 9 + 4, none⟩ = some (.int .i64 e4) ∧ w6.cell? ⟨b, off + j * 9 + 5, none⟩ = some (.int .i64 e5) ∧ w6.cell? ⟨b, off + j * 9 + 6, none⟩ = some (.int .i64 e6) ∧ w6.cell? ⟨b, off + j * 9 + 7, none⟩ = some (.int .i64 e7) ∧ w6.cell? ⟨b, off + j * 9 + 8, none⟩ = some (.int .i64 e8) := ⟨(S.at_ 2 rfl).cell 0, (S.at_ 2 rfl).cell 1, (S.at_ 2 rfl).cell 2, (c.cell (p := ⟨b, off + j * 9, none⟩) (show b < _ by omega)).trans hc0, (c.cell (p := ⟨b, off + j * 9 + 1, none⟩) (show b < _ by omega)).trans hc1, (c.cell (p := ⟨b, off + j * 9 + 2, none⟩) (show b < _ by omega)).trans hc2, (c.cell (p := ⟨b, off + j * 9 + 3, none⟩) (show b < _ by omega)).trans hc3, (c.cell (p := ⟨b, off + j * 9 + 4, none⟩) (show b < _ by omega)).trans hc4, (c.cell (p := ⟨b, off + j * 9 + 5, none⟩) (show b < _ by omega)).trans hc5, (c.cell (p := ⟨b, off + j * 9 + 6, none⟩) (show b < _ by omega)).trans hc6, (c.cell (p := ⟨b, off + j * 9 + 7, none⟩) (show b < _ by omega)).trans hc7, (c.cell (p := ⟨b, off + j * 9 + 8, none⟩) (show b < _ by omega)).trans hc8⟩
              refine hK _ _ (fun _ => HF) ?_
              clear hK K
              try simp only [Act.put]
              refine wpAnyL_pure (i := 6) (v := ?_) rfl rfl (by kernel_rfl) (by kernel_rfl) (by kernel_rfl) (fun _ _ _ h => h) HF (Or.inl ⟨by rfl, ?_⟩) ?_
              rotate_left 1
              · (intro v _; go_simp; try with_reducible rfl)
              try simp only [Act.put]
              refine wpAnyL_pure (i := 7) (v := ?_) rfl rfl (by kernel_rfl) (by kernel_rfl) (by kernel_rfl) (fun _ _ _ h => h) HF (Or.inl ⟨by rfl, ?_⟩) ?_
              rotate_left 1
              · (intro v _; go_simp; try with_reducible rfl)
              try simp only [Act.put]
              refine wpAnyL_pure (i := 8) (v := ?_) rfl rfl (by kernel_rfl) (by kernel_rfl) (by kernel_rfl) (fun _ _ _ h => h) HF (Or.inl ⟨by rfl, ?_⟩) ?_
              rotate_left 1
              · (intro v _; go_simp; try with_reducible rfl)
              try simp only [Act.put]
              refine wpAnyL_step (i := 9) (by kernel_rfl) rfl rfl ?_
              intro K hK
              go_simp
              replace S := S.boxAt c.size (w6.heap.size) rfl #[.int .i64 0, .int .i64 0, .slice none 0 0] 29
              replace c := c.alloc c.size (.cells #[.int .i64 0, .int .i64 0, .slice none 0 0] 29)
              clear HF
              have HF : (w6.alloc (.cells #[.int .i64 0, .int .i64 0, .slice none 0 0] 29)).cell? ⟨qo, 0, none⟩ = some (.int .i64 x0) ∧ (w6.alloc (.cells #[.int .i64 0, .int .i64 0, .slice none 0 0] 29)).cell? ⟨qo, 1, none⟩ = some (.int .i64 x1) ∧ (w6.alloc (.cells #[.int .i64 0, .int .i64 0, .slice none 0 0] 29)).cell? ⟨qo, 2, none⟩ = some (.slice G m gc) ∧ (w6.alloc (.cells #[.int .i64 0, .int .i64 0, .slice none 0 0] 29)).cell? ⟨b, off + j * 9, none⟩ = some (.int .i64 e0) ∧ (w6.alloc (.cells #[.int .i64 0, .int .i64 0, .slice none 0 0] 29)).cell? ⟨b, off + j * 9 + 1, none⟩ = some (.int .i64 e1) ∧ (w6.alloc (.cells #[.int .i64 0, .int .i64 0, .slice none 0 0] 29)).cell? ⟨b, off + j * 9 + 2, none⟩ = some (.int .i64 e2) ∧ (w6.alloc (.cells #[.int .i64 0, .int .i64 0, .slice none 0 0] 29)).cell? ⟨b, off + j * 9 + 3, none⟩ = some (.int .i64 e3) ∧ (w6.alloc (.cells #[.int .i64 0, .int .i64 0, .slice none 0 0] 29)).cell? ⟨b, off + j * 9 + 4, none⟩ = some (.int .i64 e4) ∧ (w6.alloc (.cells #[.int .i64 0, .int .i64 0, .slice none 0 0] 29)).cell? ⟨b, off + j * 9 + 5, none⟩ = some (.int .i64 e5) ∧ (w6.alloc (.cells #[.int .i64 0, .int .i64 0, .slice none 0 0] 29)).cell? ⟨b, off + j * 9 + 6, none⟩ = some (.int .i64 e6) ∧ (w6.alloc (.cells #[.int .i64 0, .int .i64 0, .slice none 0 0] 29)).cell? ⟨b, off + j * 9 + 7, none⟩ = some (.int .i64 e7) ∧ (w6.alloc (.cells #[.int .i64 0, .int .i64 0, .slice none 0 0] 29)).cell? ⟨b, off + j * 9 + 8, none⟩ = some (.int .i64 e8) := ⟨(S.at_ 3 rfl).cell 0, (S.at_ 3 rfl).cell 1, (S.at_ 3 rfl).cell 2, (c.cell (p := ⟨b, off + j * 9, none⟩) (show b < _ by omega)).trans hc0, (c.cell (p := ⟨b, off + j * 9 + 1, none⟩) (show b < _ by omega)).trans hc1, (c.cell (p := ⟨b, off + j * 9 + 2, none⟩) (show b < _ by omega)).trans hc2, (c.cell (p := ⟨b, off + j * 9 + 3, none⟩) (show b < _ by omega)).trans hc3, (c.cell (p := ⟨b, off + j * 9 + 4, none⟩) (show b < _ by omega)).trans hc4, (c.cell (p := ⟨b, off + j * 9 + 5, none⟩) (show b < _ by omega)).trans hc5, (c.cell (p := ⟨b, off + j * 9 + 6, none⟩) (show b < _ by omega)).trans hc6, (c.cell (p := ⟨b, off + j * 9 + 7, none⟩) (show b < _ by omega)).trans hc7, (c.cell (p := ⟨b, off + j * 9 + 8, none⟩) (show b < _ by omega)).trans hc8⟩
              refine hK _ _ (fun _ => HF) ?_
              clear hK K
              try simp only [Act.put]
              generalize hw : w6.alloc (.cells #[.int .i64 0, .int .i64 0, .slice none 0 0] 29) = w7 at *
              clear hw
              obtain ⟨qb, hqb⟩ : ∃ q, q = w6.heap.size := ⟨_, rfl⟩
              rw [← hqb] at S ⊢
              clear hqb
              have f6 : w7.cell? ⟨qb, 0, none⟩ = some (.int .i64 0) := (S.at_ 0 rfl).cell 0
              have f7 := (S.at_ 0 rfl).free 0
              have f8 : w7.cell? ⟨qb, 1, none⟩ = some (.int .i64 0) := (S.at_ 0 rfl).cell 1
              have f9 := (S.at_ 0 rfl).free 1
              have f10 : w7.cell? ⟨qb, 2, none⟩ = some (.slice none 0 0) := (S.at_ 0 rfl).cell 2
              have f11 := (S.at_ 0 rfl).free 2
              refine wpAnyL_step (i := 10) (by kernel_rfl) rfl rfl ?_
              intro K hK
              go_simp
              replace c := c.setCell (p := ⟨qb, 0, none⟩) (S.base_le 0 rfl) (.int .i64 x0)
              replace S := S.put 0 rfl 0 (.int .i64 x0)
              replace c := c.setCell (p := ⟨qb, 1, none⟩) (S.base_le 0 rfl) (.int .i64 x1)
              replace S := S.put 0 rfl 1 (.int .i64 x1)
              replace c := c.setCell (p := ⟨qb, 2, none⟩) (S.base_le 0 rfl) (.slice A3 n3 c3)
              replace S := S.put 0 rfl 2 (.slice A3 n3 c3)
              clear HF
              have HF : (((w7.setCell ⟨qb, 0, none⟩ (.int .i64 x0)).setCell ⟨qb, 1, none⟩ (.int .i64 x1)).setCell ⟨qb, 2, none⟩ (.slice A3 n3 c3)).cell? ⟨qo, 0, none⟩ = some (.int .i64 x0) ∧ (((w7.setCell ⟨qb, 0, none⟩ (.int .i64 x0)).setCell ⟨qb, 1, none⟩ (.int .i64 x1)).setCell ⟨qb, 2, none⟩ (.slice A3 n3 c3)).cell? ⟨qo, 1, none⟩ = some (.int .i64 x1) ∧ (((w7.setCell ⟨qb, 0, none⟩ (.int .i64 x0)).setCell ⟨qb, 1, none⟩ (.int .i64 x1)).setCell ⟨qb, 2, none⟩ (.slice A3 n3 c3)).cell? ⟨qo, 2, none⟩ = some (.slice G m gc) ∧ (((w7.setCell ⟨qb, 0, none⟩ (.int .i64 x0)).setCell ⟨qb, 1, none⟩ (.int .i64 x1)).setCell ⟨qb, 2, none⟩ (.slice A3 n3 c3)).cell? ⟨b, off + j * 9, none⟩ = some (.int .i64 e0) ∧ (((w7.setCell ⟨qb, 0, none⟩ (.int .i64 x0)).setCell ⟨qb, 1, none⟩ (.int .i64 x1)).setCell ⟨qb, 2, none⟩ (.slice A3 n3 c3)).cell? ⟨b, off + j * 9 + 1, none⟩ = some (.int .i64 e1) ∧ (((w7.setCell ⟨qb, 0, none⟩ (.int .i64 x0)).setCell ⟨qb, 1, none⟩ (.int .i64 x1)).setCell ⟨qb, 2, none⟩ (.slice A3 n3 c3)).cell? ⟨b, off + j * 9 + 2, none⟩ = some (.int .i64 e2) ∧ (((w7.setCell ⟨qb, 0, none⟩ (.int .i64 x0)).setCell ⟨qb, 1, none⟩ (.int .i64 x1)).setCell ⟨qb, 2, none⟩ (.slice A3 n3 c3)).cell? ⟨b, off + j * 9 + 3, none⟩ = some (.int .i64 e3) ∧ (((w7.setCell ⟨qb, 0, none⟩ (.int .i64 x0)).setCell ⟨qb, 1, none⟩ (.int .i64 x1)).setCell ⟨qb, 2, none⟩ (.slice A3 n3 c3)).cell? ⟨b, off + j * 9 + 4, none⟩ = some (.int .i64 e4) ∧ (((w7.setCell ⟨qb, 0, none⟩ (.int .i64 x0)).setCell ⟨qb, 1, none⟩ (.int .i64 x1)).setCell ⟨qb, 2, none⟩ (.slice A3 n3 c3)).cell? ⟨b, off + j * 9 + 5, none⟩ = some (.int .i64 e5) ∧ (((w7.setCell ⟨qb, 0, none⟩ (.int .i64 x0)).setCell ⟨qb, 1, none⟩ (.int .i64 x1)).setCell ⟨qb, 2, none⟩ (.slice A3 n3 c3)).cell? ⟨b, off + j * 9 + 6, none⟩ = some (.int .i64 e6) ∧ (((w7.setCell ⟨qb, 0, none⟩ (.int .i64 x0)).setCell ⟨qb, 1, none⟩ (.int .i64 x1)).setCell ⟨qb, 2, none⟩ (.slice A3 n3 c3)).cell? ⟨b, off + j * 9 + 7, none⟩ = some (.int .i64 e7) ∧ (((w7.setCell ⟨qb, 0, none⟩ (.int .i64 x0)).setCell ⟨qb, 1, none⟩ (.int .i64 x1)).setCell ⟨qb, 2, none⟩ (.slice A3 n3 c3)).cell? ⟨b, off + j * 9 + 8, none⟩ = some (.int .i64 e8) := ⟨(S.at_ 3 rfl).cell 0, (S.at_ 3 rfl).cell 1, (S.at_ 3 rfl).cell 2, (c.cell (p := ⟨b, off + j * 9, none⟩) (show b < _ by omega)).trans hc0, (c.cell (p := ⟨b, off + j * 9 + 1, none⟩) (show b < _ by omega)).trans hc1, (c.cell (p := ⟨b, off + j * 9 + 2, none⟩) (show b < _ by omega)).trans hc2, (c.cell (p := ⟨b, off + j * 9 + 3, none⟩) (show b < _ by omega)).trans hc3, (c.cell (p := ⟨b, off + j * 9 + 4, none⟩) (show b < _ by omega)).trans hc4, (c.cell (p := ⟨b, off + j * 9 + 5, none⟩) (show b < _ by omega)).trans hc5, (c.cell (p := ⟨b, off + j * 9 + 6, none⟩) (show b < _ by omega)).trans hc6, (c.cell (p := ⟨b, off + j * 9 + 7, none⟩) (show b < _ by omega)).trans hc7, (c.cell (p := ⟨b, off + j * 9 + 8, none⟩) (show b < _ by omega)).trans hc8⟩
              refine hK _ _ (fun _ => HF) ?_
              clear hK K
              try simp only [Act.put]
              generalize ((w7.setCell ⟨qb, 0, none⟩ (.int .i64 x0)).setCell ⟨qb, 1, none⟩ (.int .i64 x1)).setCell ⟨qb, 2, none⟩ (.slice A3 n3 c3) = w8 at *
              clear f6 f7 f8 f9 f10 f11
              refine wpAnyL_step (i := 11) (by kernel_rfl) rfl rfl ?_
              intro K hK
              go_simp
              refine hK _ _ (fun h => nomatch (show true = false from h)) ?_
              clear hK K
              try simp only [Act.put]
              refine wpAnyL_done (by kernel_rfl) ?_ _
              clear HF
              have f12 : w8.cell? ⟨qb, 0, none⟩ = some (.int .i64 x0) := (S.at_ 0 rfl).cell 0
              have f13 : w8.cell? ⟨qb, 1, none⟩ = some (.int .i64 x1) := (S.at_ 0 rfl).cell 1
              have f14 : w8.cell? ⟨qb, 2, none⟩ = some (.slice A3 n3 c3) := (S.at_ 0 rfl).cell 2
              have f15 : w8.cell? ⟨qo, 0, none⟩ = some (.int .i64 x0) := (S.at_ 3 rfl).cell 0
              have f16 := (S.at_ 3 rfl).free 0
              have f17 : w8.cell? ⟨qo, 1, none⟩ = some (.int .i64 x1) := (S.at_ 3 rfl).cell 1
              have f18 := (S.at_ 3 rfl).free 1
              have f19 : w8.cell? ⟨qo, 2, none⟩ = some (.slice G m gc) := (S.at_ 3 rfl).cell 2
              have f20 := (S.at_ 3 rfl).free 2
              replace c := c.setCell (p := ⟨qo, 0, none⟩) (S.base_le 3 rfl) (.int .i64 x0)
              replace S := S.put 3 rfl 0 (.int .i64 x0)
              replace c := c.setCell (p := ⟨qo, 1, none⟩) (S.base_le 3 rfl) (.int .i64 x1)
              replace S := S.put 3 rfl 1 (.int .i64 x1)
              replace c := c.setCell (p := ⟨qo, 2, none⟩) (S.base_le 3 rfl) (.slice A3 n3 c3)
              replace S := S.put 3 rfl 2 (.slice A3 n3 c3)
              replace S := S.pick 5 rfl
              replace S := S.pick 5 rfl
              replace S := S.pick 5 rfl
              replace S := S.pick 4 rfl
              replace S := S.sub (.cons_cons _ (.cons_cons _ (.cons_cons _ (.cons_cons _ (List.nil_sublist _)))))
              have S1 := Lib.hid S
              have C1 := Lib.hid c
              clear S c
              go_wp2
              go_roundw
              case rel => exact ⟨j + 1, A3, n3, c3, _, by omega, by go_num, HN.out, S1.out, C1.out⟩
              case measure => simp [intOf]; omega
            · intro K hK
              go_simp
              replace S := S.boxAt c.size (w5.heap.size) rfl #[.int .i64 0, .int .i64 0, .slice none 0 0] 29
              replace c := c.alloc c.size (.cells #[.int .i64 0, .int .i64 0, .slice none 0 0] 29)
              clear HF
              have HF : (w5.alloc (.cells #[.int .i64 0, .int .i64 0, .slice none 0 0] 29)).cell? ⟨qo, 0, none⟩ = some (.int .i64 x0) ∧ (w5.alloc (.cells #[.int .i64 0, .int .i64 0, .slice none 0 0] 29)).cell? ⟨qo, 1, none⟩ = some (.int .i64 x1) ∧ (w5.alloc (.cells #[.int .i64 0, .int .i64 0, .slice none 0 0] 29)).cell? ⟨qo, 2, none⟩ = some (.slice G m gc) ∧ (w5.alloc (.cells #[.int .i64 0, .int .i64 0, .slice none 0 0] 29)).cell? ⟨b, off + j * 9, none⟩ = some (.int .i64 e0) ∧ (w5.alloc (.cells #[.int .i64 0, .int .i64 0, .slice none 0 0] 29)).cell? ⟨b, off + j * 9 + 1, none⟩ = some (.int .i64 e1) ∧ (w5.alloc (.cells #[.int .i64 0, .int .i64 0, .slice none 0 0] 29)).cell? ⟨b, off + j * 9 + 2, none⟩ = some (.int .i64 e2) ∧ (w5.alloc (.cells #[.int .i64 0, .int .i64 0, .slice none 0 0] 29)).cell? ⟨b, off + j * 9 + 3, none⟩ = some (.int .i64 e3) ∧ (w5.alloc (.cells #[.int .i64 0, .int .i64 0, .slice none 0 0] 29)).cell? ⟨b, off + j * 9 + 4, none⟩ = some (.int .i64 e4) ∧ (w5.alloc (.cells #[.int .i64 0, .int .i64 0, .slice none 0 0] 29)).cell? ⟨b, off + j * 9 + 5, none⟩ = some (.int .i64 e5) ∧ (w5.alloc (.cells #[.int .i64 0, .int .i64 0, .slice none 0 0] 29)).cell? ⟨b, off + j * 9 + 6, none⟩ = some (.int .i64 e6) ∧ (w5.alloc (.cells #[.int .i64 0, .int .i64 0, .slice none 0 0] 29)).cell? ⟨b, off + j * 9 + 7, none⟩ = some (.int .i64 e7) ∧ (w5.alloc (.cells #[.int .i64 0, .int .i64 0, .slice none 0 0] 29)).cell? ⟨b, off + j * 9 + 8, none⟩ = some (.int .i64 e8) := ⟨(S.at_ 2 rfl).cell 0, (S.at_ 2 rfl).cell 1, (S.at_ 2 rfl).cell 2, (c.cell (p := ⟨b, off + j * 9, none⟩) (show b < _ by omega)).trans hc0, (c.cell (p := ⟨b, off + j * 9 + 1, none⟩) (show b < _ by omega)).trans hc1, (c.cell (p := ⟨b, off + j * 9 + 2, none⟩) (show b < _ by omega)).trans hc2, (c.cell (p := ⟨b, off + j * 9 + 3, none⟩) (show b < _ by omega)).trans hc3, (c.cell (p := ⟨b, off + j * 9 + 4, none⟩) (show b < _ by omega)).trans hc4, (c.cell (p := ⟨b, off + j * 9 + 5, none⟩) (show b < _ by omega)).trans hc5, (c.cell (p := ⟨b, off + j * 9 + 6, none⟩) (show b < _ by omega)).trans hc6, (c.cell (p := ⟨b, off + j * 9 + 7, none⟩) (show b < _ by omega)).trans hc7, (c.cell (p := ⟨b, off + j * 9 + 8, none⟩) (show b < _ by omega)).trans hc8⟩
              refine hK _ _ (fun _ => HF) ?_
              clear hK K
              try simp only [Act.put]
              generalize hw : w5.alloc (.cells #[.int .i64 0, .int .i64 0, .slice none 0 0] 29) = w6 at *
              clear hw
              obtain ⟨qb, hqb⟩ : ∃ q, q = w5.heap.size := ⟨_, rfl⟩
              rw [← hqb] at S ⊢
              clear hqb
              refine wpAnyL_step (i := 5) (by kernel_rfl) rfl rfl ?_
              intro K hK
              go_simp
              refine (sApp_any x0 x1 G m gc _ (l ++ ls.take j) e0 e1 e2 e3 e4 e5 e6 e7 e8 _ ((S.own_ 1 rfl).rd) (Nat.le_refl _) hsz).mono ?_
              rintro e w7 ⟨y0, y1, A3, n3, c3, rfl, o', b9⟩
              have e9 := HAP.out
              have o2 : Has w7 _ (BookM.cells (appM (more ⟨x0, x1, l⟩ (ls.take j)) ⟨e0, e1, e2, e3, e4, e5, e6, e7, e8⟩).1) _ := o'
              rw [e9] at o2
              obtain ⟨z0, z1, o⟩ := has_split o2
              have hfl : (appM ⟨x0, x1, l ++ ls.take j⟩ ⟨e0, e1, e2, e3, e4, e5, e6, e7, e8⟩).2 = true := congrArg Prod.snd e9
              rw [hfl]
              clear e9 hfl o' o2
              have z2 : x0 = y0 := z0.symm
              have z3 : x1 = y1 := z1.symm
              clear z0 z1
              subst z2 z3
              obtain ⟨fp_nx, S'⟩ := S.has b9 o c.size
              replace c := c.trans (b9.mono c.size)
              clear S; have S := S'; clear S' o b9
              clear HF
              have HF : w7.cell? ⟨qo, 0, none⟩ = some (.int .i64 x0) ∧ w7.cell? ⟨qo, 1, none⟩ = some (.int .i64 x1) ∧ w7.cell? ⟨qo, 2, none⟩ = some (.slice G m gc) ∧ w7.cell? ⟨b, off + j * 9, none⟩ = some (.int .i64 e0) ∧ w7.cell? ⟨b, off + j * 9 + 1, none⟩ = some (.int .i64 e1) ∧ w7.cell? ⟨b, off + j * 9 + 2, none⟩ = some (.int .i64 e2) ∧ w7.cell? ⟨b, off + j * 9 + 3, none⟩ = some (.int .i64 e3) ∧ w7.cell? ⟨b, off + j * 9 + 4, none⟩ = some (.int .i64 e4) ∧ w7.cell? ⟨b, off + j * 9 + 5, none⟩ = some (.int .i64 e5) ∧ w7.cell? ⟨b, off + j * 9 + 6, none⟩ = some (.int .i64 e6) ∧ w7.cell? ⟨b, off + j * 9 + 7, none⟩ = some (.int .i64 e7) ∧ w7.cell? ⟨b, off + j * 9 + 8, none⟩ = some (.int .i64 e8) := ⟨(S.at_ 3 rfl).cell 0, (S.at_ 3 rfl).cell 1, (S.at_ 3 rfl).cell 2, (c.cell (p := ⟨b, off + j * 9, none⟩) (show b < _ by omega)).trans hc0, (c.cell (p := ⟨b, off + j * 9 + 1, none⟩) (show b < _ by omega)).trans hc1, (c.cell (p := ⟨b, off + j * 9 + 2, none⟩) (show b < _ by omega)).trans hc2, (c.cell (p := ⟨b, off + j * 9 + 3, none⟩) (show b < _ by omega)).trans hc3, (c.cell (p := ⟨b, off + j * 9 + 4, none⟩) (show b < _ by omega)).trans hc4, (c.cell (p := ⟨b, off + j * 9 + 5, none⟩) (show b < _ by omega)).trans hc5, (c.cell (p := ⟨b, off + j * 9 + 6, none⟩) (show b < _ by omega)).trans hc6, (c.cell (p := ⟨b, off + j * 9 + 7, none⟩) (show b < _ by omega)).trans hc7, (c.cell (p := ⟨b, off + j * 9 + 8, none⟩) (show b < _ by omega)).trans hc8⟩
              refine hK _ _ (fun _ => HF) ?_
              clear hK K
              try simp only [Act.put]
              refine wpAnyL_pure (i := 6) (v := ?_) rfl rfl (by kernel_rfl) (by kernel_rfl) (by kernel_rfl) (fun _ _ _ h => h) HF (Or.inl ⟨by rfl, ?_⟩) ?_
              rotate_left 1
              · (intro v _; go_simp; try with_reducible rfl)
              try simp only [Act.put]
              refine wpAnyL_pure (i := 7) (v := ?_) rfl rfl (by kernel_rfl) (by kernel_rfl) (by kernel_rfl) (fun _ _ _ h => h) HF (Or.inl ⟨by rfl, ?_⟩) ?_
              rotate_left 1
              · (intro v _; go_simp; try with_reducible rfl)
              try simp only [Act.put]
              refine wpAnyL_pure (i := 8) (v := ?_) rfl rfl (by kernel_rfl) (by kernel_rfl) (by kernel_rfl) (fun _ _ _ h => h) HF (Or.inl ⟨by rfl, ?_⟩) ?_
              rotate_left 1
              · (intro v _; go_simp; try with_reducible rfl)
              try simp only [Act.put]
              have f6 : w7.cell? ⟨qb, 0, none⟩ = some (.int .i64 0) := (S.at_ 1 rfl).cell 0
              have f7 := (S.at_ 1 rfl).free 0
              have f8 : w7.cell? ⟨qb, 1, none⟩ = some (.int .i64 0) := (S.at_ 1 rfl).cell 1
              have f9 := (S.at_ 1 rfl).free 1
              have f10 : w7.cell? ⟨qb, 2, none⟩ = some (.slice none 0 0) := (S.at_ 1 rfl).cell 2
              have f11 := (S.at_ 1 rfl).free 2
              refine wpAnyL_step (i := 10) (by kernel_rfl) rfl rfl ?_
              intro K hK
              go_simp
              replace c := c.setCell (p := ⟨qb, 0, none⟩) (S.base_le 1 rfl) (.int .i64 x0)
              replace S := S.put 1 rfl 0 (.int .i64 x0)
              replace c := c.setCell (p := ⟨qb, 1, none⟩) (S.base_le 1 rfl) (.int .i64 x1)
              replace S := S.put 1 rfl 1 (.int .i64 x1)
              replace c := c.setCell (p := ⟨qb, 2, none⟩) (S.base_le 1 rfl) (.slice A3 n3 c3)
              replace S := S.put 1 rfl 2 (.slice A3 n3 c3)
              clear HF
              have HF : (((w7.setCell ⟨qb, 0, none⟩ (.int .i64 x0)).setCell ⟨qb, 1, none⟩ (.int .i64 x1)).setCell ⟨qb, 2, none⟩ (.slice A3 n3 c3)).cell? ⟨qo, 0, none⟩ = some (.int .i64 x0) ∧ (((w7.setCell ⟨qb, 0, none⟩ (.int .i64 x0)).setCell ⟨qb, 1, none⟩ (.int .i64 x1)).setCell ⟨qb, 2, none⟩ (.slice A3 n3 c3)).cell? ⟨qo, 1, none⟩ = some (.int .i64 x1) ∧ (((w7.setCell ⟨qb, 0, none⟩ (.int .i64 x0)).setCell ⟨qb, 1, none⟩ (.int .i64 x1)).setCell ⟨qb, 2, none⟩ (.slice A3 n3 c3)).cell? ⟨qo, 2, none⟩ = some (.slice G m gc) ∧ (((w7.setCell ⟨qb, 0, none⟩ (.int .i64 x0)).setCell ⟨qb, 1, none⟩ (.int .i64 x1)).setCell ⟨qb, 2, none⟩ (.slice A3 n3 c3)).cell? ⟨b, off + j * 9, none⟩ = some (.int .i64 e0) ∧ (((w7.setCell ⟨qb, 0, none⟩ (.int .i64 x0)).setCell ⟨qb, 1, none⟩ (.int .i64 x1)).setCell ⟨qb, 2, none⟩ (.slice A3 n3 c3)).cell? ⟨b, off + j * 9 + 1, none⟩ = some (.int .i64 e1) ∧ (((w7.setCell ⟨qb, 0, none⟩ (.int .i64 x0)).setCell ⟨qb, 1, none⟩ (.int .i64 x1)).setCell ⟨qb, 2, none⟩ (.slice A3 n3 c3)).cell? ⟨b, off + j * 9 + 2, none⟩ = some (.int .i64 e2) ∧ (((w7.setCell ⟨qb, 0, none⟩ (.int .i64 x0)).setCell ⟨qb, 1, none⟩ (.int .i64 x1)).setCell ⟨qb, 2, none⟩ (.slice A3 n3 c3)).cell? ⟨b, off + j * 9 + 3, none⟩ = some (.int .i64 e3) ∧ (((w7.setCell ⟨qb, 0, none⟩ (.int .i64 x0)).setCell ⟨qb, 1, none⟩ (.int .i64 x1)).setCell ⟨qb, 2, none⟩ (.slice A3 n3 c3)).cell? ⟨b, off + j * 9 + 4, none⟩ = some (.int .i64 e4) ∧ (((w7.setCell ⟨qb, 0, none⟩ (.int .i64 x0)).setCell ⟨qb, 1, none⟩ (.int .i64 x1)).setCell ⟨qb, 2, none⟩ (.slice A3 n3 c3)).cell? ⟨b, off + j * 9 + 5, none⟩ = some (.int .i64 e5) ∧ (((w7.setCell ⟨qb, 0, none⟩ (.int .i64 x0)).setCell ⟨qb, 1, none⟩ (.int .i64 x1)).setCell ⟨qb, 2, none⟩ (.slice A3 n3 c3)).cell? ⟨b, off + j * 9 + 6, none⟩ = some (.int .i64 e6) ∧ (((w7.setCell ⟨qb, 0, none⟩ (.int .i64 x0)).setCell ⟨qb, 1, none⟩ (.int .i64 x1)).setCell ⟨qb, 2, none⟩ (.slice A3 n3 c3)).cell? ⟨b, off + j * 9 + 7, none⟩ = some (.int .i64 e7) ∧ (((w7.setCell ⟨qb, 0, none⟩ (.int .i64 x0)).setCell ⟨qb, 1, none⟩ (.int .i64 x1)).setCell ⟨qb, 2, none⟩ (.slice A3 n3 c3)).cell? ⟨b, off + j * 9 + 8, none⟩ = some (.int .i64 e8) := ⟨(S.at_ 3 rfl).cell 0, (S.at_ 3 rfl).cell 1, (S.at_ 3 rfl).cell 2, (c.cell (p := ⟨b, off + j * 9, none⟩) (show b < _ by omega)).trans hc0, (c.cell (p := ⟨b, off + j * 9 + 1, none⟩) (show b < _ by omega)).trans hc1, (c.cell (p := ⟨b, off + j * 9 + 2, none⟩) (show b < _ by omega)).trans hc2, (c.cell (p := ⟨b, off + j * 9 + 3, none⟩) (show b < _ by omega)).trans hc3, (c.cell (p := ⟨b, off + j * 9 + 4, none⟩) (show b < _ by omega)).trans hc4, (c.cell (p := ⟨b, off + j * 9 + 5, none⟩) (show b < _ by omega)).trans hc5, (c.cell (p := ⟨b, off + j * 9 + 6, none⟩) (show b < _ by omega)).trans hc6, (c.cell (p := ⟨b, off + j * 9 + 7, none⟩) (show b < _ by omega)).trans hc7, (c.cell (p := ⟨b, off + j * 9 + 8, none⟩) (show b < _ by omega)).trans hc8⟩
              refine hK _ _ (fun _ => HF) ?_
              clear hK K
              try simp only [Act.put]
              generalize ((w7.setCell ⟨qb, 0, none⟩ (.int .i64 x0)).setCell ⟨qb, 1, none⟩ (.int .i64 x1)).setCell ⟨qb, 2, none⟩ (.slice A3 n3 c3) = w8 at *
              clear f6 f7 f8 f9 f10 f11
              refine wpAnyL_step (i := 11) (by kernel_rfl) rfl rfl ?_
              intro K hK
              go_simp
              refine hK _ _ (fun h => nomatch (show true = false from h)) ?_
              clear hK K
              try simp only [Act.put]
              refine wpAnyL_done (by kernel_rfl) ?_ _
              clear HF
              have f12 : w8.cell? ⟨qb, 0, none⟩ = some (.int .i64 x0) := (S.at_ 1 rfl).cell 0
              have f13 : w8.cell? ⟨qb, 1, none⟩ = some (.int .i64 x1) := (S.at_ 1 rfl).cell 1
              have f14 : w8.cell? ⟨qb, 2, none⟩ = some (.slice A3 n3 c3) := (S.at_ 1 rfl).cell 2
              have f15 : w8.cell? ⟨qo, 0, none⟩ = some (.int .i64 x0) := (S.at_ 3 rfl).cell 0
              have f16 := (S.at_ 3 rfl).free 0
              have f17 : w8.cell? ⟨qo, 1, none⟩ = some (.int .i64 x1) := (S.at_ 3 rfl).cell 1
              have f18 := (S.at_ 3 rfl).free 1
              have f19 : w8.cell? ⟨qo, 2, none⟩ = some (.slice G m gc) := (S.at_ 3 rfl).cell 2
              have f20 := (S.at_ 3 rfl).free 2
              replace c := c.setCell (p := ⟨qo, 0, none⟩) (S.base_le 3 rfl) (.int .i64 x0)
              replace S := S.put 3 rfl 0 (.int .i64 x0)
              replace c := c.setCell (p := ⟨qo, 1, none⟩) (S.base_le 3 rfl) (.int .i64 x1)
              replace S := S.put 3 rfl 1 (.int .i64 x1)
              replace c := c.setCell (p := ⟨qo, 2, none⟩) (S.base_le 3 rfl) (.slice A3 n3 c3)
              replace S := S.put 3 rfl 2 (.slice A3 n3 c3)
              replace S := S.pick 5 rfl
              replace S := S.pick 5 rfl
              replace S := S.pick 5 rfl
              replace S := S.pick 3 rfl
              replace S := S.sub (.cons_cons _ (.cons_cons _ (.cons_cons _ (.cons_cons _ (List.nil_sublist _)))))
              have S1 := Lib.hid S
              have C1 := Lib.hid c
              clear S c
              go_wp2
              go_roundw
              case rel => exact ⟨j + 1, A3, n3, c3, _, by omega, by go_num, HN.out, S1.out, C1.out⟩
              case measure => simp [intOf]; omega

end Go.Proofs.Ytnjfdnjakogpmaa
