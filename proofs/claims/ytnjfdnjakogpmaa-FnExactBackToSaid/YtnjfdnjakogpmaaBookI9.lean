/-
  Chapter 8: a book grown by a list of entries, of the program (by program, wip/gen/genbooki9.py).
-/
import Derived.Test.YtnjfdnjakogpmaaBookI5
import Derived.RegionTactic
import Derived.BigQuiet
import Derived.Laws.EntriesVeiled
namespace Go.Proofs.Ytnjfdnjakogpmaa
set_option maxRecDepth 100000
open Go.RowKit

set_option maxHeartbeats 12800000 in
theorem iGrown_any (x0 x1 : Int) (A : Option Addr) (n cc B : Nat) (l : List EntM) (A5 : Option Addr) (n5 c5 B5 : Nat) (ls : List EntM) (w : World) (h : Rd w B [entD l] [.slice A n cc]) (hB : B ≤ w.heap.size) (hs : entSz l ≤ 1048577) (h5 : Rd w B5 [entD ls] [.slice A5 n5 c5]) (hB5 : B5 ≤ w.heap.size) (hs5 : entSz ls ≤ 1048577) :
    Calls Try.prog 33 #[.agg #[.int .i64 x0, .int .i64 x1, .slice A n cc], .slice A5 n5 c5] w (MadeB w (growM ⟨x0, x1, l⟩ ls)) := by
  have HH := Lib.hid h
  obtain ⟨_, _, _, e, hl, _, hcm, hel⟩ := h.ents
  injection e with e1 e2 e3
  subst e1 e2 e3
  have hn : n ≤ 1048577 := by unfold entSz at hs; omega
  have HL := Lib.hid hl
  clear hel hcm h
  obtain ⟨_, _, _, e, hl5, _, _, hel5⟩ := h5.ents
  injection e with e1 e2 e3
  subst e1 e2 e3
  have hn5 : n5 ≤ 1048577 := by unfold entSz at hs5; omega
  have HL5 := Lib.hid hl5
  clear h5 hl5 hs5
  have S := Sep.nil w w.heap.size
  have c := Below.refl w.heap.size w
  replace S := S.boxAt c.size (w.heap.size) rfl #[.int .i64 x0, .int .i64 x1, .slice A n cc] 29
  replace c := c.alloc c.size (.cells #[.int .i64 x0, .int .i64 x1, .slice A n cc] 29)
  replace S := S.boxAt c.size (w.heap.size + 1) (by simp) #[.int .i64 0, .int .i64 0, .slice none 0 0] 29
  replace c := c.alloc c.size (.cells #[.int .i64 0, .int .i64 0, .slice none 0 0] 29)
  go_enter Try.func33, Try.ntmps33
  have f0 : ((w.alloc (.cells #[.int .i64 x0, .int .i64 x1, .slice A n cc] 29)).alloc (.cells #[.int .i64 0, .int .i64 0, .slice none 0 0] 29)).cell? ⟨w.heap.size, 0, none⟩ = some (.int .i64 x0) := (S.at_ 1 rfl).cell 0
  have f1 : ((w.alloc (.cells #[.int .i64 x0, .int .i64 x1, .slice A n cc] 29)).alloc (.cells #[.int .i64 0, .int .i64 0, .slice none 0 0] 29)).cell? ⟨w.heap.size, 1, none⟩ = some (.int .i64 x1) := (S.at_ 1 rfl).cell 1
  have f2 : ((w.alloc (.cells #[.int .i64 x0, .int .i64 x1, .slice A n cc] 29)).alloc (.cells #[.int .i64 0, .int .i64 0, .slice none 0 0] 29)).cell? ⟨w.heap.size, 2, none⟩ = some (.slice A n cc) := (S.at_ 1 rfl).cell 2
  go_wp2_with fail
  generalize (w.alloc (.cells #[.int .i64 x0, .int .i64 x1, .slice A n cc] 29)).alloc (.cells #[.int .i64 0, .int .i64 0, .slice none 0 0] 29) = w1 at *
  refine (iBookOk_any x0 x1 A n cc B l _ (HH.out.keep (c.mono hB)) (Nat.le_trans hB c.size) hs).mono ?_
  rintro e w2 ⟨rfl, b2⟩
  replace c := c.trans (b2.mono c.size)
  replace S := S.keep b2
  clear b2 f0 f1 f2
  cases hok : bookB ⟨x0, x1, l⟩
  case false =>
    have HV := Lib.hid (show growM ⟨x0, x1, l⟩ ls = (book0, false) by unfold growM; rw [hok]; rfl)
    clear hel5
    have f3 : w2.cell? ⟨w.heap.size + 1, 0, none⟩ = some (.int .i64 0) := (S.at_ 0 rfl).cell 0
    have f4 := (S.at_ 0 rfl).free 0
    have f5 : w2.cell? ⟨w.heap.size + 1, 1, none⟩ = some (.int .i64 0) := (S.at_ 0 rfl).cell 1
    have f6 := (S.at_ 0 rfl).free 1
    have f7 : w2.cell? ⟨w.heap.size + 1, 2, none⟩ = some (.slice none 0 0) := (S.at_ 0 rfl).cell 2
    have f8 := (S.at_ 0 rfl).free 2
    replace S := S.put 0 rfl 0 (.int .i64 0)
    replace c := c.setCell (p := ⟨w.heap.size + 1, 0, none⟩) (by show w.heap.size ≤ w.heap.size + 1; omega) (.int .i64 0)
    replace S := S.put 0 rfl 1 (.int .i64 0)
    replace c := c.setCell (p := ⟨w.heap.size + 1, 1, none⟩) (by show w.heap.size ≤ w.heap.size + 1; omega) (.int .i64 0)
    replace S := S.put 0 rfl 2 (.slice none 0 0)
    replace c := c.setCell (p := ⟨w.heap.size + 1, 2, none⟩) (by show w.heap.size ≤ w.heap.size + 1; omega) (.slice none 0 0)
    clear hok
    have r0 := Lib.hid ((S.at_ 0 rfl).cell 0)
    have r1 := Lib.hid ((S.at_ 0 rfl).cell 1)
    have r2 := Lib.hid ((S.at_ 0 rfl).cell 2)
    have CC := Lib.hid c
    clear S c
    go_wp2
    exact bodyPost_ret (v := .tuple #[.agg #[.int .i64 0, .int .i64 0, .slice none 0 0], .bool false]) (by simp [results, Try.results33, go_sem, r0.out, r1.out, r2.out]) rfl ⟨_, _, _, _, _, by rw [HV.out], by rw [HV.out]; exact has_book0 _ _, CC.out⟩
  case true =>
    have hl20 : l.length ≤ 20 := bookB_len hok
    have HOK := Lib.hid hok
    have HGM := Lib.hid (show growM ⟨x0, x1, l⟩ ls = if ls.length ≤ 20 then (if growB ⟨x0, x1, l⟩ ls = true then (more ⟨x0, x1, l⟩ ls, true) else (⟨x0, x1, l⟩, false)) else (⟨x0, x1, l⟩, false) by unfold growM; rw [if_pos hok])
    clear hok
    have f3 : w2.cell? ⟨w.heap.size, 0, none⟩ = some (.int .i64 x0) := (S.at_ 1 rfl).cell 0
    have f4 : w2.cell? ⟨w.heap.size, 1, none⟩ = some (.int .i64 x1) := (S.at_ 1 rfl).cell 1
    have f5 : w2.cell? ⟨w.heap.size, 2, none⟩ = some (.slice A n cc) := (S.at_ 1 rfl).cell 2
    go_wp2_with fail
    refine (iCopied_any x0 x1 A n cc B l _ (HH.out.keep (c.mono hB)) (Nat.le_trans hB c.size) hs HOK.out).mono ?_
    rintro e w3 ⟨A2, n2, c2, rfl, o, b2⟩
    obtain ⟨fp_u, S'⟩ := S.has b2 o c.size
    replace c := c.trans (b2.mono c.size)
    clear S; have S := S'; clear S' o b2 f3 f4 f5
    replace S := S.boxAt c.size (w3.heap.size) rfl #[.int .i64 x0, .int .i64 x1, .slice A2 n2 c2] 29
    replace c := c.alloc c.size (.cells #[.int .i64 x0, .int .i64 x1, .slice A2 n2 c2] 29)
    replace S := S.pick 1 rfl
    go_wp2
    generalize w3.alloc (.cells #[.int .i64 x0, .int .i64 x1, .slice A2 n2 c2] 29) = w4 at *
    obtain ⟨qo, hqo⟩ : ∃ q, q = w3.heap.size := ⟨_, rfl⟩
    rw [← hqo] at S ⊢
    clear hqo
    have S0 := Lib.hid S
    have B0 := Lib.hid c
    clear S c
    have T0 := Lib.hid (show l = l ++ ls.take 0 by rw [List.take_zero, List.append_nil])
    go_loopw [17] (fun i wr => ∃ (j : Nat) (G : Option Addr) (m gc : Nat) (fp : List Nat), j ≤ n5 ∧ i = .int .i64 (j : Int) ∧ (∀ q, q < j → growAt ⟨x0, x1, l⟩ ls q = true) ∧ Sep wr w.heap.size [.own [entD (l ++ ls.take j)] [.slice G m gc] fp, .blk qo #[.int .i64 x0, .int .i64 x1, .slice G m gc] 29, .blk (w.heap.size + 1) #[.int .i64 0, .int .i64 0, .slice none 0 0] 29, .blk w.heap.size #[.int .i64 x0, .int .i64 x1, .slice A n cc] 29] ∧ Below w.heap.size w wr) (fun i _ => n5 - (intOf i).toNat)
    case atStart => exact ⟨0, _, _, _, _, Nat.zero_le _, rfl, fun q hq => absurd hq (by omega), by rw [← T0.out]; exact S0.out, B0.out⟩
    case round =>
      obtain ⟨j, G, m, gc, fp, hj, rfl, hall, S, c⟩ := hrel
      clear S0 B0
      have HA := Lib.hid hall
      have hml : m = l.length + j := by
        obtain ⟨_, _, _, e, h9, _⟩ := (S.own_ 0 rfl).rd.ents
        injection e with e1 e2 e3
        rw [e2, ← h9, List.length_append, List.length_take]
        have := HL5.out
        omega
      have hm : m ≤ 1048577 := by have h9 := grown_ok (l := ls) HOK.out j (by have := HL5.out; omega) hall; have h8 := bookB_len h9; have h7 : (l ++ ls.take j).length ≤ 20 := h8; rw [List.length_append, List.length_take] at h7; have := HL5.out; omega
      clear hml
      by_cases hlt : j < n5
      case neg =>
        obtain rfl : j = n5 := by omega
        have htk : ls.take j = ls := List.take_of_length_le (by rw [HL5.out]; exact Nat.le_refl _)
        have h20 : ls.length ≤ 20 := by have h9 := grown_ok (l := ls) HOK.out j (by have := HL5.out; omega) hall; rw [htk] at h9; have h8 : (l ++ ls).length ≤ 20 := bookB_len h9; rw [List.length_append] at h8; omega
        rw [htk] at S
        have HV := Lib.hid (show growM ⟨x0, x1, l⟩ ls = (more ⟨x0, x1, l⟩ ls, true) by rw [HGM.out, if_pos h20, if_pos ((growB_iff _ _).2 fun q hq => hall q (by have := HL5.out; omega))])
        clear hall hel5 htk h20
        have f6 : wr.cell? ⟨qo, 0, none⟩ = some (.int .i64 x0) := (S.at_ 1 rfl).cell 0
        have f7 : wr.cell? ⟨qo, 1, none⟩ = some (.int .i64 x1) := (S.at_ 1 rfl).cell 1
        have f8 : wr.cell? ⟨qo, 2, none⟩ = some (.slice G m gc) := (S.at_ 1 rfl).cell 2
        have f9 : wr.cell? ⟨w.heap.size + 1, 0, none⟩ = some (.int .i64 0) := (S.at_ 2 rfl).cell 0
        have f10 := (S.at_ 2 rfl).free 0
        have f11 : wr.cell? ⟨w.heap.size + 1, 1, none⟩ = some (.int .i64 0) := (S.at_ 2 rfl).cell 1
        have f12 := (S.at_ 2 rfl).free 1
        have f13 : wr.cell? ⟨w.heap.size + 1, 2, none⟩ = some (.slice none 0 0) := (S.at_ 2 rfl).cell 2
        have f14 := (S.at_ 2 rfl).free 2
        replace S := S.put 2 rfl 0 (.int .i64 x0)
        replace c := c.setCell (p := ⟨w.heap.size + 1, 0, none⟩) (by show w.heap.size ≤ w.heap.size + 1; omega) (.int .i64 x0)
        replace S := S.put 2 rfl 1 (.int .i64 x1)
        replace c := c.setCell (p := ⟨w.heap.size + 1, 1, none⟩) (by show w.heap.size ≤ w.heap.size + 1; omega) (.int .i64 x1)
        replace S := S.put 2 rfl 2 (.slice G m gc)
        replace c := c.setCell (p := ⟨w.heap.size + 1, 2, none⟩) (by show w.heap.size ≤ w.heap.size + 1; omega) (.slice G m gc)
        have H := Lib.hid S.first
        have r0 := Lib.hid ((S.at_ 2 rfl).cell 0)
        have r1 := Lib.hid ((S.at_ 2 rfl).cell 1)
        have r2 := Lib.hid ((S.at_ 2 rfl).cell 2)
        have CC := Lib.hid c
        clear S c
        go_wp2
        exact bodyPost_ret (v := .tuple #[.agg #[.int .i64 x0, .int .i64 x1, .slice G m gc], .bool true]) (by simp [results, Try.results33, go_sem, r0.out, r1.out, r2.out]) rfl ⟨_, _, _, _, _, by rw [HV.out], by rw [HV.out]; exact has_mk H.out, CC.out⟩
      case pos =>
        obtain ⟨b, off, rfl, hb, hc⟩ := hel5 (by omega)
        have hjl : j < ls.length := by have := HL5.out; omega
        obtain ⟨hc0, hc1, hc2, hc3, hc4, hc5, hc6, hc7, hc8⟩ := hc j hjl
        have hok2 := grown_ok (l := ls) HOK.out j (by omega) hall
        obtain ⟨e0, he0⟩ : ∃ q, q = ls[j].idx := ⟨_, rfl⟩
        rw [← he0] at hc0
        obtain ⟨e1, he1⟩ : ∃ q, q = ls[j].tm := ⟨_, rfl⟩
        rw [← he1] at hc1
        obtain ⟨e2, he2⟩ : ∃ q, q = ls[j].cl := ⟨_, rfl⟩
        rw [← he2] at hc2
        obtain ⟨e3, he3⟩ : ∃ q, q = ls[j].sq := ⟨_, rfl⟩
        rw [← he3] at hc3
        obtain ⟨e4, he4⟩ : ∃ q, q = ls[j].kd := ⟨_, rfl⟩
        rw [← he4] at hc4
        obtain ⟨e5, he5⟩ : ∃ q, q = ls[j].oa := ⟨_, rfl⟩
        rw [← he5] at hc5
        obtain ⟨e6, he6⟩ : ∃ q, q = ls[j].ob := ⟨_, rfl⟩
        rw [← he6] at hc6
        obtain ⟨e7, he7⟩ : ∃ q, q = ls[j].oc := ⟨_, rfl⟩
        rw [← he7] at hc7
        obtain ⟨e8, he8⟩ : ∃ q, q = ls[j].od := ⟨_, rfl⟩
        rw [← he8] at hc8
        have hmk : ls[j] = ⟨e0, e1, e2, e3, e4, e5, e6, e7, e8⟩ := by rw [he0, he1, he2, he3, he4, he5, he6, he7, he8]
        have HTB := Lib.hid (show takeB ⟨x0, x1, l ++ ls.take j⟩ ⟨e0, e1, e2, e3, e4, e5, e6, e7, e8⟩ = growAt ⟨x0, x1, l⟩ ls j by
          rw [takeB_next (b := ⟨x0, x1, l ++ ls.take j⟩) hok2]
          unfold growAt
          rw [egetD hjl, hmk]
          rfl)
        have HY := Lib.hid (show 0 ≤ (endM ⟨x0, x1, l ++ ls.take j⟩).idx ∧ (endM ⟨x0, x1, l ++ ls.take j⟩).idx ≤ 1000000 by
          rw [endM_idx (b := ⟨x0, x1, l ++ ls.take j⟩) hok2]
          have h9 := book_max (b := ⟨x0, x1, l ++ ls.take j⟩) hok2
          have h8 : (0 : Int) ≤ x0 := ((bookB_mk' x0 x1 (l ++ ls.take j)).1 hok2).1.1
          unfold lastB at h9 ⊢
          refine ⟨?_, Int.le_trans h9 (by decide)⟩
          show 0 ≤ x0 + _
          omega)
        have HTK := Lib.hid (show ls.take (j + 1) = ls.take j ++ [⟨e0, e1, e2, e3, e4, e5, e6, e7, e8⟩] by rw [List.take_succ_eq_append_getElem hjl, hmk])
        have HGF := Lib.hid (show growAt ⟨x0, x1, l⟩ ls j = false → growM ⟨x0, x1, l⟩ ls = (⟨x0, x1, l⟩, false) from fun h9 => by
          rw [HGM.out]
          split
          · rw [if_neg (by rw [growB_step hjl h9]; decide)]
          · rfl)
        have hsz : entSz (l ++ ls.take j) ≤ 1048577 := by have h8 : (l ++ ls.take j).length ≤ 20 := bookB_len hok2; unfold entSz; omega
        have j0 : (0 : Int) ≤ (j : Int) := by omega
        have j1 : (j : Int) < (n5 : Int) := by omega
        clear hc hmk hok2 hel5 hjl he0 he1 he2 he3 he4 he5 he6 he7 he8
        have k0 := (c.cell (p := ⟨b, off + j * 9, none⟩) (show b < _ by omega)).trans hc0
        have k1 := (c.cell (p := ⟨b, off + j * 9 + 1, none⟩) (show b < _ by omega)).trans hc1
        have k2 := (c.cell (p := ⟨b, off + j * 9 + 2, none⟩) (show b < _ by omega)).trans hc2
        have k3 := (c.cell (p := ⟨b, off + j * 9 + 3, none⟩) (show b < _ by omega)).trans hc3
        have k4 := (c.cell (p := ⟨b, off + j * 9 + 4, none⟩) (show b < _ by omega)).trans hc4
        have k5 := (c.cell (p := ⟨b, off + j * 9 + 5, none⟩) (show b < _ by omega)).trans hc5
        have k6 := (c.cell (p := ⟨b, off + j * 9 + 6, none⟩) (show b < _ by omega)).trans hc6
        have k7 := (c.cell (p := ⟨b, off + j * 9 + 7, none⟩) (show b < _ by omega)).trans hc7
        have k8 := (c.cell (p := ⟨b, off + j * 9 + 8, none⟩) (show b < _ by omega)).trans hc8
        clear hc0 hc1 hc2 hc3 hc4 hc5 hc6 hc7 hc8
        replace S := S.boxAt c.size (wr.heap.size) rfl #[.int .i64 e0, .int .i64 e1, .int .i64 e2, .int .i64 e3, .int .i64 e4, .int .i64 e5, .int .i64 e6, .int .i64 e7, .int .i64 e8] 37
        replace c := c.alloc c.size (.cells #[.int .i64 e0, .int .i64 e1, .int .i64 e2, .int .i64 e3, .int .i64 e4, .int .i64 e5, .int .i64 e6, .int .i64 e7, .int .i64 e8] 37)
        have f6 : (wr.alloc (.cells #[.int .i64 e0, .int .i64 e1, .int .i64 e2, .int .i64 e3, .int .i64 e4, .int .i64 e5, .int .i64 e6, .int .i64 e7, .int .i64 e8] 37)).cell? ⟨qo, 0, none⟩ = some (.int .i64 x0) := (S.at_ 2 rfl).cell 0
        have f7 : (wr.alloc (.cells #[.int .i64 e0, .int .i64 e1, .int .i64 e2, .int .i64 e3, .int .i64 e4, .int .i64 e5, .int .i64 e6, .int .i64 e7, .int .i64 e8] 37)).cell? ⟨qo, 1, none⟩ = some (.int .i64 x1) := (S.at_ 2 rfl).cell 1
        have f8 : (wr.alloc (.cells #[.int .i64 e0, .int .i64 e1, .int .i64 e2, .int .i64 e3, .int .i64 e4, .int .i64 e5, .int .i64 e6, .int .i64 e7, .int .i64 e8] 37)).cell? ⟨qo, 2, none⟩ = some (.slice G m gc) := (S.at_ 2 rfl).cell 2
        go_wp2_with fail
        generalize wr.alloc (.cells #[.int .i64 e0, .int .i64 e1, .int .i64 e2, .int .i64 e3, .int .i64 e4, .int .i64 e5, .int .i64 e6, .int .i64 e7, .int .i64 e8] 37) = w5 at *
        obtain ⟨qe, hqe⟩ : ∃ q, q = wr.heap.size := ⟨_, rfl⟩
        rw [← hqe] at S ⊢
        clear hqe
        refine (iTakes_any x0 x1 G m gc _ (l ++ ls.take j) e0 e1 e2 e3 e4 e5 e6 e7 e8 _ (S.own_ 1 rfl).rd (Nat.le_refl _) hsz HY.out).mono ?_
        rintro e w6 ⟨rfl, b2⟩
        replace c := c.trans (b2.mono c.size)
        replace S := S.keep b2
        clear b2 f6 f7 f8
        rw [HTB.out]
        cases hg : growAt ⟨x0, x1, l⟩ ls j
        case false =>
          have HV := Lib.hid (HGF.out hg)
          clear hg hall k0 k1 k2 k3 k4 k5 k6 k7 k8
          have f9 : w6.cell? ⟨w.heap.size, 0, none⟩ = some (.int .i64 x0) := (S.at_ 4 rfl).cell 0
          have f10 : w6.cell? ⟨w.heap.size, 1, none⟩ = some (.int .i64 x1) := (S.at_ 4 rfl).cell 1
          have f11 : w6.cell? ⟨w.heap.size, 2, none⟩ = some (.slice A n cc) := (S.at_ 4 rfl).cell 2
          go_wp2_with fail
          refine (iCopied_any x0 x1 A n cc B l _ (HH.out.keep (c.mono hB)) (Nat.le_trans hB c.size) hs HOK.out).mono ?_
          rintro e w7 ⟨A4, n4, c4, rfl, o, b2⟩
          obtain ⟨fp_cp, S'⟩ := S.has b2 o c.size
          replace c := c.trans (b2.mono c.size)
          clear S; have S := S'; clear S' o b2 f9 f10 f11
          have f12 : w7.cell? ⟨w.heap.size + 1, 0, none⟩ = some (.int .i64 0) := (S.at_ 4 rfl).cell 0
          have f13 := (S.at_ 4 rfl).free 0
          have f14 : w7.cell? ⟨w.heap.size + 1, 1, none⟩ = some (.int .i64 0) := (S.at_ 4 rfl).cell 1
          have f15 := (S.at_ 4 rfl).free 1
          have f16 : w7.cell? ⟨w.heap.size + 1, 2, none⟩ = some (.slice none 0 0) := (S.at_ 4 rfl).cell 2
          have f17 := (S.at_ 4 rfl).free 2
          replace S := S.put 4 rfl 0 (.int .i64 x0)
          replace c := c.setCell (p := ⟨w.heap.size + 1, 0, none⟩) (by show w.heap.size ≤ w.heap.size + 1; omega) (.int .i64 x0)
          replace S := S.put 4 rfl 1 (.int .i64 x1)
          replace c := c.setCell (p := ⟨w.heap.size + 1, 1, none⟩) (by show w.heap.size ≤ w.heap.size + 1; omega) (.int .i64 x1)
          replace S := S.put 4 rfl 2 (.slice A4 n4 c4)
          replace c := c.setCell (p := ⟨w.heap.size + 1, 2, none⟩) (by show w.heap.size ≤ w.heap.size + 1; omega) (.slice A4 n4 c4)
          have H := Lib.hid S.first
          have r0 := Lib.hid ((S.at_ 4 rfl).cell 0)
          have r1 := Lib.hid ((S.at_ 4 rfl).cell 1)
          have r2 := Lib.hid ((S.at_ 4 rfl).cell 2)
          have CC := Lib.hid c
          clear S c
          go_wp2
          exact bodyPost_ret (v := .tuple #[.agg #[.int .i64 x0, .int .i64 x1, .slice A4 n4 c4], .bool false]) (by simp [results, Try.results33, go_sem, r0.out, r1.out, r2.out]) rfl ⟨_, _, _, _, _, by rw [HV.out], by rw [HV.out]; exact has_mk H.out, CC.out⟩
        case true =>
          have HN := Lib.hid (show ∀ q, q < j + 1 → growAt ⟨x0, x1, l⟩ ls q = true from fun q hq => by
            rcases Nat.lt_or_ge q j with h1 | h1
            · exact hall q h1
            · obtain rfl : q = j := by omega
              exact hg)
          clear hg hall k0 k1 k2 k3 k4 k5 k6 k7 k8
          have f9 : w6.cell? ⟨qo, 0, none⟩ = some (.int .i64 x0) := (S.at_ 2 rfl).cell 0
          have f10 : w6.cell? ⟨qo, 1, none⟩ = some (.int .i64 x1) := (S.at_ 2 rfl).cell 1
          have f11 : w6.cell? ⟨qo, 2, none⟩ = some (.slice G m gc) := (S.at_ 2 rfl).cell 2
          have f12 : w6.cell? ⟨qe, 0, none⟩ = some (.int .i64 e0) := (S.at_ 0 rfl).cell 0
          have f13 : w6.cell? ⟨qe, 1, none⟩ = some (.int .i64 e1) := (S.at_ 0 rfl).cell 1
          have f14 : w6.cell? ⟨qe, 2, none⟩ = some (.int .i64 e2) := (S.at_ 0 rfl).cell 2
          have f15 : w6.cell? ⟨qe, 3, none⟩ = some (.int .i64 e3) := (S.at_ 0 rfl).cell 3
          have f16 : w6.cell? ⟨qe, 4, none⟩ = some (.int .i64 e4) := (S.at_ 0 rfl).cell 4
          have f17 : w6.cell? ⟨qe, 5, none⟩ = some (.int .i64 e5) := (S.at_ 0 rfl).cell 5
          have f18 : w6.cell? ⟨qe, 6, none⟩ = some (.int .i64 e6) := (S.at_ 0 rfl).cell 6
          have f19 : w6.cell? ⟨qe, 7, none⟩ = some (.int .i64 e7) := (S.at_ 0 rfl).cell 7
          have f20 : w6.cell? ⟨qe, 8, none⟩ = some (.int .i64 e8) := (S.at_ 0 rfl).cell 8
          obtain ⟨ql, hql⟩ : ∃ q, q = w6.heap.size := ⟨_, rfl⟩
          replace S := S.boxAt c.size (w6.heap.size) rfl #[.int .i64 e0, .int .i64 e1, .int .i64 e2, .int .i64 e3, .int .i64 e4, .int .i64 e5, .int .i64 e6, .int .i64 e7, .int .i64 e8] 37
          replace c := c.alloc c.size (.cells #[.int .i64 e0, .int .i64 e1, .int .i64 e2, .int .i64 e3, .int .i64 e4, .int .i64 e5, .int .i64 e6, .int .i64 e7, .int .i64 e8] 37)
          have HC : ∀ i, i < 9 → (w6.alloc (.cells #[.int .i64 e0, .int .i64 e1, .int .i64 e2, .int .i64 e3, .int .i64 e4, .int .i64 e5, .int .i64 e6, .int .i64 e7, .int .i64 e8] 37)).cell? ⟨w6.heap.size, i, none⟩ = [Value.int .i64 e0, Value.int .i64 e1, Value.int .i64 e2, Value.int .i64 e3, Value.int .i64 e4, Value.int .i64 e5, Value.int .i64 e6, Value.int .i64 e7, Value.int .i64 e8][i]? := fun i hi => by
            have h1 := (S.at_ 0 rfl).cell i
            rw [h1]
            simp
          clear hql
          replace S := (S.tail).own0 (ds := entC (⟨e0, e1, e2, e3, e4, e5, e6, e7, e8⟩ : EntM)) (vs := [.int .i64 e0, .int .i64 e1, .int .i64 e2, .int .i64 e3, .int .i64 e4, .int .i64 e5, .int .i64 e6, .int .i64 e7, .int .i64 e8]) (.int (.int (.int (.int (.int (.int (.int (.int (.int (.nil))))))))))
          replace S := S.pick 2 rfl
          go_wp2_with (first
            | (at_builtin
               refine wpList_append_elem (l := l ++ ls.take j) (y := (⟨e0, e1, e2, e3, e4, e5, e6, e7, e8⟩ : EntM)) rfl (.tmp 28) (.tmp 30) (by rfl) Try.underlying27 infoEntry (by rfl) (by decide) entC_len (by rfl) (S.own_ 0 rfl) (S.nodup_own 0 rfl) (by rfl) HC (S.own_ 1 rfl) (S.nodup_own 1 rfl) S.apart (by omega) (by omega) ?_
               intro A3 c3 w3 fp3 o3 n3 s3 t3
               have S3 := S.merge t3 o3 n3 s3 c.size
               have g0 := (S3.at_ 2 rfl).cell 2
               have g1 := (S3.at_ 2 rfl).free 2))
          have c3' := c.trans (S.below 0 rfl t3 c.size)
          replace S3 := S3.put 2 rfl 2 (.slice A3 (m + 1) c3)
          replace c3' := c3'.setCell (p := ⟨qo, 2, none⟩) (S3.base_le 2 rfl) (.slice A3 (m + 1) c3)
          rw [List.append_assoc, ← HTK.out] at S3
          have S1 := Lib.hid (show Sep _ w.heap.size [.own [entD (l ++ ls.take (j + 1))] [.slice A3 (m + 1) c3] fp3, .blk qo #[.int .i64 x0, .int .i64 x1, .slice A3 (m + 1) c3] 29, .blk (w.heap.size + 1) #[.int .i64 0, .int .i64 0, .slice none 0 0] 29, .blk w.heap.size #[.int .i64 x0, .int .i64 x1, .slice A n cc] 29] from S3.sub (.cons_cons _ (.cons _ (.cons_cons _ (.cons_cons _ (.cons_cons _ (List.nil_sublist _)))))))
          have C1 := Lib.hid c3'
          clear S3 c3' g0 g1
          go_roundw
          case rel => exact ⟨j + 1, A3, m + 1, c3, fp3, by omega, by go_num, HN.out, S1.out, C1.out⟩
          case measure => simp [intOf]; omega

end Go.Proofs.Ytnjfdnjakogpmaa
