/- Parts of my texts: BookI9 BookIA BookI8 BookIC RecI1 RecS2. -/
import Derived.Test.YtmjifhjhialcbaaGreatL33
namespace Go.Proofs.YtmjifhjhialcbaaGreat
set_option maxRecDepth 100000
set_option linter.unusedVariables false
open Go.RowKit
set_option maxHeartbeats 12800000 in
theorem iGrown_any (x0 x1 : Int) (A : Option Addr) (n cc B : Nat) (l : List EntM) (A5 : Option Addr) (n5 c5 B5 : Nat) (ls : List EntM) (w : World) (h : Rd w B [entD l] [.slice A n cc]) (hB : B ≤ w.heap.size) (hs : entSz l ≤ 1048577) (h5 : Rd w B5 [entD ls] [.slice A5 n5 c5]) (hB5 : B5 ≤ w.heap.size) (hs5 : entSz ls ≤ 1048577) :
    Calls Tryz.prog 232 #[.agg #[.int .i64 x0, .int .i64 x1, .slice A n cc], .slice A5 n5 c5] w (MadeB w (growM ⟨x0, x1, l⟩ ls)) := by
 have HH := jd h
 obtain ⟨_, _, _, e, hl, _, hcm, hel⟩ := h.ents
 injection e with e1 e2 e3
 subst e1 e2 e3
 have hn : n ≤ 1048577 := by unfold entSz at hs; omega
 have HL := jd hl
 clear hel hcm h
 obtain ⟨_, _, _, e, hl5, _, _, hel5⟩ := h5.ents
 injection e with e1 e2 e3
 subst e1 e2 e3
 have hn5 : n5 ≤ 1048577 := by unfold entSz at hs5; omega
 have HL5 := jd hl5
 clear h5 hl5 hs5
 have S := Sep.nil w w.heap.size
 have c := Below.refl w.heap.size w
 replace S := S.boxAt c.size (w.heap.size) rfl #[.int .i64 x0, .int .i64 x1, .slice A n cc] 47
 replace c := al c S
 replace S := S.boxAt c.size (w.heap.size + 1) (by simp) #[.int .i64 0, .int .i64 0, .slice none 0 0] 47
 replace c := al c S
 go_enter Tryz.func232, Tryz.ntmps232
 have f0 := lk S 1 0 rfl rfl
 have f1 := lk S 1 1 rfl rfl
 have f2 := lk S 1 2 rfl rfl
 go_wp2_with fail
 generalize (w.alloc (.cells #[.int .i64 x0, .int .i64 x1, .slice A n cc] 47)).alloc (.cells #[.int .i64 0, .int .i64 0, .slice none 0 0] 47) = w1 at *
 refine (iBookOk_any x0 x1 A n cc B l _ (HH.out.keep (c.mono hB)) (Nat.le_trans hB c.size) hs).mono ?_
 rintro e w2 ⟨rfl, b2⟩
 replace c := c.trans (b2.mono c.size)
 replace S := S.keep b2
 clear b2 f0 f1 f2
 cases hok : bookB ⟨x0, x1, l⟩
 case false =>
  have HV := jd (show growM ⟨x0, x1, l⟩ ls = (book0, false) by unfold growM; rw [hok]; rfl)
  clear hel5
  have f3 := lk S 0 0 rfl rfl
  have f4 := (S.at_ 0 rfl).free 0
  have f5 := lk S 0 1 rfl rfl
  have f6 := (S.at_ 0 rfl).free 1
  have f7 := lk S 0 2 rfl rfl
  have f8 := (S.at_ 0 rfl).free 2
  replace S := S.put 0 rfl 0 (.int .i64 0)
  replace c := st c S (by omega)
  replace S := S.put 0 rfl 1 (.int .i64 0)
  replace c := st c S (by omega)
  replace S := S.put 0 rfl 2 (.slice none 0 0)
  replace c := st c S (by omega)
  clear hok
  have r0 := jd ((S.at_ 0 rfl).cell 0)
  have r1 := jd ((S.at_ 0 rfl).cell 1)
  have r2 := jd ((S.at_ 0 rfl).cell 2)
  have CC := jd c
  clear S c
  go_wp2
  exact bodyPost_ret (v := .tuple #[.agg #[.int .i64 0, .int .i64 0, .slice none 0 0], .bool false]) (by simp [results, Tryz.results232, go_sem, r0.out, r1.out, r2.out]) rfl ⟨_, _, _, _, _, by rw [HV.out], by rw [HV.out]; exact has_book0 _ _, CC.out⟩
 case true =>
  have hl20 : l.length ≤ 20 := bookB_len hok
  have HOK := jd hok
  have HGM := jd (show growM ⟨x0, x1, l⟩ ls = if ls.length ≤ 20 then (if growB ⟨x0, x1, l⟩ ls = true then (more ⟨x0, x1, l⟩ ls, true) else (⟨x0, x1, l⟩, false)) else (⟨x0, x1, l⟩, false) by unfold growM; rw [if_pos hok])
  clear hok
  have f3 := lk S 1 0 rfl rfl
  have f4 := lk S 1 1 rfl rfl
  have f5 := lk S 1 2 rfl rfl
  go_wp2_with fail
  refine (iCopied_any x0 x1 A n cc B l _ (HH.out.keep (c.mono hB)) (Nat.le_trans hB c.size) hs HOK.out).mono ?_
  rintro e w3 ⟨A2, n2, c2, rfl, o, b2⟩
  obtain ⟨fp_u, S'⟩ := S.has b2 o c.size
  replace c := c.trans (b2.mono c.size)
  clear S; have S := S'; clear S' o b2 f3 f4 f5
  replace S := S.boxAt c.size (w3.heap.size) rfl #[.int .i64 x0, .int .i64 x1, .slice A2 n2 c2] 47
  replace c := al c S
  replace S := S.pick 1 rfl
  go_wp2
  generalize w3.alloc (.cells #[.int .i64 x0, .int .i64 x1, .slice A2 n2 c2] 47) = w4 at *
  obtain ⟨qo, hqo⟩ : ∃ q, q = w3.heap.size := ⟨_, rfl⟩
  rw [← hqo] at S ⊢
  clear hqo
  have S0 := jd S
  have B0 := jd c
  clear S c
  have T0 := jd (show l = l ++ ls.take 0 by rw [List.take_zero, List.append_nil])
  go_loopw [17] (fun i wr => ∃ (j : Nat) (G : Option Addr) (m gc : Nat) (fp : List Nat), j ≤ n5 ∧ i = .int .i64 (j : Int) ∧ (∀ q, q < j → growAt ⟨x0, x1, l⟩ ls q = true) ∧ Sep wr w.heap.size [.own [entD (l ++ ls.take j)] [.slice G m gc] fp, .blk qo #[.int .i64 x0, .int .i64 x1, .slice G m gc] 47, .blk (w.heap.size + 1) #[.int .i64 0, .int .i64 0, .slice none 0 0] 47, .blk w.heap.size #[.int .i64 x0, .int .i64 x1, .slice A n cc] 47] ∧ Below w.heap.size w wr) (fun i _ => n5 - (intOf i).toNat)
  case atStart => exact ⟨0, _, _, _, _, Nat.zero_le _, rfl, fun q hq => absurd hq (by omega), by rw [← T0.out]; exact S0.out, B0.out⟩
  case round =>
   obtain ⟨j, G, m, gc, fp, hj, rfl, hall, S, c⟩ := hrel
   clear S0 B0
   have HA := jd hall
   have hml : m = l.length + j := by
    obtain ⟨_, _, _, e, h9, _⟩ := (S.own_ 0 rfl).rd.ents
    injection e with e1 e2 e3
    rw [e2, ← h9, List.length_append, List.length_take]
    have := HL5.out
    omega
   have hm : m ≤ 1048577 := by have h9 := grown_ok (l := ls) HOK.out j (by have := HL5.out; omega) hall; have h8 := bookB_len h9; have h7 : (l ++ ls.take j).length ≤ 20 := h8; rw [List.length_append, List.length_take] at h7; have := HL5.out; omega
   clear hml
   by_cases hlt : j < n5
   case neg =>
    obtain rfl : j = n5 := by omega
    have htk : ls.take j = ls := List.take_of_length_le (by rw [HL5.out]; exact Nat.le_refl _)
    have h20 : ls.length ≤ 20 := by have h9 := grown_ok (l := ls) HOK.out j (by have := HL5.out; omega) hall; rw [htk] at h9; have h8 : (l ++ ls).length ≤ 20 := bookB_len h9; rw [List.length_append] at h8; omega
    rw [htk] at S
    have HV := jd (show growM ⟨x0, x1, l⟩ ls = (more ⟨x0, x1, l⟩ ls, true) by rw [HGM.out, if_pos h20, if_pos ((growB_iff _ _).2 fun q hq => hall q (by have := HL5.out; omega))])
    clear hall hel5 htk h20
    have f6 := lk S 1 0 rfl rfl
    have f7 := lk S 1 1 rfl rfl
    have f8 := lk S 1 2 rfl rfl
    have f9 := lk S 2 0 rfl rfl
    have f10 := (S.at_ 2 rfl).free 0
    have f11 := lk S 2 1 rfl rfl
    have f12 := (S.at_ 2 rfl).free 1
    have f13 := lk S 2 2 rfl rfl
    have f14 := (S.at_ 2 rfl).free 2
    replace S := S.put 2 rfl 0 (.int .i64 x0)
    replace c := st c S (by omega)
    replace S := S.put 2 rfl 1 (.int .i64 x1)
    replace c := st c S (by omega)
    replace S := S.put 2 rfl 2 (.slice G m gc)
    replace c := st c S (by omega)
    have H := jd S.first
    have r0 := jd ((S.at_ 2 rfl).cell 0)
    have r1 := jd ((S.at_ 2 rfl).cell 1)
    have r2 := jd ((S.at_ 2 rfl).cell 2)
    have CC := jd c
    clear S c
    go_wp2
    exact bodyPost_ret (v := .tuple #[.agg #[.int .i64 x0, .int .i64 x1, .slice G m gc], .bool true]) (by simp [results, Tryz.results232, go_sem, r0.out, r1.out, r2.out]) rfl ⟨_, _, _, _, _, by rw [HV.out], by rw [HV.out]; exact has_mk H.out, CC.out⟩
   case pos =>
    obtain ⟨b, off, rfl, hb, hc⟩ := hel5 (by omega)
    have hjl : j < ls.length := by have := HL5.out; omega
    obtain ⟨hc0, hc1, hc2, hc3, hc4, hc5, hc6, hc7, hc8⟩ := hc j hjl
    have hok2 := grown_ok (l := ls) HOK.out j (by omega) hall
    obtain ⟨e0, he0⟩ : ∃ q, q = ls[j].idx := ⟨_, rfl⟩
    rw [← he0] at hc0
    obtain ⟨e1, he1⟩ : ∃ q, q = ls[j].tm := ⟨_, rfl⟩
    rw [← he1] at hc1
    obtain ⟨e2, he2⟩ : ∃ q, q = ls[j].cl := ⟨_, rfl⟩
    rw [← he2] at hc2
    obtain ⟨e3, he3⟩ : ∃ q, q = ls[j].sq := ⟨_, rfl⟩
    rw [← he3] at hc3
    obtain ⟨e4, he4⟩ : ∃ q, q = ls[j].kd := ⟨_, rfl⟩
    rw [← he4] at hc4
    obtain ⟨e5, he5⟩ : ∃ q, q = ls[j].oa := ⟨_, rfl⟩
    rw [← he5] at hc5
    obtain ⟨e6, he6⟩ : ∃ q, q = ls[j].ob := ⟨_, rfl⟩
    rw [← he6] at hc6
    obtain ⟨e7, he7⟩ : ∃ q, q = ls[j].oc := ⟨_, rfl⟩
    rw [← he7] at hc7
    obtain ⟨e8, he8⟩ : ∃ q, q = ls[j].od := ⟨_, rfl⟩
    rw [← he8] at hc8
    have hmk : ls[j] = ⟨e0, e1, e2, e3, e4, e5, e6, e7, e8⟩ := by rw [he0, he1, he2, he3, he4, he5, he6, he7, he8]
    have HTB := jd (show takeB ⟨x0, x1, l ++ ls.take j⟩ ⟨e0, e1, e2, e3, e4, e5, e6, e7, e8⟩ = growAt ⟨x0, x1, l⟩ ls j by
     rw [takeB_next (b := ⟨x0, x1, l ++ ls.take j⟩) hok2]
     unfold growAt
     rw [egetD hjl, hmk]
     rfl)
    have HY := jd (show 0 ≤ (endM ⟨x0, x1, l ++ ls.take j⟩).idx ∧ (endM ⟨x0, x1, l ++ ls.take j⟩).idx ≤ 1000000 by
     rw [endM_idx (b := ⟨x0, x1, l ++ ls.take j⟩) hok2]
     have h9 := book_max (b := ⟨x0, x1, l ++ ls.take j⟩) hok2
     have h8 : (0 : Int) ≤ x0 := ((bookB_mk' x0 x1 (l ++ ls.take j)).1 hok2).1.1
     unfold lastB at h9 ⊢
     refine ⟨?_, Int.le_trans h9 (by decide)⟩
     show 0 ≤ x0 + _
     omega)
    have HTK := jd (show ls.take (j + 1) = ls.take j ++ [⟨e0, e1, e2, e3, e4, e5, e6, e7, e8⟩] by rw [List.take_succ_eq_append_getElem hjl, hmk])
    have HGF := jd (show growAt ⟨x0, x1, l⟩ ls j = false → growM ⟨x0, x1, l⟩ ls = (⟨x0, x1, l⟩, false) from fun h9 => by
     rw [HGM.out]
     split
     · rw [if_neg (by rw [growB_step hjl h9]; decide)]
     · rfl)
    have hsz : entSz (l ++ ls.take j) ≤ 1048577 := by have h8 : (l ++ ls.take j).length ≤ 20 := bookB_len hok2; unfold entSz; omega
    have j0 : (0 : Int) ≤ (j : Int) := by omega
    have j1 : (j : Int) < (n5 : Int) := by omega
    clear hc hmk hok2 hel5 hjl he0 he1 he2 he3 he4 he5 he6 he7 he8
    have k0 := cu0z c hc0 (show b < _ by omega)
    have k1 := cu0z c hc1 (show b < _ by omega)
    have k2 := cu0z c hc2 (show b < _ by omega)
    have k3 := cu0z c hc3 (show b < _ by omega)
    have k4 := cu0z c hc4 (show b < _ by omega)
    have k5 := cu0z c hc5 (show b < _ by omega)
    have k6 := cu0z c hc6 (show b < _ by omega)
    have k7 := cu0z c hc7 (show b < _ by omega)
    have k8 := cu0z c hc8 (show b < _ by omega)
    clear hc0 hc1 hc2 hc3 hc4 hc5 hc6 hc7 hc8
    replace S := S.boxAt c.size (wr.heap.size) rfl #[.int .i64 e0, .int .i64 e1, .int .i64 e2, .int .i64 e3, .int .i64 e4, .int .i64 e5, .int .i64 e6, .int .i64 e7, .int .i64 e8] 87
    replace c := al c S
    have f6 := lk S 2 0 rfl rfl
    have f7 := lk S 2 1 rfl rfl
    have f8 := lk S 2 2 rfl rfl
    go_wp2_with fail
    generalize wr.alloc (.cells #[.int .i64 e0, .int .i64 e1, .int .i64 e2, .int .i64 e3, .int .i64 e4, .int .i64 e5, .int .i64 e6, .int .i64 e7, .int .i64 e8] 87) = w5 at *
    obtain ⟨qe, hqe⟩ : ∃ q, q = wr.heap.size := ⟨_, rfl⟩
    rw [← hqe] at S ⊢
    clear hqe
    refine (iTakes_any x0 x1 G m gc _ (l ++ ls.take j) e0 e1 e2 e3 e4 e5 e6 e7 e8 _ (S.own_ 1 rfl).rd (Nat.le_refl _) hsz HY.out).mono ?_
    rintro e w6 ⟨rfl, b2⟩
    replace c := c.trans (b2.mono c.size)
    replace S := S.keep b2
    clear b2 f6 f7 f8
    rw [HTB.out]
    cases hg : growAt ⟨x0, x1, l⟩ ls j
    case false =>
     have HV := jd (HGF.out hg)
     clear hg hall k0 k1 k2 k3 k4 k5 k6 k7 k8
     have f9 := lk S 4 0 rfl rfl
     have f10 := lk S 4 1 rfl rfl
     have f11 := lk S 4 2 rfl rfl
     go_wp2_with fail
     refine (iCopied_any x0 x1 A n cc B l _ (HH.out.keep (c.mono hB)) (Nat.le_trans hB c.size) hs HOK.out).mono ?_
     rintro e w7 ⟨A4, n4, c4, rfl, o, b2⟩
     obtain ⟨fp_cp, S'⟩ := S.has b2 o c.size
     replace c := c.trans (b2.mono c.size)
     clear S; have S := S'; clear S' o b2 f9 f10 f11
     have f12 := lk S 4 0 rfl rfl
     have f13 := (S.at_ 4 rfl).free 0
     have f14 := lk S 4 1 rfl rfl
     have f15 := (S.at_ 4 rfl).free 1
     have f16 := lk S 4 2 rfl rfl
     have f17 := (S.at_ 4 rfl).free 2
     replace S := S.put 4 rfl 0 (.int .i64 x0)
     replace c := st c S (by omega)
     replace S := S.put 4 rfl 1 (.int .i64 x1)
     replace c := st c S (by omega)
     replace S := S.put 4 rfl 2 (.slice A4 n4 c4)
     replace c := st c S (by omega)
     have H := jd S.first
     have r0 := jd ((S.at_ 4 rfl).cell 0)
     have r1 := jd ((S.at_ 4 rfl).cell 1)
     have r2 := jd ((S.at_ 4 rfl).cell 2)
     have CC := jd c
     clear S c
     go_wp2
     exact bodyPost_ret (v := .tuple #[.agg #[.int .i64 x0, .int .i64 x1, .slice A4 n4 c4], .bool false]) (by simp [results, Tryz.results232, go_sem, r0.out, r1.out, r2.out]) rfl ⟨_, _, _, _, _, by rw [HV.out], by rw [HV.out]; exact has_mk H.out, CC.out⟩
    case true =>
     have HN := jd (show ∀ q, q < j + 1 → growAt ⟨x0, x1, l⟩ ls q = true from fun q hq => by
      rcases Nat.lt_or_ge q j with h1 | h1
      · exact hall q h1
      · obtain rfl : q = j := by omega
        exact hg)
     clear hg hall k0 k1 k2 k3 k4 k5 k6 k7 k8
     have f9 := lk S 2 0 rfl rfl
     have f10 := lk S 2 1 rfl rfl
     have f11 := lk S 2 2 rfl rfl
     have f12 := lk S 0 0 rfl rfl
     have f13 := lk S 0 1 rfl rfl
     have f14 := lk S 0 2 rfl rfl
     have f15 := lk S 0 3 rfl rfl
     have f16 := lk S 0 4 rfl rfl
     have f17 := lk S 0 5 rfl rfl
     have f18 := lk S 0 6 rfl rfl
     have f19 := lk S 0 7 rfl rfl
     have f20 := lk S 0 8 rfl rfl
     obtain ⟨ql, hql⟩ : ∃ q, q = w6.heap.size := ⟨_, rfl⟩
     replace S := S.boxAt c.size (w6.heap.size) rfl #[.int .i64 e0, .int .i64 e1, .int .i64 e2, .int .i64 e3, .int .i64 e4, .int .i64 e5, .int .i64 e6, .int .i64 e7, .int .i64 e8] 87
     replace c := al c S
     have HC : ∀ i, i < 9 → (w6.alloc (.cells #[.int .i64 e0, .int .i64 e1, .int .i64 e2, .int .i64 e3, .int .i64 e4, .int .i64 e5, .int .i64 e6, .int .i64 e7, .int .i64 e8] 87)).cell? ⟨w6.heap.size, i, none⟩ = [Value.int .i64 e0, Value.int .i64 e1, Value.int .i64 e2, Value.int .i64 e3, Value.int .i64 e4, Value.int .i64 e5, Value.int .i64 e6, Value.int .i64 e7, Value.int .i64 e8][i]? := fun i hi => by
      have h1 := (S.at_ 0 rfl).cell i
      rw [h1]
      simp
     clear hql
     replace S := (S.tail).own0 (ds := entC (⟨e0, e1, e2, e3, e4, e5, e6, e7, e8⟩ : EntM)) (vs := [.int .i64 e0, .int .i64 e1, .int .i64 e2, .int .i64 e3, .int .i64 e4, .int .i64 e5, .int .i64 e6, .int .i64 e7, .int .i64 e8]) (.int (.int (.int (.int (.int (.int (.int (.int (.int (.nil))))))))))
     replace S := S.pick 2 rfl
     go_wp2_with (first
      | (at_builtin
         refine wpList_append_elem (l := l ++ ls.take j) (y := (⟨e0, e1, e2, e3, e4, e5, e6, e7, e8⟩ : EntM)) rfl (.tmp 28) (.tmp 30) (by rfl) Tryz.underlying27 infoEntry (by rfl) (by decide) entC_len (by rfl) (S.own_ 0 rfl) (S.nodup_own 0 rfl) (by rfl) HC (S.own_ 1 rfl) (S.nodup_own 1 rfl) S.apart (by omega) (by omega) ?_
         intro A3 c3 w3 fp3 o3 n3 s3 t3
         have S3 := S.merge t3 o3 n3 s3 c.size
         have g0 := (S3.at_ 2 rfl).cell 2
         have g1 := (S3.at_ 2 rfl).free 2))
     have c3' := c.trans (S.below 0 rfl t3 c.size)
     replace S3 := S3.put 2 rfl 2 (.slice A3 (m + 1) c3)
     replace c3' := c3'.setCell (p := ⟨qo, 2, none⟩) (S3.base_le 2 rfl) (.slice A3 (m + 1) c3)
     rw [List.append_assoc, ← HTK.out] at S3
     have S1 := jd (show Sep _ w.heap.size [.own [entD (l ++ ls.take (j + 1))] [.slice A3 (m + 1) c3] fp3, .blk qo #[.int .i64 x0, .int .i64 x1, .slice A3 (m + 1) c3] 47, .blk (w.heap.size + 1) #[.int .i64 0, .int .i64 0, .slice none 0 0] 47, .blk w.heap.size #[.int .i64 x0, .int .i64 x1, .slice A n cc] 47] from S3.sub (.cons_cons _ (.cons _ (.cons_cons _ (.cons_cons _ (.cons_cons _ (List.nil_sublist _)))))))
     have C1 := jd c3'
     clear S3 c3' g0 g1
     go_roundw
     case rel => exact ⟨j + 1, A3, m + 1, c3, fp3, by omega, by go_num, HN.out, S1.out, C1.out⟩
     case measure => simp [intOf]; omega
theorem grow_one (b : BookM) (e : EntM) : growM b [e] = appM b e := by
 unfold growM appM
 have h : growB b [e] = nextB b e := by
  unfold growB growAt
  simp [more_nil]
 rw [h, if_pos (show ([e] : List EntM).length ≤ 20 from by show 1 ≤ 20; decide)]
set_option maxHeartbeats 12800000 in
theorem iApp_any (x0 x1 : Int) (A : Option Addr) (n cc B : Nat) (l : List EntM) (e0 e1 e2 e3 e4 e5 e6 e7 e8 : Int) (w : World) (h : Rd w B [entD l] [.slice A n cc]) (hB : B ≤ w.heap.size) (hs : entSz l ≤ 1048577) :
    Calls Tryz.prog 192 #[.agg #[.int .i64 x0, .int .i64 x1, .slice A n cc], .agg #[.int .i64 e0, .int .i64 e1, .int .i64 e2, .int .i64 e3, .int .i64 e4, .int .i64 e5, .int .i64 e6, .int .i64 e7, .int .i64 e8]] w (MadeB w (appM ⟨x0, x1, l⟩ ⟨e0, e1, e2, e3, e4, e5, e6, e7, e8⟩)) := by
 have HH := jd h
 obtain ⟨_, _, _, e, hl, _, hcm, hel⟩ := h.ents
 injection e with e1 e2 e3
 subst e1 e2 e3
 have hn : n ≤ 1048577 := by unfold entSz at hs; omega
 have HL := jd hl
 clear hel hcm h hl hn
 rw [← grow_one]
 obtain ⟨bk, hbk⟩ : ∃ q, q = growM ⟨x0, x1, l⟩ [⟨e0, e1, e2, e3, e4, e5, e6, e7, e8⟩] := ⟨_, rfl⟩
 rw [← hbk]
 have HBK := jd hbk
 clear hbk
 have S := Sep.nil w w.heap.size
 have c := Below.refl w.heap.size w
 replace S := S.boxAt c.size (w.heap.size) rfl #[.int .i64 x0, .int .i64 x1, .slice A n cc] 47
 replace c := al c S
 replace S := S.boxAt c.size (w.heap.size + 1) (by simp) #[.int .i64 e0, .int .i64 e1, .int .i64 e2, .int .i64 e3, .int .i64 e4, .int .i64 e5, .int .i64 e6, .int .i64 e7, .int .i64 e8] 87
 replace c := al c S
 replace S := S.boxAt c.size (w.heap.size + 1 + 1) (by simp) #[.int .i64 0, .int .i64 0, .slice none 0 0] 47
 replace c := al c S
 replace S := S.boxAt c.size (w.heap.size + 1 + 1 + 1) (by simp) #[.int .i64 e0, .int .i64 e1, .int .i64 e2, .int .i64 e3, .int .i64 e4, .int .i64 e5, .int .i64 e6, .int .i64 e7, .int .i64 e8] 87
 replace c := al c S
 have HR : Rd ((((w.alloc (.cells #[.int .i64 x0, .int .i64 x1, .slice A n cc] 47)).alloc (.cells #[.int .i64 e0, .int .i64 e1, .int .i64 e2, .int .i64 e3, .int .i64 e4, .int .i64 e5, .int .i64 e6, .int .i64 e7, .int .i64 e8] 87)).alloc (.cells #[.int .i64 0, .int .i64 0, .slice none 0 0] 47)).alloc (.cells #[.int .i64 e0, .int .i64 e1, .int .i64 e2, .int .i64 e3, .int .i64 e4, .int .i64 e5, .int .i64 e6, .int .i64 e7, .int .i64 e8] 87)) ((((w.alloc (.cells #[.int .i64 x0, .int .i64 x1, .slice A n cc] 47)).alloc (.cells #[.int .i64 e0, .int .i64 e1, .int .i64 e2, .int .i64 e3, .int .i64 e4, .int .i64 e5, .int .i64 e6, .int .i64 e7, .int .i64 e8] 87)).alloc (.cells #[.int .i64 0, .int .i64 0, .slice none 0 0] 47)).alloc (.cells #[.int .i64 e0, .int .i64 e1, .int .i64 e2, .int .i64 e3, .int .i64 e4, .int .i64 e5, .int .i64 e6, .int .i64 e7, .int .i64 e8] 87)).heap.size [entD [(⟨e0, e1, e2, e3, e4, e5, e6, e7, e8⟩ : EntM)]] [.slice (some ⟨w.heap.size + 1 + 1 + 1, 0, none⟩) 1 1] := by
  refine Rd.of_lst (us := [.int .i64 e0, .int .i64 e1, .int .i64 e2, .int .i64 e3, .int .i64 e4, .int .i64 e5, .int .i64 e6, .int .i64 e7, .int .i64 e8]) entC_len rfl (by decide) (by decide) (fun _ => ⟨_, 0, rfl, (S.at_ 0 rfl).lt, fun j hj => ?_⟩) (.int (.int (.int (.int (.int (.int (.int (.int (.int (.nil))))))))))
  rw [Nat.zero_add]
  rw [(S.at_ 0 rfl).cell j]
  simp
 have HR := jd HR
 go_enter Tryz.func192, Tryz.ntmps192
 go_wp2_with fail
 generalize (((w.alloc (.cells #[.int .i64 x0, .int .i64 x1, .slice A n cc] 47)).alloc (.cells #[.int .i64 e0, .int .i64 e1, .int .i64 e2, .int .i64 e3, .int .i64 e4, .int .i64 e5, .int .i64 e6, .int .i64 e7, .int .i64 e8] 87)).alloc (.cells #[.int .i64 0, .int .i64 0, .slice none 0 0] 47)).alloc (.cells #[.int .i64 e0, .int .i64 e1, .int .i64 e2, .int .i64 e3, .int .i64 e4, .int .i64 e5, .int .i64 e6, .int .i64 e7, .int .i64 e8] 87) = w1 at *
 refine (iGrown_any x0 x1 A n cc B l _ 1 1 _ [(⟨e0, e1, e2, e3, e4, e5, e6, e7, e8⟩ : EntM)] _ (HH.out.keep (c.mono hB)) (Nat.le_trans hB c.size) hs HR.out (Nat.le_refl _) (show (1 : Nat) ≤ 1048577 by decide)).mono ?_
 rintro e w2 ⟨y0, y1, A2, n2, c2, rfl, o, b2⟩
 rw [← HBK.out] at o ⊢
 clear HBK HR
 obtain ⟨fp_u, S'⟩ := S.has b2 o c.size
 replace c := c.trans (b2.mono c.size)
 clear S; have S := S'; clear S' o b2 
 obtain ⟨bb, fl⟩ := bk
 simp only at S ⊢
 have f0 := lk S 2 0 rfl rfl
 have f1 := (S.at_ 2 rfl).free 0
 have f2 := lk S 2 1 rfl rfl
 have f3 := (S.at_ 2 rfl).free 1
 have f4 := lk S 2 2 rfl rfl
 have f5 := (S.at_ 2 rfl).free 2
 replace S := S.put 2 rfl 0 (.int .i64 y0)
 replace c := st c S (by omega)
 replace S := S.put 2 rfl 1 (.int .i64 y1)
 replace c := st c S (by omega)
 replace S := S.put 2 rfl 2 (.slice A2 n2 c2)
 replace c := st c S (by omega)
 have H := jd S.first
 have r0 := jd ((S.at_ 2 rfl).cell 0)
 have r1 := jd ((S.at_ 2 rfl).cell 1)
 have r2 := jd ((S.at_ 2 rfl).cell 2)
 have CC := jd c
 clear S c
 go_wp2
 exact bodyPost_ret (v := .tuple #[.agg #[.int .i64 y0, .int .i64 y1, .slice A2 n2 c2], .bool fl]) (by simp [results, Tryz.results192, go_sem, r0.out, r1.out, r2.out]) rfl ⟨_, _, _, _, _, rfl, H.out, CC.out⟩
end Go.Proofs.YtmjifhjhialcbaaGreat
namespace Go.Proofs.YtmjifhjhialcbaaGreat
set_option maxRecDepth 100000
set_option linter.unusedVariables false
open Go.RowKit
attribute [local go_sem] Oper.semAt_some
def SepG (w : World) (M : Nat) (P : List EntM → Prop) (its : List EntM → List Item) (pre : List EntM) (W : World) : Prop := P pre ∧ Sep W w.heap.size (its pre) ∧ Below w.heap.size w W ∧ M ≤ W.heap.size
theorem SepG.more {w W : World} {M : Nat} {P : List EntM → Prop} {its : List EntM → List Item} {pre : List EntM} (h : SepG w M P its pre W) (o : Obj) : SepG w M P its pre (W.alloc o) :=
 ⟨h.1, h.2.1.keep ((Below.refl _ _).alloc (Nat.le_refl _) _), h.2.2.1.alloc h.2.2.1.size _, Nat.le_trans h.2.2.2 (by simp)⟩
end Go.Proofs.YtmjifhjhialcbaaGreat
namespace Go.Proofs.YtmjifhjhialcbaaGreat
set_option maxRecDepth 100000
set_option linter.unusedVariables false
open Go.RowKit
theorem iBookOk_c : CBookOk 20 := fun x0 x1 A n cc l w h hs => iBookOk_any x0 x1 A n cc _ l w h (Nat.le_refl _) hs
theorem iLastOf_c : CLastOf 18 := fun x0 x1 A n cc l w h hs => iLastOf_any x0 x1 A n cc _ l w h (Nat.le_refl _) hs
def NextPost (t : TwoM) (b : BookM) (s : List MarkM) (w : World) (e : Ending) (w' : World) : Prop :=
 (((nextM t b s).2 = false ∧ e = .returned (.tuple #[.agg #[.int .i64 0, .int .i64 0, .slice none 0 0], .slice none 0 0, .bool false])) ∨
  ∃ (E : EntM) (y0 y1 : Int) (Ay : Option Addr) (ny cy : Nat) (Am : Option Addr) (nm cm : Nat), nextM t b s = (E, true) ∧ e = .returned (.tuple #[.agg #[.int .i64 y0, .int .i64 y1, .slice Ay ny cy], .slice Am nm cm, .bool true]) ∧ Has w' w.heap.size ((appM b E).1.cells ++ [mrkD (markedM s E).1]) ([.int .i64 y0, .int .i64 y1, .slice Ay ny cy] ++ [.slice Am nm cm])) ∧ Below w.heap.size w w'
theorem iRowSlot_at (A : Option Addr) (n cc B : Nat) (d : List Int) (w : World) (h : Rd w B (rowCells d) [.slice A n cc]) (hB : B ≤ w.heap.size) :
    Calls Tryz.prog 191 #[.slice A n cc] w fun e w' => ∃ (z0 z1 z2 z3 z4 z5 z6 z7 z8 : Int) (ok : Bool), rowSlotM d = ((⟨z0, z1, z2, z3, z4, z5, z6, z7, z8⟩ : EntM), ok) ∧ e = .returned (.tuple #[.agg #[.int .i64 z0, .int .i64 z1, .int .i64 z2, .int .i64 z3, .int .i64 z4, .int .i64 z5, .int .i64 z6, .int .i64 z7, .int .i64 z8], .bool ok]) ∧ Below w.heap.size w w' := by
 refine (iRowSlot_any A n cc B d w h hB).mono ?_
 rintro e w' ⟨rfl, b⟩
 exact ⟨_, _, _, _, _, _, _, _, _, _, rfl, rfl, b⟩
set_option maxHeartbeats 12800000 in
theorem iNextFrom_any (q9 : Nat) (Aa0 : Option Addr) (na0 ca0 : Nat) (Aa1 : Option Addr) (na1 ca1 : Nat) (Aa2 : Option Addr) (na2 ca2 : Nat) (Aa3 : Option Addr) (na3 ca3 : Nat) (t : TwoM) (x0 x1 : Int) (A : Option Addr) (n cc : Nat) (l : List EntM) (As : Option Addr) (ns cs : Nat) (s : List MarkM) (w : World) (hq : Blk w q9 #[.slice Aa0 na0 ca0, .slice Aa1 na1 ca1, .slice Aa2 na2 ca2, .slice Aa3 na3 ca3] 35) (h : Rd w w.heap.size t.cells [.slice Aa0 na0 ca0, .slice Aa1 na1 ca1, .slice Aa2 na2 ca2, .slice Aa3 na3 ca3]) (hs : t.sz ≤ 1048576) (h2 : Rd w w.heap.size [entD l] [.slice A n cc]) (hb : bookB ⟨x0, x1, l⟩ = true) (h3 : Rd w w.heap.size [mrkD s] [.slice As ns cs]) (hs3 : mrkSz s ≤ 1048577) :
    Calls Tryz.prog 147 #[.func (.func 148) #[] #[.pointer (some ⟨q9, 0, none⟩)], .agg #[.int .i64 x0, .int .i64 x1, .slice A n cc], .slice As ns cs] w (NextPost t ⟨x0, x1, l⟩ s w) := by
 have HH := jd h
 have H2 := jd h2
 have H3 := jd h3
 have HQB := jd hq
 have HQL := jd hq.lt
 obtain ⟨_, _, _, e, hl, _, hcm, hel⟩ := h2.ents
 injection e with e1 e2 e3
 subst e1 e2 e3
 have hx := ((bookB_iff ⟨x0, x1, l⟩).1 hb).1
 have hl20 : l.length ≤ 20 := bookB_len hb
 have hn20 : n ≤ 20 := by omega
 have hs2 : entSz l ≤ 1048577 := by unfold entSz; omega
 have HX := jd (show 0 ≤ x0 ∧ x0 ≤ 2000 from hx)
 obtain ⟨p, hp⟩ : ∃ p, p = x0 + (n : Int) := ⟨_, rfl⟩
 have HLM := jd (show lastM ⟨x0, x1, l⟩ = p by rw [hp]; unfold lastM lastB; rw [if_pos hb, show ((⟨x0, x1, l⟩ : BookM).ents.length : Int) = (n : Int) from congrArg _ hl])
 obtain ⟨q, hq9⟩ : ∃ q, q = p + 1 := ⟨_, rfl⟩
 have HQ := jd (show lastB ⟨x0, x1, l⟩ + 1 = q by rw [hq9, hp]; unfold lastB; rw [show ((⟨x0, x1, l⟩ : BookM).ents.length : Int) = (n : Int) from congrArg _ hl])
 have ew : IntKind.i64.wrap (p + 1) = q := by have := HX.out; rw [IntKind.wrap_i64]; omega
 have HNX := jd (show nextM t ⟨x0, x1, l⟩ s = pickM ⟨x0, x1, l⟩ s (rightAt t (slotOfM q)) by unfold nextM; rw [HQ.out])
 clear hel hcm h h2 h3 hl hb hx hq hq9 hp
 have S := Sep.nil w w.heap.size
 have c := Below.refl w.heap.size w
 replace S := S.boxAt c.size (w.heap.size) rfl #[.int .i64 x0, .int .i64 x1, .slice A n cc] 47
 replace c := al c S
 replace S := S.boxAt c.size (w.heap.size + 1) (by simp) #[.int .i64 0, .int .i64 0, .slice none 0 0] 47
 replace c := al c S
 go_enter Tryz.func147, Tryz.ntmps147
 have f0 := lk S 1 0 rfl rfl
 have f1 := lk S 1 1 rfl rfl
 have f2 := lk S 1 2 rfl rfl
 go_wp2_with fail
 generalize (w.alloc (.cells #[.int .i64 x0, .int .i64 x1, .slice A n cc] 47)).alloc (.cells #[.int .i64 0, .int .i64 0, .slice none 0 0] 47) = w1 at *
 refine (iLastOf_any x0 x1 A n cc _ l _ (H2.out.keep c) c.size hs2).mono ?_
 rintro e w2 ⟨rfl, b2⟩
 replace c := c.trans (b2.mono c.size)
 replace S := S.keep b2
 clear b2 f0 f1 f2
 rw [HLM.out]
 go_wp2_with fail
 refine (iSlotOf_any q _).mono ?_
 rintro e w3 ⟨rfl, b2⟩
 replace c := c.trans (b2.mono c.size)
 replace S := S.keep b2
 clear b2
 go_wp2_with fail
 refine (iReader_any q9 Aa0 na0 ca0 Aa1 na1 ca1 Aa2 na2 ca2 Aa3 na3 ca3 t (slotOfM q) _ (HQB.out.keep c HQL.out) ((HH.out.keep c).up c.size) hs).mono ?_
 rintro e w4 ⟨Ar, nr, cr, rfl, o, b⟩
 obtain ⟨fp_ro, S'⟩ := S.has b o c.size
 replace c := c.trans (b.mono c.size)
 clear S; have S := S'; clear S' o b
 have HR2 := jd (rightAt_len t (slotOfM q))
 generalize rightAt t (slotOfM q) = R at *
 have hrl : R.length = nr := by
  obtain ⟨_, _, _, e, hl, _⟩ := Rd.kept (S.own_ 0 rfl).rd
  injection e with e1 e2 e3
  rw [hl, e2]
 have HRN := jd hrl
 have hn2 : nr ≤ 2 := by have := HR2.out; omega
 have S1 := jd S
 have B1 := jd c
 clear S c hrl
 go_wp2
 go_loopw [24] (fun iv wr => ∃ (i : Nat), i ≤ nr ∧ iv = .int .i64 (i : Int) ∧ nextM t ⟨x0, x1, l⟩ s = pickM ⟨x0, x1, l⟩ s (R.drop i) ∧ Sep wr w.heap.size [.own [keptD R] [.slice Ar nr cr] fp_ro, .blk (w.heap.size + 1) #[.int .i64 0, .int .i64 0, .slice none 0 0] 47, .blk w.heap.size #[.int .i64 x0, .int .i64 x1, .slice A n cc] 47] ∧ Below w.heap.size w wr) (fun iv _ => nr - (intOf iv).toNat)
 case atStart => exact ⟨0, Nat.zero_le _, rfl, HNX.out, S1.out, B1.out⟩
 case round =>
  obtain ⟨i, hi, rfl, hb9, S, c⟩ := hrel
  clear S1 B1 HNX
  by_cases hik : i < nr
  case neg =>
   have HV := jd (show nextM t ⟨x0, x1, l⟩ s = (ent0, false) by rw [hb9, List.drop_eq_nil_of_le (by have := HRN.out; omega)]; rfl)
   clear hb9
   have f3 := lk S 1 0 rfl rfl
   have f4 := (S.at_ 1 rfl).free 0
   have f5 := lk S 1 1 rfl rfl
   have f6 := (S.at_ 1 rfl).free 1
   have f7 := lk S 1 2 rfl rfl
   have f8 := (S.at_ 1 rfl).free 2
   replace S := S.put 1 rfl 0 (.int .i64 0)
   replace c := st c S (by omega)
   replace S := S.put 1 rfl 1 (.int .i64 0)
   replace c := st c S (by omega)
   replace S := S.put 1 rfl 2 (.slice none 0 0)
   replace c := st c S (by omega)
   have r0 := jd ((S.at_ 1 rfl).cell 0)
   have r1 := jd ((S.at_ 1 rfl).cell 1)
   have r2 := jd ((S.at_ 1 rfl).cell 2)
   have CC := jd c
   clear S c
   go_wp2
   exact bodyPost_ret (v := .tuple #[.agg #[.int .i64 0, .int .i64 0, .slice none 0 0], .slice none 0 0, .bool false]) (by simp [results, Tryz.results147, go_sem, r0.out, r1.out, r2.out]) rfl ⟨.inl ⟨by rw [HV.out], rfl⟩, CC.out⟩
  case pos =>
   have hil : i < R.length := by have := HRN.out; omega
   obtain ⟨_, _, _, e, _, _, _, hel⟩ := Rd.kept (S.own_ 0 rfl).rd
   injection e with e1 e2 e3
   subst e1 e2 e3
   obtain ⟨bb, off, rfl, hbb, hcc⟩ := hel (by omega)
   obtain ⟨A9, m9, c9, hcell, hrow, hmc, hcM⟩ := hcc i hil
   have hrd : Rd wr wr.heap.size (rowCells R[i]) [.slice A9 m9 c9] := hrow.rd hmc hcM
   obtain ⟨d, hd⟩ : ∃ d, d = R[i] := ⟨_, rfl⟩
   have HNO := jd (show fitsM ⟨x0, x1, l⟩ s d = false → nextM t ⟨x0, x1, l⟩ s = pickM ⟨x0, x1, l⟩ s (R.drop (i + 1)) from fun h9 => by rw [hb9]; exact pick_skip hil (by rw [← hd]; exact h9))
   have HYES := jd (show fitsM ⟨x0, x1, l⟩ s d = true → nextM t ⟨x0, x1, l⟩ s = ((rowSlotM d).1, true) from fun h9 => by rw [hb9, hd]; exact pick_take hil (by rw [← hd]; exact h9))
   rw [← hd] at hrd
   have HRD := jd hrd
   have i0 : (0 : Int) ≤ (i : Int) := by omega
   have i1 : (i : Int) < (nr : Int) := by omega
   clear hel hcc hrow hmc hcM hrd hd hb9 hil
   go_wp2_with fail
   refine (iRowSlot_at A9 m9 c9 _ d _ HRD.out (Nat.le_refl _)).mono ?_
   rintro e w5 ⟨z0, z1, z2, z3, z4, z5, z6, z7, z8, ok, hrh, rfl, b9⟩
   replace c := c.trans (b9.mono c.size)
   replace S := S.keep b9
   clear b9
   clear hcell HRD
   have HFS := jd (show fitsM ⟨x0, x1, l⟩ s d = (ok && ((appM ⟨x0, x1, l⟩ ⟨z0, z1, z2, z3, z4, z5, z6, z7, z8⟩).2 && (markedM s ⟨z0, z1, z2, z3, z4, z5, z6, z7, z8⟩).2)) by rw [fits_two, hrh])
   have HRH := jd hrh
   clear hrh
   replace S := S.boxAt c.size (w5.heap.size) rfl #[.int .i64 z0, .int .i64 z1, .int .i64 z2, .int .i64 z3, .int .i64 z4, .int .i64 z5, .int .i64 z6, .int .i64 z7, .int .i64 z8] 87
   replace c := al c S
   cases ok
   case false =>
    have HN := jd (HNO.out (by rw [HFS.out]; rfl))
    clear HYES HFS HRH
    replace S := S.sub (.cons _ (.cons_cons _ (.cons_cons _ (.cons_cons _ (List.nil_sublist _)))))
    have SS := jd S
    have CC := jd c
    clear S c
    go_wp2
    go_roundw
    case rel => exact ⟨i + 1, by omega, by go_num, HN.out, SS.out, CC.out⟩
    case measure => simp [intOf] <;> omega
   case true =>
    have f3 := lk S 0 0 rfl rfl
    have f4 := lk S 0 1 rfl rfl
    have f5 := lk S 0 2 rfl rfl
    have f6 := lk S 0 3 rfl rfl
    have f7 := lk S 0 4 rfl rfl
    have f8 := lk S 0 5 rfl rfl
    have f9 := lk S 0 6 rfl rfl
    have f10 := lk S 0 7 rfl rfl
    have f11 := lk S 0 8 rfl rfl
    have f12 := lk S 3 0 rfl rfl
    have f13 := lk S 3 1 rfl rfl
    have f14 := lk S 3 2 rfl rfl
    obtain ⟨ga, hga⟩ : ∃ g, g = (appM ⟨x0, x1, l⟩ ⟨z0, z1, z2, z3, z4, z5, z6, z7, z8⟩).2 := ⟨_, rfl⟩
    obtain ⟨gm, hgm⟩ : ∃ g, g = (markedM s ⟨z0, z1, z2, z3, z4, z5, z6, z7, z8⟩).2 := ⟨_, rfl⟩
    have HFG := jd (show fitsM ⟨x0, x1, l⟩ s d = (ga && gm) by rw [HFS.out, ← hga, ← hgm]; rfl)
    clear HFS
    have HGA := jd hga
    have HGM := jd hgm
    clear hga hgm
    go_wp2_with fail
    generalize w5.alloc (.cells #[.int .i64 z0, .int .i64 z1, .int .i64 z2, .int .i64 z3, .int .i64 z4, .int .i64 z5, .int .i64 z6, .int .i64 z7, .int .i64 z8] 87) = w6 at *
    refine (iApp_any x0 x1 A n cc _ l z0 z1 z2 z3 z4 z5 z6 z7 z8 _ (H2.out.keep c) c.size hs2).mono ?_
    rintro e w7 ⟨y0, y1, Ay, ny, cy, rfl, o, b⟩
    obtain ⟨fp_y, S'⟩ := S.has b o c.size
    replace c := c.trans (b.mono c.size)
    clear S; have S := S'; clear S' o b f3 f4 f5 f6 f7 f8 f9 f10 f11 f12 f13 f14
    rw [← HGA.out]
    replace S := S.boxAt c.size (w7.heap.size) rfl #[.int .i64 y0, .int .i64 y1, .slice Ay ny cy] 47
    replace c := al c S
    obtain ⟨qe, hqe⟩ : ∃ q, q = w5.heap.size := ⟨_, rfl⟩
    rw [← hqe] at S ⊢
    clear hqe
    have f15 := lk S 2 0 rfl rfl
    have f16 := lk S 2 1 rfl rfl
    have f17 := lk S 2 2 rfl rfl
    have f18 := lk S 2 3 rfl rfl
    have f19 := lk S 2 4 rfl rfl
    have f20 := lk S 2 5 rfl rfl
    have f21 := lk S 2 6 rfl rfl
    have f22 := lk S 2 7 rfl rfl
    have f23 := lk S 2 8 rfl rfl
    go_wp2_with fail
    generalize w7.alloc (.cells #[.int .i64 y0, .int .i64 y1, .slice Ay ny cy] 47) = w8 at *
    obtain ⟨qg, hqg⟩ : ∃ q, q = w7.heap.size := ⟨_, rfl⟩
    rw [← hqg] at S ⊢
    clear hqg
    clear f15 f16 f17 f18 f19 f20 f21 f22 f23
    refine (iMarked_any As ns cs _ s z0 z1 z2 z3 z4 z5 z6 z7 z8 _ (H3.out.keep c) c.size hs3).mono ?_
    rintro e w9 ⟨Am, nm, cm, rfl, o, b⟩
    obtain ⟨fp_m, S'⟩ := S.has b o c.size
    replace c := c.trans (b.mono c.size)
    clear S; have S := S'; clear S' o b
    rw [← HGM.out]
    cases ga
    case false =>
     have HN := jd (HNO.out (by rw [HFG.out]; rfl))
     clear HYES HRH HFG HGA HGM
     replace S := S.sub (.cons _ (.cons _ (.cons _ (.cons _ (.cons_cons _ (.cons_cons _ (.cons_cons _ (List.nil_sublist _))))))))
     have SS := jd S
     have CC := jd c
     clear S c
     go_wp2
     go_roundw
     case rel => exact ⟨i + 1, by omega, by go_num, HN.out, SS.out, CC.out⟩
     case measure => simp [intOf] <;> omega
    case true =>
     cases gm
     case false =>
      have HN := jd (HNO.out (by rw [HFG.out]; rfl))
      clear HYES HRH HFG HGA HGM
      replace S := S.sub (.cons _ (.cons _ (.cons _ (.cons _ (.cons_cons _ (.cons_cons _ (.cons_cons _ (List.nil_sublist _))))))))
      have SS := jd S
      have CC := jd c
      clear S c
      go_wp2
      go_roundw
      case rel => exact ⟨i + 1, by omega, by go_num, HN.out, SS.out, CC.out⟩
      case measure => simp [intOf] <;> omega
     case true =>
      have HV := jd (show nextM t ⟨x0, x1, l⟩ s = ((⟨z0, z1, z2, z3, z4, z5, z6, z7, z8⟩ : EntM), true) by rw [HYES.out (by rw [HFG.out]; rfl), HRH.out])
      clear HYES HFG HRH HNO
      have f24 := lk S 1 0 rfl rfl
      have f25 := lk S 1 1 rfl rfl
      have f26 := lk S 1 2 rfl rfl
      have f27 := lk S 5 0 rfl rfl
      have f28 := (S.at_ 5 rfl).free 0
      have f29 := lk S 5 1 rfl rfl
      have f30 := (S.at_ 5 rfl).free 1
      have f31 := lk S 5 2 rfl rfl
      have f32 := (S.at_ 5 rfl).free 2
      replace S := S.put 5 rfl 0 (.int .i64 y0)
      replace c := st c S (by omega)
      replace S := S.put 5 rfl 1 (.int .i64 y1)
      replace c := st c S (by omega)
      replace S := S.put 5 rfl 2 (.slice Ay ny cy)
      replace c := st c S (by omega)
      replace S := S.pick 2 rfl
      replace S := S.pick 1 rfl
      have H := jd S.pair
      have r0 := jd ((S.at_ 5 rfl).cell 0)
      have r1 := jd ((S.at_ 5 rfl).cell 1)
      have r2 := jd ((S.at_ 5 rfl).cell 2)
      have CC := jd c
      clear S c
      go_wp2
      exact bodyPost_ret (v := .tuple #[.agg #[.int .i64 y0, .int .i64 y1, .slice Ay ny cy], .slice Am nm cm, .bool true]) (by simp [results, Tryz.results147, go_sem, r0.out, r1.out, r2.out]) rfl ⟨.inr ⟨_, _, _, _, _, _, _, _, _, HV.out, rfl, H.out⟩, CC.out⟩
theorem next_step {t : TwoM} {h : HeadM} {j : Nat} {x1 x2 : Int} {le : List EntM} {ls : List MarkM} {E : EntM} (hba : bookAt t h j = ((⟨x1, x2, le⟩ : BookM), ls)) (hn : nextM t ⟨x1, x2, le⟩ ls = (E, true)) :
    appM ⟨x1, x2, le⟩ E = ((⟨x1, x2, le ++ [E]⟩ : BookM), true) ∧ markedM ls E = (insM ls ⟨E.cl, E.sq, E.idx⟩, true) ∧ bookAt t h (j + 1) = ((⟨x1, x2, le ++ [E]⟩ : BookM), insM ls ⟨E.cl, E.sq, E.idx⟩) := by
 obtain ⟨e, he, h1, h2, h3, h4, h5, h6, h7⟩ := step_yes (t := t) (x := ((⟨x1, x2, le⟩ : BookM), ls)) (congrArg Prod.snd hn)
 have he' : E = e := (congrArg Prod.fst hn).symm.trans he
 subst he'
 refine ⟨Prod.ext (app_yes h6).2.2 h6, Prod.ext (mark_yes h7).2.2 h7, ?_⟩
 show stepM t (bookAt t h j) = _
 rw [hba, h3]
 rfl
end Go.Proofs.YtmjifhjhialcbaaGreat
