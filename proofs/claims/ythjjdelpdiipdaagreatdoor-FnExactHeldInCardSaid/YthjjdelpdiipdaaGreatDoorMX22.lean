/- Parts of my texts: MarkS5 MarkSC LogS1. -/
import Derived.Test.YthjjdelpdiipdaaGreatDoorMX17
import Derived.Test.YthjjdelpdiipdaaGreatDoorMX21
namespace Go.Proofs.YthjjdelpdiipdaaGreatDoor
set_option maxRecDepth 100000
set_option linter.unusedVariables false
open Go.RowKit
set_option maxHeartbeats 12800000 in
theorem sOver_any (A : Option Addr) (n cc B : Nat) (l : List MarkM) (A5 : Option Addr) (n5 c5 B5 : Nat) (es : List EntM) (w : World) (h : Rd w B [mrkD l] [.slice A n cc]) (hB : B ≤ w.heap.size) (hs : mrkSz l ≤ 1048577) (h5 : Rd w B5 [entD es] [.slice A5 n5 c5]) (hB5 : B5 ≤ w.heap.size) (hs5 : entSz es ≤ 1048577) :
    Calls Tryz.prog 31 #[.slice A n cc, .slice A5 n5 c5] w fun e w' => ∃ (A2 : Option Addr) (n2 c2 : Nat), e = .returned (.tuple #[.slice A2 n2 c2, .bool (seenOverM l es).2]) ∧ Has w' w.heap.size [mrkD (seenOverM l es).1] [.slice A2 n2 c2] ∧ Below w.heap.size w w' := by
 have HH := jd h
 obtain ⟨_, _, _, e, hl, _, _, hel⟩ := h.mrks
 injection e with e1 e2 e3
 subst e1 e2 e3
 have HL := jd hl
 have hn : n ≤ 1048577 := by unfold mrkSz at hs; omega
 clear h hl
 clear hel
 obtain ⟨_, _, _, e, hl5, _, _, hel5⟩ := h5.ents
 injection e with e1 e2 e3
 subst e1 e2 e3
 have hn5 : n5 ≤ 1048577 := by unfold entSz at hs5; omega
 have HL5 := jd hl5
 clear h5 hl5 hs5
 have S := Sep.nil w w.heap.size
 have c := Below.refl w.heap.size w
 go_enter Tryz.func31, Tryz.ntmps31
 go_wp2_with fail
 refine (sSeen_any A n cc B l _ (HH.out.keep (c.mono hB)) (Nat.le_trans hB c.size) hs).mono ?_
 rintro e w1 ⟨rfl, b2⟩
 replace c := c.trans (b2.mono c.size)
 replace S := S.keep b2
 clear b2
 cases hok : seenB l
 case false =>
  have HV := jd (show seenOverM l es = ([], false) by unfold seenOverM; rw [hok]; rfl)
  clear hok hel5
  replace S := S.boxAt c.size (w1.heap.size) rfl #[] 114
  replace c := al c S
  replace S := S.blk0 (k := 3) (f := mrkC)
  have H := jd S.first
  have CC := jd c
  clear S c
  go_wp2
  go_ret2
  exact fin_marks HV.out H.out CC.out rfl
 case true =>
  have HOK := jd hok
  have HGM := jd (show seenOverM l es = if es.length ≤ 2000 then (if overB l es = true then (overM l es, true) else (l, false)) else (l, false) by unfold seenOverM; rw [if_pos hok])
  clear hok
  by_cases h20 : 2000 < n5
  case pos =>
   have HV := jd (show seenOverM l es = (l, false) by rw [HGM.out, if_neg (by rw [HL5.out]; omega)])
   have d1 : decide ((n5 : Int) > 2000) = true := decide_eq_true (by omega)
   have d2 : decide ((2000 : Int) < (n5 : Int)) = true := decide_eq_true (by omega)
   clear hel5
   go_wp2_with fail
   refine (sCopyMs_any A n cc B l _ (HH.out.keep (c.mono hB)) (Nat.le_trans hB c.size) hs).mono ?_
   rintro e w2 ⟨A2, c2, rfl, o, b2⟩
   obtain ⟨fp_u, S'⟩ := S.has b2 o c.size
   replace c := c.trans (b2.mono c.size)
   clear S; have S := S'; clear S' o b2
   have H := jd S.first
   have CC := jd c
   clear S c
   go_wp2
   go_ret2
   exact fin_marks HV.out H.out CC.out rfl
  case neg =>
   have d1 : decide ((n5 : Int) > 2000) = false := decide_eq_false (by omega)
   have d2 : decide ((2000 : Int) < (n5 : Int)) = false := decide_eq_false (by omega)
   go_wp2_with fail
   refine (sCopyMs_any A n cc B l _ (HH.out.keep (c.mono hB)) (Nat.le_trans hB c.size) hs).mono ?_
   rintro e w2 ⟨A2, c2, rfl, o, b2⟩
   obtain ⟨fp_u, S'⟩ := S.has b2 o c.size
   replace c := c.trans (b2.mono c.size)
   clear S; have S := S'; clear S' o b2
   clear d1 d2
   have S0 := jd S
   have B0 := jd c
   clear S c
   go_wp2
   go_loopw [6, 7] (fun u i wr => ∃ (j : Nat) (G : Option Addr) (m gc : Nat) (fp : List Nat), j ≤ n5 ∧ i = .int .i64 (j : Int) ∧ u = .slice G m gc ∧ (∀ q, q < j → overAt l es q = true) ∧ Sep wr w.heap.size [.own [mrkD (overM l (es.take j))] [.slice G m gc] fp] ∧ Below w.heap.size w wr) (fun _ i _ => n5 - (intOf i).toNat)
   case atStart => exact ⟨0, _, _, _, _, Nat.zero_le _, rfl, rfl, fun q hq => absurd hq (by omega), S0.out, B0.out⟩
   case round =>
    obtain ⟨j, G, m, gc, fp, hj, rfl, rfl, hall, S, c⟩ := hrel
    clear S0 B0
    have HA := jd hall
    by_cases hlt : j < n5
    case neg =>
     obtain rfl : j = n5 := by omega
     have htk : es.take j = es := List.take_of_length_le (by rw [HL5.out]; exact Nat.le_refl _)
     rw [htk] at S
     have HV := jd (show seenOverM l es = (overM l es, true) by rw [HGM.out, if_pos (by rw [HL5.out]; omega), if_pos ((overB_iff _ _).2 fun q hq => hall q (by have := HL5.out; omega))])
     have H := jd S.first
     have CC := jd c
     clear S c hall hel5 htk
     go_wp2
     go_ret2
     exact fin_marks HV.out H.out CC.out rfl
    case pos =>
     obtain ⟨b, off, rfl, hb, hc⟩ := hel5 (by omega)
     have hjl : j < es.length := by have := HL5.out; omega
     obtain ⟨hc0, hc1, hc2, hc3, hc4, hc5, hc6, hc7, hc8⟩ := hc j hjl
     have hok2 := over_ok (es := es) HOK.out j (by omega) hall
     have HAM := jd (marked_more hok2 hjl)
     obtain ⟨e0, he0⟩ : ∃ q, q = es[j].idx := ⟨_, rfl⟩
     rw [← he0] at hc0
     obtain ⟨e1, he1⟩ : ∃ q, q = es[j].tm := ⟨_, rfl⟩
     rw [← he1] at hc1
     obtain ⟨e2, he2⟩ : ∃ q, q = es[j].cl := ⟨_, rfl⟩
     rw [← he2] at hc2
     obtain ⟨e3, he3⟩ : ∃ q, q = es[j].sq := ⟨_, rfl⟩
     rw [← he3] at hc3
     obtain ⟨e4, he4⟩ : ∃ q, q = es[j].kd := ⟨_, rfl⟩
     rw [← he4] at hc4
     obtain ⟨e5, he5⟩ : ∃ q, q = es[j].oa := ⟨_, rfl⟩
     rw [← he5] at hc5
     obtain ⟨e6, he6⟩ : ∃ q, q = es[j].ob := ⟨_, rfl⟩
     rw [← he6] at hc6
     obtain ⟨e7, he7⟩ : ∃ q, q = es[j].oc := ⟨_, rfl⟩
     rw [← he7] at hc7
     obtain ⟨e8, he8⟩ : ∃ q, q = es[j].od := ⟨_, rfl⟩
     rw [← he8] at hc8
     have hmk : es[j] = ⟨e0, e1, e2, e3, e4, e5, e6, e7, e8⟩ := by rw [he0, he1, he2, he3, he4, he5, he6, he7, he8]
     rw [hmk] at HAM
     have hsz : mrkSz (overM l (es.take j)) ≤ 1048577 := Nat.le_trans (seen_len hok2) (by decide)
     have j0 : (0 : Int) ≤ (j : Int) := by omega
     have j1 : (j : Int) < (n5 : Int) := by omega
     have HNO := jd (show overAt l es j = false → seenOverM l es = (l, false) from fun h9 => by rw [HGM.out, if_pos (by rw [HL5.out]; omega), if_neg (by rw [overB_step hjl h9]; decide)])
     have k0 := cu c hc0 (show b < _ by omega)
     have k1 := cu c hc1 (show b < _ by omega)
     have k2 := cu c hc2 (show b < _ by omega)
     have k3 := cu c hc3 (show b < _ by omega)
     have k4 := cu c hc4 (show b < _ by omega)
     have k5 := cu c hc5 (show b < _ by omega)
     have k6 := cu c hc6 (show b < _ by omega)
     have k7 := cu c hc7 (show b < _ by omega)
     have k8 := cu c hc8 (show b < _ by omega)
     clear hc hmk hok2 hel5 he0 hc0 he1 hc1 he2 hc2 he3 hc3 he4 hc4 he5 hc5 he6 hc6 he7 hc7 he8 hc8
     go_wp2_with fail
     refine (sMarked_any G m gc _ (overM l (es.take j)) e0 e1 e2 e3 e4 e5 e6 e7 e8 _ (S.own_ 0 rfl).rd (Nat.le_refl _) hsz).mono ?_
     rintro e w3 ⟨A3, n3, c3, rfl, o, b2⟩
     clear k0 k1 k2 k3 k4 k5 k6 k7 k8
     have e9 := HAM.out
     cases hg : overAt l es j
     case false =>
      have HV := jd (HNO.out hg)
      rw [hg, if_neg (by decide)] at e9
      rw [e9]
      replace c := c.trans (b2.mono c.size)
      replace S := S.keep b2
      clear e9 HAM o b2 hg hall hjl
      go_wp2_with fail
      refine (sCopyMs_any A n cc B l _ (HH.out.keep (c.mono hB)) (Nat.le_trans hB c.size) hs).mono ?_
      rintro e w4 ⟨A2, c2, rfl, o, b2⟩
      obtain ⟨fp_u, S'⟩ := S.has b2 o c.size
      replace c := c.trans (b2.mono c.size)
      clear S; have S := S'; clear S' o b2
      have H := jd S.first
      have CC := jd c
      clear S c
      go_wp2
      go_ret2
      exact fin_marks HV.out H.out CC.out rfl
     case true =>
      rw [hg, if_pos rfl] at e9
      rw [e9] at o ⊢
      have HN := jd (show ∀ q, q < j + 1 → overAt l es q = true from fun q hq => by
       rcases Nat.lt_or_ge q j with h1 | h1
       · exact hall q h1
       · obtain rfl : q = j := by omega
         exact hg)
      obtain ⟨fp3, S'⟩ := (Sep.nil _ w.heap.size).has b2 o c.size
      replace c := c.trans (b2.mono c.size)
      have SS := jd S'
      have CC := jd c
      clear S S' c o b2 e9 HAM hg hall hjl
      go_wp2
      go_roundw
      case rel => exact ⟨j + 1, A3, n3, c3, fp3, by omega, by go_num, rfl, HN.out, SS.out, CC.out⟩
      case measure => simp [intOf]; omega
theorem sSeenOver_c : CSeenOver 31 := fun A n cc l A5 n5 c5 es w h hs h5 hs5 => sOver_any A n cc _ l A5 n5 c5 _ es w h (Nat.le_refl _) hs h5 (Nat.le_refl _) hs5
set_option maxHeartbeats 6400000 in
theorem sSameHead_any (x0 x1 x2 y0 y1 y2 : Int) (A A2 : Option Addr) (n cc n2 c2 B B2 : Nat) (l r : List MarkM) (w : World) (h : Rd w B [mrkD l] [.slice A n cc]) (h2 : Rd w B2 [mrkD r] [.slice A2 n2 c2]) (hB : B ≤ w.heap.size) (hB2 : B2 ≤ w.heap.size) (hs : mrkSz l ≤ 1048577) (hs2 : mrkSz r ≤ 1048577) :
    Calls Tryz.prog 36 #[.agg #[.int .i64 x0, .int .i64 x1, .int .i64 x2, .slice A n cc], .agg #[.int .i64 y0, .int .i64 y1, .int .i64 y2, .slice A2 n2 c2]] w fun e w' => e = .returned (.bool (sameHd ⟨x0, x1, x2, l⟩ ⟨y0, y1, y2, r⟩)) ∧ Below w.heap.size w w' := by
 have HH := jd h
 have H2 := jd h2
 clear h h2
 have HV := jd (show sameHd ⟨x0, x1, x2, l⟩ ⟨y0, y1, y2, r⟩ = (decide (x0 = y0) && (decide (x1 = y1) && (decide (x2 = y2) && sameMs l r))) from rfl)
 have S := Sep.nil w w.heap.size
 have c := Below.refl w.heap.size w
 replace S := S.boxAt c.size (w.heap.size) rfl #[.int .i64 x0, .int .i64 x1, .int .i64 x2, .slice A n cc] 46
 replace c := al c S
 replace S := S.boxAt c.size (w.heap.size + 1) (by simp) #[.int .i64 y0, .int .i64 y1, .int .i64 y2, .slice A2 n2 c2] 46
 replace c := al c S
 have C := jd c
 by_cases q0 : x0 = y0
 case neg =>
  have e0 : (x0 == y0) = false := by simpa using q0
  have HW := jd (show false = sameHd ⟨x0, x1, x2, l⟩ ⟨y0, y1, y2, r⟩ by rw [HV.out]; simp [q0])
  clear S c q0
  go_enter Tryz.func36, Tryz.ntmps36
  go_wp2
  go_ret
  exact ⟨ret_bool HW.out, C.out⟩
 have e0 : (x0 == y0) = true := by simpa using q0
 by_cases q1 : x1 = y1
 case neg =>
  have e1 : (x1 == y1) = false := by simpa using q1
  have HW := jd (show false = sameHd ⟨x0, x1, x2, l⟩ ⟨y0, y1, y2, r⟩ by rw [HV.out]; simp [q0, q1])
  clear S c q0 q1
  go_enter Tryz.func36, Tryz.ntmps36
  go_wp2
  go_ret
  exact ⟨ret_bool HW.out, C.out⟩
 have e1 : (x1 == y1) = true := by simpa using q1
 by_cases q2 : x2 = y2
 case neg =>
  have e2 : (x2 == y2) = false := by simpa using q2
  have HW := jd (show false = sameHd ⟨x0, x1, x2, l⟩ ⟨y0, y1, y2, r⟩ by rw [HV.out]; simp [q0, q1, q2])
  clear S c q0 q1 q2
  go_enter Tryz.func36, Tryz.ntmps36
  go_wp2
  go_ret
  exact ⟨ret_bool HW.out, C.out⟩
 have e2 : (x2 == y2) = true := by simpa using q2
 have HW := jd (show sameMs l r = sameHd ⟨x0, x1, x2, l⟩ ⟨y0, y1, y2, r⟩ by rw [HV.out, decide_eq_true q0, decide_eq_true q1, decide_eq_true q2, Bool.true_and, Bool.true_and, Bool.true_and])
 clear q0 q1 q2
 go_enter Tryz.func36, Tryz.ntmps36
 have f0 := lk S 1 0 rfl rfl
 have f1 := lk S 1 1 rfl rfl
 have f2 := lk S 1 2 rfl rfl
 have f3 := lk S 1 3 rfl rfl
 have f4 := lk S 0 0 rfl rfl
 have f5 := lk S 0 1 rfl rfl
 have f6 := lk S 0 2 rfl rfl
 have f7 := lk S 0 3 rfl rfl
 go_wp2_with fail
 generalize (w.alloc (.cells #[.int .i64 x0, .int .i64 x1, .int .i64 x2, .slice A n cc] 46)).alloc (.cells #[.int .i64 y0, .int .i64 y1, .int .i64 y2, .slice A2 n2 c2] 46) = w1 at *
 refine (sSameMs_any A A2 n cc n2 c2 B B2 l r _ (HH.out.keep (c.mono hB)) (H2.out.keep (c.mono hB2)) (Nat.le_trans hB c.size) (Nat.le_trans hB2 c.size) hs hs2).mono ?_
 rintro e w2 ⟨rfl, b2⟩
 replace c := c.trans (b2.mono c.size)
 replace S := S.keep b2
 clear b2 f0 f1 f2 f3 f4 f5 f6 f7
 have CC := jd c
 clear S c
 go_wp2
 go_ret
 exact ⟨ret_bool HW.out, CC.out⟩
end Go.Proofs.YthjjdelpdiipdaaGreatDoor
