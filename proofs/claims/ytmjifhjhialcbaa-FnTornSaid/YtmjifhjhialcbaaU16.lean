/- Parts of my texts: MarkS5 MarkSC BookT BookU HeadD2. -/
import Derived.Test.YtmjifhjhialcbaaU15
import Derived.Laws.AppendOwn
import Derived.Laws.Append
namespace Go.Proofs.Ytmjifhjhialcbaa
set_option maxRecDepth 100000
set_option linter.unusedVariables false
open Go.RowKit
set_option maxHeartbeats 12800000 in
theorem sOver_any (A : Option Addr) (n cc B : Nat) (l : List MarkM) (A5 : Option Addr) (n5 c5 B5 : Nat) (es : List EntM) (w : World) (h : Rd w B [mrkD l] [.slice A n cc]) (hB : B ≤ w.heap.size) (hs : mrkSz l ≤ 1048577) (h5 : Rd w B5 [entD es] [.slice A5 n5 c5]) (hB5 : B5 ≤ w.heap.size) (hs5 : entSz es ≤ 1048577) :
    Calls Try.prog 34 #[.slice A n cc, .slice A5 n5 c5] w fun e w' => ∃ (A2 : Option Addr) (n2 c2 : Nat), e = .returned (.tuple #[.slice A2 n2 c2, .bool (seenOverM l es).2]) ∧ Has w' w.heap.size [mrkD (seenOverM l es).1] [.slice A2 n2 c2] ∧ Below w.heap.size w w' := by
 have HH := jd h
 obtain ⟨_, _, _, e, hl, _, _, hel⟩ := h.mrks
 injection e with e1 e2 e3
 subst e1 e2 e3
 have HL := jd hl
 have hn : n ≤ 1048577 := by unfold mrkSz at hs; omega
 clear h hl
 clear hel
 obtain ⟨_, _, _, e, hl5, _, _, hel5⟩ := h5.ents
 injection e with e1 e2 e3
 subst e1 e2 e3
 have hn5 : n5 ≤ 1048577 := by unfold entSz at hs5; omega
 have HL5 := jd hl5
 clear h5 hl5 hs5
 have S := Sep.nil w w.heap.size
 have c := Below.refl w.heap.size w
 go_enter Try.func34, Try.ntmps34
 go_wp2_with fail
 refine (sSeen_any A n cc B l _ (HH.out.keep (c.mono hB)) (Nat.le_trans hB c.size) hs).mono ?_
 rintro e w1 ⟨rfl, b2⟩
 replace c := c.trans (b2.mono c.size)
 replace S := S.keep b2
 clear b2
 cases hok : seenB l
 case false =>
  have HV := jd (show seenOverM l es = ([], false) by unfold seenOverM; rw [hok]; rfl)
  clear hok hel5
  replace S := S.boxAt c.size (w1.heap.size) rfl #[] 76
  replace c := al c S
  replace S := S.blk0 (k := 3) (f := mrkC)
  have H := jd S.first
  have CC := jd c
  clear S c
  go_wp2
  go_ret2
  exact fin_marks HV.out H.out CC.out rfl
 case true =>
  have HOK := jd hok
  have HGM := jd (show seenOverM l es = if es.length ≤ 2000 then (if overB l es = true then (overM l es, true) else (l, false)) else (l, false) by unfold seenOverM; rw [if_pos hok])
  clear hok
  by_cases h20 : 2000 < n5
  case pos =>
   have HV := jd (show seenOverM l es = (l, false) by rw [HGM.out, if_neg (by rw [HL5.out]; omega)])
   have d1 : decide ((n5 : Int) > 2000) = true := decide_eq_true (by omega)
   have d2 : decide ((2000 : Int) < (n5 : Int)) = true := decide_eq_true (by omega)
   clear hel5
   go_wp2_with fail
   refine (sCopyMs_any A n cc B l _ (HH.out.keep (c.mono hB)) (Nat.le_trans hB c.size) hs).mono ?_
   rintro e w2 ⟨A2, c2, rfl, o, b2⟩
   obtain ⟨fp_u, S'⟩ := S.has b2 o c.size
   replace c := c.trans (b2.mono c.size)
   clear S; have S := S'; clear S' o b2
   have H := jd S.first
   have CC := jd c
   clear S c
   go_wp2
   go_ret2
   exact fin_marks HV.out H.out CC.out rfl
  case neg =>
   have d1 : decide ((n5 : Int) > 2000) = false := decide_eq_false (by omega)
   have d2 : decide ((2000 : Int) < (n5 : Int)) = false := decide_eq_false (by omega)
   go_wp2_with fail
   refine (sCopyMs_any A n cc B l _ (HH.out.keep (c.mono hB)) (Nat.le_trans hB c.size) hs).mono ?_
   rintro e w2 ⟨A2, c2, rfl, o, b2⟩
   obtain ⟨fp_u, S'⟩ := S.has b2 o c.size
   replace c := c.trans (b2.mono c.size)
   clear S; have S := S'; clear S' o b2
   clear d1 d2
   have S0 := jd S
   have B0 := jd c
   clear S c
   go_wp2
   go_loopw [6, 7] (fun u i wr => ∃ (j : Nat) (G : Option Addr) (m gc : Nat) (fp : List Nat), j ≤ n5 ∧ i = .int .i64 (j : Int) ∧ u = .slice G m gc ∧ (∀ q, q < j → overAt l es q = true) ∧ Sep wr w.heap.size [.own [mrkD (overM l (es.take j))] [.slice G m gc] fp] ∧ Below w.heap.size w wr) (fun _ i _ => n5 - (intOf i).toNat)
   case atStart => exact ⟨0, _, _, _, _, Nat.zero_le _, rfl, rfl, fun q hq => absurd hq (by omega), S0.out, B0.out⟩
   case round =>
    obtain ⟨j, G, m, gc, fp, hj, rfl, rfl, hall, S, c⟩ := hrel
    clear S0 B0
    have HA := jd hall
    by_cases hlt : j < n5
    case neg =>
     obtain rfl : j = n5 := by omega
     have htk : es.take j = es := List.take_of_length_le (by rw [HL5.out]; exact Nat.le_refl _)
     rw [htk] at S
     have HV := jd (show seenOverM l es = (overM l es, true) by rw [HGM.out, if_pos (by rw [HL5.out]; omega), if_pos ((overB_iff _ _).2 fun q hq => hall q (by have := HL5.out; omega))])
     have H := jd S.first
     have CC := jd c
     clear S c hall hel5 htk
     go_wp2
     go_ret2
     exact fin_marks HV.out H.out CC.out rfl
    case pos =>
     obtain ⟨b, off, rfl, hb, hc⟩ := hel5 (by omega)
     have hjl : j < es.length := by have := HL5.out; omega
     obtain ⟨hc0, hc1, hc2, hc3, hc4, hc5, hc6, hc7, hc8⟩ := hc j hjl
     have hok2 := over_ok (es := es) HOK.out j (by omega) hall
     have HAM := jd (marked_more hok2 hjl)
     obtain ⟨e0, he0⟩ : ∃ q, q = es[j].idx := ⟨_, rfl⟩
     rw [← he0] at hc0
     obtain ⟨e1, he1⟩ : ∃ q, q = es[j].tm := ⟨_, rfl⟩
     rw [← he1] at hc1
     obtain ⟨e2, he2⟩ : ∃ q, q = es[j].cl := ⟨_, rfl⟩
     rw [← he2] at hc2
     obtain ⟨e3, he3⟩ : ∃ q, q = es[j].sq := ⟨_, rfl⟩
     rw [← he3] at hc3
     obtain ⟨e4, he4⟩ : ∃ q, q = es[j].kd := ⟨_, rfl⟩
     rw [← he4] at hc4
     obtain ⟨e5, he5⟩ : ∃ q, q = es[j].oa := ⟨_, rfl⟩
     rw [← he5] at hc5
     obtain ⟨e6, he6⟩ : ∃ q, q = es[j].ob := ⟨_, rfl⟩
     rw [← he6] at hc6
     obtain ⟨e7, he7⟩ : ∃ q, q = es[j].oc := ⟨_, rfl⟩
     rw [← he7] at hc7
     obtain ⟨e8, he8⟩ : ∃ q, q = es[j].od := ⟨_, rfl⟩
     rw [← he8] at hc8
     have hmk : es[j] = ⟨e0, e1, e2, e3, e4, e5, e6, e7, e8⟩ := by rw [he0, he1, he2, he3, he4, he5, he6, he7, he8]
     rw [hmk] at HAM
     have hsz : mrkSz (overM l (es.take j)) ≤ 1048577 := Nat.le_trans (seen_len hok2) (by decide)
     have j0 : (0 : Int) ≤ (j : Int) := by omega
     have j1 : (j : Int) < (n5 : Int) := by omega
     have HNO := jd (show overAt l es j = false → seenOverM l es = (l, false) from fun h9 => by rw [HGM.out, if_pos (by rw [HL5.out]; omega), if_neg (by rw [overB_step hjl h9]; decide)])
     have k0 := cu0z c hc0 (show b < _ by omega)
     have k1 := cu0z c hc1 (show b < _ by omega)
     have k2 := cu0z c hc2 (show b < _ by omega)
     have k3 := cu0z c hc3 (show b < _ by omega)
     have k4 := cu0z c hc4 (show b < _ by omega)
     have k5 := cu0z c hc5 (show b < _ by omega)
     have k6 := cu0z c hc6 (show b < _ by omega)
     have k7 := cu0z c hc7 (show b < _ by omega)
     have k8 := cu0z c hc8 (show b < _ by omega)
     clear hc hmk hok2 hel5 he0 hc0 he1 hc1 he2 hc2 he3 hc3 he4 hc4 he5 hc5 he6 hc6 he7 hc7 he8 hc8
     go_wp2_with fail
     refine (sMarked_any G m gc _ (overM l (es.take j)) e0 e1 e2 e3 e4 e5 e6 e7 e8 _ (S.own_ 0 rfl).rd (Nat.le_refl _) hsz).mono ?_
     rintro e w3 ⟨A3, n3, c3, rfl, o, b2⟩
     clear k0 k1 k2 k3 k4 k5 k6 k7 k8
     have e9 := HAM.out
     cases hg : overAt l es j
     case false =>
      have HV := jd (HNO.out hg)
      rw [hg, if_neg (by decide)] at e9
      rw [e9]
      replace c := c.trans (b2.mono c.size)
      replace S := S.keep b2
      clear e9 HAM o b2 hg hall hjl
      go_wp2_with fail
      refine (sCopyMs_any A n cc B l _ (HH.out.keep (c.mono hB)) (Nat.le_trans hB c.size) hs).mono ?_
      rintro e w4 ⟨A2, c2, rfl, o, b2⟩
      obtain ⟨fp_u, S'⟩ := S.has b2 o c.size
      replace c := c.trans (b2.mono c.size)
      clear S; have S := S'; clear S' o b2
      have H := jd S.first
      have CC := jd c
      clear S c
      go_wp2
      go_ret2
      exact fin_marks HV.out H.out CC.out rfl
     case true =>
      rw [hg, if_pos rfl] at e9
      rw [e9] at o ⊢
      have HN := jd (show ∀ q, q < j + 1 → overAt l es q = true from fun q hq => by
       rcases Nat.lt_or_ge q j with h1 | h1
       · exact hall q h1
       · obtain rfl : q = j := by omega
         exact hg)
      obtain ⟨fp3, S'⟩ := (Sep.nil _ w.heap.size).has b2 o c.size
      replace c := c.trans (b2.mono c.size)
      have SS := jd S'
      have CC := jd c
      clear S S' c o b2 e9 HAM hg hall hjl
      go_wp2
      go_roundw
      case rel => exact ⟨j + 1, A3, n3, c3, fp3, by omega, by go_num, rfl, HN.out, SS.out, CC.out⟩
      case measure => simp [intOf]; omega
theorem sSeenOver_c : CSeenOver 34 := fun A n cc l A5 n5 c5 es w h hs h5 hs5 => sOver_any A n cc _ l A5 n5 c5 _ es w h (Nat.le_refl _) hs h5 (Nat.le_refl _) hs5
theorem Ow.ints_foot {w : World} : ∀ {xs : List Int} {us : List Value} {fp : List Nat}, Ow w (xs.flatMap fun y => [Dat.int y]) us fp → fp = []
 | [], _, _, h => by
  have h' : Ow w [] _ _ := h
  cases h'
  rfl
 | x :: xs, us, fp, h => by
  have h' : Ow w (.int x :: xs.flatMap fun y => [Dat.int y]) us fp := h
  cases h' with
  | int h => exact Ow.ints_foot h
theorem Ow.shorter {w : World} {l : List EntM} {A : Option Addr} {n c i : Nat} {fp : List Nat} (h : Ow w [entD l] [.slice A n c] fp) (hi : i ≤ n) : Ow w [entD (l.take i)] [.slice A i c] fp := by
 obtain ⟨us, fp1, h1, h2, rfl⟩ := Ow.lst (k := 9) entC_len (by decide) h
 have hf : fp1 = [] := by
  rw [flat_flat (f := entC) (g := entNs) (fun _ => rfl)] at h2
  exact Ow.ints_foot h2
 subst hf
 have hn : l.length = n := by
  obtain ⟨_, _, _, e, hl, _⟩ := h.rd.ents
  injection e with e1 e2 e3
  rw [hl, e2]
 have e1 : l.flatMap entC = (l.take i).flatMap entC ++ (l.drop i).flatMap entC := by rw [← List.flatMap_append, List.take_append_drop]
 rw [e1] at h2
 obtain ⟨u1, u2, f1, f2, rfl, hff, r1, _⟩ := h2.split
 have hf1 : f1 = [] := (List.append_eq_nil_iff.1 hff.symm).1
 subst hf1
 have l1 : u1.length = i * 9 := by rw [r1.len, flatMap_len entC_len, List.length_take, Nat.min_eq_left (by omega)]
 have eb : (Value.slice A n c).ownBlock = (Value.slice A i c).ownBlock := by cases A <;> rfl
 rw [eb]
 refine Ow.of_lst (n := i) ⟨l1, ?_⟩ r1
 rcases h1.2 with ⟨hv, h0⟩ | ⟨g, cap, cur, hv, hb, hg, hnc, hcm, hs, ht⟩
 · left
   injection hv with e1 e2 e3
   refine ⟨by rw [e1, e3, show i = 0 by omega], by omega⟩
 · right
   injection hv with e1 e2 e3
   subst e1 e3
   refine ⟨g, c, cur, rfl, hb, hg, by omega, hcm, hs, ?_⟩
   have h8 := congrArg (List.take (i * 9)) ht
   rw [List.take_take, Nat.min_eq_left (Nat.mul_le_mul_right 9 (show i ≤ l.length by omega)), List.take_append_of_le_length (Nat.le_of_eq l1.symm), List.take_of_length_le (Nat.le_of_eq l1)] at h8
   exact h8
theorem own_addr {w : World} {l : List EntM} {A : Option Addr} {n c : Nat} {fp : List Nat} (h : Ow w [entD l] [.slice A n c] fp) : (A = none ∧ n = 0 ∧ c = 0) ∨ ∃ g, A = some ⟨g, 0, none⟩ := by
 obtain ⟨us, fp1, h1, _, _⟩ := Ow.lst (k := 9) entC_len (by decide) h
 rcases h1.2 with ⟨hv, _⟩ | ⟨g, cap, cur, hv, _⟩
 · injection hv with e1 e2 e3
   exact .inl ⟨e1, e2, e3⟩
 · injection hv with e1 e2 e3
   exact .inr ⟨g, e1⟩
theorem under_ents : Try.prog.underlying 27 = some (.slice (Try.prog.elem 27)) := by kernel_rfl
theorem size_ents (w : World) : (sizeOf (Try.prog.elem 27)).run Try.prog w = .ok 9 w := by kernel_rfl
theorem slice_front {w : World} {l : List EntM} {A : Option Addr} {n c k : Nat} {fp : List Nat} (h : Ow w [entD l] [.slice A n c] fp) (hk : k ≤ n) (w9 : World) :
    (Instr.sliceAt 27 (.slice A n c) none (some (.int .i64 (k : Int))) none).run Try.prog w9 = .ok (.slice A k c) w9 := by
 obtain ⟨_, _, _, e, _, hnc, _⟩ := h.rd.ents
 injection e with e1 e2 e3
 subst e1 e2 e3
 rw [run_sliceAt_slice _ _ _ _ _ _ under_ents, run_slice_h _ _ _ _ _ under_ents _ _ (by omega) (by omega), size_ents]
 show Result.ok (sliced A 0 (k : Int).toNat c 9) w9 = _
 unfold sliced
 rcases own_addr h with ⟨e, _, _⟩ | ⟨g, e⟩
 · subst e
   simp
 · subst e
   simp [Addr.add]
def headOf (l : List EntM) (num : Int) (base : Nat) : HeadM := ⟨num, (base : Int), if base = 0 then 0 else (l.getD (base - 1) ent0).tm, (seenOverM [] (l.take base)).1⟩
set_option maxHeartbeats 6400000 in
theorem w9head_any (A : Option Addr) (n c : Nat) (fp : List Nat) (l : List EntM) (num : Int) (base : Nat) (w : World) (o : Ow w [entD l] [.slice A n c] fp) (hb : base ≤ n) (hn : n ≤ 1000) :
    Calls Try.prog 11 #[.slice A n c, .int .i64 num, .int .i64 (base : Int)] w fun e w' => ∃ (A2 : Option Addr) (n2 c2 : Nat), e = .returned (.agg #[.int .i64 num, .int .i64 (base : Int), .int .i64 (headOf l num base).tm, .slice A2 n2 c2]) ∧ Has w' w.heap.size [mrkD (headOf l num base).seen] [.slice A2 n2 c2] ∧ Below w.heap.size w w' := by
 obtain ⟨_, _, _, e, hl, _, hcm, hel⟩ := o.rd.ents
 injection e with e1 e2 e3
 subst e1 e2 e3
 have HF9 := jd (o.shorter hb).rd
 have hs1 := slice_front (l := l) o hb
 have HZ := jd (show entSz (l.take base) ≤ 1048577 by unfold entSz; rw [List.length_take]; omega)
 have HL := jd hl
 obtain ⟨bi, hbi⟩ : ∃ bi : Int, bi = (base : Int) := ⟨_, rfl⟩
 rw [← hbi] at hs1 ⊢
 clear hl hcm o
 have S := Sep.nil w w.heap.size
 have c := Below.refl w.heap.size w
 replace S := S.boxAt c.size (w.heap.size) rfl #[.int .i64 0, .int .i64 0, .int .i64 0, .slice none 0 0] 40
 replace c := al c S
 replace S := S.boxAt c.size (w.heap.size + 1) (by simp) #[.int .i64 num, .int .i64 bi, .int .i64 0, .slice none 0 0] 40
 replace c := al c S
 by_cases h0 : base = 0
 case pos =>
  have d0 : decide (bi > 0) = false := decide_eq_false (by omega)
  have d1 : decide (0 < bi) = false := decide_eq_false (by omega)
  have HV := jd (show (headOf l num base).tm = 0 from if_pos h0)
  clear h0 hel hb hbi
  go_enter Try.func11, Try.ntmps11
  replace S := S.boxAt c.size (w.heap.size + 1 + 1) (by simp) #[] 76
  replace c := al c S
  replace S := S.blk0 (k := 3) (f := mrkC)
  go_wp2_with fail
  generalize ((w.alloc (.cells #[.int .i64 0, .int .i64 0, .int .i64 0, .slice none 0 0] 40)).alloc (.cells #[.int .i64 num, .int .i64 bi, .int .i64 0, .slice none 0 0] 40)).alloc (.cells #[] 76) = w1 at *
  clear hs1
  refine (sSeenOver_c _ _ _ [] _ _ _ (l.take base) _ (S.own_ 0 rfl).rd (by decide) ((HF9.out.keep c).up c.size) HZ.out).mono ?_
  rintro e w2 ⟨A2, n2, c2, rfl, o, b⟩
  obtain ⟨fp_u, S'⟩ := S.has b o c.size
  replace c := c.trans (b.mono c.size)
  clear S; have S := S'; clear S' o b
  have f0 := lk S 2 0 rfl rfl
  have f1 := (S.at_ 2 rfl).free 0
  have f2 := lk S 2 1 rfl rfl
  have f3 := (S.at_ 2 rfl).free 1
  have f4 := lk S 2 2 rfl rfl
  have f5 := (S.at_ 2 rfl).free 2
  have f6 := lk S 2 3 rfl rfl
  have f7 := (S.at_ 2 rfl).free 3
  have f8 := lk S 3 0 rfl rfl
  have f9 := (S.at_ 3 rfl).free 0
  have f10 := lk S 3 1 rfl rfl
  have f11 := (S.at_ 3 rfl).free 1
  have f12 := lk S 3 2 rfl rfl
  have f13 := (S.at_ 3 rfl).free 2
  have f14 := lk S 3 3 rfl rfl
  have f15 := (S.at_ 3 rfl).free 3
  replace S := S.put 2 rfl 3 (.slice A2 n2 c2)
  replace c := st c S (by omega)
  replace S := S.put 3 rfl 0 (.int .i64 num)
  replace c := st c S (by omega)
  replace S := S.put 3 rfl 1 (.int .i64 bi)
  replace c := st c S (by omega)
  replace S := S.put 3 rfl 2 (.int .i64 0)
  replace c := st c S (by omega)
  replace S := S.put 3 rfl 3 (.slice A2 n2 c2)
  replace c := st c S (by omega)
  replace S := S.pick 0 rfl
  have H := jd S.first
  have r0 := jd ((S.at_ 3 rfl).cell 0)
  have r1 := jd ((S.at_ 3 rfl).cell 1)
  have r2 := jd ((S.at_ 3 rfl).cell 2)
  have r3 := jd ((S.at_ 3 rfl).cell 3)
  have CC := jd c
  clear S c
  go_wp2
  exact bodyPost_ret (v := .agg #[.int .i64 num, .int .i64 bi, .int .i64 0, .slice A2 n2 c2]) (by simp [results, Try.results11, go_sem, r0.out, r1.out, r2.out, r3.out]) rfl ⟨A2, n2, c2, by rw [HV.out], H.out, CC.out⟩
 case neg =>
  obtain ⟨k, rfl⟩ : ∃ k, base = k + 1 := ⟨base - 1, by omega⟩
  have d0 : decide (bi > 0) = true := decide_eq_true (by omega)
  have d1 : decide (0 < bi) = true := decide_eq_true (by omega)
  have hk : k < l.length := by have := HL.out; omega
  obtain ⟨b, off, rfl, hbb, hcc⟩ := hel (by omega)
  obtain ⟨_, h1, _⟩ := hcc k hk
  have k1 := cu0z c h1 (show b < _ by omega)
  obtain ⟨y, hy⟩ : ∃ y, y = l[k].tm := ⟨_, rfl⟩
  rw [← hy] at h1 k1
  have HV := jd (show (headOf l num (k + 1)).tm = y by show (if k + 1 = 0 then 0 else (l.getD (k + 1 - 1) ent0).tm) = y; rw [if_neg (by omega), Nat.add_sub_cancel, egetD hk, hy])
  have hw1 : IntKind.i64.wrap (bi - 1) = (k : Int) := by rw [IntKind.wrap_i64]; omega
  have ep : IntKind.i64.wrap (k : Int) = (k : Int) := by rw [IntKind.wrap_i64]; omega
  have k0 : (0 : Int) ≤ (k : Int) := by omega
  have k2 : (k : Int) < (n : Int) := by omega
  clear h0 hel hy hcc hbi hb
  go_enter Try.func11, Try.ntmps11
  clear S c
  have S := Sep.nil w w.heap.size
  have c := Below.refl w.heap.size w
  replace S := S.boxAt c.size (w.heap.size) rfl #[.int .i64 0, .int .i64 0, .int .i64 0, .slice none 0 0] 40
  replace c := al c S
  replace S := S.boxAt c.size (w.heap.size + 1) (by simp) #[.int .i64 num, .int .i64 bi, .int .i64 y, .slice none 0 0] 40
  replace c := al c S
  replace S := S.boxAt c.size (w.heap.size + 1 + 1) (by simp) #[] 76
  replace c := al c S
  replace S := S.blk0 (k := 3) (f := mrkC)
  go_wp2_with fail
  generalize ((w.alloc (.cells #[.int .i64 0, .int .i64 0, .int .i64 0, .slice none 0 0] 40)).alloc (.cells #[.int .i64 num, .int .i64 bi, .int .i64 y, .slice none 0 0] 40)).alloc (.cells #[] 76) = w1 at *
  clear hs1 h1 k1
  refine (sSeenOver_c _ _ _ [] _ _ _ (l.take (k + 1)) _ (S.own_ 0 rfl).rd (by decide) ((HF9.out.keep c).up c.size) HZ.out).mono ?_
  rintro e w2 ⟨A2, n2, c2, rfl, o, b⟩
  obtain ⟨fp_u, S'⟩ := S.has b o c.size
  replace c := c.trans (b.mono c.size)
  clear S; have S := S'; clear S' o b
  have f0 := lk S 2 0 rfl rfl
  have f1 := (S.at_ 2 rfl).free 0
  have f2 := lk S 2 1 rfl rfl
  have f3 := (S.at_ 2 rfl).free 1
  have f4 := lk S 2 2 rfl rfl
  have f5 := (S.at_ 2 rfl).free 2
  have f6 := lk S 2 3 rfl rfl
  have f7 := (S.at_ 2 rfl).free 3
  have f8 := lk S 3 0 rfl rfl
  have f9 := (S.at_ 3 rfl).free 0
  have f10 := lk S 3 1 rfl rfl
  have f11 := (S.at_ 3 rfl).free 1
  have f12 := lk S 3 2 rfl rfl
  have f13 := (S.at_ 3 rfl).free 2
  have f14 := lk S 3 3 rfl rfl
  have f15 := (S.at_ 3 rfl).free 3
  replace S := S.put 2 rfl 3 (.slice A2 n2 c2)
  replace c := st c S (by omega)
  replace S := S.put 3 rfl 0 (.int .i64 num)
  replace c := st c S (by omega)
  replace S := S.put 3 rfl 1 (.int .i64 bi)
  replace c := st c S (by omega)
  replace S := S.put 3 rfl 2 (.int .i64 y)
  replace c := st c S (by omega)
  replace S := S.put 3 rfl 3 (.slice A2 n2 c2)
  replace c := st c S (by omega)
  replace S := S.pick 0 rfl
  have H := jd S.first
  have r0 := jd ((S.at_ 3 rfl).cell 0)
  have r1 := jd ((S.at_ 3 rfl).cell 1)
  have r2 := jd ((S.at_ 3 rfl).cell 2)
  have r3 := jd ((S.at_ 3 rfl).cell 3)
  have CC := jd c
  clear S c
  go_wp2
  exact bodyPost_ret (v := .agg #[.int .i64 num, .int .i64 bi, .int .i64 y, .slice A2 n2 c2]) (by simp [results, Try.results11, go_sem, r0.out, r1.out, r2.out, r3.out]) rfl ⟨A2, n2, c2, by rw [HV.out], H.out, CC.out⟩
end Go.Proofs.Ytmjifhjhialcbaa
