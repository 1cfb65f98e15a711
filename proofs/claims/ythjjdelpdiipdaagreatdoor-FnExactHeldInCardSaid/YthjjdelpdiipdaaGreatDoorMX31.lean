/- Parts of my texts: MarkI1 MarkI2. -/
import Derived.Test.YthjjdelpdiipdaaGreatDoorMX30
namespace Go.Proofs.YthjjdelpdiipdaaGreatDoor
set_option maxRecDepth 100000
set_option linter.unusedVariables false
open Go.RowKit
def cmpI (x y : Int) : Int := if x < y then -1 else if y < x then 1 else 0
theorem iNaN_any (x : Int) (w : World) : Calls Tryz.prog 187 #[.int .i64 x] w fun e w' => e = .returned (.bool false) ∧ w' = w := by
 go_enter Tryz.func187, Tryz.ntmps187
 go_wp2
 go_ret
 exact ⟨ret_bool (by simp), rfl⟩
theorem iCompare_any (x y : Int) (w : World) : Calls Tryz.prog 178 #[.int .i64 x, .int .i64 y] w fun e w' => e = .returned (.int .i64 (cmpI x y)) ∧ w' = w := by
 have h1 := iNaN_any x w
 have h2 := iNaN_any y w
 by_cases a : x < y
 case pos =>
  have HV := jd (show cmpI x y = -1 by unfold cmpI; rw [if_pos a])
  go_enter Tryz.func178, Tryz.ntmps178
  go_wp2_with fail
  refine h1.mono ?_
  rintro e w' ⟨rfl, rfl⟩
  go_wp2_with fail
  refine h2.mono ?_
  rintro e w' ⟨rfl, rfl⟩
  go_wp2
  go_ret
  exact ⟨by first | (rw [HV.out]; done) | (rw [HV.out]; rfl), rfl⟩
 case neg =>
 by_cases b : y < x
 case pos =>
  have HV := jd (show cmpI x y = 1 by unfold cmpI; rw [if_neg a, if_pos b])
  go_enter Tryz.func178, Tryz.ntmps178
  go_wp2_with fail
  refine h1.mono ?_
  rintro e w' ⟨rfl, rfl⟩
  go_wp2_with fail
  refine h2.mono ?_
  rintro e w' ⟨rfl, rfl⟩
  go_wp2
  go_ret
  exact ⟨by first | (rw [HV.out]; done) | (rw [HV.out]; rfl), rfl⟩
 case neg =>
  have HV := jd (show cmpI x y = 0 by unfold cmpI; rw [if_neg a, if_neg b])
  go_enter Tryz.func178, Tryz.ntmps178
  go_wp2_with fail
  refine h1.mono ?_
  rintro e w' ⟨rfl, rfl⟩
  go_wp2_with fail
  refine h2.mono ?_
  rintro e w' ⟨rfl, rfl⟩
  go_wp2
  go_ret
  exact ⟨by first | (rw [HV.out]; done) | (rw [HV.out]; rfl), rfl⟩
def tabOf (l : List MarkM) : List MarkM := l.foldl putT []
theorem tabOf_step {l : List MarkM} {j : Nat} (hj : j < l.length) : tabOf (l.take (j + 1)) = putT (tabOf (l.take j)) l[j] := by
 unfold tabOf
 rw [List.take_succ_eq_append_getElem hj, List.foldl_append]
 rfl
theorem fold_apart : ∀ (l a : List MarkM), Apart (a ++ l) → l.foldl putT a = a ++ l
 | [], a, _ => by simp
 | x :: t, a, h => by
  have h1 : putT a x = a ++ [x] := by
   unfold putT delT
   rw [List.filter_eq_self.2 fun m hm => ?_]
   unfold Apart at h
   rw [List.pairwise_append] at h
   simpa using h.2.2 m hm x (by simp)
  rw [List.foldl_cons, h1, fold_apart t (a ++ [x]) (by simpa using h)]
  simp
theorem tabOf_apart {l : List MarkM} (h : Apart l) : tabOf l = l := by
 unfold tabOf
 rw [fold_apart l [] (by simpa using h)]
 simp
theorem putT_len (l : List MarkM) (x : MarkM) : (putT l x).length ≤ l.length + 1 := by
 unfold putT delT
 rw [List.length_append, List.length_singleton]
 have := List.length_filter_le (fun m : MarkM => decide (m.mi ≠ x.mi)) l
 omega
theorem fold_len : ∀ (l a : List MarkM), (l.foldl putT a).length ≤ a.length + l.length
 | [], a => by simp
 | x :: t, a => by
  have := fold_len t (putT a x)
  have := putT_len a x
  rw [List.foldl_cons, List.length_cons]
  omega
theorem tabOf_len (l : List MarkM) : (tabOf l).length ≤ l.length := by
 have := fold_len l []
 simpa [tabOf] using this
theorem fold_less : ∀ (l a : List MarkM), Apart a → (l.foldl putT a).length = a.length + l.length → Apart (a ++ l)
 | [], a, ha, _ => by simpa using ha
 | x :: t, a, ha, h => by
  rw [List.foldl_cons] at h
  have h1 := fold_len t (putT a x)
  have h2 := putT_len a x
  rw [List.length_cons] at h
  have h3 : (putT a x).length = a.length + 1 := by omega
  have h4 := fold_less t (putT a x) (put_apart ha x) (by omega)
  have h5 : putT a x = a ++ [x] := by
   unfold putT delT at h3 ⊢
   rw [List.length_append, List.length_singleton] at h3
   rw [List.filter_eq_self.2]
   have h6 : ((a.filter fun m => decide (m.mi ≠ x.mi)).length) = a.length := by omega
   exact List.length_filter_eq_length_iff.1 h6
  rw [h5] at h4
  simpa using h4
theorem tabOf_all {l : List MarkM} : (tabOf l).length = l.length ↔ Apart l := by
 constructor
 · intro h
   have := fold_less l [] List.Pairwise.nil (by simpa [tabOf] using h)
   simpa using this
 · intro h
   rw [tabOf_apart h]
set_option maxHeartbeats 3200000 in
theorem iTable_any (A : Option Addr) (n cc B : Nat) (l : List MarkM) (w : World) (h : Rd w B [mrkD l] [.slice A n cc]) (hB : B ≤ w.heap.size) (hs : mrkSz l ≤ 1048577) (hf : ∀ m ∈ l, w64 m.mi) :
    Calls Tryz.prog 121 #[.slice A n cc] w fun e w' => e = .returned (.map (some w.heap.size)) ∧ Tab w' w.heap.size (tabOf l) ∧ Below w.heap.size w w' := by
 obtain ⟨_, _, _, e, hl, _, _, hel⟩ := h.mrks
 injection e with e1 e2 e3
 subst e1 e2 e3
 have hn : n ≤ 1048577 := by unfold mrkSz at hs; omega
 have HL := jd hl
 have HF := jd hf
 have T0 := jd (Tab.made w)
 have C0 := jd ((Below.refl w.heap.size w).alloc (Nat.le_refl _) (.map #[] 0))
 clear h hl hf hs
 have hmm := @run_makeMap Tryz.prog
 go_enter Tryz.func121, Tryz.ntmps121
 go_wp2
 go_loopw [9] (fun i wr => ∃ j : Nat, j ≤ n ∧ i = .int .i64 (j : Int) ∧ Tab wr w.heap.size (tabOf (l.take j)) ∧ Below w.heap.size w wr) (fun i _ => n - (intOf i).toNat)
 case atStart => exact ⟨0, Nat.zero_le _, rfl, T0.out, C0.out⟩
 case round =>
  obtain ⟨j, hj, rfl, T, c⟩ := hrel
  clear T0 C0
  by_cases hlt : j < n
  case neg =>
   obtain rfl : j = n := by omega
   have HT := jd (show Tab wr w.heap.size (tabOf l) by have := T; rwa [show l.take j = l from by rw [← HL.out, List.take_length]] at this)
   have CC := jd c
   clear hel T c
   go_wp2
   go_ret
   exact ⟨rfl, HT.out, CC.out⟩
  case pos =>
   have hjl : j < l.length := by have := HL.out; omega
   obtain ⟨b, off, rfl, hb, hc⟩ := hel (by omega)
   obtain ⟨hc0, hc1, hc2⟩ := hc j hjl
   have cs0 := cu c hc0 (show b < _ by omega)
   obtain ⟨x0, hx0⟩ : ∃ p, p = l[j].mc := ⟨_, rfl⟩
   rw [← hx0] at cs0
   have cs1 := cu c hc1 (show b < _ by omega)
   obtain ⟨x1, hx1⟩ : ∃ p, p = l[j].ms := ⟨_, rfl⟩
   rw [← hx1] at cs1
   have cs2 := cu c hc2 (show b < _ by omega)
   obtain ⟨x2, hx2⟩ : ∃ p, p = l[j].mi := ⟨_, rfl⟩
   rw [← hx2] at cs2
   have HW := jd (show w64 x2 by rw [hx2]; exact HF.out _ (List.getElem_mem hjl))
   have HS := jd (show tabOf (l.take (j + 1)) = putT (tabOf (l.take j)) ⟨x0, x1, x2⟩ by rw [tabOf_step hjl, hx0, hx1, hx2])
   have HN := jd (show (tabOf (l.take j)).length < maxLen by
    have h1 := tabOf_len (l.take j)
    rw [List.length_take] at h1
    have : (1048577 : Nat) < maxLen := by decide
    omega)
   have TT := jd (T.keep ((Below.refl wr.heap.size wr).alloc (Nat.le_refl _) (.cells #[.int .i64 x0, .int .i64 x1, .int .i64 x2] 114)) T.lt)
   have CC := jd (c.alloc c.size (.cells #[.int .i64 x0, .int .i64 x1, .int .i64 x2] 114))
   clear hc hc0 hc1 hc2 hel hx0 hx1 hx2 T c
   go_wp2_with (first
    | (at_mapUpdate
       refine wpList_put_tab rfl (.tmp 13) (.tmp 15) (.tmp 16) 156 114 (by rfl) Tryz.underlying156 (by rfl) TT.out HN.out ⟨x0, x1, x2⟩ (by rfl) (by rfl) HW.out ?_
       intro w3 t3 g3))
   have C3 := jd (CC.out.grown g3 CC.out.size (fun k e => by cases e; exact Nat.le_refl _))
   have T3 := jd t3
   clear TT CC t3 g3
   go_wp2
   go_roundw
   case rel => exact ⟨j + 1, by omega, by go_num, by rw [HS.out]; exact T3.out, C3.out⟩
   case measure => simp [intOf]; omega
theorem Sep.one {w : World} {base p : Nat} {cs : Array Value} {t : TypeId} (h : Blk w p cs t) (hp : base ≤ p) : Sep w base [.blk p cs t] := by
 refine ⟨fun n i hi => ?_, by simp [foots, Item.foot], fun q hq => ?_⟩
 · rcases n with _ | n
   · have : Item.blk p cs t = i := by simpa using hi
     subst this
     exact h
   · simp at hi
 · have : q = p := by simpa [foots, Item.foot] using hq
   omega
theorem maxTo_ge0 (l : List MarkM) (j : Nat) : 0 ≤ maxTo l j := by
 induction j with
 | zero => rw [maxTo_zero]; exact Int.le_refl 0
 | succ k ih =>
  by_cases h : k < l.length
  · rw [maxTo_step h]; omega
  · have : maxTo l (k + 1) = maxTo l k := by
      unfold maxTo
      rw [List.take_of_length_le (by omega), List.take_of_length_le (by omega)]
    omega
theorem maxTo_is (l : List MarkM) : ∀ j, j ≤ l.length → maxTo l j = 0 ∨ ∃ m ∈ l, m.mi = maxTo l j := by
 intro j
 induction j with
 | zero => intro _; exact Or.inl (maxTo_zero l)
 | succ k ih =>
  intro hk
  have hl : k < l.length := by omega
  rw [maxTo_step hl]
  rcases Int.le_total (maxTo l k) l[k].mi with h | h
  · exact Or.inr ⟨l[k], List.getElem_mem hl, by omega⟩
  · rcases ih (by omega) with h1 | ⟨m, hm, h1⟩
    · exact Or.inl (by omega)
    · exact Or.inr ⟨m, hm, by omega⟩
theorem last_is {l : List MarkM} {v : Int} (h0 : 0 ≤ v) (h1 : ∀ m ∈ l, m.mi ≤ v) (h2 : v = 0 ∨ ∃ m ∈ l, m.mi = v) : v = maxTo l l.length := by
 have a0 := maxTo_ge0 l l.length
 rcases h2 with h2 | ⟨m, hm, h2⟩
 · rcases maxTo_is l l.length (Nat.le_refl _) with h3 | ⟨m, hm, h3⟩
   · omega
   · have := h1 m hm; omega
 · obtain ⟨q, hq, rfl⟩ := List.getElem_of_mem hm
   have h3 := maxTo_le l l.length (Nat.le_refl _) q hq hq
   rcases maxTo_is l l.length (Nat.le_refl _) with h4 | ⟨m', hm', h4⟩
   · omega
   · have := h1 m' hm'; omega
set_option maxHeartbeats 3200000 in
theorem iLast_any (b : Nat) (l : List MarkM) (w : World) (h : Tab w b l) :
    Calls Tryz.prog 155 #[.map (some b)] w fun e w' => e = .returned (.int .i64 (maxTo l l.length)) ∧ Below w.heap.size w w' := by
 have H := jd h
 have hbl := h.lt
 clear h
 go_enter Tryz.func155, Tryz.ntmps155
 go_wp2_with (first
  | (at_range
     refine wpList_range_tab rfl (.tmp 5) 156 114 rfl Tryz.underlying156 (by rfl) H.out ?_
     intro w0 cnt0 hr0 hg0 hs0)
  | go_in)
 go_frame
 have C0 := jd ((Below.refl w.heap.size w).grown hg0 (Nat.le_refl _) (fun k e => by cases e))
 have R0 := jd hr0
 clear hg0 hr0
 go_loopw [3] (fun v wr => ∃ (rest : List MarkM) (cnt : Nat) (x : Int), v = .int .i64 x ∧ TabR wr b w.heap.size l rest cnt ∧ 0 ≤ x ∧ (∀ m ∈ l, m ∉ rest → m.mi ≤ x) ∧ (x = 0 ∨ ∃ m ∈ l, m.mi = x) ∧ Below w.heap.size w wr) (fun _ wr => wr.rangeLeft b w.heap.size)
 case atStart => exact ⟨l, cnt0, 0, rfl, R0.out, Int.le_refl _, fun m h1 h2 => absurd h1 h2, Or.inl rfl, C0.out⟩
 case round =>
  obtain ⟨rest, cnt, x, rfl, hr, hx0, hall, his, c⟩ := hrel
  clear R0 C0 hs0
  have HALL := jd hall
  have HIS := jd his
  have HX0 := jd hx0
  have HR := jd hr
  have CC := jd c
  clear hall his hr c hx0
  go_wp2_with (first
   | (at_next
      refine wpList_next_tab rfl (.tmp 6) rfl (by rfl) HR.out ?_ ?_)
   | go_in)
  · intro he
    have HV := jd (last_is HX0.out (fun m hm => HALL.out m hm (by rw [he]; simp)) HIS.out)
    clear he
    go_wp2
    go_ret
    exact ⟨by first | (rw [← HV.out]; done) | (rw [← HV.out]; rfl), CC.out⟩
  · intro m w1 cnt1 hm r1 hlt hg1 hs1 hen
    have HM := jd hm
    have R1 := jd r1
    have HLT := jd hlt
    have C1 := jd (CC.out.grown hg1 CC.out.size (fun k e => by cases e; exact Nat.le_refl _))
    have HML := jd (show m ∈ l from by obtain ⟨_, _, _, _, _, h4, _⟩ := HR.out; exact h4 m hm)
    clear hm r1 hlt hg1 hs1
    obtain ⟨y, hy⟩ : ∃ y, y = m.mi := ⟨_, rfl⟩
    rw [← hy] at hen
    have HY := jd hy
    clear hy
    by_cases hxy : x < y
    case pos =>
     have e1 : max x y = y := by omega
     go_wp2
     go_roundw
     case rel =>
      refine ⟨_, cnt1, y, by first | rfl | rw [e1], R1.out, by have := HX0.out; omega, fun m' h1 h2 => ?_, Or.inr ⟨m, HML.out, HY.out.symm⟩, C1.out⟩
      by_cases h3 : m' ∈ rest
      · have : m'.mi = m.mi := by
          apply Classical.byContradiction
          intro h4
          exact h2 (List.mem_filter.2 ⟨h3, by simpa using h4⟩)
        have := HY.out
        omega
      · have := HALL.out m' h1 h3; omega
     case measure => rw [R1.out.left_eq, HR.out.left_eq]; exact HLT.out
    case neg =>
     have e1 : max x y = x := by omega
     go_wp2
     go_roundw
     case rel =>
      refine ⟨_, cnt1, x, by first | rfl | rw [e1], R1.out, HX0.out, fun m' h1 h2 => ?_, HIS.out, C1.out⟩
      by_cases h3 : m' ∈ rest
      · have : m'.mi = m.mi := by
          apply Classical.byContradiction
          intro h4
          exact h2 (List.mem_filter.2 ⟨h3, by simpa using h4⟩)
        have := HY.out
        omega
      · exact HALL.out m' h1 h3
     case measure => rw [R1.out.left_eq, HR.out.left_eq]; exact HLT.out
theorem findM_mem {l : List MarkM} (h : l.Pairwise (fun a b => a.mc ≠ b.mc)) {m : MarkM} (hm : m ∈ l) : findM l m.mc = m := by
 unfold findM
 induction l with
 | nil => cases hm
 | cons a t ih =>
  obtain ⟨h1, h2⟩ := List.pairwise_cons.1 h
  rw [List.find?_cons]
  by_cases e : a.mc = m.mc
  · rcases List.mem_cons.1 hm with rfl | hm
    · simp
    · exact absurd e (h1 m hm)
  · rcases List.mem_cons.1 hm with rfl | hm
    · exact absurd rfl e
    · have : (a.mc == m.mc) = false := by simpa using e
      rw [this]
      exact ih h2 hm
theorem findM_no {l : List MarkM} {q : Int} (h : ∀ m ∈ l, m.mc ≠ q) : findM l q = mark0 := by
 unfold findM
 rw [List.find?_eq_none.2 fun x hx => by simpa using h x hx]
 rfl
set_option maxHeartbeats 6400000 in
theorem iTabOf_any (b : Nat) (l : List MarkM) (q : Int) (w : World) (h : Tab w b l) (hd : l.Pairwise (fun a b => a.mc ≠ b.mc)) :
    Calls Tryz.prog 174 #[.map (some b), .int .i64 q] w fun e w' => e = .returned (.agg #[.int .i64 (findM l q).mc, .int .i64 (findM l q).ms, .int .i64 (findM l q).mi]) ∧ Below w.heap.size w w' := by
 have hbl := h.lt
 have HD := jd hd
 have c := (Below.refl w.heap.size w).alloc (Nat.le_refl _) (.cells #[.int .i64 0, .int .i64 0, .int .i64 0] 114)
 have H := jd (h.keep ((Below.refl w.heap.size w).alloc (Nat.le_refl _) (.cells #[.int .i64 0, .int .i64 0, .int .i64 0] 114)) hbl)
 have K := jd (Blk.new w #[.int .i64 0, .int .i64 0, .int .i64 0] 114)
 have CC0 := jd c
 clear h hd c
 go_enter Tryz.func174, Tryz.ntmps174
 go_wp2_with (first
  | (at_range
     refine wpList_range_tab rfl (.tmp 7) 156 114 rfl Tryz.underlying156 (by rfl) H.out ?_
     intro w0 cnt0 hr0 hg0 hs0)
  | go_in)
 go_frame
 have hrr : (w.alloc (.cells #[.int .i64 0, .int .i64 0, .int .i64 0] 114)).heap.size = w.heap.size + 1 := by simp
 have C0 := jd (CC0.out.grown hg0 CC0.out.size (fun k e => by cases e))
 have K0 := jd (show Blk w0 w.heap.size #[.int .i64 0, .int .i64 0, .int .i64 0] 114 from (hg0.block _ K.out.lt (by simp)).trans K.out)
 have R0 := jd (show TabR w0 b (w.heap.size + 1) l l cnt0 by rw [← hrr]; exact hr0)
 rw [hrr]
 clear hg0 hr0 H K CC0 hrr hs0
 go_loopw [] (fun wr => ∃ (rest : List MarkM) (cnt : Nat), TabR wr b (w.heap.size + 1) l rest cnt ∧ (∀ m ∈ l, m ∉ rest → m.mc ≠ q) ∧ Blk wr w.heap.size #[.int .i64 0, .int .i64 0, .int .i64 0] 114 ∧ Below w.heap.size w wr) (fun wr => wr.rangeLeft b (w.heap.size + 1))
 case atStart => exact ⟨l, cnt0, R0.out, fun m h1 h2 => absurd h1 h2, K0.out, C0.out⟩
 case round =>
  obtain ⟨rest, cnt, hr, hall, k, c⟩ := hrel
  clear R0 C0 K0
  have HALL := jd hall
  have HR := jd hr
  have CC := jd c
  have KK := jd k
  clear hall hr c k
  go_wp2_with (first
   | (at_next
      refine wpList_next_tab rfl (.tmp 8) rfl (by rfl) HR.out ?_ ?_)
   | go_in)
  · intro he
    have HV := jd (show findM l q = mark0 from findM_no fun m hm => HALL.out m hm (by rw [he]; simp))
    have S : Sep wr w.heap.size [.blk w.heap.size #[.int .i64 0, .int .i64 0, .int .i64 0] 114] := Sep.one (KK.out) (Nat.le_refl _)
    have c := CC.out
    clear he KK CC
    have f0 := lk S 0 0 rfl rfl
    have f1 := (S.at_ 0 rfl).free 0
    have f2 := lk S 0 1 rfl rfl
    have f3 := (S.at_ 0 rfl).free 1
    have f4 := lk S 0 2 rfl rfl
    have f5 := (S.at_ 0 rfl).free 2
    replace S := S.put 0 rfl 0 (.int .i64 0)
    replace c := st c S (by omega)
    replace S := S.put 0 rfl 1 (.int .i64 0)
    replace c := st c S (by omega)
    replace S := S.put 0 rfl 2 (.int .i64 0)
    replace c := st c S (by omega)
    have r0 := jd ((S.at_ 0 rfl).cell 0)
    have r1 := jd ((S.at_ 0 rfl).cell 1)
    have r2 := jd ((S.at_ 0 rfl).cell 2)
    have CC := jd c
    clear S c
    go_wp2
    exact bodyPost_ret (v := .agg #[.int .i64 0, .int .i64 0, .int .i64 0]) (by simp [results, Tryz.results174, go_sem, r0.out, r1.out, r2.out]) rfl ⟨by first | (rw [HV.out]; done) | (rw [HV.out]; rfl), CC.out⟩
  · intro m w1 cnt1 hm r1 hlt hg1 hs1 hen
    have HM := jd hm
    have R1 := jd r1
    have HLT := jd hlt
    have C1 := CC.out.grown hg1 CC.out.size (fun k e => by cases e; exact Nat.le_succ _)
    have K1 : Blk w1 w.heap.size #[.int .i64 0, .int .i64 0, .int .i64 0] 114 := (hg1.block _ KK.out.lt (by simp)).trans KK.out
    have HML := jd (show m ∈ l from by obtain ⟨_, _, _, _, _, h4, _⟩ := HR.out; exact h4 m hm)
    clear hm r1 hlt hg1 hs1 KK CC
    obtain ⟨x0, x1, x2⟩ := m
    unfold mrkV at hen
    simp only at hen R1
    by_cases hq : x0 = q
    case pos =>
     have e1 : (x0 == q) = true := by simpa using hq
     have HV := jd (show findM l q = ⟨x0, x1, x2⟩ by rw [← hq]; exact findM_mem HD.out HML.out)
     have S : Sep w1 w.heap.size [.blk w.heap.size #[.int .i64 0, .int .i64 0, .int .i64 0] 114] := Sep.one (K1) (Nat.le_refl _)
     have c := C1
     clear hq K1 C1
     replace S := S.boxAt c.size (w1.heap.size) rfl #[.int .i64 x0, .int .i64 x1, .int .i64 x2] 114
     replace c := al c S
     have f0 := lk S 1 0 rfl rfl
     have f1 := (S.at_ 1 rfl).free 0
     have f2 := lk S 1 1 rfl rfl
     have f3 := (S.at_ 1 rfl).free 1
     have f4 := lk S 1 2 rfl rfl
     have f5 := (S.at_ 1 rfl).free 2
     replace S := S.put 1 rfl 0 (.int .i64 x0)
     replace c := st c S (by omega)
     replace S := S.put 1 rfl 1 (.int .i64 x1)
     replace c := st c S (by omega)
     replace S := S.put 1 rfl 2 (.int .i64 x2)
     replace c := st c S (by omega)
     have r0 := jd ((S.at_ 1 rfl).cell 0)
     have r1 := jd ((S.at_ 1 rfl).cell 1)
     have r2 := jd ((S.at_ 1 rfl).cell 2)
     have CC := jd c
     clear S c
     go_wp2
     exact bodyPost_ret (v := .agg #[.int .i64 x0, .int .i64 x1, .int .i64 x2]) (by simp [results, Tryz.results174, go_sem, r0.out, r1.out, r2.out]) rfl ⟨by first | (rw [HV.out]; done) | (rw [HV.out]; rfl), CC.out⟩
    case neg =>
     have e1 : (x0 == q) = false := by simpa using hq
     have CC := jd (C1.alloc C1.size (.cells #[.int .i64 x0, .int .i64 x1, .int .i64 x2] 114))
     have KK := jd (K1.alloc (.cells #[.int .i64 x0, .int .i64 x1, .int .i64 x2] 114))
     have RR := jd (R1.out.alloc (.cells #[.int .i64 x0, .int .i64 x1, .int .i64 x2] 114))
     have HN := jd (show ∀ m ∈ l, m ∉ delT rest x2 → m.mc ≠ q from fun m h1 h2 => by
      by_cases h3 : m ∈ rest
      · have h4 : m.mi = x2 := by
          apply Classical.byContradiction
          intro h4
          exact h2 (List.mem_filter.2 ⟨h3, by simpa using h4⟩)
        have h5 : Apart l := by obtain ⟨_, _, _, _, _, _, _, h5, _⟩ := HR.out; exact h5
        have h6 : m = ⟨x0, x1, x2⟩ := by
         have h7 := tabF_at h5 h1
         rw [h4] at h7
         have h8 := tabF_at h5 HML.out
         rw [show (⟨x0, x1, x2⟩ : MarkM).mi = x2 from rfl] at h8
         rw [h7] at h8
         obtain ⟨m0, m1, m2⟩ := m
         unfold mrkV at h8
         simp at h8
         obtain ⟨rfl, rfl, rfl⟩ := h8
         rfl
        rw [h6]
        exact hq
      · exact HALL.out m h1 h3)
     clear hq K1 C1 R1
     go_wp2
     go_roundw
     case rel => exact ⟨_, cnt1, RR.out, HN.out, KK.out, CC.out⟩
     case measure => rw [RR.out.left_eq, HR.out.left_eq]; exact HLT.out
end Go.Proofs.YthjjdelpdiipdaaGreatDoor
