/- Parts of my texts: MarkI2. -/
import Derived.Test.YtmjifhjhialcbaaU25
namespace Go.Proofs.Ytmjifhjhialcbaa
set_option maxRecDepth 100000
set_option linter.unusedVariables false
open Go.RowKit
theorem Sep.one {w : World} {base p : Nat} {cs : Array Value} {t : TypeId} (h : Blk w p cs t) (hp : base ≤ p) : Sep w base [.blk p cs t] := by
 refine ⟨fun n i hi => ?_, by simp [foots, Item.foot], fun q hq => ?_⟩
 · rcases n with _ | n
   · have : Item.blk p cs t = i := by simpa using hi
     subst this
     exact h
   · simp at hi
 · have : q = p := by simpa [foots, Item.foot] using hq
   omega
theorem maxTo_ge0 (l : List MarkM) (j : Nat) : 0 ≤ maxTo l j := by
 induction j with
 | zero => rw [maxTo_zero]; exact Int.le_refl 0
 | succ k ih =>
  by_cases h : k < l.length
  · rw [maxTo_step h]; omega
  · have : maxTo l (k + 1) = maxTo l k := by
      unfold maxTo
      rw [List.take_of_length_le (by omega), List.take_of_length_le (by omega)]
    omega
theorem maxTo_is (l : List MarkM) : ∀ j, j ≤ l.length → maxTo l j = 0 ∨ ∃ m ∈ l, m.mi = maxTo l j := by
 intro j
 induction j with
 | zero => intro _; exact Or.inl (maxTo_zero l)
 | succ k ih =>
  intro hk
  have hl : k < l.length := by omega
  rw [maxTo_step hl]
  rcases Int.le_total (maxTo l k) l[k].mi with h | h
  · exact Or.inr ⟨l[k], List.getElem_mem hl, by omega⟩
  · rcases ih (by omega) with h1 | ⟨m, hm, h1⟩
    · exact Or.inl (by omega)
    · exact Or.inr ⟨m, hm, by omega⟩
theorem last_is {l : List MarkM} {v : Int} (h0 : 0 ≤ v) (h1 : ∀ m ∈ l, m.mi ≤ v) (h2 : v = 0 ∨ ∃ m ∈ l, m.mi = v) : v = maxTo l l.length := by
 have a0 := maxTo_ge0 l l.length
 rcases h2 with h2 | ⟨m, hm, h2⟩
 · rcases maxTo_is l l.length (Nat.le_refl _) with h3 | ⟨m, hm, h3⟩
   · omega
   · have := h1 m hm; omega
 · obtain ⟨q, hq, rfl⟩ := List.getElem_of_mem hm
   have h3 := maxTo_le l l.length (Nat.le_refl _) q hq hq
   rcases maxTo_is l l.length (Nat.le_refl _) with h4 | ⟨m', hm', h4⟩
   · omega
   · have := h1 m' hm'; omega
set_option maxHeartbeats 3200000 in
theorem iLast_any (b : Nat) (l : List MarkM) (w : World) (h : Tab w b l) :
    Calls Try.prog 83 #[.map (some b)] w fun e w' => e = .returned (.int .i64 (maxTo l l.length)) ∧ Below w.heap.size w w' := by
 have H := jd h
 have hbl := h.lt
 clear h
 go_enter Try.func83, Try.ntmps83
 go_wp2_with (first
  | (at_range
     refine wpList_range_tab rfl (.tmp 5) 111 76 rfl Try.underlying111 (by rfl) H.out ?_
     intro w0 cnt0 hr0 hg0 hs0)
  | go_in)
 go_frame
 have C0 := jd ((Below.refl w.heap.size w).grown hg0 (Nat.le_refl _) (fun k e => by cases e))
 have R0 := jd hr0
 clear hg0 hr0
 go_loopw [3] (fun v wr => ∃ (rest : List MarkM) (cnt : Nat) (x : Int), v = .int .i64 x ∧ TabR wr b w.heap.size l rest cnt ∧ 0 ≤ x ∧ (∀ m ∈ l, m ∉ rest → m.mi ≤ x) ∧ (x = 0 ∨ ∃ m ∈ l, m.mi = x) ∧ Below w.heap.size w wr) (fun _ wr => wr.rangeLeft b w.heap.size)
 case atStart => exact ⟨l, cnt0, 0, rfl, R0.out, Int.le_refl _, fun m h1 h2 => absurd h1 h2, Or.inl rfl, C0.out⟩
 case round =>
  obtain ⟨rest, cnt, x, rfl, hr, hx0, hall, his, c⟩ := hrel
  clear R0 C0 hs0
  have HALL := jd hall
  have HIS := jd his
  have HX0 := jd hx0
  have HR := jd hr
  have CC := jd c
  clear hall his hr c hx0
  go_wp2_with (first
   | (at_next
      refine wpList_next_tab rfl (.tmp 6) rfl (by rfl) HR.out ?_ ?_)
   | go_in)
  · intro he
    have HV := jd (last_is HX0.out (fun m hm => HALL.out m hm (by rw [he]; simp)) HIS.out)
    clear he
    go_wp2
    go_ret
    exact ⟨by first | (rw [← HV.out]; done) | (rw [← HV.out]; rfl), CC.out⟩
  · intro m w1 cnt1 hm r1 hlt hg1 hs1 hen
    have HM := jd hm
    have R1 := jd r1
    have HLT := jd hlt
    have C1 := jd (CC.out.grown hg1 CC.out.size (fun k e => by cases e; exact Nat.le_refl _))
    have HML := jd (show m ∈ l from by obtain ⟨_, _, _, _, _, h4, _⟩ := HR.out; exact h4 m hm)
    clear hm r1 hlt hg1 hs1
    obtain ⟨y, hy⟩ : ∃ y, y = m.mi := ⟨_, rfl⟩
    rw [← hy] at hen
    have HY := jd hy
    clear hy
    by_cases hxy : x < y
    case pos =>
     have e1 : max x y = y := by omega
     go_wp2
     go_roundw
     case rel =>
      refine ⟨_, cnt1, y, by first | rfl | rw [e1], R1.out, by have := HX0.out; omega, fun m' h1 h2 => ?_, Or.inr ⟨m, HML.out, HY.out.symm⟩, C1.out⟩
      by_cases h3 : m' ∈ rest
      · have : m'.mi = m.mi := by
          apply Classical.byContradiction
          intro h4
          exact h2 (List.mem_filter.2 ⟨h3, by simpa using h4⟩)
        have := HY.out
        omega
      · have := HALL.out m' h1 h3; omega
     case measure => rw [R1.out.left_eq, HR.out.left_eq]; exact HLT.out
    case neg =>
     have e1 : max x y = x := by omega
     go_wp2
     go_roundw
     case rel =>
      refine ⟨_, cnt1, x, by first | rfl | rw [e1], R1.out, HX0.out, fun m' h1 h2 => ?_, HIS.out, C1.out⟩
      by_cases h3 : m' ∈ rest
      · have : m'.mi = m.mi := by
          apply Classical.byContradiction
          intro h4
          exact h2 (List.mem_filter.2 ⟨h3, by simpa using h4⟩)
        have := HY.out
        omega
      · exact HALL.out m' h1 h3
     case measure => rw [R1.out.left_eq, HR.out.left_eq]; exact HLT.out
theorem findM_mem {l : List MarkM} (h : l.Pairwise (fun a b => a.mc ≠ b.mc)) {m : MarkM} (hm : m ∈ l) : findM l m.mc = m := by
 unfold findM
 induction l with
 | nil => cases hm
 | cons a t ih =>
  obtain ⟨h1, h2⟩ := List.pairwise_cons.1 h
  rw [List.find?_cons]
  by_cases e : a.mc = m.mc
  · rcases List.mem_cons.1 hm with rfl | hm
    · simp
    · exact absurd e (h1 m hm)
  · rcases List.mem_cons.1 hm with rfl | hm
    · exact absurd rfl e
    · have : (a.mc == m.mc) = false := by simpa using e
      rw [this]
      exact ih h2 hm
theorem findM_no {l : List MarkM} {q : Int} (h : ∀ m ∈ l, m.mc ≠ q) : findM l q = mark0 := by
 unfold findM
 rw [List.find?_eq_none.2 fun x hx => by simpa using h x hx]
 rfl
set_option maxHeartbeats 6400000 in
theorem iTabOf_any (b : Nat) (l : List MarkM) (q : Int) (w : World) (h : Tab w b l) (hd : l.Pairwise (fun a b => a.mc ≠ b.mc)) :
    Calls Try.prog 69 #[.map (some b), .int .i64 q] w fun e w' => e = .returned (.agg #[.int .i64 (findM l q).mc, .int .i64 (findM l q).ms, .int .i64 (findM l q).mi]) ∧ Below w.heap.size w w' := by
 have hbl := h.lt
 have HD := jd hd
 have c := (Below.refl w.heap.size w).alloc (Nat.le_refl _) (.cells #[.int .i64 0, .int .i64 0, .int .i64 0] 76)
 have H := jd (h.keep ((Below.refl w.heap.size w).alloc (Nat.le_refl _) (.cells #[.int .i64 0, .int .i64 0, .int .i64 0] 76)) hbl)
 have K := jd (Blk.new w #[.int .i64 0, .int .i64 0, .int .i64 0] 76)
 have CC0 := jd c
 clear h hd c
 go_enter Try.func69, Try.ntmps69
 go_wp2_with (first
  | (at_range
     refine wpList_range_tab rfl (.tmp 7) 111 76 rfl Try.underlying111 (by rfl) H.out ?_
     intro w0 cnt0 hr0 hg0 hs0)
  | go_in)
 go_frame
 have hrr : (w.alloc (.cells #[.int .i64 0, .int .i64 0, .int .i64 0] 76)).heap.size = w.heap.size + 1 := by simp
 have C0 := jd (CC0.out.grown hg0 CC0.out.size (fun k e => by cases e))
 have K0 := jd (show Blk w0 w.heap.size #[.int .i64 0, .int .i64 0, .int .i64 0] 76 from (hg0.block _ K.out.lt (by simp)).trans K.out)
 have R0 := jd (show TabR w0 b (w.heap.size + 1) l l cnt0 by rw [← hrr]; exact hr0)
 rw [hrr]
 clear hg0 hr0 H K CC0 hrr hs0
 go_loopw [] (fun wr => ∃ (rest : List MarkM) (cnt : Nat), TabR wr b (w.heap.size + 1) l rest cnt ∧ (∀ m ∈ l, m ∉ rest → m.mc ≠ q) ∧ Blk wr w.heap.size #[.int .i64 0, .int .i64 0, .int .i64 0] 76 ∧ Below w.heap.size w wr) (fun wr => wr.rangeLeft b (w.heap.size + 1))
 case atStart => exact ⟨l, cnt0, R0.out, fun m h1 h2 => absurd h1 h2, K0.out, C0.out⟩
 case round =>
  obtain ⟨rest, cnt, hr, hall, k, c⟩ := hrel
  clear R0 C0 K0
  have HALL := jd hall
  have HR := jd hr
  have CC := jd c
  have KK := jd k
  clear hall hr c k
  go_wp2_with (first
   | (at_next
      refine wpList_next_tab rfl (.tmp 8) rfl (by rfl) HR.out ?_ ?_)
   | go_in)
  · intro he
    have HV := jd (show findM l q = mark0 from findM_no fun m hm => HALL.out m hm (by rw [he]; simp))
    have S : Sep wr w.heap.size [.blk w.heap.size #[.int .i64 0, .int .i64 0, .int .i64 0] 76] := Sep.one (KK.out) (Nat.le_refl _)
    have c := CC.out
    clear he KK CC
    have f0 := lk S 0 0 rfl rfl
    have f1 := (S.at_ 0 rfl).free 0
    have f2 := lk S 0 1 rfl rfl
    have f3 := (S.at_ 0 rfl).free 1
    have f4 := lk S 0 2 rfl rfl
    have f5 := (S.at_ 0 rfl).free 2
    replace S := S.put 0 rfl 0 (.int .i64 0)
    replace c := st c S (by omega)
    replace S := S.put 0 rfl 1 (.int .i64 0)
    replace c := st c S (by omega)
    replace S := S.put 0 rfl 2 (.int .i64 0)
    replace c := st c S (by omega)
    have r0 := jd ((S.at_ 0 rfl).cell 0)
    have r1 := jd ((S.at_ 0 rfl).cell 1)
    have r2 := jd ((S.at_ 0 rfl).cell 2)
    have CC := jd c
    clear S c
    go_wp2
    exact bodyPost_ret (v := .agg #[.int .i64 0, .int .i64 0, .int .i64 0]) (by simp [results, Try.results69, go_sem, r0.out, r1.out, r2.out]) rfl ⟨by first | (rw [HV.out]; done) | (rw [HV.out]; rfl), CC.out⟩
  · intro m w1 cnt1 hm r1 hlt hg1 hs1 hen
    have HM := jd hm
    have R1 := jd r1
    have HLT := jd hlt
    have C1 := CC.out.grown hg1 CC.out.size (fun k e => by cases e; exact Nat.le_succ _)
    have K1 : Blk w1 w.heap.size #[.int .i64 0, .int .i64 0, .int .i64 0] 76 := (hg1.block _ KK.out.lt (by simp)).trans KK.out
    have HML := jd (show m ∈ l from by obtain ⟨_, _, _, _, _, h4, _⟩ := HR.out; exact h4 m hm)
    clear hm r1 hlt hg1 hs1 KK CC
    obtain ⟨x0, x1, x2⟩ := m
    unfold mrkV at hen
    simp only at hen R1
    by_cases hq : x0 = q
    case pos =>
     have e1 : (x0 == q) = true := by simpa using hq
     have HV := jd (show findM l q = ⟨x0, x1, x2⟩ by rw [← hq]; exact findM_mem HD.out HML.out)
     have S : Sep w1 w.heap.size [.blk w.heap.size #[.int .i64 0, .int .i64 0, .int .i64 0] 76] := Sep.one (K1) (Nat.le_refl _)
     have c := C1
     clear hq K1 C1
     replace S := S.boxAt c.size (w1.heap.size) rfl #[.int .i64 x0, .int .i64 x1, .int .i64 x2] 76
     replace c := al c S
     have f0 := lk S 1 0 rfl rfl
     have f1 := (S.at_ 1 rfl).free 0
     have f2 := lk S 1 1 rfl rfl
     have f3 := (S.at_ 1 rfl).free 1
     have f4 := lk S 1 2 rfl rfl
     have f5 := (S.at_ 1 rfl).free 2
     replace S := S.put 1 rfl 0 (.int .i64 x0)
     replace c := st c S (by omega)
     replace S := S.put 1 rfl 1 (.int .i64 x1)
     replace c := st c S (by omega)
     replace S := S.put 1 rfl 2 (.int .i64 x2)
     replace c := st c S (by omega)
     have r0 := jd ((S.at_ 1 rfl).cell 0)
     have r1 := jd ((S.at_ 1 rfl).cell 1)
     have r2 := jd ((S.at_ 1 rfl).cell 2)
     have CC := jd c
     clear S c
     go_wp2
     exact bodyPost_ret (v := .agg #[.int .i64 x0, .int .i64 x1, .int .i64 x2]) (by simp [results, Try.results69, go_sem, r0.out, r1.out, r2.out]) rfl ⟨by first | (rw [HV.out]; done) | (rw [HV.out]; rfl), CC.out⟩
    case neg =>
     have e1 : (x0 == q) = false := by simpa using hq
     have CC := jd (C1.alloc C1.size (.cells #[.int .i64 x0, .int .i64 x1, .int .i64 x2] 76))
     have KK := jd (K1.alloc (.cells #[.int .i64 x0, .int .i64 x1, .int .i64 x2] 76))
     have RR := jd (R1.out.alloc (.cells #[.int .i64 x0, .int .i64 x1, .int .i64 x2] 76))
     have HN := jd (show ∀ m ∈ l, m ∉ delT rest x2 → m.mc ≠ q from fun m h1 h2 => by
      by_cases h3 : m ∈ rest
      · have h4 : m.mi = x2 := by
          apply Classical.byContradiction
          intro h4
          exact h2 (List.mem_filter.2 ⟨h3, by simpa using h4⟩)
        have h5 : Apart l := by obtain ⟨_, _, _, _, _, _, _, h5, _⟩ := HR.out; exact h5
        have h6 : m = ⟨x0, x1, x2⟩ := by
         have h7 := tabF_at h5 h1
         rw [h4] at h7
         have h8 := tabF_at h5 HML.out
         rw [show (⟨x0, x1, x2⟩ : MarkM).mi = x2 from rfl] at h8
         rw [h7] at h8
         obtain ⟨m0, m1, m2⟩ := m
         unfold mrkV at h8
         simp at h8
         obtain ⟨rfl, rfl, rfl⟩ := h8
         rfl
        rw [h6]
        exact hq
      · exact HALL.out m h1 h3)
     clear hq K1 C1 R1
     go_wp2
     go_roundw
     case rel => exact ⟨_, cnt1, RR.out, HN.out, KK.out, CC.out⟩
     case measure => rw [RR.out.left_eq, HR.out.left_eq]; exact HLT.out
end Go.Proofs.Ytmjifhjhialcbaa
