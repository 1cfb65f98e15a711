/-
  Chapter 9, the program: the greatest index of a table; the mark of a client in a table.
-/
import Derived.Test.YtlhmolomefbklaaMarkI1
namespace Go.Proofs.Ytlhmolomefbklaa
set_option maxRecDepth 100000
open Go.RowKit

theorem Sep.one {w : World} {base p : Nat} {cs : Array Value} {t : TypeId} (h : Blk w p cs t) (hp : base ≤ p) : Sep w base [.blk p cs t] := by
  refine ⟨fun n i hi => ?_, by simp [foots, Item.foot], fun q hq => ?_⟩
  · rcases n with _ | n
    · have : Item.blk p cs t = i := by simpa using hi
      subst this
      exact h
    · simp at hi
  · have : q = p := by simpa [foots, Item.foot] using hq
    omega
theorem maxTo_ge0 (l : List MarkM) (j : Nat) : 0 ≤ maxTo l j := by
  induction j with
  | zero => rw [maxTo_zero]; exact Int.le_refl 0
  | succ k ih =>
    by_cases h : k < l.length
    · rw [maxTo_step h]; omega
    · have : maxTo l (k + 1) = maxTo l k := by
        unfold maxTo
        rw [List.take_of_length_le (by omega), List.take_of_length_le (by omega)]
      omega
theorem maxTo_is (l : List MarkM) : ∀ j, j ≤ l.length → maxTo l j = 0 ∨ ∃ m ∈ l, m.mi = maxTo l j := by
  intro j
  induction j with
  | zero => intro _; exact Or.inl (maxTo_zero l)
  | succ k ih =>
    intro hk
    have hl : k < l.length := by omega
    rw [maxTo_step hl]
    rcases Int.le_total (maxTo l k) l[k].mi with h | h
    · exact Or.inr ⟨l[k], List.getElem_mem hl, by omega⟩
    · rcases ih (by omega) with h1 | ⟨m, hm, h1⟩
      · exact Or.inl (by omega)
      · exact Or.inr ⟨m, hm, by omega⟩
/-- v is the greatest index of l, or 0. -/
theorem last_is {l : List MarkM} {v : Int} (h0 : 0 ≤ v) (h1 : ∀ m ∈ l, m.mi ≤ v) (h2 : v = 0 ∨ ∃ m ∈ l, m.mi = v) : v = maxTo l l.length := by
  have a0 := maxTo_ge0 l l.length
  rcases h2 with h2 | ⟨m, hm, h2⟩
  · rcases maxTo_is l l.length (Nat.le_refl _) with h3 | ⟨m, hm, h3⟩
    · omega
    · have := h1 m hm; omega
  · obtain ⟨q, hq, rfl⟩ := List.getElem_of_mem hm
    have h3 := maxTo_le l l.length (Nat.le_refl _) q hq hq
    rcases maxTo_is l l.length (Nat.le_refl _) with h4 | ⟨m', hm', h4⟩
    · omega
    · have := h1 m' hm'; omega
set_option maxHeartbeats 3200000 in
theorem iLast_any (b : Nat) (l : List MarkM) (w : World) (h : Tab w b l) :
    Calls Try.prog 52 #[.map (some b)] w fun e w' => e = .returned (.int .i64 (maxTo l l.length)) ∧ Below w.heap.size w w' := by
  have H := Lib.hid h
  have hbl := h.lt
  clear h
  go_enter Try.func52, Try.ntmps52
  go_wp2_with (first
    | (at_range
       refine wpList_range_tab rfl (.tmp 5) 62 30 rfl Try.underlying62 (by rfl) H.out ?_
       intro w0 cnt0 hr0 hg0 hs0)
    | go_in)
  go_frame
  have C0 := Lib.hid ((Below.refl w.heap.size w).grown hg0 (Nat.le_refl _) (fun k e => by cases e))
  have R0 := Lib.hid hr0
  clear hg0 hr0
  go_loopw [3] (fun v wr => ∃ (rest : List MarkM) (cnt : Nat) (x : Int), v = .int .i64 x ∧ TabR wr b w.heap.size l rest cnt ∧ 0 ≤ x ∧ (∀ m ∈ l, m ∉ rest → m.mi ≤ x) ∧ (x = 0 ∨ ∃ m ∈ l, m.mi = x) ∧ Below w.heap.size w wr) (fun _ wr => wr.rangeLeft b w.heap.size)
  case atStart => exact ⟨l, cnt0, 0, rfl, R0.out, Int.le_refl _, fun m h1 h2 => absurd h1 h2, Or.inl rfl, C0.out⟩
  case round =>
    obtain ⟨rest, cnt, x, rfl, hr, hx0, hall, his, c⟩ := hrel
    clear R0 C0 hs0
    have HALL := Lib.hid hall
    have HIS := Lib.hid his
    have HX0 := Lib.hid hx0
    have HR := Lib.hid hr
    have CC := Lib.hid c
    clear hall his hr c hx0
    go_wp2_with (first
      | (at_next
         refine wpList_next_tab rfl (.tmp 6) rfl (by rfl) HR.out ?_ ?_)
      | go_in)
    · intro he
      have HV := Lib.hid (last_is HX0.out (fun m hm => HALL.out m hm (by rw [he]; simp)) HIS.out)
      clear he
      go_wp2
      go_ret
      exact ⟨by first | (rw [← HV.out]; done) | (rw [← HV.out]; rfl), CC.out⟩
    · intro m w1 cnt1 hm r1 hlt hg1 hs1 hen
      have HM := Lib.hid hm
      have R1 := Lib.hid r1
      have HLT := Lib.hid hlt
      have C1 := Lib.hid (CC.out.grown hg1 CC.out.size (fun k e => by cases e; exact Nat.le_refl _))
      have HML := Lib.hid (show m ∈ l from by obtain ⟨_, _, _, _, _, h4, _⟩ := HR.out; exact h4 m hm)
      clear hm r1 hlt hg1 hs1
      obtain ⟨y, hy⟩ : ∃ y, y = m.mi := ⟨_, rfl⟩
      rw [← hy] at hen
      have HY := Lib.hid hy
      clear hy
      by_cases hxy : x < y
      case pos =>
        have e1 : max x y = y := by omega
        go_wp2
        go_roundw
        case rel =>
          refine ⟨_, cnt1, y, by first | rfl | rw [e1], R1.out, by have := HX0.out; omega, fun m' h1 h2 => ?_, Or.inr ⟨m, HML.out, HY.out.symm⟩, C1.out⟩
          by_cases h3 : m' ∈ rest
          · have : m'.mi = m.mi := by
              apply Classical.byContradiction
              intro h4
              exact h2 (List.mem_filter.2 ⟨h3, by simpa using h4⟩)
            have := HY.out
            omega
          · have := HALL.out m' h1 h3; omega
        case measure => rw [R1.out.left_eq, HR.out.left_eq]; exact HLT.out
      case neg =>
        have e1 : max x y = x := by omega
        go_wp2
        go_roundw
        case rel =>
          refine ⟨_, cnt1, x, by first | rfl | rw [e1], R1.out, HX0.out, fun m' h1 h2 => ?_, HIS.out, C1.out⟩
          by_cases h3 : m' ∈ rest
          · have : m'.mi = m.mi := by
              apply Classical.byContradiction
              intro h4
              exact h2 (List.mem_filter.2 ⟨h3, by simpa using h4⟩)
            have := HY.out
            omega
          · exact HALL.out m' h1 h3
        case measure => rw [R1.out.left_eq, HR.out.left_eq]; exact HLT.out

theorem findM_mem {l : List MarkM} (h : l.Pairwise (fun a b => a.mc ≠ b.mc)) {m : MarkM} (hm : m ∈ l) : findM l m.mc = m := by
  unfold findM
  induction l with
  | nil => cases hm
  | cons a t ih =>
    obtain ⟨h1, h2⟩ := List.pairwise_cons.1 h
    rw [List.find?_cons]
    by_cases e : a.mc = m.mc
    · rcases List.mem_cons.1 hm with rfl | hm
      · simp
      · exact absurd e (h1 m hm)
    · rcases List.mem_cons.1 hm with rfl | hm
      · exact absurd rfl e
      · have : (a.mc == m.mc) = false := by simpa using e
        rw [this]
        exact ih h2 hm
theorem findM_no {l : List MarkM} {q : Int} (h : ∀ m ∈ l, m.mc ≠ q) : findM l q = mark0 := by
  unfold findM
  rw [List.find?_eq_none.2 fun x hx => by simpa using h x hx]
  rfl
set_option maxHeartbeats 6400000 in
theorem iOf_any (b : Nat) (l : List MarkM) (q : Int) (w : World) (h : Tab w b l) (hd : l.Pairwise (fun a b => a.mc ≠ b.mc)) :
    Calls Try.prog 43 #[.map (some b), .int .i64 q] w fun e w' => e = .returned (.agg #[.int .i64 (findM l q).mc, .int .i64 (findM l q).ms, .int .i64 (findM l q).mi]) ∧ Below w.heap.size w w' := by
  have hbl := h.lt
  have HD := Lib.hid hd
  have c := (Below.refl w.heap.size w).alloc (Nat.le_refl _) (.cells #[.int .i64 0, .int .i64 0, .int .i64 0] 30)
  have H := Lib.hid (h.keep ((Below.refl w.heap.size w).alloc (Nat.le_refl _) (.cells #[.int .i64 0, .int .i64 0, .int .i64 0] 30)) hbl)
  have K := Lib.hid (Blk.new w #[.int .i64 0, .int .i64 0, .int .i64 0] 30)
  have CC0 := Lib.hid c
  clear h hd c
  go_enter Try.func43, Try.ntmps43
  go_wp2_with (first
    | (at_range
       refine wpList_range_tab rfl (.tmp 7) 62 30 rfl Try.underlying62 (by rfl) H.out ?_
       intro w0 cnt0 hr0 hg0 hs0)
    | go_in)
  go_frame
  have hrr : (w.alloc (.cells #[.int .i64 0, .int .i64 0, .int .i64 0] 30)).heap.size = w.heap.size + 1 := by simp
  have C0 := Lib.hid (CC0.out.grown hg0 CC0.out.size (fun k e => by cases e))
  have K0 := Lib.hid (show Blk w0 w.heap.size #[.int .i64 0, .int .i64 0, .int .i64 0] 30 from (hg0.block _ K.out.lt (by simp)).trans K.out)
  have R0 := Lib.hid (show TabR w0 b (w.heap.size + 1) l l cnt0 by rw [← hrr]; exact hr0)
  rw [hrr]
  clear hg0 hr0 H K CC0 hrr hs0
  go_loopw [] (fun wr => ∃ (rest : List MarkM) (cnt : Nat), TabR wr b (w.heap.size + 1) l rest cnt ∧ (∀ m ∈ l, m ∉ rest → m.mc ≠ q) ∧ Blk wr w.heap.size #[.int .i64 0, .int .i64 0, .int .i64 0] 30 ∧ Below w.heap.size w wr) (fun wr => wr.rangeLeft b (w.heap.size + 1))
  case atStart => exact ⟨l, cnt0, R0.out, fun m h1 h2 => absurd h1 h2, K0.out, C0.out⟩
  case round =>
    obtain ⟨rest, cnt, hr, hall, k, c⟩ := hrel
    clear R0 C0 K0
    have HALL := Lib.hid hall
    have HR := Lib.hid hr
    have CC := Lib.hid c
    have KK := Lib.hid k
    clear hall hr c k
    go_wp2_with (first
      | (at_next
         refine wpList_next_tab rfl (.tmp 8) rfl (by rfl) HR.out ?_ ?_)
      | go_in)
    · intro he
      have HV := Lib.hid (show findM l q = mark0 from findM_no fun m hm => HALL.out m hm (by rw [he]; simp))
      have S : Sep wr w.heap.size [.blk w.heap.size #[.int .i64 0, .int .i64 0, .int .i64 0] 30] := Sep.one (KK.out) (Nat.le_refl _)
      have c := CC.out
      clear he KK CC
      have f0 : wr.cell? ⟨w.heap.size, 0, none⟩ = some (.int .i64 0) := (S.at_ 0 rfl).cell 0
      have f1 := (S.at_ 0 rfl).free 0
      have f2 : wr.cell? ⟨w.heap.size, 1, none⟩ = some (.int .i64 0) := (S.at_ 0 rfl).cell 1
      have f3 := (S.at_ 0 rfl).free 1
      have f4 : wr.cell? ⟨w.heap.size, 2, none⟩ = some (.int .i64 0) := (S.at_ 0 rfl).cell 2
      have f5 := (S.at_ 0 rfl).free 2
      replace S := S.put 0 rfl 0 (.int .i64 0)
      replace c := c.setCell (p := ⟨w.heap.size, 0, none⟩) (by show w.heap.size ≤ w.heap.size; omega) (.int .i64 0)
      replace S := S.put 0 rfl 1 (.int .i64 0)
      replace c := c.setCell (p := ⟨w.heap.size, 1, none⟩) (by show w.heap.size ≤ w.heap.size; omega) (.int .i64 0)
      replace S := S.put 0 rfl 2 (.int .i64 0)
      replace c := c.setCell (p := ⟨w.heap.size, 2, none⟩) (by show w.heap.size ≤ w.heap.size; omega) (.int .i64 0)
      have r0 := Lib.hid ((S.at_ 0 rfl).cell 0)
      have r1 := Lib.hid ((S.at_ 0 rfl).cell 1)
      have r2 := Lib.hid ((S.at_ 0 rfl).cell 2)
      have CC := Lib.hid c
      clear S c
      go_wp2
      exact bodyPost_ret (v := .agg #[.int .i64 0, .int .i64 0, .int .i64 0]) (by simp [results, Try.results43, go_sem, r0.out, r1.out, r2.out]) rfl ⟨by first | (rw [HV.out]; done) | (rw [HV.out]; rfl), CC.out⟩
    · intro m w1 cnt1 hm r1 hlt hg1 hs1 hen
      have HM := Lib.hid hm
      have R1 := Lib.hid r1
      have HLT := Lib.hid hlt
      have C1 := CC.out.grown hg1 CC.out.size (fun k e => by cases e; exact Nat.le_succ _)
      have K1 : Blk w1 w.heap.size #[.int .i64 0, .int .i64 0, .int .i64 0] 30 := (hg1.block _ KK.out.lt (by simp)).trans KK.out
      have HML := Lib.hid (show m ∈ l from by obtain ⟨_, _, _, _, _, h4, _⟩ := HR.out; exact h4 m hm)
      clear hm r1 hlt hg1 hs1 KK CC
      obtain ⟨x0, x1, x2⟩ := m
      unfold mrkV at hen
      simp only at hen R1
      by_cases hq : x0 = q
      case pos =>
        have e1 : (x0 == q) = true := by simpa using hq
        have HV := Lib.hid (show findM l q = ⟨x0, x1, x2⟩ by rw [← hq]; exact findM_mem HD.out HML.out)
        have S : Sep w1 w.heap.size [.blk w.heap.size #[.int .i64 0, .int .i64 0, .int .i64 0] 30] := Sep.one (K1) (Nat.le_refl _)
        have c := C1
        clear hq K1 C1
        replace S := S.boxAt c.size (w1.heap.size) rfl #[.int .i64 x0, .int .i64 x1, .int .i64 x2] 30
        replace c := c.alloc c.size (.cells #[.int .i64 x0, .int .i64 x1, .int .i64 x2] 30)
        have f0 : (w1.alloc (.cells #[.int .i64 x0, .int .i64 x1, .int .i64 x2] 30)).cell? ⟨w.heap.size, 0, none⟩ = some (.int .i64 0) := (S.at_ 1 rfl).cell 0
        have f1 := (S.at_ 1 rfl).free 0
        have f2 : (w1.alloc (.cells #[.int .i64 x0, .int .i64 x1, .int .i64 x2] 30)).cell? ⟨w.heap.size, 1, none⟩ = some (.int .i64 0) := (S.at_ 1 rfl).cell 1
        have f3 := (S.at_ 1 rfl).free 1
        have f4 : (w1.alloc (.cells #[.int .i64 x0, .int .i64 x1, .int .i64 x2] 30)).cell? ⟨w.heap.size, 2, none⟩ = some (.int .i64 0) := (S.at_ 1 rfl).cell 2
        have f5 := (S.at_ 1 rfl).free 2
        replace S := S.put 1 rfl 0 (.int .i64 x0)
        replace c := c.setCell (p := ⟨w.heap.size, 0, none⟩) (by show w.heap.size ≤ w.heap.size; omega) (.int .i64 x0)
        replace S := S.put 1 rfl 1 (.int .i64 x1)
        replace c := c.setCell (p := ⟨w.heap.size, 1, none⟩) (by show w.heap.size ≤ w.heap.size; omega) (.int .i64 x1)
        replace S := S.put 1 rfl 2 (.int .i64 x2)
        replace c := c.setCell (p := ⟨w.heap.size, 2, none⟩) (by show w.heap.size ≤ w.heap.size; omega) (.int .i64 x2)
        have r0 := Lib.hid ((S.at_ 1 rfl).cell 0)
        have r1 := Lib.hid ((S.at_ 1 rfl).cell 1)
        have r2 := Lib.hid ((S.at_ 1 rfl).cell 2)
        have CC := Lib.hid c
        clear S c
        go_wp2
        exact bodyPost_ret (v := .agg #[.int .i64 x0, .int .i64 x1, .int .i64 x2]) (by simp [results, Try.results43, go_sem, r0.out, r1.out, r2.out]) rfl ⟨by first | (rw [HV.out]; done) | (rw [HV.out]; rfl), CC.out⟩
      case neg =>
        have e1 : (x0 == q) = false := by simpa using hq
        have CC := Lib.hid (C1.alloc C1.size (.cells #[.int .i64 x0, .int .i64 x1, .int .i64 x2] 30))
        have KK := Lib.hid (K1.alloc (.cells #[.int .i64 x0, .int .i64 x1, .int .i64 x2] 30))
        have RR := Lib.hid (R1.out.alloc (.cells #[.int .i64 x0, .int .i64 x1, .int .i64 x2] 30))
        have HN := Lib.hid (show ∀ m ∈ l, m ∉ delT rest x2 → m.mc ≠ q from fun m h1 h2 => by
          by_cases h3 : m ∈ rest
          · have h4 : m.mi = x2 := by
              apply Classical.byContradiction
              intro h4
              exact h2 (List.mem_filter.2 ⟨h3, by simpa using h4⟩)
            have h5 : Apart l := by obtain ⟨_, _, _, _, _, _, _, h5, _⟩ := HR.out; exact h5
            have h6 : m = ⟨x0, x1, x2⟩ := by
              have h7 := tabF_at h5 h1
              rw [h4] at h7
              have h8 := tabF_at h5 HML.out
              rw [show (⟨x0, x1, x2⟩ : MarkM).mi = x2 from rfl] at h8
              rw [h7] at h8
              obtain ⟨m0, m1, m2⟩ := m
              unfold mrkV at h8
              simp at h8
              obtain ⟨rfl, rfl, rfl⟩ := h8
              rfl
            rw [h6]
            exact hq
          · exact HALL.out m h1 h3)
        clear hq K1 C1 R1
        go_wp2
        go_roundw
        case rel => exact ⟨_, cnt1, RR.out, HN.out, KK.out, CC.out⟩
        case measure => rw [RR.out.left_eq, HR.out.left_eq]; exact HLT.out

end Go.Proofs.Ytlhmolomefbklaa
