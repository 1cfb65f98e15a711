/-
  The law FnShuffles answers true at every slice of bytes, whatever program functions meet the model's contracts, and writes nothing that was there.
-/
import Derived.Test.YtbpefenbpfaeaaaDicD
import Derived.Test.YtbpefenbpfaeaaaLawShuf
namespace Go.Proofs.Ytbpefenbpfaeaaa
open Go.RowKit

theorem bigs_any (A : Option Addr) (n c : Nat) (w : World) :
    Calls Try.prog 11 #[.slice A n c] w fun e w' => e = .returned (.bool (decide (4096 < n))) ∧ w = w' := by
  go_enter Try.func11, Try.ntmps11
  go_wp2
  go_ret
  exact ⟨ret_bool (by simp; omega), rfl⟩

theorem swapped_perm {l : List Int} {i k : Nat} (hi : i < l.length) (hk : k < l.length) : (swapped l i k).Perm l := by
  unfold swapped
  have e1 : l.getD k 0 = l[k] := by simp [List.getD, List.getElem?_eq_getElem hk]
  have e2 : l.getD i 0 = l[i] := by simp [List.getD, List.getElem?_eq_getElem hi]
  rw [e1, e2]
  exact List.set_set_perm hi hk

theorem shufFrom_perm : ∀ (i : Nat) (d : Int) (l : List Int), (i < l.length ∨ i = 0) → (shufFrom d l i).2.Perm l := by
  intro i
  induction i with
  | zero => intro d l _; exact List.Perm.refl _
  | succ i ih =>
    intro d l hi
    have hi' : i + 1 < l.length := by omega
    rw [shufFrom]
    have hk : (rollN d % ((i : Int) + 2)).toNat < l.length := by
      have h0 : 0 ≤ rollN d % ((i : Int) + 2) := Int.emod_nonneg _ (by omega)
      have h1 : rollN d % ((i : Int) + 2) < (i : Int) + 2 := Int.emod_lt_of_pos _ (by omega)
      omega
    exact (ih _ _ (by rw [swapped_len]; omega)).trans (swapped_perm hi' hk)

theorem shufFrom_ok : ∀ (i : Nat) (d : Int) (l : List Int), diceOk d = true → diceOk (shufFrom d l i).1 = true := by
  intro i
  induction i with
  | zero => intro d l h; exact h
  | succ i ih => intro d l _; rw [shufFrom]; exact ih _ _ (rollN_ok _)

def cnt (v : Int) (l : List Int) (k : Nat) : Nat := (l.take k).count v
theorem cnt_zero (v : Int) (l : List Int) : cnt v l 0 = 0 := by simp [cnt]
theorem cnt_yes {v : Int} {l : List Int} {k : Nat} (hk : k < l.length) (h : l.getD k 0 = v) : cnt v l (k + 1) = cnt v l k + 1 := by
  have e : l[k] = v := by rw [← h]; simp [List.getD, List.getElem?_eq_getElem hk]
  unfold cnt
  rw [List.take_succ_eq_append_getElem hk, List.count_append, e]
  simp
theorem cnt_no {v : Int} {l : List Int} {k : Nat} (hk : k < l.length) (h : l.getD k 0 ≠ v) : cnt v l (k + 1) = cnt v l k := by
  have e : l[k] ≠ v := by rw [← show l.getD k 0 = l[k] by simp [List.getD, List.getElem?_eq_getElem hk]]; exact h
  unfold cnt
  rw [List.take_succ_eq_append_getElem hk, List.count_append]
  simp [e]
theorem cnt_le (v : Int) (l : List Int) (k : Nat) : cnt v l k ≤ k := by
  unfold cnt
  exact Nat.le_trans List.count_le_length (by simp; omega)
theorem cnt_end {v : Int} {l m : List Int} {n : Nat} (hp : m.Perm l) (hl : l.length = n) : cnt v m n = cnt v l n := by
  unfold cnt
  rw [List.take_of_length_le (by rw [hp.length_eq, hl]; exact Nat.le_refl _), List.take_of_length_le (by rw [hl]; exact Nat.le_refl _)]
  exact hp.count_eq v

set_option maxHeartbeats 3200000 in
theorem lawShufs (hH : ∀ (s : Int) (A : Option Addr) (n c : Nat) (xs : List Int) (w : World), IRow w w.heap.size A n xs → n ≤ 1048577 → n ≤ c → Calls Try.prog 18 #[.agg #[.int .i64 s], .slice A n c] w (MadeDR w (shuffled s xs)))
    (hD : ∀ (s : Int) (w : World), Calls Try.prog 20 #[.agg #[.int .i64 s]] w fun e w' => e = .returned (.bool (diceOk s)) ∧ Below w.heap.size w w')
    (A : Option Addr) (n c : Nat) (w : World) (h : BRow w w.heap.size A n) (hm : n ≤ maxLen) :
    Calls Try.prog 4 #[.slice A n c] w fun e w' => e = .returned (.bool true) ∧ Below w.heap.size w w' := by
  unfold maxLen at hm
  by_cases hn : 4096 < n
  · clear h hH hD
    go_enter Try.func4, Try.ntmps4
    go_wp2_with fail
    refine (bigs_any A n c _).mono ?_
    rintro e w' ⟨rfl, rfl⟩
    rw [decide_eq_true hn]
    go_wp2
    go_ret
    exact ⟨rfl, Below.refl _ _⟩
  have HH := Lib.hid hH
  have HD := Lib.hid hD
  clear hH hD
  go_enter Try.func4, Try.ntmps4
  go_wp2_with fail
  refine (bigs_any A n c _).mono ?_
  rintro e w' ⟨rfl, rfl⟩
  rw [decide_eq_false hn]
  go_wp2_with fail
  refine (drawShuf_any A n c _ h (by omega)).mono ?_
  rintro e w1 ⟨s, L, N, C, xs, rfl, o1, hN, b1⟩
  clear h
  have x1 := Box.new w1 s
  have k1 := new_lt w1 (.cells #[.int .i64 s] 25)
  have c1 := b1.trans (k1.mono b1.size)
  have o1' := o1.below k1
  have hcap : N ≤ C := by
    rcases o1.2 with ⟨hv, _⟩ | ⟨g, cap, cur, hv, _, _, hnc, _⟩
    · injection hv; omega
    · injection hv; omega
  have hl1 := Lib.hid o1.len
  clear o1
  go_wp2_with fail
  generalize hv1 : w1.alloc (.cells #[.int .i64 s] 25) = v1 at *
  clear hv1
  refine (HH.out s L N C xs _ o1'.irow (by omega) hcap).mono ?_
  rintro e w2 ⟨M, N2, C2, rfl, o2, b2⟩
  obtain ⟨a, ha⟩ : ∃ a, a = (shuffled s xs).1 := ⟨_, rfl⟩
  obtain ⟨ys, hys⟩ : ∃ ys, ys = (shuffled s xs).2 := ⟨_, rfl⟩
  rw [← ha]
  rw [← hys] at o2
  have HA := Lib.hid ha
  have HY := Lib.hid hys
  clear ha hys
  have k2 := new_lt w2 (.cells #[.int .i64 a] 25)
  have b2' := b2.trans (k2.mono b2.size)
  have x2 := x1.below b2' x1.lt
  have y2 := Box.new w2 a
  have c2 := c1.trans (b2'.mono c1.size)
  have o12 := o1'.below b2'
  have o22 := o2.below k2
  have hl2 := Lib.hid o2.len
  have cx2 := x2.cell
  clear x1 o1' o2
  go_wp2_with fail
  generalize hv2 : w2.alloc (.cells #[.int .i64 a] 25) = v2 at *
  clear hv2
  refine (sDiceOk_any s _).mono ?_
  rintro e w3 ⟨rfl, b3⟩
  have y3 := y2.below b3 y2.lt
  have c3 := c2.trans (b3.mono c2.size)
  have o13 := o12.below b3
  have o23 := o22.below b3
  clear x2 y2 cx2 o12 o22 k1 k2 b1 b2 b2' c1 c2 b3
  cases hd : diceOk s
  · have hN0 : N2 = 0 := by rw [← hl2.out, HY.out]; simp [shuffled, hd]
    subst hN0
    go_wp2
    go_ret
    exact ⟨rfl, c3⟩
  have HDK := Lib.hid hd
  clear hd
  by_cases h64 : 64 < N
  · have hN0 : N2 = 0 := by
      rw [← hl2.out, HY.out]
      unfold shuffled
      rw [if_pos HDK.out, if_neg (by rw [hl1.out]; omega)]
      rfl
    subst hN0
    go_wp2
    go_ret
    exact ⟨rfl, c3⟩
  have HS := Lib.hid (show shuffled s xs = shufFrom s xs (N - 1) by
    unfold shuffled
    rw [if_pos HDK.out, hl1.out, if_pos (by omega)])
  have HP := Lib.hid (show ys.Perm xs by
    rw [HY.out, HS.out]
    exact shufFrom_perm _ _ _ (by rw [hl1.out]; omega))
  have HO := Lib.hid (show diceOk a = true by
    rw [HA.out, HS.out]
    exact shufFrom_ok _ _ _ HDK.out)
  obtain rfl : N2 = N := by rw [← hl2.out, ← hl1.out]; exact HP.out.length_eq
  have R1 := Lib.hid o13.irow
  have R2 := Lib.hid o23.irow
  have Y3 := Lib.hid y3
  have C3 := Lib.hid c3
  clear o13 o23 y3 c3 HS HY HA
  go_wp2
  go_loopw [7] (fun i wr => ∃ k : Nat, k ≤ N2 ∧ i = .int .i64 (k : Int) ∧ Drew w3 wr) (fun i _ => N2 - (intOf i).toNat)
  case atStart => exact ⟨0, Nat.zero_le _, rfl, Drew.refl _⟩
  case round =>
    obtain ⟨i, hi, rfl, hdr⟩ := hrel
    by_cases hlt : i < N2
    · obtain ⟨b, off, rfl, hb, hc⟩ := R1.out.2 (by omega)
      obtain ⟨b', off', rfl, hb', hc'⟩ := R2.out.2 (by omega)
      have HCI := Lib.hid (hc i hlt)
      obtain ⟨v, hv⟩ : ∃ v, v = xs.getD i 0 := ⟨_, rfl⟩
      rw [← hv] at HCI
      have HC := Lib.hid hc
      have HC' := Lib.hid hc'
      have i0 : (0 : Int) ≤ (i : Int) := by omega
      have i1 : (i : Int) < (N2 : Int) := by omega
      clear hc hc' hv R1 R2
      go_wp2
      go_loopw [8, 9, 10] (fun p q j wx => ∃ k : Nat, k ≤ N2 ∧ j = .int .i64 (k : Int) ∧ p = .int .i64 (cnt v xs k : Int) ∧ q = .int .i64 (cnt v ys k : Int) ∧ Drew w3 wx) (fun _ _ j _ => N2 - (intOf j).toNat)
      case atStart => exact ⟨0, Nat.zero_le _, rfl, by rw [cnt_zero]; rfl, by rw [cnt_zero]; rfl, hdr⟩
      case round =>
        obtain ⟨k, hk, rfl, rfl, rfl, hdx⟩ := hrel
        by_cases hkn : k < N2
        · have cI := (hdx.cell ⟨b, off + i, none⟩).trans HCI.out
          have cK := (hdx.cell ⟨b, off + k, none⟩).trans (HC.out k hkn)
          have cM := (hdx.cell ⟨b', off' + k, none⟩).trans (HC'.out k hkn)
          have p1 := cnt_le v xs k
          have q1 := cnt_le v ys k
          have k0 : (0 : Int) ≤ (k : Int) := by omega
          have k1 : (k : Int) < (N2 : Int) := by omega
          by_cases e1 : xs.getD k 0 = v <;> by_cases e2 : ys.getD k 0 = v
          · have H1 := Lib.hid (cnt_yes (by have := hl1.out; omega) e1)
            have H2 := Lib.hid (cnt_yes (by have := hl2.out; omega) e2)
            rw [e1] at cK
            rw [e2] at cM
            clear e1 e2
            generalize cnt v xs k = P at *
            generalize cnt v ys k = Q at *
            go_wp2
            go_quiet (fail)
            go_wp2
            go_quiet (fail)
            go_wp2
            go_roundw
            case rel => exact ⟨k + 1, by omega, by go_num, by rw [H1.out]; go_num, by rw [H2.out]; go_num, hdx.more _⟩
            case measure => simp [intOf]; omega
          · have H1 := Lib.hid (cnt_yes (by have := hl1.out; omega) e1)
            have H2 := Lib.hid (cnt_no (by have := hl2.out; omega) e2)
            rw [e1] at cK
            have t2 : (ys.getD k 0 == v) = false := by simpa using e2
            generalize ys.getD k 0 = x2 at cM t2
            clear e1 e2
            generalize cnt v xs k = P at *
            generalize cnt v ys k = Q at *
            go_wp2
            go_quiet (fail)
            go_wp2
            go_quiet (fail)
            go_wp2
            go_roundw
            case rel => exact ⟨k + 1, by omega, by go_num, by rw [H1.out]; go_num, by rw [H2.out], hdx.more _⟩
            case measure => simp [intOf]; omega
          · have H1 := Lib.hid (cnt_no (by have := hl1.out; omega) e1)
            have H2 := Lib.hid (cnt_yes (by have := hl2.out; omega) e2)
            have t1 : (xs.getD k 0 == v) = false := by simpa using e1
            generalize xs.getD k 0 = x1 at cK t1
            rw [e2] at cM
            clear e1 e2
            generalize cnt v xs k = P at *
            generalize cnt v ys k = Q at *
            go_wp2
            go_quiet (fail)
            go_wp2
            go_quiet (fail)
            go_wp2
            go_roundw
            case rel => exact ⟨k + 1, by omega, by go_num, by rw [H1.out], by rw [H2.out]; go_num, hdx.more _⟩
            case measure => simp [intOf]; omega
          · have H1 := Lib.hid (cnt_no (by have := hl1.out; omega) e1)
            have H2 := Lib.hid (cnt_no (by have := hl2.out; omega) e2)
            have t1 : (xs.getD k 0 == v) = false := by simpa using e1
            generalize xs.getD k 0 = x1 at cK t1
            have t2 : (ys.getD k 0 == v) = false := by simpa using e2
            generalize ys.getD k 0 = x2 at cM t2
            clear e1 e2
            generalize cnt v xs k = P at *
            generalize cnt v ys k = Q at *
            go_wp2
            go_quiet (fail)
            go_wp2
            go_quiet (fail)
            go_wp2
            go_roundw
            case rel => exact ⟨k + 1, by omega, by go_num, by rw [H1.out], by rw [H2.out], hdx.more _⟩
            case measure => simp [intOf]; omega
        · obtain rfl : k = N2 := by omega
          have HE := Lib.hid (cnt_end (v := v) HP.out hl1.out)
          rw [HE.out]
          generalize cnt v xs k = P at *
          go_wp2
          go_roundw
          case rel => exact ⟨i + 1, by omega, by go_num, hdx⟩
          case measure => simp [intOf]; omega
    · have cy := (Y3.out.below (hdr.below _) Y3.out.lt).cell
      have c4 := C3.out.trans (hdr.below _)
      go_wp2_with fail
      refine (HD.out a _).mono ?_
      rintro e w5 ⟨rfl, b5⟩
      rw [HO.out]
      go_wp2
      go_ret
      exact ⟨rfl, c4.trans (b5.mono c4.size)⟩

end Go.Proofs.Ytbpefenbpfaeaaa
