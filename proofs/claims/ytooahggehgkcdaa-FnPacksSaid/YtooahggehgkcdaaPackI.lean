/-
  Packed, of the program: a cursor behind a pointer gathers the number of rows, then each row's length and numbers.
-/
import Derived.Test.YtooahggehgkcdaaPack
import Derived.Test.YtooahggehgkcdaaDraw
namespace Go.Proofs.Ytooahggehgkcdaa
open Go.RowKit

/-- Block p is a cursor that has gathered the numbers xs. -/
def PutCur (w : World) (base p : Nat) (xs : List Int) : Prop :=
  ∃ (A : Option Addr) (n c : Nat), w.heap[p]? = some (.cells #[.slice A n c, .int .i64 0] 58 (0, 0)) ∧ Own w base A n c xs ∧ base ≤ p

theorem blk_lt {w : World} {p : Nat} {o : Obj} (h : w.heap[p]? = some o) : p < w.heap.size := by
  rcases Nat.lt_or_ge p w.heap.size with hlt | hge
  · exact hlt
  · rw [Array.getElem?_eq_none hge] at h; cases h

theorem own_ne_cur {w : World} {base p : Nat} {A : Option Addr} {n c : Nat} {xs : List Int} {cs : Array Value} (o : Own w base A n c xs) (h : w.heap[p]? = some (.cells cs 58 (0, 0))) :
    (Value.slice A n c).ownBlock ≠ some p := by
  rcases o.2 with ⟨hv, _⟩ | ⟨g, cap, cur, hv, _, hh, _⟩
  · rw [hv]; simp [Value.ownBlock]
  · rw [hv]
    intro e
    simp [Value.ownBlock] at e
    subst e
    rw [hh] at h
    injection h with h
    injection h with _ ht
    exact absurd ht (by decide)

theorem PutCur.below {w w' : World} {base p : Nat} {xs : List Int} (h : PutCur w base p xs) (hb : Below w.heap.size w w') : PutCur w' base p xs := by
  obtain ⟨A, n, c, hh, o, hp⟩ := h
  exact ⟨A, n, c, (hb.block p (blk_lt hh)).trans hh, o.below hb, hp⟩

/-- What stands behind 'c.row = append(c.row, ..)'. -/
theorem put_end {w wa w2 : World} {base p : Nat} {A A2 : Option Addr} {n c n2 c2 : Nat} {xs ys : List Int}
    (hh : w.heap[p]? = some (.cells #[.slice A n c, .int .i64 0] 58 (0, 0))) (o : Own w base A n c xs) (hp : base ≤ p) (hb : base ≤ w.heap.size) (ba : Below w.heap.size w wa)
    (o2 : Own w2 base A2 n2 c2 ys) (g2 : wa.grownBy w2 (Value.slice A n c).ownBlock) :
    w2.heap[p]? = some (.cells #[.slice A n c, .int .i64 0] 58 (0, 0)) ∧ PutCur (w2.setCell ⟨p, 0, none⟩ (.slice A2 n2 c2)) base p ys ∧ Below base w (w2.setCell ⟨p, 0, none⟩ (.slice A2 n2 c2)) := by
  have hlt := blk_lt hh
  have ha := (ba.block p hlt).trans hh
  have h2 : w2.heap[p]? = some (.cells #[.slice A n c, .int .i64 0] 58 (0, 0)) :=
    (g2.block p (Nat.lt_of_lt_of_le hlt ba.size) (fun e => own_ne_cur o hh e.symm)).trans ha
  refine ⟨h2, ⟨A2, n2, c2, set_blk h2 0 _, ?_, hp⟩, ?_⟩
  · refine World.ownsRow.kept o2 (grown_setCell w2 p 0 _) ?_
    exact .inr (own_ne_cur o2 h2)
  · exact (((ba.mono hb).grown g2 (Nat.le_trans hb ba.size) (fun k hk => (o.ge k hk).1)).setCell (p := ⟨p, 0, none⟩) hp _)

set_option maxHeartbeats 800000 in
theorem putLength_any (base p : Nat) (xs : List Int) (w : World) (h : PutCur w base p xs) (hb : base ≤ w.heap.size) (hx : xs.length ≤ 1048576) (m : Int) :
    Calls Try.prog 50 #[.pointer (some ⟨p, 0, none⟩), .int .i64 m] w fun e w' => e = .returned (.tuple #[]) ∧ PutCur w' base p (xs ++ [m]) ∧ Below base w w' := by
  obtain ⟨A, n, c, hh, o, hp⟩ := h
  have hl := o.len
  have hn : n ≤ 1048576 := by omega
  have c0 : w.cell? ⟨p, 0, none⟩ = some (.slice A n c) := cell_of_blk hh 0
  have ba : Below w.heap.size w (w.alloc (.cells #[.int .i64 m] 2)) := (Below.refl _ _).alloc (Nat.le_refl _) _
  have oa := o.below ba
  have ra := (own_one w m).irow
  have HH := Lib.hid hh
  clear hh hl
  go_enter Try.func50, Try.ntmps50
  go_wp2_with (first
    | (at_builtin
       refine wpList_append_ints rfl (.tmp 8) (.tmp 10) rfl rfl oa rfl ra (Nat.le_trans hb ba.size) (by omega) ?_
       intro A2 c2 w2 o2 g2 e2
       have R := Lib.hid (put_end HH.out o hp hb ba o2 g2)
       have d0 : w2.cell? ⟨p, 0, none⟩ = some (.slice A n c) := cell_of_blk R.out.1 0
       have f0 : w2.frozen? ⟨p, 0, none⟩ = false := free_of_blk R.out.1 0))
  go_end0
  exact ⟨rfl, R.out.2.1, R.out.2.2⟩

set_option maxHeartbeats 800000 in
theorem put_any (base p B : Nat) (xs ys : List Int) (A' : Option Addr) (m c' : Nat) (w : World) (h : PutCur w base p xs) (hb : base ≤ w.heap.size) (hr : IRow w B A' m ys) (hx : xs.length ≤ 1048576) (hm : m ≤ 1048577) :
    Calls Try.prog 52 #[.pointer (some ⟨p, 0, none⟩), .slice A' m c'] w fun e w' => e = .returned (.tuple #[]) ∧ PutCur w' base p (xs ++ ys) ∧ Below base w w' := by
  obtain ⟨A, n, c, hh, o, hp⟩ := h
  have hl := o.len
  have hn : n ≤ 1048576 := by omega
  have c0 : w.cell? ⟨p, 0, none⟩ = some (.slice A n c) := cell_of_blk hh 0
  have HH := Lib.hid hh
  clear hh hl
  go_enter Try.func52, Try.ntmps52
  go_wp2_with (first
    | (at_builtin
       refine wpList_append_ints rfl (.tmp 8) (.tmp 9) rfl rfl o rfl hr hb (by omega) ?_
       intro A2 c2 w2 o2 g2 e2
       have R := Lib.hid (put_end HH.out o hp hb (Below.refl _ _) o2 g2)
       have d0 : w2.cell? ⟨p, 0, none⟩ = some (.slice A n c) := cell_of_blk R.out.1 0
       have f0 : w2.frozen? ⟨p, 0, none⟩ = false := free_of_blk R.out.1 0))
  go_end0
  exact ⟨rfl, R.out.2.1, R.out.2.2⟩

theorem fits_any (base p : Nat) (xs : List Int) (w : World) (h : PutCur w base p xs) (hx : xs.length ≤ 1048576) (m : Int) :
    Calls Try.prog 51 #[.pointer (some ⟨p, 0, none⟩), .int .i64 m] w fun e w' => e = .returned (.bool (decide (m ≤ 48 - (xs.length : Int)))) ∧ w = w' := by
  obtain ⟨A, n, c, hh, o, hp⟩ := h
  have hl := o.len
  subst hl
  have c0 : w.cell? ⟨p, 0, none⟩ = some (.slice A xs.length c) := cell_of_blk hh 0
  clear hh o
  go_enter Try.func51, Try.ntmps51
  go_wp2
  go_ret
  exact ⟨rfl, rfl⟩

set_option maxHeartbeats 1600000 in
theorem iPack_any (A : Option Addr) (n c : Nat) (xss : List (List Int)) (w : World) (h : SRow w w.heap.size A n xss) (ht : tot xss ≤ 1048577) :
    Calls Try.prog 21 #[.slice A n c] w (MadeRow w (packed xss)) := by
  have hl := Lib.hid h.1
  have hn : n ≤ 1048577 := by have := hl.out; unfold tot at ht; omega
  have HT := Lib.hid ht
  clear ht
  have p0 : PutCur (w.alloc (.cells #[.slice none 0 0, .int .i64 0] 58)) w.heap.size w.heap.size [] :=
    ⟨none, 0, 0, heap_alloc_new w _, own_nil _ _, Nat.le_refl _⟩
  have b0 : Below w.heap.size w (w.alloc (.cells #[.slice none 0 0, .int .i64 0] 58)) := (Below.refl _ _).alloc (Nat.le_refl _) _
  go_enter Try.func21, Try.ntmps21
  go_wp2_with fail
  refine (putLength_any _ _ _ _ p0 b0.size (by simp) (n : Int)).mono ?_
  rintro e w1 ⟨rfl, p1, b1⟩
  have b01 := b0.trans b1
  rw [List.nil_append, ← hl.out, ← packTo_zero] at p1
  clear p0 b0 b1
  go_wp2
  go_loopw [14] (fun i wr => ∃ k : Nat, k ≤ n ∧ i = .int .i64 (k : Int) ∧ PutCur wr w.heap.size w.heap.size (packTo xss k) ∧ (k = 0 ∨ (packTo xss k).length ≤ 48) ∧ OkRows xss k ∧ Below w.heap.size w wr) (fun i _ => n - (intOf i).toNat)
  case atStart => exact ⟨0, Nat.zero_le _, rfl, p1, .inl rfl, OkRows.zero _, b01⟩
  case round =>
    obtain ⟨k, hk, rfl, hput, hm, hok, hbel⟩ := hrel
    have hm48 : (packTo xss k).length ≤ 48 := by
      rcases hm with rfl | h
      · rw [packTo_zero]; simp
      · exact h
    clear hm
    by_cases hlt : k < n
    · have hw := h.below hbel
      obtain ⟨b, off, rfl, hb, hc⟩ := hw.2 (by omega)
      obtain ⟨A', q, c', hcell, hrow, hmc, hcm⟩ := hc k hlt
      obtain ⟨r, hr⟩ : ∃ r, r = xss.getD k [] := ⟨_, rfl⟩
      rw [← hr] at hrow
      have hlr := Lib.hid hrow.1
      have HR := Lib.hid hr
      have hs := lensTo_succ (xss := xss) (k := k) (by have := hl.out; omega)
      have hmono := lensTo_mono (xss := xss) (j := k + 1) (k := xss.length) (by have := hl.out; omega) (Nat.le_refl _)
      have hq : q ≤ 1048577 := by
        have h1 := HT.out
        have h2 := hrow.1
        rw [hr] at h2
        unfold tot at h1
        omega
      have z := hbel.size
      obtain ⟨t, htl⟩ : ∃ t, t = packTo xss k := ⟨_, rfl⟩
      rw [← htl] at hput hm48
      have HTL := Lib.hid htl
      clear hc hs hmono hw hr htl
      cases hro : rowOk r
      · have HP := Lib.hid (packed_bad (xss := xss) (k := k) (by have := hl.out; omega) (by rw [← HR.out]; exact hro))
        go_wp2_with fail
        refine (iRowOk_any A' q c' _ r _ hrow hq).mono ?_
        rintro e w' ⟨rfl, rfl⟩
        rw [hro]
        go_wp2
        go_ret
        refine ⟨_, 0, 0, rfl, ?_, hbel⟩
        rw [HP.out]
        exact own_nil _ _
      · have HO := Lib.hid hro
        clear hro
        by_cases hfit : t.length + 1 + q ≤ 48
        · have HN := Lib.hid (packTo_succ (xss := xss) (k := k) (by have := hl.out; omega))
          have HK := Lib.hid (hok.succ (by rw [← HR.out]; exact HO.out))
          go_wp2_with fail
          refine (iRowOk_any A' q c' _ r _ hrow hq).mono ?_
          rintro e w' ⟨rfl, rfl⟩
          rw [HO.out]
          go_wp2_with fail
          refine (fits_any _ _ t _ hput (by omega) _).mono ?_
          rintro e w' ⟨rfl, rfl⟩
          rw [decide_eq_true (by omega)]
          go_wp2_with fail
          refine (putLength_any _ _ t _ hput z (by omega) (q : Int)).mono ?_
          rintro e w2 ⟨rfl, p2, b2⟩
          have b02 := hbel.trans b2
          have r2 := hrow.below b2
          go_wp2_with fail
          refine (put_any _ _ _ _ r A' q c' _ p2 b02.size r2 (by simp; omega) hq).mono ?_
          rintro e w3 ⟨rfl, p3, b3⟩
          have b03 := b02.trans b3
          have p3' : PutCur w3 w.heap.size w.heap.size (packTo xss (k + 1)) := by
            rw [HN.out, ← HR.out, ← HTL.out, hlr.out]; exact p3
          have hl3 : (packTo xss (k + 1)).length ≤ 48 := by
            rw [HN.out, ← HR.out, ← HTL.out]; simp; have := hlr.out; omega
          have L3 := Lib.hid hl3
          clear p2 b2 r2 p3 b3 hput hbel hl3
          go_wp2
          go_roundw
          case rel => exact ⟨k + 1, by omega, by go_num, p3', .inr L3.out, HK.out, b03⟩
          case measure => simp [intOf]; omega
        · have HP := Lib.hid (packed_long (xss := xss) (k := k) (by have := hl.out; omega) (by rw [← HTL.out, ← HR.out, hlr.out]; omega))
          go_wp2_with fail
          refine (iRowOk_any A' q c' _ r _ hrow hq).mono ?_
          rintro e w' ⟨rfl, rfl⟩
          rw [HO.out]
          go_wp2_with fail
          refine (fits_any _ _ t _ hput (by omega) _).mono ?_
          rintro e w' ⟨rfl, rfl⟩
          rw [decide_eq_false (by omega)]
          go_wp2
          go_ret
          refine ⟨_, 0, 0, rfl, ?_, hbel⟩
          rw [HP.out]
          exact own_nil _ _
    · have hkn : k = xss.length := by have := hl.out; omega
      have HP := Lib.hid (packed_end (xss := xss) (by rw [← hkn]; exact hok) (by rw [← hkn]; exact hm48))
      obtain ⟨G, m, d, hh, o, _⟩ := hput
      have c0 : wr.cell? ⟨w.heap.size, 0, none⟩ = some (.slice G m d) := cell_of_blk hh 0
      have O := Lib.hid o
      have HKN := Lib.hid hkn
      clear hh o hkn h
      go_wp2
      go_ret
      refine ⟨G, m, d, rfl, ?_, hbel⟩
      rw [HP.out, ← HKN.out]
      exact O.out

end Go.Proofs.Ytooahggehgkcdaa
