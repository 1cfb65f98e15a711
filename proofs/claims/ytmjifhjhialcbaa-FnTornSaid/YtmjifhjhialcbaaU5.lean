/- Parts of my texts: KB Same RowZ KT. -/
import Derived.Test.YtmjifhjhialcbaaU4
namespace Go.Proofs.Ytmjifhjhialcbaa
set_option maxRecDepth 100000
set_option linter.unusedVariables false
open Go.RowKit
def sumStep (s x : Int) : Int := (131 * s + x + 1) % 999999937
def sumTo (xs : List Int) (k : Nat) : Int := (xs.take k).foldl sumStep 7
def sumOf (xs : List Int) : Int := if rowOk xs = true then sumTo xs xs.length else -1
theorem sumTo_succ {xs : List Int} {k : Nat} (h : k < xs.length) : sumTo xs (k + 1) = sumStep (sumTo xs k) (xs.getD k 0) := by
 unfold sumTo
 rw [List.take_succ_eq_append_getElem h, List.foldl_append]
 simp [List.getD, List.getElem?_eq_getElem h]
theorem sumStep_bd (s x : Int) : 0 ≤ sumStep s x ∧ sumStep s x < 999999937 := by unfold sumStep; omega
theorem sumTo_bd (xs : List Int) (k : Nat) : 0 ≤ sumTo xs k ∧ sumTo xs k < 999999937 := by
 unfold sumTo
 rcases List.eq_nil_or_concat (xs.take k) with h | ⟨l, x, h⟩
 · rw [h]; decide
 · rw [h, List.concat_eq_append, List.foldl_append]; exact sumStep_bd _ _
theorem rowOk_num {xs : List Int} (h : rowOk xs = true) (k : Nat) : 0 ≤ xs.getD k 0 ∧ xs.getD k 0 ≤ 1000000000 := by
 by_cases hk : k < xs.length
 · simp only [rowOk, Bool.and_eq_true, decide_eq_true_eq, List.all_eq_true] at h
   have := h.2 (xs.getD k 0) (by simp [List.getD, List.getElem?_eq_getElem hk])
   simpa [numOk] using this
 · simp [List.getD, List.getElem?_eq_none (show xs.length ≤ k by omega)]
theorem rowOk_lenS {xs : List Int} (h : rowOk xs = true) : xs.length ≤ 48 := by
 simp only [rowOk, Bool.and_eq_true, decide_eq_true_eq] at h
 exact h.1
set_option maxHeartbeats 400000 in
theorem iSum_any (A : Option Addr) (n c B : Nat) (xs : List Int) (w : World) (h : IRow w B A n xs) (hn : n ≤ 1048577) :
    Calls Try.prog 40 #[.slice A n c] w fun e w' => e = .returned (.int .i64 (sumOf xs)) ∧ w = w' := by
 have hl := jd h.1
 cases hr : rowOk xs
 · have HS := jd (show sumOf xs = -1 by simp [sumOf, hr])
   go_enter Try.func40, Try.ntmps40
   go_wp2_with fail
   refine (iRowOk_any A n c B xs _ h hn).mono ?_
   rintro e w' ⟨rfl, rfl⟩
   rw [hr]
   go_wp2
   go_ret
   exact ⟨ret_i64 HS.out.symm, rfl⟩
 · have HS := jd (show sumOf xs = sumTo xs xs.length by simp [sumOf, hr])
   have HR := jd hr
   have h48 : n ≤ 48 := by rw [← hl.out]; exact rowOk_lenS hr
   clear hr
   go_enter Try.func40, Try.ntmps40
   go_wp2_with fail
   refine (iRowOk_any A n c B xs _ h hn).mono ?_
   rintro e w' ⟨rfl, rfl⟩
   rw [HR.out]
   go_wp2
   go_loop [3, 11] (fun s i => ∃ k : Nat, k ≤ n ∧ i = .int .i64 k ∧ s = .int .i64 (sumTo xs k)) (fun _ i => n - (intOf i).toNat)
   case atStart => exact ⟨0, Nat.zero_le _, rfl, rfl⟩
   case round =>
    obtain ⟨k, hk, rfl, rfl⟩ := hrel
    by_cases hlt : k < n
    · obtain ⟨b, off, rfl, hb, hc⟩ := h.2 (by omega)
      have hcell := hc k hlt
      have hbd := sumTo_bd xs k
      have hnum := rowOk_num HR.out k
      have HN := jd (sumTo_succ (xs := xs) (k := k) (by have := hl.out; omega))
      generalize xs.getD k 0 = x at hcell hnum HN
      generalize sumTo xs k = s at hbd HN
      obtain ⟨s0, s1⟩ := hbd
      obtain ⟨x0, x1⟩ := hnum
      clear hc h
      go_wp2
      go_round
      case rel => exact ⟨k + 1, by omega, by go_num, by rw [HN.out]; rfl⟩
      case measure => simp [intOf]; omega
    · go_wp2
      go_ret
      have hkn : k = xs.length := by have := hl.out; omega
      exact ⟨ret_i64 (by rw [HS.out, hkn]), rfl⟩
end Go.Proofs.Ytmjifhjhialcbaa
namespace Go.Proofs.Ytmjifhjhialcbaa
set_option maxRecDepth 100000
open Go.RowKit
def withSum (xs : List Int) : List Int := if rowOk xs = true ∧ xs.length < 48 then xs ++ [sumOf xs] else []
theorem withSum_yes {xs : List Int} (h : rowOk xs = true) (hl : xs.length < 48) : withSum xs = xs ++ [sumOf xs] := by simp [withSum, h, hl]
theorem withSum_no {xs : List Int} (h : rowOk xs = false) : withSum xs = [] := by simp [withSum, h]
theorem withSum_long {xs : List Int} (hl : 48 ≤ xs.length) : withSum xs = [] := by
 unfold withSum
 rw [if_neg (by omega)]
theorem own_nil (w : World) (base : Nat) : Own w base none 0 0 [] := World.ownsRow_nil _ _ _ _
set_option maxHeartbeats 800000 in
theorem iWith_any (A : Option Addr) (n c : Nat) (xs : List Int) (w : World) (h : IRow w w.heap.size A n xs) (hn : n ≤ 1048577) :
    Calls Try.prog 14 #[.slice A n c] w (MadeRow w (withSum xs)) := by
 have hl := jd h.1
 by_cases h48 : 48 ≤ n
 · have HW := jd (withSum_long (xs := xs) (by rw [hl.out]; exact h48))
   clear h
   go_enter Try.func14, Try.ntmps14
   go_wp2
   go_ret
   refine ⟨_, 0, 0, rfl, ?_, Below.refl _ _⟩
   rw [HW.out]
   exact own_nil _ _
 · cases hr : rowOk xs
   · have HW := jd (withSum_no hr)
     go_enter Try.func14, Try.ntmps14
     go_wp2_with fail
     refine (iRowOk_any A n c _ xs _ h hn).mono ?_
     rintro e w' ⟨rfl, rfl⟩
     rw [hr]
     go_wp2
     go_ret
     refine ⟨_, 0, 0, rfl, ?_, Below.refl _ _⟩
     rw [HW.out]
     exact own_nil _ _
   · have HW := jd (withSum_yes hr (by rw [hl.out]; omega))
     have HR := jd hr
     clear hr
     have hmk := run_make_row' (P := Try.prog) 30 2 (.int .i64 0) 8 Try.underlying30 info64 rfl .i64 .i64 (n + 1) (by omega) (by omega)
     rw [show (((n + 1 : Nat)) : Int) = (n : Int) + 1 from by omega] at hmk
     have ho : Own (w.alloc (.cells (madeCells #[.int .i64 0] (n + 1)) 2)) w.heap.size (some ⟨w.heap.size, 0, none⟩) (n + 1) (n + 1) (List.replicate (n + 1) 0) := by
      have := World.ownsRow_lit (base := w.heap.size) (e := 2) (size := 1) w (madeCells #[.int .i64 0] (n + 1)) (n + 1) (Nat.le_refl _) (by simp only [maxLen]; omega) (by rw [size_madeCells]; omega)
      rw [toList_madeCells_one] at this
      simpa [Own, ivals] using this
     have hb : Below w.heap.size w (w.alloc (.cells (madeCells #[.int .i64 0] (n + 1)) 2)) := (Below.refl _ _).alloc (Nat.le_refl _) _
     have hr := h.below hb
     go_enter Try.func14, Try.ntmps14
     go_wp2_with fail
     refine (iRowOk_any A n c _ xs _ h hn).mono ?_
     rintro e w' ⟨rfl, rfl⟩
     rw [HR.out]
     go_wp2_with (with_reducible refine wpList_copy_ints rfl (.tmp 16) (.tmp 17) rfl rfl ho rfl hr (by omega) (by simp only [maxLen]; omega) hb ?_; intro w1 o1 b1)
     refine (iSum_any A n c _ xs _ (h.below b1) hn).mono ?_
     rintro e w1' ⟨rfl, rfl⟩
     generalize sumOf xs = s at HW
     have hold : w1.cell? ⟨w.heap.size, n, none⟩ = some (.int .i64 0) := by
      rw [World.ownsRow.cellAt o1 n (by omega), ivals_get, List.getElem?_append_right (by have := hl.out; omega), hl.out, Nat.sub_self]
      simp
     have hfr : w1.frozen? ⟨w.heap.size, n, none⟩ = false := World.ownsRow.frozenAt o1 n
     have R := jd (World.ownsRow.stored o1 n (.int .i64 s)).1
     have R2 := jd (b1.setCell (p := ⟨w.heap.size, n, none⟩) (Nat.le_refl _) (.int .i64 s))
     clear hmk ho hb hr o1 b1 h
     have i0 : (0 : Int) ≤ (n : Int) := by omega
     go_wp2
     go_ret
     refine ⟨_, n + 1, n + 1, rfl, ?_, R2.out⟩
     rw [HW.out]
     have h1 := R.out
     have h2 : (ivals (xs ++ (List.replicate (n + 1) 0).drop n)).set n (.int .i64 s) = ivals (xs ++ [s]) := by
      have e1 : (List.replicate (n + 1) (0 : Int)).drop n = [0] := by simp
      rw [e1]
      have e2 : ivals (xs ++ [0]) = ivals xs ++ [.int .i64 0] := by simp [ivals]
      rw [e2, List.set_append_right _ _ (by rw [ivals_length, hl.out]; omega), ivals_length, hl.out, Nat.sub_self]
      simp [ivals]
     rw [h2] at h1
     exact h1
end Go.Proofs.Ytmjifhjhialcbaa
namespace Go.Proofs.Ytmjifhjhialcbaa
set_option maxRecDepth 100000
open Go.RowKit
def lastOk (xs : List Int) : Bool := decide (sumOf (xs.take (xs.length - 1)) = xs.getD (xs.length - 1) 0)
def unsummed (xs : List Int) : List Int × Bool :=
 if rowOk xs = true ∧ 0 < xs.length ∧ lastOk xs = true then (xs.take (xs.length - 1), true) else ([], false)
theorem unsummed_yes {xs : List Int} {m : Nat} (h : rowOk xs = true) (hl : xs.length = m + 1) (hs : sumOf (xs.take m) = xs.getD m 0) : unsummed xs = (xs.take m, true) := by
 have e : xs.length - 1 = m := by omega
 unfold unsummed lastOk
 rw [e, if_pos ⟨h, by omega, by simpa using hs⟩]
theorem unsummed_no {xs : List Int} (h : rowOk xs = false) : unsummed xs = ([], false) := by simp [unsummed, h]
theorem unsummed_nil {xs : List Int} (h : xs.length = 0) : unsummed xs = ([], false) := by
 unfold unsummed
 rw [if_neg (by omega)]
theorem unsummed_bad {xs : List Int} {m : Nat} (hl : xs.length = m + 1) (hs : sumOf (xs.take m) ≠ xs.getD m 0) : unsummed xs = ([], false) := by
 have e : xs.length - 1 = m := by omega
 unfold unsummed lastOk
 rw [e, if_neg]
 rintro ⟨_, _, h⟩
 exact hs (by simpa using h)
theorem IRow.take {w : World} {B : Nat} {A : Option Addr} {n k : Nat} {xs : List Int} (h : IRow w B A n xs) (hk : k ≤ n) : IRow w B A k (xs.take k) := by
 have hl := h.1
 refine ⟨by simp; omega, fun h0 => ?_⟩
 obtain ⟨b, off, rfl, hb, hc⟩ := h.2 (by omega)
 refine ⟨b, off, rfl, hb, fun j hj => ?_⟩
 rw [hc j (by omega)]
 simp [List.getD, hj]
def MadeRowB (w : World) (r : List Int × Bool) (e : Ending) (w' : World) : Prop :=
 ∃ A n c, e = .returned (.tuple #[.slice A n c, .bool r.2]) ∧ Own w' w.heap.size A n c r.1 ∧ Below w.heap.size w w'
theorem quiet_id {f : FuncId} {args : Array Value} {w : World} {n : Nat} {v : Value} (h : Calls Try.prog f args (w.drewN n) fun e w' => e = .returned v ∧ w.drewN n = w') :
    Calls Try.prog f args (w.drewN n) fun e w'' => e = .returned v ∧ ∃ m, w'' = w.drewN m := h.mono fun _ _ ⟨he, hm⟩ => ⟨he, n, hm.symm⟩
set_option maxHeartbeats 800000 in
theorem iUns_any (A : Option Addr) (n c : Nat) (xs : List Int) (w : World) (h : IRow w w.heap.size A n xs) (hn : n ≤ 1048577) (hcap : n ≤ c) :
    Calls Try.prog 19 #[.slice A n c] w (MadeRowB w (unsummed xs)) := by
 have hl := jd h.1
 rcases n with _ | m
 · have HW := jd (unsummed_nil (xs := xs) hl.out)
   clear h
   go_enter Try.func19, Try.ntmps19
   go_wp2
   go_ret2
   refine ⟨_, 0, 0, by rw [HW.out]; rfl, ?_, Below.refl _ _⟩
   rw [HW.out]
   exact own_nil _ _
 · have hne : (((m : Int) + 1) == 0) = false := by simp; omega
   cases hr : rowOk xs
   · have HW := jd (unsummed_no hr)
     go_enter Try.func19, Try.ntmps19
     go_wp2_with fail
     refine (iRowOk_any A (m + 1) c _ xs _ h hn).mono ?_
     rintro e w' ⟨rfl, rfl⟩
     rw [hr]
     go_wp2
     go_ret2
     refine ⟨_, 0, 0, by rw [HW.out]; rfl, ?_, Below.refl _ _⟩
     rw [HW.out]
     exact own_nil _ _
   · have HR := jd hr
     clear hr
     obtain ⟨b, off, rfl, hb, hc⟩ := h.2 (by omega)
     have hcell := hc m (by omega)
     obtain ⟨x, hx⟩ : ∃ x, x = xs.getD m 0 := ⟨_, rfl⟩
     rw [← hx] at hcell
     have HX := jd hx
     clear hx hc
     have i1 : (m : Int) ≤ (c : Int) := by omega
     have i2 : (0 : Int) ≤ (m : Int) := by omega
     have i3 : (m : Int) < (m : Int) + 1 := by omega
     have hs := iSum_any (some ⟨b, off, none⟩) m c w.heap.size (xs.take m)
     have HS := jd hs
     clear hs
     go_enter Try.func19, Try.ntmps19
     go_wp2_with fail
     refine (iRowOk_any _ (m + 1) c _ xs _ h hn).mono ?_
     rintro e w' ⟨rfl, rfl⟩
     rw [HR.out]
     by_cases hsx : sumOf (xs.take m) = x
     · have HU := jd (unsummed_yes (xs := xs) (m := m) HR.out hl.out (by rw [hsx, HX.out]))
       have HE := jd hsx
       clear hsx
       go_wp2_with fail
       go_quiet ((go_at_call 40; exact quiet_id ((HS.out _ ((h.take (by omega)).drewN _) (by omega)).mono (fun _ _ p => ⟨p.1.trans (by rw [HE.out]), p.2⟩))))
       go_wp2_with fail
       refine (iCopy_any _ m c (xs.take m) _ ((h.take (by omega)).drewN _) (by omega)).mono ?_
       rintro e w1 ⟨A1, n1, c1, rfl, o1, b1⟩
       obtain rfl : m = n1 := by rw [← o1.len]; simp; have := hl.out; omega
       go_wp2
       go_ret2
       refine ⟨A1, m, c1, by rw [HU.out]; rfl, ?_, (below_drewN (Below.refl _ _) _).trans b1⟩
       rw [HU.out]
       exact o1
     · have HU := jd (unsummed_bad (xs := xs) (m := m) hl.out (by rw [← HX.out]; exact hsx))
       generalize hy : sumOf (xs.take m) = y at hsx
       have HE := jd hy
       clear hy
       have hne2 : (y != x) = true := by simpa using hsx
       clear hsx
       go_wp2_with fail
       go_quiet ((go_at_call 40; exact quiet_id ((HS.out _ ((h.take (by omega)).drewN _) (by omega)).mono (fun _ _ p => ⟨p.1.trans (by rw [HE.out]), p.2⟩))))
       go_wp2
       go_ret2
       refine ⟨_, 0, 0, by rw [HU.out]; rfl, ?_, below_drewN (Below.refl _ _) _⟩
       rw [HU.out]
       exact own_nil _ _
end Go.Proofs.Ytmjifhjhialcbaa
namespace Go.Proofs.Ytmjifhjhialcbaa
set_option maxRecDepth 100000
theorem rowOk_iffS {xs : List Int} : rowOk xs = true ↔ xs.length ≤ 48 ∧ ∀ x ∈ xs, 0 ≤ x ∧ x ≤ 1000000000 := by
 simp [rowOk, numOk]
theorem sumOf_bd {xs : List Int} (h : rowOk xs = true) : 0 ≤ sumOf xs ∧ sumOf xs ≤ 1000000000 := by
 have := sumTo_bd xs xs.length
 simp only [sumOf, h, if_true]
 omega
theorem rowOk_snoc {xs : List Int} (h : rowOk xs = true) (hl : xs.length < 48) {s : Int} (s0 : 0 ≤ s) (s1 : s ≤ 1000000000) : rowOk (xs ++ [s]) = true := by
 rw [rowOk_iffS] at h ⊢
 refine ⟨by simp; omega, fun x hx => ?_⟩
 rcases List.mem_append.1 hx with h1 | h1
 · exact h.2 x h1
 · simp at h1; subst h1; exact ⟨s0, s1⟩
end Go.Proofs.Ytmjifhjhialcbaa
namespace Go.Proofs.Ytmjifhjhialcbaa
set_option maxRecDepth 100000
set_option linter.unusedVariables false
open Go.RowKit
def sameI (xs ys : List Int) : Bool := decide (xs = ys)
theorem sameI_len {xs ys : List Int} (h : xs.length ≠ ys.length) : sameI xs ys = false := by
 simp only [sameI, decide_eq_false_iff_not]
 intro e; exact h (by rw [e])
theorem sameI_bad {xs ys : List Int} {k : Nat} (h : xs.getD k 0 ≠ ys.getD k 0) : sameI xs ys = false := by
 simp only [sameI, decide_eq_false_iff_not]
 intro e; exact h (by rw [e])
def EqTo (xs ys : List Int) (k : Nat) : Prop := ∀ j, j < k → xs.getD j 0 = ys.getD j 0
theorem EqTo.zero (xs ys : List Int) : EqTo xs ys 0 := fun j hj => absurd hj (by omega)
theorem EqTo.succ {xs ys : List Int} {k : Nat} (h : EqTo xs ys k) (hk : xs.getD k 0 = ys.getD k 0) : EqTo xs ys (k + 1) := by
 intro j hj
 by_cases e : j = k
 · subst e; exact hk
 · exact h j (by omega)
theorem sameI_end {xs ys : List Int} (hl : xs.length = ys.length) (h : EqTo xs ys xs.length) : sameI xs ys = true := by
 simp only [sameI, decide_eq_true_eq]
 apply List.ext_getElem hl
 intro j h1 h2
 have := h j h1
 simpa [List.getD, List.getElem?_eq_getElem h1, List.getElem?_eq_getElem h2] using this
set_option maxHeartbeats 400000 in
theorem iSame_any (A A' : Option Addr) (n m c c' B B' : Nat) (xs ys : List Int) (w : World) (h : IRow w B A n xs) (h' : IRow w B' A' m ys) (hn : n ≤ 1048577) (hm : m ≤ 1048577) :
    Calls Try.prog 46 #[.slice A n c, .slice A' m c'] w fun e w' => e = .returned (.bool (sameI xs ys)) ∧ w = w' := by
 have hl := jd h.1
 have hl' := jd h'.1
 by_cases hnm : n = m
 · subst hnm
   go_enter Try.func46, Try.ntmps46
   go_wp2
   go_loop [14] (fun i => ∃ k : Nat, k ≤ n ∧ i = .int .i64 k ∧ EqTo xs ys k) (fun i => n - (intOf i).toNat)
   case atStart => exact ⟨0, Nat.zero_le _, rfl, EqTo.zero _ _⟩
   case round =>
    obtain ⟨k, hk, rfl, he⟩ := hrel
    by_cases hlt : k < n
    · obtain ⟨b, off, rfl, hb, hc⟩ := h.2 (by omega)
      obtain ⟨b', off', rfl, hb', hc'⟩ := h'.2 (by omega)
      have hcell := hc k hlt
      have hcell' := hc' k hlt
      obtain ⟨x, hx⟩ : ∃ x, x = xs.getD k 0 := ⟨_, rfl⟩
      obtain ⟨y, hy⟩ : ∃ y, y = ys.getD k 0 := ⟨_, rfl⟩
      rw [← hx] at hcell
      rw [← hy] at hcell'
      have HX := jd hx
      have HY := jd hy
      clear hc hc' h h' hx hy
      by_cases hxy : x = y
      · have HE := jd (he.succ (by rw [← HX.out, ← HY.out]; exact hxy))
        subst hxy
        go_wp2
        go_round
        case rel => exact ⟨k + 1, by omega, by go_num, HE.out⟩
        case measure => simp [intOf]; omega
      · have HE := jd (sameI_bad (xs := xs) (ys := ys) (k := k) (by rw [← HX.out, ← HY.out]; exact hxy))
        have hne : (x != y) = true := by simpa using hxy
        clear hxy
        go_wp2
        go_ret
        exact ⟨ret_bool HE.out.symm, rfl⟩
    · go_wp2
      go_ret
      exact ⟨ret_bool (sameI_end (by rw [hl.out, hl'.out]) (by rw [hl.out]; intro j hj; exact he j (by omega))).symm, rfl⟩
 · have HE := jd (sameI_len (xs := xs) (ys := ys) (by rw [hl.out, hl'.out]; exact hnm))
   have hne : ((n : Int) != (m : Int)) = true := by simp; omega
   clear h h'
   go_enter Try.func46, Try.ntmps46
   go_wp2
   go_ret
   exact ⟨ret_bool HE.out.symm, rfl⟩
theorem rdI {w : World} {B : Nat} {xs : List Int} {A : Option Addr} {n c : Nat} (h : Rd w B (rowCells xs) [.slice A n c]) : IRow w B A n xs ∧ n ≤ c ∧ c ≤ maxLen := by
 obtain ⟨_, _, _, e, hi, h1, h2⟩ := h.irow
 injection e with e1 e2 e3
 subst e1 e2 e3
 exact ⟨hi, h1, h2⟩
theorem rdI_len {w : World} {B : Nat} {xs : List Int} {A : Option Addr} {n c : Nat} (h : Rd w B (rowCells xs) [.slice A n c]) : xs.length = n := (rdI h).1.1
section
variable (A : Option Addr) (n c : Nat) (xs : List Int) (w : World)
theorem iUnsD (h : Rd w w.heap.size (rowCells xs) [.slice A n c]) (hs : xs.length ≤ 1048577) :
    Calls Try.prog 19 #[.slice A n c] w fun e w' => ∃ A' n' c', e = .returned (.tuple #[.slice A' n' c', .bool (unsummed xs).2]) ∧ Has w' w.heap.size (rowCells (unsummed xs).1) [.slice A' n' c'] ∧ Below w.heap.size w w' := by
 obtain ⟨hi, h1, _⟩ := rdI h
 refine (iUns_any A n c xs w hi (by rw [← hi.1]; exact hs) h1).mono ?_
 rintro e w1 ⟨A', n', c', rfl, o, b⟩
 exact ⟨A', n', c', rfl, o.has, b⟩
theorem iWithD (h : Rd w w.heap.size (rowCells xs) [.slice A n c]) (hs : xs.length ≤ 1048577) :
    Calls Try.prog 14 #[.slice A n c] w fun e w' => ∃ A' n' c', e = .returned (.slice A' n' c') ∧ Has w' w.heap.size (rowCells (withSum xs)) [.slice A' n' c'] ∧ Below w.heap.size w w' := by
 obtain ⟨hi, h1, _⟩ := rdI h
 refine (iWith_any A n c xs w hi (by rw [← hi.1]; exact hs)).mono ?_
 rintro e w1 ⟨A', n', c', rfl, o, b⟩
 exact ⟨A', n', c', rfl, o.has, b⟩
variable (A' : Option Addr) (n' c' : Nat) (ys : List Int) (B B' : Nat)
theorem iSameD (h : Rd w B (rowCells xs) [.slice A n c]) (h' : Rd w B' (rowCells ys) [.slice A' n' c']) (hs : xs.length ≤ 1048577) (hs' : ys.length ≤ 1048577) :
    Calls Try.prog 46 #[.slice A n c, .slice A' n' c'] w fun e w' => e = .returned (.bool (sameI xs ys)) ∧ Below w.heap.size w w' := by
 obtain ⟨hi, _⟩ := rdI h
 obtain ⟨hj, _⟩ := rdI h'
 refine (iSame_any A A' n n' c c' B B' xs ys w hi hj (by rw [← hi.1]; exact hs) (by rw [← hj.1]; exact hs')).mono ?_
 rintro e w1 ⟨rfl, rfl⟩
 exact ⟨rfl, Below.refl _ _⟩
end
end Go.Proofs.Ytmjifhjhialcbaa
namespace Go.Proofs.Ytmjifhjhialcbaa
set_option maxRecDepth 100000
set_option linter.unusedVariables false
open Go.RowKit
structure TwoM where
 a : DiskM
 b : DiskM
def TwoM.cells (t : TwoM) : List Dat := t.a.cells ++ t.b.cells
section
variable {w : World} {B : Nat} {t : TwoM} {v0 v1 v2 v3 : Value}
end
end Go.Proofs.Ytmjifhjhialcbaa
namespace Go.Proofs.Ytmjifhjhialcbaa
set_option maxRecDepth 100000
open Go.RowKit
theorem ok_sz9 {d : DiskM} (h : diskOk d = true) : d.sz ≤ 4900 := by
 have h1 := rows_sz_le (ok_kept_len h) (diskOk_iff.1 h).1.2
 have h2 := wait_sz_le (fun p hp => (ok_wait h p hp).2) (diskOk_iff.1 h).2.1
 unfold DiskM.sz
 omega
/-! ### Valid pairs stay valid -/
/-! ### Sizes -/
/-! ### Every second number -/
end Go.Proofs.Ytmjifhjhialcbaa
namespace Go.Proofs.Ytmjifhjhialcbaa
set_option maxRecDepth 100000
open Go.RowKit
end Go.Proofs.Ytmjifhjhialcbaa
namespace Go.Proofs.Ytmjifhjhialcbaa
set_option maxRecDepth 100000
open Go.RowKit
end Go.Proofs.Ytmjifhjhialcbaa
