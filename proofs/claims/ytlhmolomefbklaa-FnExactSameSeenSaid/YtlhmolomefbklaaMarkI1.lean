/-
  Chapter 9, the program: a comparison of marks by their clients; the table of a list of marks; the greatest index of a table; the mark of a client in a table.
-/
import Derived.Test.YtlhmolomefbklaaTab
import Derived.Test.YtlhmolomefbklaaMove
import Derived.RegionTactic
import Derived.BigQuiet
namespace Go.Proofs.Ytlhmolomefbklaa
set_option maxRecDepth 100000
open Go.RowKit

def cmpI (x y : Int) : Int := if x < y then -1 else if y < x then 1 else 0
theorem iNaN_any (x : Int) (w : World) : Calls Try.prog 76 #[.int .i64 x] w fun e w' => e = .returned (.bool false) ∧ w' = w := by
  go_enter Try.func76, Try.ntmps76
  go_wp2
  go_ret
  exact ⟨ret_bool (by simp), rfl⟩
theorem iCompare_any (x y : Int) (w : World) : Calls Try.prog 70 #[.int .i64 x, .int .i64 y] w fun e w' => e = .returned (.int .i64 (cmpI x y)) ∧ w' = w := by
  have h1 := iNaN_any x w
  have h2 := iNaN_any y w
  by_cases a : x < y
  case pos =>
    have HV := Lib.hid (show cmpI x y = -1 by unfold cmpI; rw [if_pos a])
    go_enter Try.func70, Try.ntmps70
    go_wp2_with fail
    refine h1.mono ?_
    rintro e w' ⟨rfl, rfl⟩
    go_wp2_with fail
    refine h2.mono ?_
    rintro e w' ⟨rfl, rfl⟩
    go_wp2
    go_ret
    exact ⟨by first | (rw [HV.out]; done) | (rw [HV.out]; rfl), rfl⟩
  case neg =>
  by_cases b : y < x
  case pos =>
    have HV := Lib.hid (show cmpI x y = 1 by unfold cmpI; rw [if_neg a, if_pos b])
    go_enter Try.func70, Try.ntmps70
    go_wp2_with fail
    refine h1.mono ?_
    rintro e w' ⟨rfl, rfl⟩
    go_wp2_with fail
    refine h2.mono ?_
    rintro e w' ⟨rfl, rfl⟩
    go_wp2
    go_ret
    exact ⟨by first | (rw [HV.out]; done) | (rw [HV.out]; rfl), rfl⟩
  case neg =>
    have HV := Lib.hid (show cmpI x y = 0 by unfold cmpI; rw [if_neg a, if_neg b])
    go_enter Try.func70, Try.ntmps70
    go_wp2_with fail
    refine h1.mono ?_
    rintro e w' ⟨rfl, rfl⟩
    go_wp2_with fail
    refine h2.mono ?_
    rintro e w' ⟨rfl, rfl⟩
    go_wp2
    go_ret
    exact ⟨by first | (rw [HV.out]; done) | (rw [HV.out]; rfl), rfl⟩

/-- The marks, each at its index: of two with one index the later one. -/
def tabOf (l : List MarkM) : List MarkM := l.foldl putT []
theorem tabOf_step {l : List MarkM} {j : Nat} (hj : j < l.length) : tabOf (l.take (j + 1)) = putT (tabOf (l.take j)) l[j] := by
  unfold tabOf
  rw [List.take_succ_eq_append_getElem hj, List.foldl_append]
  rfl
theorem fold_apart : ∀ (l a : List MarkM), Apart (a ++ l) → l.foldl putT a = a ++ l
  | [], a, _ => by simp
  | x :: t, a, h => by
    have h1 : putT a x = a ++ [x] := by
      unfold putT delT
      rw [List.filter_eq_self.2 fun m hm => ?_]
      unfold Apart at h
      rw [List.pairwise_append] at h
      simpa using h.2.2 m hm x (by simp)
    rw [List.foldl_cons, h1, fold_apart t (a ++ [x]) (by simpa using h)]
    simp
theorem tabOf_apart {l : List MarkM} (h : Apart l) : tabOf l = l := by
  unfold tabOf
  rw [fold_apart l [] (by simpa using h)]
  simp
theorem putT_len (l : List MarkM) (x : MarkM) : (putT l x).length ≤ l.length + 1 := by
  unfold putT delT
  rw [List.length_append, List.length_singleton]
  have := List.length_filter_le (fun m : MarkM => decide (m.mi ≠ x.mi)) l
  omega
theorem fold_len : ∀ (l a : List MarkM), (l.foldl putT a).length ≤ a.length + l.length
  | [], a => by simp
  | x :: t, a => by
    have := fold_len t (putT a x)
    have := putT_len a x
    rw [List.foldl_cons, List.length_cons]
    omega
theorem tabOf_len (l : List MarkM) : (tabOf l).length ≤ l.length := by
  have := fold_len l []
  simpa [tabOf] using this
/-- Fewer than the list has, just if two of it have one index. -/
theorem fold_less : ∀ (l a : List MarkM), Apart a → (l.foldl putT a).length = a.length + l.length → Apart (a ++ l)
  | [], a, ha, _ => by simpa using ha
  | x :: t, a, ha, h => by
    rw [List.foldl_cons] at h
    have h1 := fold_len t (putT a x)
    have h2 := putT_len a x
    rw [List.length_cons] at h
    have h3 : (putT a x).length = a.length + 1 := by omega
    have h4 := fold_less t (putT a x) (put_apart ha x) (by omega)
    have h5 : putT a x = a ++ [x] := by
      unfold putT delT at h3 ⊢
      rw [List.length_append, List.length_singleton] at h3
      rw [List.filter_eq_self.2]
      have h6 : ((a.filter fun m => decide (m.mi ≠ x.mi)).length) = a.length := by omega
      exact List.length_filter_eq_length_iff.1 h6
    rw [h5] at h4
    simpa using h4
theorem tabOf_all {l : List MarkM} : (tabOf l).length = l.length ↔ Apart l := by
  constructor
  · intro h
    have := fold_less l [] List.Pairwise.nil (by simpa [tabOf] using h)
    simpa using this
  · intro h
    rw [tabOf_apart h]

set_option maxHeartbeats 3200000 in
theorem iTable_any (A : Option Addr) (n cc B : Nat) (l : List MarkM) (w : World) (h : Rd w B [mrkD l] [.slice A n cc]) (hB : B ≤ w.heap.size) (hs : mrkSz l ≤ 1048577) (hf : ∀ m ∈ l, w64 m.mi) :
    Calls Try.prog 42 #[.slice A n cc] w fun e w' => e = .returned (.map (some w.heap.size)) ∧ Tab w' w.heap.size (tabOf l) ∧ Below w.heap.size w w' := by
  obtain ⟨_, _, _, e, hl, _, _, hel⟩ := h.mrks
  injection e with e1 e2 e3
  subst e1 e2 e3
  have hn : n ≤ 1048577 := by unfold mrkSz at hs; omega
  have HL := Lib.hid hl
  have HF := Lib.hid hf
  have T0 := Lib.hid (Tab.made w)
  have C0 := Lib.hid ((Below.refl w.heap.size w).alloc (Nat.le_refl _) (.map #[] 0))
  clear h hl hf hs
  have hmm := @run_makeMap Try.prog
  go_enter Try.func42, Try.ntmps42
  go_wp2
  go_loopw [9] (fun i wr => ∃ j : Nat, j ≤ n ∧ i = .int .i64 (j : Int) ∧ Tab wr w.heap.size (tabOf (l.take j)) ∧ Below w.heap.size w wr) (fun i _ => n - (intOf i).toNat)
  case atStart => exact ⟨0, Nat.zero_le _, rfl, T0.out, C0.out⟩
  case round =>
    obtain ⟨j, hj, rfl, T, c⟩ := hrel
    clear T0 C0
    by_cases hlt : j < n
    case neg =>
      obtain rfl : j = n := by omega
      have HT := Lib.hid (show Tab wr w.heap.size (tabOf l) by have := T; rwa [show l.take j = l from by rw [← HL.out, List.take_length]] at this)
      have CC := Lib.hid c
      clear hel T c
      go_wp2
      go_ret
      exact ⟨rfl, HT.out, CC.out⟩
    case pos =>
      have hjl : j < l.length := by have := HL.out; omega
      obtain ⟨b, off, rfl, hb, hc⟩ := hel (by omega)
      obtain ⟨hc0, hc1, hc2⟩ := hc j hjl
      have cs0 := (c.cell (p := ⟨b, off + j * 3, none⟩) (show b < _ by omega)).trans hc0
      obtain ⟨x0, hx0⟩ : ∃ p, p = l[j].mc := ⟨_, rfl⟩
      rw [← hx0] at cs0
      have cs1 := (c.cell (p := ⟨b, off + j * 3 + 1, none⟩) (show b < _ by omega)).trans hc1
      obtain ⟨x1, hx1⟩ : ∃ p, p = l[j].ms := ⟨_, rfl⟩
      rw [← hx1] at cs1
      have cs2 := (c.cell (p := ⟨b, off + j * 3 + 2, none⟩) (show b < _ by omega)).trans hc2
      obtain ⟨x2, hx2⟩ : ∃ p, p = l[j].mi := ⟨_, rfl⟩
      rw [← hx2] at cs2
      have HW := Lib.hid (show w64 x2 by rw [hx2]; exact HF.out _ (List.getElem_mem hjl))
      have HS := Lib.hid (show tabOf (l.take (j + 1)) = putT (tabOf (l.take j)) ⟨x0, x1, x2⟩ by rw [tabOf_step hjl, hx0, hx1, hx2])
      have HN := Lib.hid (show (tabOf (l.take j)).length < maxLen by
        have h1 := tabOf_len (l.take j)
        rw [List.length_take] at h1
        have : (1048577 : Nat) < maxLen := by decide
        omega)
      have TT := Lib.hid (T.keep ((Below.refl wr.heap.size wr).alloc (Nat.le_refl _) (.cells #[.int .i64 x0, .int .i64 x1, .int .i64 x2] 30)) T.lt)
      have CC := Lib.hid (c.alloc c.size (.cells #[.int .i64 x0, .int .i64 x1, .int .i64 x2] 30))
      clear hc hc0 hc1 hc2 hel hx0 hx1 hx2 T c
      go_wp2_with (first
        | (at_mapUpdate
           refine wpList_put_tab rfl (.tmp 13) (.tmp 15) (.tmp 16) 62 30 (by rfl) Try.underlying62 (by rfl) TT.out HN.out ⟨x0, x1, x2⟩ (by rfl) (by rfl) HW.out ?_
           intro w3 t3 g3))
      have C3 := Lib.hid (CC.out.grown g3 CC.out.size (fun k e => by cases e; exact Nat.le_refl _))
      have T3 := Lib.hid t3
      clear TT CC t3 g3
      go_wp2
      go_roundw
      case rel => exact ⟨j + 1, by omega, by go_num, by rw [HS.out]; exact T3.out, C3.out⟩
      case measure => simp [intOf]; omega

end Go.Proofs.Ytlhmolomefbklaa
