/-
  Open jobs as plain data, and the laws' helpers for them (by program, wip/gen/genlet0.py).
-/
import Derived.Test.YtepnghjmpbfmcaaTimer
import Derived.RegionTactic
import Derived.BigQuiet
namespace Go.Proofs.Ytepnghjmpbfmcaa
set_option maxRecDepth 100000
open Go.RowKit

def djC (x : TimerM) : List Dat := [.int x.tid, .int x.due]
theorem djC_len (x : TimerM) : (djC x).length = 2 := rfl
def djD (l : List TimerM) : Dat := lst 80 2 djC l
def djSz (l : List TimerM) : Nat := l.length
def djNs (x : TimerM) : List Int := x.tid :: x.due :: []
def djN (l : List TimerM) : Nat := nums djNs l l.length
def MarkedDueS (l : List TimerM) (k : Int) : Prop := l.flatMap djNs = upFrom k (l.flatMap djNs).length
def MadeDueS (w : World) (l : List TimerM) (e : Ending) (w' : World) : Prop :=
  ∃ A n c, e = .returned (.slice A n c) ∧ Has w' w.heap.size [djD l] [.slice A n c] ∧ Below w.heap.size w w'
theorem infoDue : (Try.prog.info? 80).map (fun i => (i.zero, i.size, i.bytes)) = some (some (.agg #[.int .i64 0, .int .i64 0]), 2, 16) := by kernel_rfl
theorem ow_zero_dj (w : World) : Ow w (djC (⟨0, 0⟩ : TimerM)) [.int .i64 0, .int .i64 0] [] := .int (.int (.nil))
theorem Rd.djs {w : World} {B : Nat} {v0 : Value} {l : List TimerM} (h : Rd w B [djD l] [v0]) : ∃ A n c, v0 = .slice A n c ∧ l.length = n ∧ n ≤ c ∧ c ≤ maxLen ∧
    (0 < n → ∃ b off, A = some ⟨b, off, none⟩ ∧ b < B ∧ ∀ j (hj : j < l.length), w.cell? ⟨b, off + j * 2, none⟩ = some (.int .i64 l[j].tid) ∧ w.cell? ⟨b, off + j * 2 + 1, none⟩ = some (.int .i64 l[j].due)) := by
  obtain ⟨A, n, c, rfl, hl, h1, h2, h3⟩ := Rd.lst (k := 2) djC_len (by decide) h
  refine ⟨A, n, c, rfl, hl, h1, h2, fun hn => ?_⟩
  obtain ⟨b, off, rfl, hb, hc⟩ := h3 hn
  refine ⟨b, off, rfl, hb, fun j hj => ?_⟩
  obtain ⟨es, he, hr, hcell⟩ := hc j hj
  match es, he with
  | [u0, u1], _ =>
    have h0' := hcell 0 (by omega)
    have h1' := hcell 1 (by omega)
    simp only [Nat.add_zero] at h0'
    have g0 : Rd w B (djC l[j]) [u0, u1] := hr
    obtain ⟨e0, g1⟩ := Rd.int_cons g0
    obtain ⟨e1, g2⟩ := Rd.int_cons g1
    subst e0
    subst e1
    exact ⟨h0', h1'⟩
theorem Ow.dj {w : World} {x : TimerM} {y0 y1 : Value} {f2 : List Nat} (h : Ow w (djC x) [y0, y1] f2) : y0 = .int .i64 x.tid ∧ y1 = .int .i64 x.due ∧ f2 = [] := by
  have g0 : Ow w (djC x) [y0, y1] f2 := h
  obtain ⟨e0, g1⟩ := Ow.int_cons g0
  obtain ⟨e1, g2⟩ := Ow.int_cons g1
  exact ⟨e0, e1, Ow.nil_foot g2⟩
theorem djN_eq (l : List TimerM) : (l.map (fun r => (djNs r).length)).sum = 2 * l.length := by
  induction l with
  | nil => rfl
  | cons x l ih =>
    rw [List.map_cons, List.sum_cons, ih, List.length_cons]
    have h1 : (djNs x).length = 2 := rfl
    omega
theorem djN_le (l : List TimerM) : djN l ≤ 2 * djSz l := by
  unfold djN nums
  rw [pre_all, djN_eq]
  unfold djSz
  omega
theorem djSz_map {l l' : List TimerM} (h : l'.map (fun r => (djNs r).length) = l.map (fun r => (djNs r).length)) : djSz l' = djSz l := by
  have h1 := len_of_map h
  exact h1

set_option maxHeartbeats 1600000 in
theorem eqDue_one (x0 x1 : Int) (w : World) :
    Calls Try.prog 61 #[.agg #[.int .i64 x0, .int .i64 x1], .agg #[.int .i64 x0, .int .i64 x1]] w fun e w' => e = .returned (.bool true) ∧ Below w.heap.size w w' := by
  have b0 : Below w.heap.size w ((w.alloc (.cells #[.int .i64 x0, .int .i64 x1] 80)).alloc (.cells #[.int .i64 x0, .int .i64 x1] 80)) :=
    ((Below.refl _ w).alloc (Nat.le_refl _) _).alloc (by simp) _
  have B0 := Lib.hid b0
  clear b0
  go_enter Try.func61, Try.ntmps61
  go_wp2
  go_ret
  exact ⟨rfl, B0.out⟩

set_option maxHeartbeats 3200000 in
theorem eqDueS_yes (A A' : Option Addr) (n n' c c' B B' : Nat) (l : List TimerM) (w : World) (h : Rd w B [djD l] [.slice A n c]) (h' : Rd w B' [djD l] [.slice A' n' c']) (hB : B ≤ w.heap.size) (hB' : B' ≤ w.heap.size) (hs : djSz l ≤ 1048577) :
    Calls Try.prog 41 #[.slice A n c, .slice A' n' c'] w fun e w' => e = .returned (.bool true) ∧ Below w.heap.size w w' := by
  obtain ⟨_, _, _, e, hl, _, _, hel⟩ := h.djs
  injection e with e1 e2 e3
  subst e1 e2 e3
  obtain ⟨_, _, _, e, hl', _, _, hel'⟩ := h'.djs
  injection e with e1 e2 e3
  subst e1 e2 e3
  obtain rfl : n = n' := by rw [← hl, hl']
  have hn : n ≤ 1048577 := by unfold djSz at hs; omega
  have HS := Lib.hid hs
  have HL := Lib.hid hl
  clear hl hl' hs h h'
  go_enter Try.func41, Try.ntmps41
  go_wp2
  go_loopw [5] (fun i wr => ∃ j : Nat, j ≤ n ∧ i = .int .i64 (j : Int) ∧ Below w.heap.size w wr) (fun i _ => n - (intOf i).toNat)
  case atStart => exact ⟨0, Nat.zero_le _, rfl, Below.refl _ _⟩
  case round =>
    obtain ⟨j, hj, rfl, hbel⟩ := hrel
    by_cases hlt : j < n
    · obtain ⟨b, off, rfl, hb, hc⟩ := hel (by omega)
      obtain ⟨b', off', rfl, hb', hc'⟩ := hel' (by omega)
      have hjl : j < l.length := by have := HL.out; omega
      obtain ⟨hc0, hc1⟩ := hc j hjl
      obtain ⟨hd0, hd1⟩ := hc' j hjl
      have cs0 := (hbel.cell (p := ⟨b, off + j * 2, none⟩) (show b < _ by omega)).trans hc0
      have cs1 := (hbel.cell (p := ⟨b, off + j * 2 + 1, none⟩) (show b < _ by omega)).trans hc1
      have ct0 := (hbel.cell (p := ⟨b', off' + j * 2, none⟩) (show b' < _ by omega)).trans hd0
      have ct1 := (hbel.cell (p := ⟨b', off' + j * 2 + 1, none⟩) (show b' < _ by omega)).trans hd1
      generalize l[j].tid = x0 at *
      generalize l[j].due = x1 at *
      have i0 : (0 : Int) ≤ (j : Int) := by omega
      have i1 : (j : Int) < (n : Int) := by omega
      have z := hbel.size
      have HB := Lib.hid hbel
      clear hc hc' hc0 hd0 hc1 hd1 hel hel' hbel
      go_wp2_with fail
      go_region_with (first
        | (go_at_call 61
           refine (eqDue_one x0 x1 _).mono ?_
           rintro e w1 ⟨rfl, b1⟩
           have BB := Lib.hid (HB.out.drew.trans (b1.mono (by show w.heap.size ≤ wr.heap.size; omega)))))
      all_goals
        go_wp2
        go_roundw
        case rel => exact ⟨j + 1, by omega, by go_num, BB.out⟩
        case measure => simp [intOf]; omega
    · go_wp2
      go_ret
      exact ⟨rfl, hbel⟩

set_option maxHeartbeats 6400000 in
theorem markDueS_any (A : Option Addr) (n c : Nat) (l : List TimerM) (fp : List Nat) (w : World) (o : Ow w [djD l] [.slice A n c] fp) (hnd : fp.Nodup) (hs : djSz l ≤ 1048577) (k : Int) (k0 : 0 ≤ k) (k1 : k ≤ 100000000000) :
    Calls Try.prog 42 #[.slice A n c, .int .i64 k] w fun e w' => ∃ l', e = .returned (.int .i64 (k + (djN l : Int))) ∧ Ow w' [djD l'] [.slice A n c] fp ∧ Touch fp w w' ∧ MarkedDueS l' k ∧ djN l' = djN l ∧ djSz l' = djSz l := by
  suffices H : Calls Try.prog 42 #[.slice A n c, .int .i64 k] w fun e w' => ∃ l', e = .returned (.int .i64 (k + (nums djNs l l.length : Int))) ∧ Ow w' [djD l'] [.slice A n c] fp ∧ Touch fp w w' ∧ l'.map (fun r => (djNs r).length) = l.map (fun r => (djNs r).length) ∧ l'.flatMap djNs = upFrom k (nums djNs l l.length) by
    refine H.mono ?_
    rintro e w' ⟨l', rfl, o', t', h1, h2⟩
    have h3 := len_of_map h1
    refine ⟨l', rfl, o', t', ?_, ?_, djSz_map h1⟩
    · show l'.flatMap djNs = upFrom k (l'.flatMap djNs).length
      rw [h2, upFrom_length]
    · show nums djNs l' l'.length = nums djNs l l.length
      rw [h3]
      exact nums_map h1 _
  obtain ⟨A', n', c', e, hl, _, _⟩ := o.rd.djs
  injection e with e1 e2 e3
  subst e1 e2 e3
  have HL := Lib.hid hl
  have hn : n ≤ 1048577 := by unfold djSz at hs; omega
  have HS := Lib.hid hs
  have O := Lib.hid o
  have HN := Lib.hid hnd
  clear o hs hnd hl
  go_enter Try.func42, Try.ntmps42
  go_wp2
  go_loopw [1, 5] (fun q i wr => ∃ (j : Nat) (l' : List TimerM), j ≤ n ∧ i = .int .i64 (j : Int) ∧ q = .int .i64 (k + (nums djNs l j : Int)) ∧ l'.map (fun r => (djNs r).length) = l.map (fun r => (djNs r).length) ∧ (l'.take j).flatMap djNs = upFrom k (nums djNs l j) ∧ Ow wr [djD l'] [.slice A n c] fp ∧ Touch fp w wr) (fun _ i _ => n - (intOf i).toNat)
  case atStart => exact ⟨0, l, Nat.zero_le _, rfl, by simp [nums, pre_zero], rfl, by simp [nums, pre_zero, upFrom], O.out, Touch.refl _ _⟩
  case round =>
    obtain ⟨j, l', hj, rfl, rfl, hmap, hflat, hown, htch⟩ := hrel
    have hll : l'.length = l.length := by simpa using congrArg List.length hmap
    by_cases hlt : j < n
    · have hjl : j < l'.length := by have := HL.out; omega
      have hjl2 : j < l.length := by have := HL.out; omega
      have hlen0 : (djNs l'[j]).length = (djNs l[j]).length := by
        have h1 := congrArg (fun q => q[j]?) hmap
        simp [List.getElem?_eq_getElem hjl, List.getElem?_eq_getElem hjl2] at h1
        exact h1
      obtain ⟨g, d, es, f2, e, _, _, he, hcell, hfr, hel, hn2, hg2, hgf, hsub, _, _⟩ := Ow.elem (k := 2) djC_len (by decide) hown HN.out (j := j) hjl
      injection e with e e2 e3
      subst e e3
      match es, he with
      | [y0, y1], _ =>
      obtain ⟨ey0, ey1, ef2⟩ := Ow.dj hel
      subst ey0
      subst ey1
      subst ef2
      have ck0 := hcell 0 (by decide)
      have ck1 := hcell 1 (by decide)
      rw [Nat.add_zero] at ck0
      have cl0 : wr.cell? ⟨g, j * 2, none⟩ = some (.int .i64 l'[j].tid) := ck0
      have cl1 : wr.cell? ⟨g, j * 2 + 1, none⟩ = some (.int .i64 l'[j].due) := ck1
      have fk0 := hfr (j * 2)
      have fk1 := hfr (j * 2 + 1)
      have hlen : 2 = (djNs l[j]).length := rfl
      have hnj : nums djNs l (j + 1) = nums djNs l j + 2 := by rw [hlen]; exact pre_succ hjl2
      have hb1 : nums djNs l j + 2 ≤ 2097154 := by
        rw [hlen]
        have h1 : nums djNs l j + (djNs l[j]).length ≤ (l.map (fun r => (djNs r).length)).sum := pre_at (g := fun r => (djNs r).length) hjl2
        have h2 := HS.out
        unfold djSz at h2
        have h3 := djN_eq l
        omega
      generalize hN : nums djNs l j = N at *
      obtain ⟨x0, hx0⟩ : ∃ x, x = l'[j].tid := ⟨_, rfl⟩
      obtain ⟨x1, hx1⟩ : ∃ x, x = l'[j].due := ⟨_, rfl⟩
      rw [← hx0] at cl0
      rw [← hx1] at cl1
      have hlj : l'[j] = ⟨x0, x1⟩ := by rw [hx0, hx1]
      obtain ⟨tg, hown2⟩ := Ow.storeFront (k := 2) djC_len (by decide) hown HN.out (j := j) hjl (x := ⟨k + (N : Int), k + (N : Int) + 1⟩) (xs := [x0, x1]) (xs' := [k + (N : Int), k + (N : Int) + 1]) (rest := []) (by rw [hlj]; rfl) rfl rfl
      have t2 := htch.trans (tg.mono (fun p hp => by have : p = g := by simpa using hp
                                                     rw [this]; exact hgf))
      have R1 := Lib.hid hown2
      have R2 := Lib.hid t2
      have HJ := Lib.hid hnj
      have HM := Lib.hid hmap
      have HF := Lib.hid hflat
      have HE := Lib.hid hlen
      have HLL := Lib.hid hll
      have HNN := Lib.hid hN
      have HL0 := Lib.hid hlen0
      clear hmap hflat htch hsub hcell ck0 ck1 hel hown hown2 hfr hgf hlen hnj hN hll e2 tg t2 hlen0 hx0 hx1 hlj
      go_wp2
      go_roundw
      case rel =>
        refine ⟨j + 1, _, by omega, by go_num, by rw [HJ.out]; go_num, ?_, ?_, R1.out, R2.out⟩
        · rw [set_map hjl ?_]
          · exact HM.out
          · exact rfl
        · have h1 := nums_map HM.out j
          have h2 := flat_step (g := djNs) (l := l') (j := j) (k := k) (x := ⟨k + (N : Int), k + (N : Int) + 1⟩) hjl (by rw [h1, HNN.out]; exact HF.out) (by
            rw [h1, HNN.out]
            show [k + (N : Int), k + (N : Int) + 1] = upFrom (k + (N : Int)) 2
            simp only [upFrom_cons, upFrom_zero])
          rw [h2, h1, HNN.out, HJ.out]
          rfl
      case measure => simp [intOf]; omega
    · go_wp2
      go_ret
      have hjn : j = l.length := by have := HL.out; omega
      subst hjn
      refine ⟨l', rfl, hown, htch, hmap, ?_⟩
      rw [List.take_of_length_le (by omega)] at hflat
      exact hflat

set_option maxHeartbeats 3200000 in
theorem heldDueS_any (A : Option Addr) (n c : Nat) (l : List TimerM) (B : Nat) (w : World) (h : Rd w B [djD l] [.slice A n c]) (_hB : B ≤ w.heap.size) (hs : djSz l ≤ 1048577) (k : Int) (k0 : 0 ≤ k) (k1 : k ≤ 100000000000) (hm : MarkedDueS l k) :
    Calls Try.prog 43 #[.slice A n c, .int .i64 k] w fun e w' => e = .returned (.int .i64 (k + (djN l : Int))) ∧ Below w.heap.size w w' := by
  obtain ⟨_, _, _, e, hl, _, _, hel⟩ := h.djs
  injection e with e1 e2 e3
  subst e1 e2 e3
  have HL := Lib.hid hl
  have hn : n ≤ 1048577 := by unfold djSz at hs; omega
  have HS := Lib.hid hs
  have HM := Lib.hid (show l.flatMap djNs = upFrom k (l.flatMap djNs).length from hm)
  clear hs hl hm h
  go_enter Try.func43, Try.ntmps43
  go_wp2
  go_loop [1, 5] (fun q i => ∃ j : Nat, j ≤ n ∧ i = .int .i64 (j : Int) ∧ q = .int .i64 (k + (nums djNs l j : Int))) (fun _ i => n - (intOf i).toNat)
  case atStart => exact ⟨0, Nat.zero_le _, rfl, by simp [nums, pre_zero]⟩
  case round =>
    obtain ⟨j, hj, rfl, rfl⟩ := hrel
    by_cases hlt : j < n
    · obtain ⟨b, off, rfl, hb, hc⟩ := hel (by omega)
      have hjl : j < l.length := by have := HL.out; omega
      obtain ⟨hcell0, hcell1⟩ := hc j hjl
      have hat := flat_at HM.out hjl
      obtain ⟨N, hN⟩ : ∃ N, N = nums djNs l j := ⟨_, rfl⟩
      rw [← hN] at hat ⊢
      have hat2 : [l[j].tid, l[j].due] = upFrom (k + (N : Int)) 2 := hat
      rw [upFrom_cons, upFrom_cons, upFrom_zero] at hat2
      injection hat2 with ha0 ih0
      injection ih0 with ha1 ih1
      rw [ha0] at hcell0
      rw [ha1] at hcell1
      have hnj : nums djNs l (j + 1) = N + 2 := by rw [hN]; exact pre_succ hjl
      have hb1 : N + 2 ≤ 2097154 := by
        rw [hN]
        have h1 : nums djNs l j + (djNs l[j]).length ≤ (l.map (fun r => (djNs r).length)).sum := pre_at (g := fun r => (djNs r).length) hjl
        have h2 := HS.out
        unfold djSz at h2
        have h3 := djN_eq l
        have h4 : (djNs l[j]).length = 2 := rfl
        omega
      have HJ := Lib.hid hnj
      clear hc hat ha0 ha1 hnj hel hN ih1
      go_wp2
      go_round
      case rel => exact ⟨j + 1, by omega, by go_num, by rw [HJ.out]; go_num⟩
      case measure => simp [intOf]; omega
    · go_wp2
      go_ret
      have hjn : j = l.length := by have := HL.out; omega
      subst hjn
      exact ⟨rfl, Below.refl _ _⟩

theorem djN_b (l : List TimerM) (h : djSz l ≤ 1048577) : djN l ≤ 9437193 := by
  have := djN_le l
  omega

end Go.Proofs.Ytepnghjmpbfmcaa
