/-
  Chapter 5: Lost, of the model (by program, wip/gen/gennetg.py).
-/
import Derived.Test.YtdcdcccdihhhcaaNetD4
import Derived.Test.YtdcdcccdihhhcaaNetC3
import Derived.RegionTactic
import Derived.BigQuiet
namespace Go.Proofs.Ytdcdcccdihhhcaa
set_option maxRecDepth 100000
open Go.RowKit

theorem ow_nilL {α : Type} {e : TypeId} {k : Nat} {f : α → List Dat} (w : World) : Ow w [lst e k f []] [.slice none 0 0] [] := Ow.row (n := 0) (us := []) (fp1 := []) (fp2 := []) (World.ownsRow_nil w 0 _ _) .nil .nil
def zeroN : NetM := ⟨[], []⟩
theorem has_zeroN (w : World) (base : Nat) : Has w base zeroN.cells [.slice none 0 0, .slice none 0 0] := ⟨[], (ow_nilL w).append (ow_nilL w), List.nodup_nil, fun p hp => by cases hp⟩
def MadeNB (w : World) (r : NetM × Bool) (e : Ending) (w' : World) : Prop :=
  ∃ (A0 : Option Addr) (n0 c0 : Nat) (A1 : Option Addr) (n1 c1 : Nat), e = .returned (.tuple #[.agg #[.slice A0 n0 c0, .slice A1 n1 c1], .bool r.2]) ∧ Has w' w.heap.size r.1.cells [.slice A0 n0 c0, .slice A1 n1 c1] ∧ Below w.heap.size w w'
def lostM (t : NetM) (x : Int) : NetM × Bool := if netOk t = true then (if thereB t.flight.length x = true then (withoutM t x.toNat, true) else (t, false)) else (zeroN, false)
theorem there_nat {n : Nat} {x : Int} (h : thereB n x = true) : ∃ k : Nat, x = (k : Int) ∧ k < n := by
  simp only [thereB, Bool.and_eq_true, decide_eq_true_eq] at h
  exact ⟨x.toNat, by omega, by omega⟩
theorem withoutM_sz (t : NetM) (k : Nat) : (withoutM t k).sz ≤ t.sz := by
  have h1 : (t.flight.eraseIdx k).Sublist t.flight := List.eraseIdx_sublist ..
  have h2 : ((t.flight.eraseIdx k).map msgRowSz).sum ≤ (t.flight.map msgRowSz).sum := by
    generalize t.flight.eraseIdx k = l at *
    generalize t.flight = m at *
    induction h1 with
    | slnil => exact Nat.le_refl _
    | cons a _ ih => simp only [List.map_cons, List.sum_cons]; omega
    | cons_cons a _ ih => simp only [List.map_cons, List.sum_cons]; omega
  have h3 := h1.length_le
  unfold NetM.sz withoutM msgSz linkSz
  simp only
  omega
theorem lostM_sz (t : NetM) (x : Int) (h : t.sz ≤ 1048576) : (lostM t x).1.sz ≤ 1048577 := by
  unfold lostM
  split
  · split
    · have := withoutM_sz t x.toNat
      simp only
      omega
    · simp only
      omega
  · decide

set_option maxHeartbeats 6400000 in
theorem sLost_any (v0 v1 : Value) (t : NetM) (x : Int) (w : World) (h : Rd w w.heap.size t.cells [v0, v1]) (hs : t.sz ≤ 1048577) :
    Calls Try.prog 51 #[.agg #[v0, v1], .int .i64 x] w (MadeNB w (lostM t x)) := by
  obtain ⟨A0, n0, c0, A1, n1, c1, rfl, rfl, hr0, hr1⟩ := h.netT
  have hz0 : msgSz t.flight ≤ 1048577 := by unfold NetM.sz at hs; omega
  have hz1 : linkSz t.cuts ≤ 1048577 := by unfold NetM.sz at hs; omega
  obtain ⟨hl0, hl1, _, _, _⟩ := net_len h
  have hn0 : n0 ≤ 1048577 := by unfold msgSz at hz0; omega
  have hn1 : n1 ≤ 1048577 := by unfold linkSz at hz1; omega
  have S := Sep.nil w w.heap.size
  have c := Below.refl w.heap.size w
  replace S := S.boxAt c.size (w.heap.size) rfl #[.slice A0 n0 c0, .slice A1 n1 c1] 30
  replace c := c.alloc c.size (.cells #[.slice A0 n0 c0, .slice A1 n1 c1] 30)
  replace S := S.boxAt c.size (w.heap.size + 1) (by simp) #[.slice none 0 0, .slice none 0 0] 30
  replace c := c.alloc c.size (.cells #[.slice none 0 0, .slice none 0 0] 30)
  go_enter Try.func51, Try.ntmps51
  go_wp2_with fail
  generalize (w.alloc (.cells #[.slice A0 n0 c0, .slice A1 n1 c1] 30)).alloc (.cells #[.slice none 0 0, .slice none 0 0] 30) = w1 at *
  refine (sNetOk_any _ _ t w.heap.size _ (h.keep c) c.size hs).mono ?_
  rintro e w2 ⟨rfl, b⟩
  replace c := c.trans (b.mono c.size)
  replace S := S.keep b
  clear b
  cases hok : netOk t
  case false =>
    have HD := Lib.hid (show lostM t x = (zeroN, false) by unfold lostM; rw [hok]; rfl)
    have f0 : w2.cell? ⟨w.heap.size + 1, 0, none⟩ = some (.slice none 0 0) := (S.at_ 0 rfl).cell 0
    have f1 := (S.at_ 0 rfl).free 0
    have f2 : w2.cell? ⟨w.heap.size + 1, 1, none⟩ = some (.slice none 0 0) := (S.at_ 0 rfl).cell 1
    have f3 := (S.at_ 0 rfl).free 1
    replace S := S.put 0 rfl 0 (.slice none 0 0)
    replace c := c.setCell (p := ⟨w.heap.size + 1, 0, none⟩) (by show w.heap.size ≤ w.heap.size + 1; omega) (.slice none 0 0)
    replace S := S.put 0 rfl 1 (.slice none 0 0)
    replace c := c.setCell (p := ⟨w.heap.size + 1, 1, none⟩) (by show w.heap.size ≤ w.heap.size + 1; omega) (.slice none 0 0)
    have C := Lib.hid c
    have r0 := Lib.hid ((S.at_ 0 rfl).cell 0)
    have r1 := Lib.hid ((S.at_ 0 rfl).cell 1)
    clear S c h hr0 hr1 hl0 hl1 hok
    go_wp2
    exact bodyPost_ret (v := .tuple #[.agg #[.slice none 0 0, .slice none 0 0], .bool false]) (by simp [results, Try.results51, go_sem, r0.out, r1.out]) rfl ⟨_, _, _, _, _, _, by rw [HD.out], by rw [HD.out]; exact has_zeroN _ _, C.out⟩
  case true =>
    have f0 : w2.cell? ⟨w.heap.size, 0, none⟩ = some (.slice A0 n0 c0) := (S.at_ 1 rfl).cell 0
    have f1 : w2.cell? ⟨w.heap.size, 1, none⟩ = some (.slice A1 n1 c1) := (S.at_ 1 rfl).cell 1
    go_wp2_with fail
    refine (sThere_any A0 A1 n0 c0 n1 c1 x hn0 _).mono ?_
    rintro e w3 ⟨rfl, b⟩
    replace c := c.trans (b.mono c.size)
    replace S := S.keep b
    clear b f0 f1
    cases hth : thereB n0 x
    case false =>
      have HD := Lib.hid (show lostM t x = (t, false) by unfold lostM; rw [hok, hl0, hth]; rfl)
      clear hok hth
      have f2 : w3.cell? ⟨w.heap.size, 0, none⟩ = some (.slice A0 n0 c0) := (S.at_ 1 rfl).cell 0
      have f3 : w3.cell? ⟨w.heap.size, 1, none⟩ = some (.slice A1 n1 c1) := (S.at_ 1 rfl).cell 1
      go_wp2_with fail
      refine (sCopyN_any _ _ t _ ((h.keep c).up c.size) hs).mono ?_
      rintro e w4 ⟨Au, nu, cu, Ax, nx, cx, rfl, o, b⟩
      obtain ⟨fp_u, S'⟩ := S.has b o c.size
      replace c := c.trans (b.mono c.size)
      clear S; have S := S'; clear S' o b f2 f3
      have f4 : w4.cell? ⟨w.heap.size + 1, 0, none⟩ = some (.slice none 0 0) := (S.at_ 1 rfl).cell 0
      have f5 := (S.at_ 1 rfl).free 0
      have f6 : w4.cell? ⟨w.heap.size + 1, 1, none⟩ = some (.slice none 0 0) := (S.at_ 1 rfl).cell 1
      have f7 := (S.at_ 1 rfl).free 1
      replace S := S.put 1 rfl 0 (.slice Au nu cu)
      replace c := c.setCell (p := ⟨w.heap.size + 1, 0, none⟩) (by show w.heap.size ≤ w.heap.size + 1; omega) (.slice Au nu cu)
      replace S := S.put 1 rfl 1 (.slice Ax nx cx)
      replace c := c.setCell (p := ⟨w.heap.size + 1, 1, none⟩) (by show w.heap.size ≤ w.heap.size + 1; omega) (.slice Ax nx cx)
      replace S := S.pick 0 rfl
      have H := Lib.hid S.first
      have C := Lib.hid c
      have r0 := Lib.hid ((S.at_ 1 rfl).cell 0)
      have r1 := Lib.hid ((S.at_ 1 rfl).cell 1)
      clear S c h hr0 hr1 hl0 hl1 
      go_wp2
      exact bodyPost_ret (v := .tuple #[.agg #[.slice Au nu cu, .slice Ax nx cx], .bool false]) (by simp [results, Try.results51, go_sem, r0.out, r1.out]) rfl ⟨_, _, _, _, _, _, by rw [HD.out], by rw [HD.out]; exact H.out, C.out⟩
    case true =>
      obtain ⟨k, rfl, hk⟩ := there_nat hth
      have HD := Lib.hid (show lostM t (k : Int) = (withoutM t k, true) by unfold lostM; rw [hok, hl0, hth]; rfl)
      clear hok hth
      have f2 : w3.cell? ⟨w.heap.size, 0, none⟩ = some (.slice A0 n0 c0) := (S.at_ 1 rfl).cell 0
      have f3 : w3.cell? ⟨w.heap.size, 1, none⟩ = some (.slice A1 n1 c1) := (S.at_ 1 rfl).cell 1
      go_wp2_with fail
      refine (sWithout_any _ _ t k _ ((h.keep c).up c.size) hs (by rw [hl0]; exact hk)).mono ?_
      rintro e w4 ⟨Au, nu, cu, Ax, nx, cx, rfl, o, b⟩
      obtain ⟨fp_u, S'⟩ := S.has b o c.size
      replace c := c.trans (b.mono c.size)
      clear S; have S := S'; clear S' o b f2 f3
      have f4 : w4.cell? ⟨w.heap.size + 1, 0, none⟩ = some (.slice none 0 0) := (S.at_ 1 rfl).cell 0
      have f5 := (S.at_ 1 rfl).free 0
      have f6 : w4.cell? ⟨w.heap.size + 1, 1, none⟩ = some (.slice none 0 0) := (S.at_ 1 rfl).cell 1
      have f7 := (S.at_ 1 rfl).free 1
      replace S := S.put 1 rfl 0 (.slice Au nu cu)
      replace c := c.setCell (p := ⟨w.heap.size + 1, 0, none⟩) (by show w.heap.size ≤ w.heap.size + 1; omega) (.slice Au nu cu)
      replace S := S.put 1 rfl 1 (.slice Ax nx cx)
      replace c := c.setCell (p := ⟨w.heap.size + 1, 1, none⟩) (by show w.heap.size ≤ w.heap.size + 1; omega) (.slice Ax nx cx)
      replace S := S.pick 0 rfl
      have H := Lib.hid S.first
      have C := Lib.hid c
      have r0 := Lib.hid ((S.at_ 1 rfl).cell 0)
      have r1 := Lib.hid ((S.at_ 1 rfl).cell 1)
      clear S c h hr0 hr1 hl0 hl1 
      go_wp2
      exact bodyPost_ret (v := .tuple #[.agg #[.slice Au nu cu, .slice Ax nx cx], .bool true]) (by simp [results, Try.results51, go_sem, r0.out, r1.out]) rfl ⟨_, _, _, _, _, _, by rw [HD.out], by rw [HD.out]; exact H.out, C.out⟩

end Go.Proofs.Ytdcdcccdihhhcaa
