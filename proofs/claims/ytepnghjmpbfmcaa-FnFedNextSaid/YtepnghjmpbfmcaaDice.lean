/-
  The laws' own cursor of pseudo-random numbers: each call hands back a number below its bound, and writes nothing but the cursor.
-/
import Derived.Test.YtepnghjmpbfmcaaKA
import Derived.OpenShut
import Derived.RegionTactic
namespace Go.Proofs.Ytepnghjmpbfmcaa
set_option maxRecDepth 100000
open Go.RowKit

/-- Block p is a cursor of the laws over bytes below B. -/
def LCur (w : World) (B p : Nat) : Prop :=
  ∃ (A : Option Addr) (n c i : Nat) (h : Int), w.heap[p]? = some (.cells #[.slice A n c, .int .i64 (i : Int), .int .u64 h] 92 (0, 0)) ∧ BRow w B A n ∧ B ≤ p ∧ n ≤ 4096 ∧ i ≤ n

theorem LCur.lt {w : World} {B p : Nat} (h : LCur w B p) : p < w.heap.size := by
  obtain ⟨A, n, c, i, x, hh, _⟩ := h
  rcases Nat.lt_or_ge p w.heap.size with hlt | hge
  · exact hlt
  · rw [Array.getElem?_eq_none hge] at hh; cases hh

theorem LCur.le {w : World} {B p : Nat} (h : LCur w B p) : B ≤ p := by
  obtain ⟨A, n, c, i, x, _, _, hp, _⟩ := h
  exact hp

theorem LCur.below {w w' : World} {B p : Nat} (h : LCur w B p) (hb : Below w.heap.size w w') : LCur w' B p := by
  have hlt := h.lt
  obtain ⟨A, n, c, i, x, hh, hbr, hp, hn, hi⟩ := h
  exact ⟨A, n, c, i, x, (hb.block p hlt).trans hh, hbr.below (hb.mono (by omega)), hp, hn, hi⟩

theorem LCur.kept {w w' : World} {B p : Nat} {row : Option Nat} (h : LCur w B p) (hg : w.grownBy w' row) (hr : ∀ k, row = some k → p < k) : LCur w' B p := by
  have hlt := h.lt
  obtain ⟨A, n, c, i, x, hh, hb, hp, hn, hi⟩ := h
  refine ⟨A, n, c, i, x, ?_, hb.below (grown_below hg (by omega) (fun k hk => by have := hr k hk; omega)), hp, hn, hi⟩
  rw [hg.block p hlt (fun e => by have := hr p e.symm; omega)]
  exact hh

def LRolls (w : World) (B p : Nat) (P : Int → Prop) (e : Ending) (w' : World) : Prop :=
  ∃ x : Int, P x ∧ e = .returned (.int .i64 x) ∧ LCur w' B p ∧ w.grownBy w' (some p)

theorem and_24 (x : Int) : 0 ≤ bits .and .u64 x 16777215 ∧ bits .and .u64 x 16777215 ≤ 16777215 := by
  have h : (BitVec.ofInt 64 x &&& BitVec.ofInt 64 16777215).toNat ≤ 16777215 := by
    rw [BitVec.toNat_and]
    exact Nat.le_trans Nat.and_le_right (by decide)
  have e : bits .and .u64 x 16777215 = ((BitVec.ofInt 64 x &&& BitVec.ofInt 64 16777215).toNat : Int) := by
    show IntKind.u64.wrap ((BitVec.ofInt 64 x &&& BitVec.ofInt 64 16777215).toNat : Int) = _
    rw [IntKind.wrap_u64]
    omega
  rw [e]
  omega

section
variable {w : World} {B p : Nat} {A : Option Addr} {n c i : Nat} {y : Int}
theorem lcur_roll (hh : w.heap[p]? = some (.cells #[.slice A n c, .int .i64 (i : Int), .int .u64 y] 92 (0, 0))) (hb : BRow w B A n) (hp : B ≤ p) (hn : n ≤ 4096) (hi : i ≤ n) (H : Int) (q : Nat) :
    LCur ((w.setCell ⟨p, 2, none⟩ (.int .u64 H)).drewN q) B p ∧ w.grownBy ((w.setCell ⟨p, 2, none⟩ (.int .u64 H)).drewN q) (some p) := by
  have hlt := (show LCur w B p from ⟨A, n, c, i, y, hh, hb, hp, hn, hi⟩).lt
  have g := grown_drewN (grown_setCell w p 2 (.int .u64 H)) q
  exact ⟨⟨A, n, c, i, H, set_blk hh 2 _, hb.below (grown_below g (by omega) (fun k hk => by injection hk with hk; omega)), hp, hn, hi⟩, g⟩
theorem lcur_take (hh : w.heap[p]? = some (.cells #[.slice A n c, .int .i64 (i : Int), .int .u64 y] 92 (0, 0))) (hb : BRow w B A n) (hp : B ≤ p) (hn : n ≤ 4096) (hi : i < n) (H : Int) (q : Nat) :
    LCur (((w.setCell ⟨p, 2, none⟩ (.int .u64 H)).drewN q).setCell ⟨p, 1, none⟩ (.int .i64 ((i : Int) + 1))) B p ∧ w.grownBy (((w.setCell ⟨p, 2, none⟩ (.int .u64 H)).drewN q).setCell ⟨p, 1, none⟩ (.int .i64 ((i : Int) + 1))) (some p) := by
  have hlt := (show LCur w B p from ⟨A, n, c, i, y, hh, hb, hp, hn, Nat.le_of_lt hi⟩).lt
  have g := (grown_drewN (grown_setCell w p 2 (.int .u64 H)) q).trans (grown_setCell ((w.setCell ⟨p, 2, none⟩ (.int .u64 H)).drewN q) p 1 (.int .i64 ((i : Int) + 1)))
  exact ⟨⟨A, n, c, i + 1, H, set_blk (w := (w.setCell ⟨p, 2, none⟩ (.int .u64 H)).drewN q) (set_blk hh 2 _) 1 _, hb.below (grown_below g (by omega) (fun k hk => by injection hk with hk; omega)), hp, hn, hi⟩, g⟩
end

theorem tmod_in {x m : Int} (x0 : 0 ≤ x) (m0 : 0 < m) : 0 ≤ x.tmod m ∧ x.tmod m < m := by
  rw [Int.tmod_eq_emod_of_nonneg x0]
  exact ⟨Int.emod_nonneg _ (by omega), Int.emod_lt_of_pos _ m0⟩
theorem wrap64_small {x : Int} (x0 : 0 ≤ x) (x1 : x ≤ 33554432) : wrap64 x = x := by unfold wrap64; omega
theorem roll_one (x m : Int) (m0 : 0 < m) : 0 ≤ (wrap64 (bits .and .u64 x 16777215)).tmod m ∧ (wrap64 (bits .and .u64 x 16777215)).tmod m < m := by
  have h := and_24 x
  generalize bits .and .u64 x 16777215 = q at h
  rw [wrap64_small h.1 (by omega)]
  exact tmod_in h.1 m0
theorem roll_two (x v m : Int) (v0 : 0 ≤ v) (v1 : v ≤ 255) (m0 : 0 < m) : 0 ≤ (wrap64 (wrap64 (bits .and .u64 x 16777215) + v)).tmod m ∧ (wrap64 (wrap64 (bits .and .u64 x 16777215) + v)).tmod m < m := by
  have h := and_24 x
  generalize bits .and .u64 x 16777215 = q at h
  rw [wrap64_small h.1 (by omega), wrap64_small (x := q + v) (by omega) (by omega)]
  exact tmod_in (by omega) m0

set_option maxHeartbeats 800000 in
theorem lbelow_any (B p : Nat) (w : World) (h : LCur w B p) (m : Int) (m0 : 0 < m) :
    Calls Try.prog 17 #[.pointer (some ⟨p, 0, none⟩), .int .i64 m] w (LRolls w B p (fun x => 0 ≤ x ∧ x < m)) := by
  obtain ⟨A, n, c, i, y, hh, hb, hp, hn, hi⟩ := h
  have c0 : w.cell? ⟨p, 0, none⟩ = some (.slice A n c) := cell_of_blk hh 0
  have c1 : w.cell? ⟨p, 1, none⟩ = some (.int .i64 (i : Int)) := cell_of_blk hh 1
  have c2 : w.cell? ⟨p, 2, none⟩ = some (.int .u64 y) := cell_of_blk hh 2
  have f1 := free_of_blk hh 1
  have f2 := free_of_blk hh 2
  have HH := Lib.hid hh
  have HB := Lib.hid hb
  have hne0 : (m == 0) = false := by simp; omega
  clear hh hb
  by_cases hlt : i < n
  · obtain ⟨b, off, rfl, hbB, hcs⟩ := HB.out (by omega)
    obtain ⟨v, hv, v0, v1⟩ := hcs i hlt
    have hne : b ≠ p := by omega
    have i0 : (0 : Int) ≤ (i : Int) := by omega
    have i1 : (i : Int) < (n : Int) := by omega
    clear hcs
    go_enter Try.func17, Try.ntmps17
    go_wp2
    go_quiet (fail)
    go_wp2
    go_quiet (fail)
    go_wp2
    go_ret
    have R := lcur_take HH.out HB.out hp hn hlt
    refine ⟨_, roll_two _ _ _ v0 v1 m0, rfl, ?_⟩
    first | exact R _ _ | (rw [World.drewN_drewN]; exact R _ _)
  · have i1 : ¬ (i : Int) < (n : Int) := by omega
    go_enter Try.func17, Try.ntmps17
    go_wp2
    go_quiet (fail)
    go_wp2
    go_ret
    have R := lcur_roll HH.out HB.out hp hn hi
    refine ⟨_, roll_one _ _ m0, rfl, ?_⟩
    first | exact R _ _ | (rw [World.drewN_drewN]; exact R _ _)

set_option maxHeartbeats 800000 in
theorem roll_any (A : Option Addr) (n c : Nat) (w : World) (h : BRow w w.heap.size A n) (hn : n ≤ 4096) (s : Int) :
    Calls Try.prog 16 #[.slice A n c, .int .u64 s] w fun e w' => e = .returned (.pointer (some ⟨w.heap.size, 0, none⟩)) ∧ LCur w' w.heap.size w.heap.size ∧ Below w.heap.size w w' := by
  go_enter Try.func16, Try.ntmps16
  go_wp2
  go_loopw [6] (fun i wr => ∃ (k : Nat) (q : Int), k ≤ n ∧ i = .int .i64 (k : Int) ∧ wr.heap[w.heap.size]? = some (.cells #[.slice A n c, .int .i64 0, .int .u64 q] 92 (0, 0)) ∧ Below w.heap.size w wr) (fun i _ => n - (intOf i).toNat)
  case atStart => exact ⟨0, _, Nat.zero_le _, rfl, heap_alloc_new w _, (Below.refl _ _).alloc (Nat.le_refl _) _⟩
  case round =>
    obtain ⟨k, q, hk, rfl, hh, hbel⟩ := hrel
    by_cases hlt : k < n
    · obtain ⟨b, off, rfl, hb, hc⟩ := (h.below hbel) (by omega)
      obtain ⟨v, hv, v0, v1⟩ := hc k hlt
      have c2 : wr.cell? ⟨w.heap.size, 2, none⟩ = some (.int .u64 q) := cell_of_blk hh 2
      have f2 := free_of_blk hh 2
      have HH := Lib.hid hh
      have HB := Lib.hid hbel
      have i0 : (0 : Int) ≤ (k : Int) := by omega
      have i1 : (k : Int) < (n : Int) := by omega
      have hne : b ≠ w.heap.size := by omega
      clear hc hh hbel h
      go_wp2
      go_region
      all_goals
        go_wp2
        go_roundw
        case rel => exact ⟨k + 1, _, by omega, by go_num, set_blk HH.out 2 _, (HB.out.setCell (p := ⟨w.heap.size, 2, none⟩) (Nat.le_refl _) _).drew⟩
        case measure => simp [intOf]; omega
    · go_wp2
      go_ret
      exact ⟨rfl, ⟨A, n, c, 0, q, hh, h.below hbel, Nat.le_refl _, hn, Nat.zero_le _⟩, hbel⟩

end Go.Proofs.Ytepnghjmpbfmcaa
