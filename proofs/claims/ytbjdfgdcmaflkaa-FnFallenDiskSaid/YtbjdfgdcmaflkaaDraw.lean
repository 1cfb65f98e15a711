/-
  The cursor from which the model's draws take their numbers: each call hands back a number in its range, and writes nothing but the cursor.
-/
import Derived.Test.YtbjdfgdcmaflkaaMem
import Derived.OpenShut
import Derived.RegionTactic
namespace Go.Proofs.Ytbjdfgdcmaflkaa
open Go.RowKit

/-- The slice value '.slice A n c' reads as n bytes, below block B. -/
def BRow (w : World) (B : Nat) (A : Option Addr) (n : Nat) : Prop :=
  0 < n → ∃ b off, A = some ⟨b, off, none⟩ ∧ b < B ∧ ∀ j, j < n → ∃ x : Int, w.cell? ⟨b, off + j, none⟩ = some (.int .u8 x) ∧ 0 ≤ x ∧ x ≤ 255

theorem BRow.below {w w' : World} {B : Nat} {A : Option Addr} {n : Nat} (h : BRow w B A n) (hb : Below B w w') : BRow w' B A n := by
  intro hn
  obtain ⟨b, off, rfl, hlt, hc⟩ := h hn
  refine ⟨b, off, rfl, hlt, fun j hj => ?_⟩
  obtain ⟨x, hx, r⟩ := hc j hj
  exact ⟨x, (hb.cell (p := ⟨b, off + j, none⟩) hlt).trans hx, r⟩

theorem IsRow.brow {w : World} {a : Option Addr} {len cap : Nat} {zs : List Int} (h : IsRow .u8 w a len cap zs) : BRow w w.heap.size a len := by
  rcases h with ⟨rfl, rfl, rfl, rfl⟩ | ⟨x, rfl, hl, hm, hz, hcell, hwz⟩
  · exact fun h => absurd h (by omega)
  · intro hn
    obtain ⟨b, off, spot⟩ := x
    have hc := hcell 0 (by omega)
    have hspot : spot = none := by simpa [Addr.add] using World.cell?_spot hc
    subst hspot
    refine ⟨b, off, rfl, by simpa [Addr.add] using lt_of_cell hc, fun j hj => ?_⟩
    have hj' := hcell j (by omega)
    have e : (⟨b, off, none⟩ : Addr).add j = ⟨b, off + j, none⟩ := by
      unfold Addr.add
      by_cases h0 : j = 0 <;> simp [h0]
    rw [e] at hj'
    have hmem : zs.getD j 0 ∈ zs := by simp [List.getD, List.getElem?_eq_getElem (show j < zs.length by omega)]
    have hw := bounds_u8 (hwz _ hmem)
    exact ⟨_, hj', hw.1, by omega⟩

/-- Block p is a cursor over bytes below B. -/
def Cur (w : World) (B p : Nat) : Prop :=
  ∃ (A : Option Addr) (n c i : Nat) (h : Int), w.heap[p]? = some (.cells #[.slice A n c, .int .i64 (i : Int), .int .i64 h] 78 (0, 0)) ∧ BRow w B A n ∧ B ≤ p ∧ n ≤ 4096 ∧ i ≤ n

theorem Cur.kept {w w' : World} {B p : Nat} {row : Option Nat} (h : Cur w B p) (hg : w.grownBy w' row) (hr : ∀ k, row = some k → p < k) : Cur w' B p := by
  obtain ⟨A, n, c, i, x, hh, hb, hp, hn, hi⟩ := h
  have hlt : p < w.heap.size := by
    rcases Nat.lt_or_ge p w.heap.size with hlt | hge
    · exact hlt
    · rw [Array.getElem?_eq_none hge] at hh; cases hh
  refine ⟨A, n, c, i, x, ?_, hb.below (grown_below hg (by omega) (fun k hk => by have := hr k hk; omega)), hp, hn, hi⟩
  rw [hg.block p hlt (fun e => by have := hr p e.symm; omega)]
  exact hh

theorem Cur.lt {w : World} {B p : Nat} (h : Cur w B p) : p < w.heap.size := by
  obtain ⟨A, n, c, i, x, hh, _⟩ := h
  rcases Nat.lt_or_ge p w.heap.size with hlt | hge
  · exact hlt
  · rw [Array.getElem?_eq_none hge] at hh; cases hh

theorem Cur.le {w : World} {B p : Nat} (h : Cur w B p) : B ≤ p := by
  obtain ⟨A, n, c, i, x, _, _, hp, _⟩ := h
  exact hp

theorem Cur.below {w w' : World} {B p : Nat} (h : Cur w B p) (hb : Below w.heap.size w w') : Cur w' B p := by
  have hlt := h.lt
  obtain ⟨A, n, c, i, x, hh, hbr, hp, hn, hi⟩ := h
  exact ⟨A, n, c, i, x, (hb.block p hlt).trans hh, hbr.below (hb.mono (by omega)), hp, hn, hi⟩


/-- A number of which P holds is handed back; nothing but the cursor p is written. -/
def Rolls (w : World) (B p : Nat) (P : Int → Prop) (e : Ending) (w' : World) : Prop :=
  ∃ x : Int, P x ∧ e = .returned (.int .i64 x) ∧ Cur w' B p ∧ w.grownBy w' (some p)

theorem and_255 (x : Int) : 0 ≤ bits .and .i64 x 255 ∧ bits .and .i64 x 255 ≤ 255 := by
  have h : (BitVec.ofInt 64 x &&& BitVec.ofInt 64 255).toNat ≤ 255 := by
    rw [BitVec.toNat_and]
    exact Nat.le_trans Nat.and_le_right (by decide)
  have e : bits .and .i64 x 255 = ((BitVec.ofInt 64 x &&& BitVec.ofInt 64 255).toNat : Int) := by
    show IntKind.i64.wrap ((BitVec.ofInt 64 x &&& BitVec.ofInt 64 255).toNat : Int) = _
    rw [IntKind.wrap_i64]
    omega
  rw [e]
  omega

section
variable {w : World} {B p : Nat} {A : Option Addr} {n c i : Nat} {y : Int}
theorem cur_roll (hh : w.heap[p]? = some (.cells #[.slice A n c, .int .i64 (i : Int), .int .i64 y] 78 (0, 0))) (hb : BRow w B A n) (hp : B ≤ p) (hn : n ≤ 4096) (hi : i ≤ n) (H : Int) (q : Nat) :
    Cur ((w.setCell ⟨p, 2, none⟩ (.int .i64 H)).drewN q) B p ∧ w.grownBy ((w.setCell ⟨p, 2, none⟩ (.int .i64 H)).drewN q) (some p) := by
  have hlt := (show Cur w B p from ⟨A, n, c, i, y, hh, hb, hp, hn, hi⟩).lt
  have g := grown_drewN (grown_setCell w p 2 (.int .i64 H)) q
  exact ⟨⟨A, n, c, i, H, set_blk hh 2 _, hb.below (grown_below g (by omega) (fun k hk => by injection hk with hk; omega)), hp, hn, hi⟩, g⟩
theorem cur_take (hh : w.heap[p]? = some (.cells #[.slice A n c, .int .i64 (i : Int), .int .i64 y] 78 (0, 0))) (hb : BRow w B A n) (hp : B ≤ p) (hn : n ≤ 4096) (hi : i < n) (H : Int) (q : Nat) :
    Cur (((w.setCell ⟨p, 2, none⟩ (.int .i64 H)).drewN q).setCell ⟨p, 1, none⟩ (.int .i64 ((i : Int) + 1))) B p ∧ w.grownBy (((w.setCell ⟨p, 2, none⟩ (.int .i64 H)).drewN q).setCell ⟨p, 1, none⟩ (.int .i64 ((i : Int) + 1))) (some p) := by
  have hlt := (show Cur w B p from ⟨A, n, c, i, y, hh, hb, hp, hn, Nat.le_of_lt hi⟩).lt
  have g := (grown_drewN (grown_setCell w p 2 (.int .i64 H)) q).trans (grown_setCell ((w.setCell ⟨p, 2, none⟩ (.int .i64 H)).drewN q) p 1 (.int .i64 ((i : Int) + 1)))
  exact ⟨⟨A, n, c, i + 1, H, set_blk (w := (w.setCell ⟨p, 2, none⟩ (.int .i64 H)).drewN q) (set_blk hh 2 _) 1 _, hb.below (grown_below g (by omega) (fun k hk => by injection hk with hk; omega)), hp, hn, hi⟩, g⟩
end

set_option maxHeartbeats 800000 in
theorem byte_any (B p : Nat) (w : World) (h : Cur w B p) :
    Calls Try.prog 82 #[.pointer (some ⟨p, 0, none⟩)] w (Rolls w B p fun x => 0 ≤ x ∧ x ≤ 255) := by
  obtain ⟨A, n, c, i, y, hh, hb, hp, hn, hi⟩ := h
  have c0 : w.cell? ⟨p, 0, none⟩ = some (.slice A n c) := cell_of_blk hh 0
  have c1 : w.cell? ⟨p, 1, none⟩ = some (.int .i64 (i : Int)) := cell_of_blk hh 1
  have c2 : w.cell? ⟨p, 2, none⟩ = some (.int .i64 y) := cell_of_blk hh 2
  have f1 := free_of_blk hh 1
  have f2 := free_of_blk hh 2
  have HH := Lib.hid hh
  have HB := Lib.hid hb
  clear hh hb
  by_cases hlt : i < n
  · obtain ⟨b, off, rfl, hbB, hcs⟩ := HB.out (by omega)
    obtain ⟨v, hv, v0, v1⟩ := hcs i hlt
    have hne : b ≠ p := by omega
    have i0 : (0 : Int) ≤ (i : Int) := by omega
    have i1 : (i : Int) < (n : Int) := by omega
    clear hcs
    go_enter Try.func82, Try.ntmps82
    go_wp2
    go_quiet (fail)
    go_wp2
    go_quiet (fail)
    go_wp2
    go_quiet (fail)
    go_wp2
    go_ret
    have R := cur_take HH.out HB.out hp hn hlt
    exact ⟨_, and_255 _, rfl, (R _ _).1, (R _ _).2⟩
  · have i1 : ¬ (i : Int) < (n : Int) := by omega
    go_enter Try.func82, Try.ntmps82
    go_wp2
    go_quiet (fail)
    go_wp2
    go_quiet (fail)
    go_wp2
    go_ret
    have R := cur_roll HH.out HB.out hp hn hi
    refine ⟨_, and_255 _, rfl, ?_⟩
    rw [World.drewN_drewN]
    exact R _ _

/-- From 0 to below n. -/
def UpTo (n x : Int) : Prop := 0 ≤ x ∧ x < n

set_option maxHeartbeats 800000 in
theorem below_any (B p : Nat) (w : World) (h : Cur w B p) (n : Int) (n0 : 0 < n) (n1 : n ≤ 1000000001) :
    Calls Try.prog 72 #[.pointer (some ⟨p, 0, none⟩), .int .i64 n] w (Rolls w B p (UpTo n)) := by
  have q0 : ¬ n ≤ 0 := by omega
  by_cases h256 : n ≤ 256
  · go_enter Try.func72, Try.ntmps72
    go_wp2_with fail
    refine (byte_any B p _ h).mono ?_
    rintro e w1 ⟨x, ⟨x0, x1⟩, rfl, c1, g1⟩
    have hne : (n == 0) = false := by simp; omega
    go_wp2
    go_ret
    exact ⟨_, ⟨Int.emod_nonneg _ (by omega), Int.emod_lt_of_pos _ n0⟩, rfl, c1, g1⟩
  · go_enter Try.func72, Try.ntmps72
    go_wp2_with fail
    refine (byte_any B p _ h).mono ?_
    rintro e w1 ⟨x, ⟨x0, x1⟩, rfl, c1, g1⟩
    go_wp2_with fail
    refine (byte_any B p _ c1).mono ?_
    rintro e w2 ⟨y, ⟨y0, y1⟩, rfl, c2, g2⟩
    go_wp2_with fail
    refine (byte_any B p _ c2).mono ?_
    rintro e w3 ⟨z, ⟨z0, z1⟩, rfl, c3, g3⟩
    go_wp2_with fail
    refine (byte_any B p _ c3).mono ?_
    rintro e w4 ⟨u, ⟨u0, u1⟩, rfl, c4, g4⟩
    have hne : (n == 0) = false := by simp; omega
    go_wp2
    go_ret
    exact ⟨_, ⟨Int.emod_nonneg _ (by omega), Int.emod_lt_of_pos _ n0⟩, rfl, c4, ((g1.trans g2).trans g3).trans g4⟩

end Go.Proofs.Ytbjdfgdcmaflkaa
