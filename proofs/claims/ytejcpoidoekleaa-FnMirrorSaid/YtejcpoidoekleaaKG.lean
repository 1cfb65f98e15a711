/-
  The cursor from which the model's draws take their numbers: each call hands back a number in its range, and writes nothing but the cursor.
  The model's draws of numbers: a truth, some number, nothing but the cursor written.
  The model's draw of a number between two bounds.
  The model's draw of a short row in new memory.
  The model's draw of some row, also a long or a bad one, in new memory.
  The model's cursor over the bytes of a draw is made in new memory.
  The model's draw of fates: a short list of numbers in new memory.
-/
import Derived.Test.YtejcpoidoekleaaKA
import Derived.OpenShut
import Derived.RegionTactic
import Derived.Maps.Range
namespace Go.Proofs.Ytejcpoidoekleaa
set_option maxRecDepth 100000
open Go.RowKit

/-- The slice value '.slice A n c' reads as n bytes, below block B. -/
def BRow (w : World) (B : Nat) (A : Option Addr) (n : Nat) : Prop :=
  0 < n → ∃ b off, A = some ⟨b, off, none⟩ ∧ b < B ∧ ∀ j, j < n → ∃ x : Int, w.cell? ⟨b, off + j, none⟩ = some (.int .u8 x) ∧ 0 ≤ x ∧ x ≤ 255

theorem BRow.below {w w' : World} {B : Nat} {A : Option Addr} {n : Nat} (h : BRow w B A n) (hb : Below B w w') : BRow w' B A n := by
  intro hn
  obtain ⟨b, off, rfl, hlt, hc⟩ := h hn
  refine ⟨b, off, rfl, hlt, fun j hj => ?_⟩
  obtain ⟨x, hx, r⟩ := hc j hj
  exact ⟨x, (hb.cell (p := ⟨b, off + j, none⟩) hlt).trans hx, r⟩

theorem IsRow.brow {w : World} {a : Option Addr} {len cap : Nat} {zs : List Int} (h : IsRow .u8 w a len cap zs) : BRow w w.heap.size a len := by
  rcases h with ⟨rfl, rfl, rfl, rfl⟩ | ⟨x, rfl, hl, hm, hz, hcell, hwz⟩
  · exact fun h => absurd h (by omega)
  · intro hn
    obtain ⟨b, off, spot⟩ := x
    have hc := hcell 0 (by omega)
    have hspot : spot = none := by simpa [Addr.add] using World.cell?_spot hc
    subst hspot
    refine ⟨b, off, rfl, by simpa [Addr.add] using lt_of_cell hc, fun j hj => ?_⟩
    have hj' := hcell j (by omega)
    have e : (⟨b, off, none⟩ : Addr).add j = ⟨b, off + j, none⟩ := by
      unfold Addr.add
      by_cases h0 : j = 0 <;> simp [h0]
    rw [e] at hj'
    have hmem : zs.getD j 0 ∈ zs := by simp [List.getD, List.getElem?_eq_getElem (show j < zs.length by omega)]
    have hw := bounds_u8 (hwz _ hmem)
    exact ⟨_, hj', hw.1, by omega⟩

/-- Block p is a cursor over bytes below B. -/
def Cur (w : World) (B p : Nat) : Prop :=
  ∃ (A : Option Addr) (n c i : Nat) (h : Int), w.heap[p]? = some (.cells #[.slice A n c, .int .i64 (i : Int), .int .i64 h] 98 (0, 0)) ∧ BRow w B A n ∧ B ≤ p ∧ n ≤ 4096 ∧ i ≤ n

theorem Cur.kept {w w' : World} {B p : Nat} {row : Option Nat} (h : Cur w B p) (hg : w.grownBy w' row) (hr : ∀ k, row = some k → p < k) : Cur w' B p := by
  obtain ⟨A, n, c, i, x, hh, hb, hp, hn, hi⟩ := h
  have hlt : p < w.heap.size := by
    rcases Nat.lt_or_ge p w.heap.size with hlt | hge
    · exact hlt
    · rw [Array.getElem?_eq_none hge] at hh; cases hh
  refine ⟨A, n, c, i, x, ?_, hb.below (grown_below hg (by omega) (fun k hk => by have := hr k hk; omega)), hp, hn, hi⟩
  rw [hg.block p hlt (fun e => by have := hr p e.symm; omega)]
  exact hh

theorem Cur.lt {w : World} {B p : Nat} (h : Cur w B p) : p < w.heap.size := by
  obtain ⟨A, n, c, i, x, hh, _⟩ := h
  rcases Nat.lt_or_ge p w.heap.size with hlt | hge
  · exact hlt
  · rw [Array.getElem?_eq_none hge] at hh; cases hh

theorem Cur.le {w : World} {B p : Nat} (h : Cur w B p) : B ≤ p := by
  obtain ⟨A, n, c, i, x, _, _, hp, _⟩ := h
  exact hp

theorem Cur.below {w w' : World} {B p : Nat} (h : Cur w B p) (hb : Below w.heap.size w w') : Cur w' B p := by
  have hlt := h.lt
  obtain ⟨A, n, c, i, x, hh, hbr, hp, hn, hi⟩ := h
  exact ⟨A, n, c, i, x, (hb.block p hlt).trans hh, hbr.below (hb.mono (by omega)), hp, hn, hi⟩


/-- A number of which P holds is handed back; nothing but the cursor p is written. -/
def Rolls (w : World) (B p : Nat) (P : Int → Prop) (e : Ending) (w' : World) : Prop :=
  ∃ x : Int, P x ∧ e = .returned (.int .i64 x) ∧ Cur w' B p ∧ w.grownBy w' (some p)

theorem and_255 (x : Int) : 0 ≤ bits .and .i64 x 255 ∧ bits .and .i64 x 255 ≤ 255 := by
  have h : (BitVec.ofInt 64 x &&& BitVec.ofInt 64 255).toNat ≤ 255 := by
    rw [BitVec.toNat_and]
    exact Nat.le_trans Nat.and_le_right (by decide)
  have e : bits .and .i64 x 255 = ((BitVec.ofInt 64 x &&& BitVec.ofInt 64 255).toNat : Int) := by
    show IntKind.i64.wrap ((BitVec.ofInt 64 x &&& BitVec.ofInt 64 255).toNat : Int) = _
    rw [IntKind.wrap_i64]
    omega
  rw [e]
  omega

section
variable {w : World} {B p : Nat} {A : Option Addr} {n c i : Nat} {y : Int}
theorem cur_roll (hh : w.heap[p]? = some (.cells #[.slice A n c, .int .i64 (i : Int), .int .i64 y] 98 (0, 0))) (hb : BRow w B A n) (hp : B ≤ p) (hn : n ≤ 4096) (hi : i ≤ n) (H : Int) (q : Nat) :
    Cur ((w.setCell ⟨p, 2, none⟩ (.int .i64 H)).drewN q) B p ∧ w.grownBy ((w.setCell ⟨p, 2, none⟩ (.int .i64 H)).drewN q) (some p) := by
  have hlt := (show Cur w B p from ⟨A, n, c, i, y, hh, hb, hp, hn, hi⟩).lt
  have g := grown_drewN (grown_setCell w p 2 (.int .i64 H)) q
  exact ⟨⟨A, n, c, i, H, set_blk hh 2 _, hb.below (grown_below g (by omega) (fun k hk => by injection hk with hk; omega)), hp, hn, hi⟩, g⟩
theorem cur_take (hh : w.heap[p]? = some (.cells #[.slice A n c, .int .i64 (i : Int), .int .i64 y] 98 (0, 0))) (hb : BRow w B A n) (hp : B ≤ p) (hn : n ≤ 4096) (hi : i < n) (H : Int) (q : Nat) :
    Cur (((w.setCell ⟨p, 2, none⟩ (.int .i64 H)).drewN q).setCell ⟨p, 1, none⟩ (.int .i64 ((i : Int) + 1))) B p ∧ w.grownBy (((w.setCell ⟨p, 2, none⟩ (.int .i64 H)).drewN q).setCell ⟨p, 1, none⟩ (.int .i64 ((i : Int) + 1))) (some p) := by
  have hlt := (show Cur w B p from ⟨A, n, c, i, y, hh, hb, hp, hn, Nat.le_of_lt hi⟩).lt
  have g := (grown_drewN (grown_setCell w p 2 (.int .i64 H)) q).trans (grown_setCell ((w.setCell ⟨p, 2, none⟩ (.int .i64 H)).drewN q) p 1 (.int .i64 ((i : Int) + 1)))
  exact ⟨⟨A, n, c, i + 1, H, set_blk (w := (w.setCell ⟨p, 2, none⟩ (.int .i64 H)).drewN q) (set_blk hh 2 _) 1 _, hb.below (grown_below g (by omega) (fun k hk => by injection hk with hk; omega)), hp, hn, hi⟩, g⟩
end

set_option maxHeartbeats 800000 in
theorem byte_any (B p : Nat) (w : World) (h : Cur w B p) :
    Calls Try.prog 116 #[.pointer (some ⟨p, 0, none⟩)] w (Rolls w B p fun x => 0 ≤ x ∧ x ≤ 255) := by
  obtain ⟨A, n, c, i, y, hh, hb, hp, hn, hi⟩ := h
  have c0 : w.cell? ⟨p, 0, none⟩ = some (.slice A n c) := cell_of_blk hh 0
  have c1 : w.cell? ⟨p, 1, none⟩ = some (.int .i64 (i : Int)) := cell_of_blk hh 1
  have c2 : w.cell? ⟨p, 2, none⟩ = some (.int .i64 y) := cell_of_blk hh 2
  have f1 := free_of_blk hh 1
  have f2 := free_of_blk hh 2
  have HH := Lib.hid hh
  have HB := Lib.hid hb
  clear hh hb
  by_cases hlt : i < n
  · obtain ⟨b, off, rfl, hbB, hcs⟩ := HB.out (by omega)
    obtain ⟨v, hv, v0, v1⟩ := hcs i hlt
    have hne : b ≠ p := by omega
    have i0 : (0 : Int) ≤ (i : Int) := by omega
    have i1 : (i : Int) < (n : Int) := by omega
    clear hcs
    go_enter Try.func116, Try.ntmps116
    go_wp2
    go_quiet (fail)
    go_wp2
    go_quiet (fail)
    go_wp2
    go_quiet (fail)
    go_wp2
    go_ret
    have R := cur_take HH.out HB.out hp hn hlt
    exact ⟨_, and_255 _, rfl, (R _ _).1, (R _ _).2⟩
  · have i1 : ¬ (i : Int) < (n : Int) := by omega
    go_enter Try.func116, Try.ntmps116
    go_wp2
    go_quiet (fail)
    go_wp2
    go_quiet (fail)
    go_wp2
    go_ret
    have R := cur_roll HH.out HB.out hp hn hi
    refine ⟨_, and_255 _, rfl, ?_⟩
    rw [World.drewN_drewN]
    exact R _ _

/-- From 0 to below n. -/
def UpTo (n x : Int) : Prop := 0 ≤ x ∧ x < n

set_option maxHeartbeats 800000 in
theorem below_any (B p : Nat) (w : World) (h : Cur w B p) (n : Int) (n0 : 0 < n) (n1 : n ≤ 1000000001) :
    Calls Try.prog 94 #[.pointer (some ⟨p, 0, none⟩), .int .i64 n] w (Rolls w B p (UpTo n)) := by
  have q0 : ¬ n ≤ 0 := by omega
  by_cases h256 : n ≤ 256
  · go_enter Try.func94, Try.ntmps94
    go_wp2_with fail
    refine (byte_any B p _ h).mono ?_
    rintro e w1 ⟨x, ⟨x0, x1⟩, rfl, c1, g1⟩
    have hne : (n == 0) = false := by simp; omega
    go_wp2
    go_ret
    exact ⟨_, ⟨Int.emod_nonneg _ (by omega), Int.emod_lt_of_pos _ n0⟩, rfl, c1, g1⟩
  · go_enter Try.func94, Try.ntmps94
    go_wp2_with fail
    refine (byte_any B p _ h).mono ?_
    rintro e w1 ⟨x, ⟨x0, x1⟩, rfl, c1, g1⟩
    go_wp2_with fail
    refine (byte_any B p _ c1).mono ?_
    rintro e w2 ⟨y, ⟨y0, y1⟩, rfl, c2, g2⟩
    go_wp2_with fail
    refine (byte_any B p _ c2).mono ?_
    rintro e w3 ⟨z, ⟨z0, z1⟩, rfl, c3, g3⟩
    go_wp2_with fail
    refine (byte_any B p _ c3).mono ?_
    rintro e w4 ⟨u, ⟨u0, u1⟩, rfl, c4, g4⟩
    have hne : (n == 0) = false := by simp; omega
    go_wp2
    go_ret
    exact ⟨_, ⟨Int.emod_nonneg _ (by omega), Int.emod_lt_of_pos _ n0⟩, rfl, c4, ((g1.trans g2).trans g3).trans g4⟩

end Go.Proofs.Ytejcpoidoekleaa

namespace Go.Proofs.Ytejcpoidoekleaa
set_option maxRecDepth 100000
open Go.RowKit

theorem own_lit (w : World) (l : List Int) (hl : l.length ≤ maxLen) : Own (w.alloc (.cells (ivals l).toArray 2)) w.heap.size (some ⟨w.heap.size, 0, none⟩) l.length l.length l := by
  have := World.ownsRow_lit (base := w.heap.size) (e := 2) (size := 1) w (ivals l).toArray l.length (Nat.le_refl _) hl (by simp [ivals])
  simpa [Own] using this

theorem Own.cell {w : World} {base g n c : Nat} {xs : List Int} (o : Own w base (some ⟨g, 0, none⟩) n c xs) {j : Nat} (hj : j < n) : w.cell? ⟨g, j, none⟩ = some (.int .i64 (xs.getD j 0)) := by
  have hl := o.len
  rw [World.ownsRow.cellAt o j (by omega), ivals_get, List.getElem?_eq_getElem (by omega)]
  simp [List.getD, List.getElem?_eq_getElem (show j < xs.length by omega)]

/-- A bool is handed back; nothing but the cursor p is written. -/
def RollsB (w : World) (B p : Nat) (e : Ending) (w' : World) : Prop :=
  ∃ b : Bool, e = .returned (.bool b) ∧ Cur w' B p ∧ w.grownBy w' (some p)

theorem once_any (B p : Nat) (w : World) (h : Cur w B p) (n : Int) (n0 : 0 < n) (n1 : n ≤ 1000000001) :
    Calls Try.prog 92 #[.pointer (some ⟨p, 0, none⟩), .int .i64 n] w (RollsB w B p) := by
  go_enter Try.func92, Try.ntmps92
  go_wp2_with fail
  refine (below_any B p _ h n n0 n1).mono ?_
  rintro e w1 ⟨x, ⟨x0, x1⟩, rfl, c1, g1⟩
  go_wp2
  go_ret
  exact ⟨_, rfl, c1, g1⟩

theorem min_any (a b : Int) (w : World) :
    Calls Try.prog 123 #[.int .i64 a, .int .i64 b] w fun e w' => e = .returned (.int .i64 (if a < b then a else b)) ∧ w = w' := by
  by_cases h : a < b
  all_goals
    go_enter Try.func123, Try.ntmps123
    go_wp2
    go_ret
    exact ⟨rfl, rfl⟩

def AnyInt (_ : Int) : Prop := True

set_option maxHeartbeats 800000 in
theorem odd_any (B p : Nat) (w : World) (h : Cur w B p) :
    Calls Try.prog 95 #[.pointer (some ⟨p, 0, none⟩)] w (Rolls w B p AnyInt) := by
  have hp := h.lt
  obtain ⟨L, hL⟩ : ∃ L : List Int, L = [-1, 0, 1, 2147483648, -2147483648, 1099511627776, 4611686018427387904, -4611686018427387904, 9223372036854775807, -9223372036854775808] := ⟨_, rfl⟩
  have HL := Lib.hid hL
  have g0 := World.grownBy_alloc w (.cells (ivals L).toArray 2) (some p)
  have o0 := own_lit w L (by rw [hL]; decide)
  have hlen : L.length = 10 := by rw [hL]; rfl
  rw [hlen] at o0
  have c0 := h.kept (World.grownBy_alloc w (.cells (ivals L).toArray 2) none) (fun k hk => by cases hk)
  have hw : w.alloc (.cells #[.int .i64 (-1), .int .i64 0, .int .i64 1, .int .i64 2147483648, .int .i64 (-2147483648), .int .i64 1099511627776, .int .i64 4611686018427387904, .int .i64 (-4611686018427387904), .int .i64 9223372036854775807, .int .i64 (-9223372036854775808)] 2) = w.alloc (.cells (ivals L).toArray 2) := by
    rw [hL]; rfl
  have HW := Lib.hid hw
  clear hL hw hlen
  go_enter Try.func95, Try.ntmps95
  go_wp2_with fail
  rw [HW.out]
  refine (below_any B p _ c0 10 (by omega) (by omega)).mono ?_
  rintro e w1 ⟨x, ⟨x0, x1⟩, rfl, c1, g1⟩
  have o1 := o0.kept g1 (fun k hk => by injection hk with hk; omega)
  have hcell := o1.cell (j := x.toNat) (by omega)
  generalize L.getD x.toNat 0 = y at hcell
  have G := Lib.hid (g0.trans g1)
  clear o0 o1 c0 g0 g1
  go_wp2
  go_ret
  exact ⟨_, trivial, rfl, c1, G.out⟩

set_option maxHeartbeats 1600000 in
theorem num_any (B p : Nat) (w : World) (h : Cur w B p) (most : Int) (m0 : 0 ≤ most) (m1 : most ≤ 1000000000) :
    Calls Try.prog 122 #[.pointer (some ⟨p, 0, none⟩), .int .i64 most] w (Rolls w B p AnyInt) := by
  go_enter Try.func122, Try.ntmps122
  go_wp2_with fail
  refine (once_any B p _ h 10 (by omega) (by omega)).mono ?_
  rintro e w1 ⟨b, rfl, c1, g1⟩
  cases b
  · go_wp2_with fail
    refine (once_any B p _ c1 2 (by omega) (by omega)).mono ?_
    rintro e w2 ⟨b2, rfl, c2, g2⟩
    cases b2
    · go_wp2_with fail
      refine (below_any B p _ c2 _ (by omega) (by omega)).mono ?_
      rintro e w3 ⟨x, _, rfl, c3, g3⟩
      go_wp2
      go_ret
      exact ⟨_, trivial, rfl, c3, (g1.trans g2).trans g3⟩
    · go_wp2_with fail
      refine (min_any most 4 _).mono ?_
      rintro e w2' ⟨rfl, rfl⟩
      obtain ⟨q, hq⟩ : ∃ q : Int, q = if most < 4 then most else 4 := ⟨_, rfl⟩
      have q0 : 0 ≤ q := by rw [hq]; split <;> omega
      have q1 : q ≤ 4 := by rw [hq]; split <;> omega
      rw [← hq]
      clear hq
      go_wp2_with fail
      refine (below_any B p _ c2 _ (by omega) (by omega)).mono ?_
      rintro e w3 ⟨x, _, rfl, c3, g3⟩
      go_wp2
      go_ret
      exact ⟨_, trivial, rfl, c3, (g1.trans g2).trans g3⟩
  · go_wp2_with fail
    refine (odd_any B p _ c1).mono ?_
    rintro e w2 ⟨y, _, rfl, c2, g2⟩
    have hp := c2.lt
    have g0 := World.grownBy_alloc w2 (.cells (ivals [-1, most, most + 1, y]).toArray 2) (some p)
    have o0 : Own (w2.alloc (.cells (ivals [-1, most, most + 1, y]).toArray 2)) w2.heap.size (some ⟨w2.heap.size, 0, none⟩) 4 4 [-1, most, most + 1, y] := own_lit w2 [-1, most, most + 1, y] (by simp [maxLen])
    have c0 := c2.kept (World.grownBy_alloc w2 (.cells (ivals [-1, most, most + 1, y]).toArray 2) none) (fun k hk => by cases hk)
    have G0 := Lib.hid ((g1.trans g2).trans g0)
    have O0 := Lib.hid o0
    have C0 := Lib.hid c0
    clear o0 c0 g0 g1 g2
    go_wp2_with fail
    refine (below_any B p _ C0.out 4 (by omega) (by omega)).mono ?_
    rintro e w3 ⟨x, ⟨x0, x1⟩, rfl, c3, g3⟩
    have o1 := O0.out.kept g3 (fun k hk => by injection hk with hk; omega)
    have hcell := o1.cell (j := x.toNat) (by omega)
    generalize [-1, most, most + 1, y].getD x.toNat 0 = z at hcell
    have G := Lib.hid (G0.out.trans g3)
    clear o1 g3
    go_wp2
    go_ret
    exact ⟨_, trivial, rfl, c3, G.out⟩

end Go.Proofs.Ytejcpoidoekleaa

namespace Go.Proofs.Ytejcpoidoekleaa
set_option maxRecDepth 100000
open Go.RowKit

def Between (lo hi x : Int) : Prop := lo ≤ x ∧ x ≤ hi

theorem from_any (B p : Nat) (w : World) (h : Cur w B p) (lo hi : Int) (l0 : -1000000 ≤ lo) (l1 : lo ≤ hi) (l2 : hi ≤ 1000000) :
    Calls Try.prog 115 #[.pointer (some ⟨p, 0, none⟩), .int .i64 lo, .int .i64 hi] w (Rolls w B p (Between lo hi)) := by
  go_enter Try.func115, Try.ntmps115
  go_wp2_with fail
  refine (below_any B p _ h _ (by omega) (by omega)).mono ?_
  rintro e w1 ⟨x, ⟨x0, x1⟩, rfl, c1, g1⟩
  go_wp2
  go_ret
  exact ⟨_, ⟨by omega, by omega⟩, rfl, c1, g1⟩

end Go.Proofs.Ytejcpoidoekleaa

namespace Go.Proofs.Ytejcpoidoekleaa
set_option maxRecDepth 100000
open Go.RowKit

/-- Some row of at most 50 numbers in new memory is handed back; nothing but the cursor p is written. -/
def DrawnRow (w : World) (B p : Nat) (e : Ending) (w' : World) : Prop :=
  ∃ A n c xs, e = .returned (.slice A n c) ∧ Own w' w.heap.size A n c xs ∧ n ≤ 50 ∧ Cur w' B p ∧ w.grownBy w' (some p)

theorem cur_alloc {w : World} {B p : Nat} (h : Cur w B p) (o : Obj) : Cur (w.alloc o) B p := h.kept (World.grownBy_alloc w o none) (fun k hk => by cases hk)

/-- One number more at the end of an own row: what stands behind 'append(row, x)'. -/
theorem push_ints {w w1 w2 : World} {B p base : Nat} {A : Option Addr} {n c : Nat} {xs : List Int} {x : Int}
    (c1 : Cur w1 B p) (hp : p < base) (g1 : w.grownBy w1 (some p)) (o1 : Own w1 base A n c xs)
    (g2 : (w1.alloc (.cells #[.int .i64 x] 2)).grownBy w2 (Value.slice A n c).ownBlock) (hbase : w.heap.size = base) :
    Cur w2 B p ∧ w.grownBy w2 (some p) := by
  have ge : ∀ k, (Value.slice A n c).ownBlock = some k → base ≤ k := fun k hk => (o1.ge k hk).1
  refine ⟨(cur_alloc c1 _).kept g2 (fun k hk => by have := ge k hk; omega), ?_⟩
  exact (g1.trans (World.grownBy_alloc w1 _ (some p))).andThen g2 (fun j hj => .inl (by have := ge j hj; omega))

/-- .. of at most 7 numbers. -/
def DrawnRow7 (w : World) (B p : Nat) (e : Ending) (w' : World) : Prop :=
  ∃ A n c xs, e = .returned (.slice A n c) ∧ Own w' w.heap.size A n c xs ∧ n ≤ 7 ∧ Cur w' B p ∧ w.grownBy w' (some p)

set_option maxHeartbeats 1600000 in
theorem drawRow_any7 (B p : Nat) (w : World) (h : Cur w B p) :
    Calls Try.prog 111 #[.pointer (some ⟨p, 0, none⟩)] w (DrawnRow7 w B p) := by
  have hp := h.lt
  have c0 := Lib.hid (cur_alloc h (.cells #[] 2))
  have o0 := Lib.hid (own_empty w)
  have g0 := Lib.hid (World.grownBy_alloc w (.cells #[] 2) (some p))
  clear h
  go_enter Try.func111, Try.ntmps111
  go_wp2_with fail
  refine (below_any B p _ c0.out 8 (by omega) (by omega)).mono ?_
  rintro e w1 ⟨x, ⟨x0, x1⟩, rfl, c1, g1⟩
  have o1 := Lib.hid (o0.out.kept g1 (fun k hk => by injection hk with hk; omega))
  have G1 := Lib.hid (g0.out.trans g1)
  have C1 := Lib.hid c1
  obtain ⟨q, rfl⟩ := Int.eq_ofNat_of_zero_le x0
  clear c1 g1
  go_wp2
  go_loopw [3, 4] (fun r i wr => ∃ (k n c : Nat) (A : Option Addr) (xs : List Int), i = .int .i64 (k : Int) ∧ n + k ≤ 7 ∧ r = .slice A n c ∧ Own wr w.heap.size A n c xs ∧ Cur wr B p ∧ w.grownBy wr (some p)) (fun _ i _ => (intOf i).toNat)
  case atStart => exact ⟨q, 0, 0, _, [], rfl, by omega, rfl, o1.out, C1.out, G1.out⟩
  case round =>
    obtain ⟨k, n, c, A, xs, rfl, hnk, rfl, hown, hcur, hgr⟩ := hrel
    rcases k with _ | k
    · go_wp2
      go_ret
      exact ⟨A, n, c, xs, rfl, hown, by omega, hcur, hgr⟩
    · have i0 : (0 : Int) < (k : Int) + 1 := by omega
      go_wp2_with fail
      refine (below_any B p _ hcur 50 (by omega) (by omega)).mono ?_
      rintro e w2 ⟨y, _, rfl, c2, g2⟩
      have o2 := hown.kept g2 (fun j hj => by injection hj with hj; omega)
      have g02 := hgr.trans g2
      have o2' := o2.below ((Below.refl _ w2).alloc (Nat.le_refl _) (.cells #[.int .i64 y] 2))
      have r2 := (own_one w2 y).irow
      have zb : w.heap.size ≤ (w2.alloc (.cells #[.int .i64 y] 2)).heap.size := by have := g02.size; simp; omega
      clear hown hcur hgr g2
      go_wp2_with (first
        | (at_builtin
           refine wpList_append_ints rfl (.tmp 12) (.tmp 15) rfl rfl o2' rfl r2 zb (by omega) ?_
           intro A3 c3 w3 o3 g3 e3))
      have R := push_ints c2 hp g02 o2 g3 rfl
      go_roundw
      case rel => exact ⟨k, n + 1, c3, A3, xs ++ [y], by go_num, by omega, rfl, o3, R.1, R.2⟩
      case measure => simp [intOf]

end Go.Proofs.Ytejcpoidoekleaa

namespace Go.Proofs.Ytejcpoidoekleaa
set_option maxRecDepth 100000
open Go.RowKit

set_option maxHeartbeats 1600000 in
theorem drawAny_any (B p : Nat) (w : World) (h : Cur w B p) :
    Calls Try.prog 114 #[.pointer (some ⟨p, 0, none⟩)] w (DrawnRow w B p) := by
  have hp := h.lt
  go_enter Try.func114, Try.ntmps114
  go_wp2_with fail
  refine (drawRow_any7 B p _ h).mono ?_
  rintro e w1 ⟨A, n, c, xs, rfl, o1, hn, c1, g1⟩
  go_wp2_with fail
  refine (once_any B p _ c1 6 (by omega) (by omega)).mono ?_
  rintro e w2 ⟨b, rfl, c2, g2⟩
  have o2 := o1.kept g2 (fun j hj => by injection hj with hj; omega)
  have g02 := g1.trans g2
  clear o1 c1 g1 g2
  cases b
  · go_wp2
    go_ret
    exact ⟨A, n, c, xs, rfl, o2, by omega, c2, g02⟩
  · go_wp2_with fail
    refine (below_any B p _ c2 3 (by omega) (by omega)).mono ?_
    rintro e w3 ⟨x, ⟨x0, x1⟩, rfl, c3, g3⟩
    have o3 := o2.kept g3 (fun j hj => by injection hj with hj; omega)
    have g03 := g02.trans g3
    clear o2 c2 g02 g3 h
    rcases (show x = 0 ∨ x = 1 ∨ x = 2 from by omega) with rfl | rfl | rfl
    · go_wp2_with fail
      refine (num_any B p _ c3 1000000000 (by omega) (by omega)).mono ?_
      rintro e w4 ⟨y, _, rfl, c4, g4⟩
      have o4 := o3.kept g4 (fun j hj => by injection hj with hj; omega)
      have g04 := g03.trans g4
      have o4' := o4.below ((Below.refl _ w4).alloc (Nat.le_refl _) (.cells #[.int .i64 y] 2))
      have r4 := (own_one w4 y).irow
      have zb : w.heap.size ≤ (w4.alloc (.cells #[.int .i64 y] 2)).heap.size := by have := g04.size; simp; omega
      clear o3 c3 g03 g4
      go_wp2_with (first
        | (at_builtin
           refine wpList_append_ints rfl (.tmp 12) (.tmp 15) rfl rfl o4' rfl r4 zb (by omega) ?_
           intro A5 c5 w5 o5 g5 e5))
      have R := push_ints c4 hp g04 o4 g5 rfl
      go_ret
      exact ⟨A5, n + 1, c5, _, rfl, o5, by omega, R.1, R.2⟩
    · go_wp2_with fail
      refine (from_any B p _ c3 (-1) 1 (by omega) (by omega) (by omega)).mono ?_
      rintro e w4 ⟨y, ⟨y0, y1⟩, rfl, c4, g4⟩
      have g04 := g03.trans g4
      obtain ⟨k, hk⟩ := Int.eq_ofNat_of_zero_le (show 0 ≤ 48 + y by omega)
      have hmk := run_make_row' (P := Try.prog) 35 2 (.int .i64 0) 8 Try.underlying35 info64 rfl .i64 .i64 k (by omega) (by omega)
      rw [← hk] at hmk
      have ho : Own (w4.alloc (.cells (madeCells #[.int .i64 0] k) 2)) w4.heap.size (some ⟨w4.heap.size, 0, none⟩) k k (List.replicate k 0) := by
        have := World.ownsRow_lit (base := w4.heap.size) (e := 2) (size := 1) w4 (madeCells #[.int .i64 0] k) k (Nat.le_refl _) (by simp only [maxLen]; omega) (by rw [size_madeCells]; omega)
        rw [toList_madeCells_one] at this
        simpa [Own, ivals] using this
      have HO := Lib.hid ho
      have HC := Lib.hid (cur_alloc c4 (.cells (madeCells #[.int .i64 0] k) 2))
      have HG := Lib.hid (g04.trans (World.grownBy_alloc w4 (.cells (madeCells #[.int .i64 0] k) 2) (some p)))
      have k49 : k ≤ 49 := by omega
      have HZ := Lib.hid g04.size
      clear o3 c3 g03 g4 ho c4 g04 hk
      go_wp2
      go_ret
      exact ⟨_, k, k, _, rfl, HO.out.up HZ.out, by omega, HC.out, HG.out⟩
    · go_wp2_with fail
      refine (odd_any B p _ c3).mono ?_
      rintro e w4 ⟨y, _, rfl, c4, g4⟩
      have o4 := o3.kept g4 (fun j hj => by injection hj with hj; omega)
      have g04 := g03.trans g4
      have o4' := o4.below ((Below.refl _ w4).alloc (Nat.le_refl _) (.cells #[.int .i64 y] 2))
      have r4 := (own_one w4 y).irow
      have zb : w.heap.size ≤ (w4.alloc (.cells #[.int .i64 y] 2)).heap.size := by have := g04.size; simp; omega
      clear o3 c3 g03 g4
      go_wp2_with (first
        | (at_builtin
           refine wpList_append_ints rfl (.tmp 25) (.tmp 28) rfl rfl o4' rfl r4 zb (by omega) ?_
           intro A5 c5 w5 o5 g5 e5))
      have R := push_ints c4 hp g04 o4 g5 rfl
      go_ret
      exact ⟨A5, n + 1, c5, _, rfl, o5, by omega, R.1, R.2⟩

end Go.Proofs.Ytejcpoidoekleaa

namespace Go.Proofs.Ytejcpoidoekleaa
set_option maxRecDepth 100000
open Go.RowKit

set_option maxHeartbeats 800000 in
theorem new_any (A : Option Addr) (n c : Nat) (w : World) (h : BRow w w.heap.size A n) (hn : n ≤ 4096) :
    Calls Try.prog 62 #[.slice A n c] w fun e w' => e = .returned (.pointer (some ⟨w.heap.size, 0, none⟩)) ∧ Cur w' w.heap.size w.heap.size ∧ Below w.heap.size w w' := by
  go_enter Try.func62, Try.ntmps62
  go_wp2
  go_loop [3, 4] (fun s i => ∃ (k : Nat) (q : Int), k ≤ n ∧ i = .int .i64 (k : Int) ∧ s = .int .i64 q) (fun _ i => n - (intOf i).toNat)
  case atStart => exact ⟨0, _, Nat.zero_le _, rfl, rfl⟩
  case round =>
    obtain ⟨k, q, hk, rfl, rfl⟩ := hrel
    by_cases hlt : k < n
    · obtain ⟨b, off, rfl, hb, hc⟩ := h (by omega)
      obtain ⟨v, hv, v0, v1⟩ := hc k hlt
      clear hc h
      go_wp2
      go_round
      case rel => exact ⟨k + 1, _, by omega, by go_num, rfl⟩
      case measure => simp [intOf]; omega
    · go_wp2
      go_ret
      refine ⟨rfl, ⟨A, n, c, 0, q, heap_alloc_new w _, ?_, Nat.le_refl _, hn, Nat.zero_le _⟩, (Below.refl _ _).alloc (Nat.le_refl _) _⟩
      exact h.below ((Below.refl _ _).alloc (Nat.le_refl _) _)

end Go.Proofs.Ytejcpoidoekleaa

namespace Go.Proofs.Ytejcpoidoekleaa
set_option maxRecDepth 100000
open Go.RowKit

/-- Some list of at most 8 numbers in new memory is handed back; nothing but the cursor p is written. -/
def DrawnRow8 (w : World) (B p : Nat) (e : Ending) (w' : World) : Prop :=
  ∃ A n c xs, e = .returned (.slice A n c) ∧ Own w' w.heap.size A n c xs ∧ n ≤ 8 ∧ Cur w' B p ∧ w.grownBy w' (some p)

set_option maxHeartbeats 1600000 in
theorem drawFates_any (B p : Nat) (w : World) (h : Cur w B p) :
    Calls Try.prog 64 #[.pointer (some ⟨p, 0, none⟩)] w (DrawnRow8 w B p) := by
  have hp := h.lt
  have c0 := Lib.hid (cur_alloc h (.cells #[] 2))
  have o0 := Lib.hid (own_empty w)
  have g0 := Lib.hid (World.grownBy_alloc w (.cells #[] 2) (some p))
  clear h
  go_enter Try.func64, Try.ntmps64
  go_wp2_with fail
  refine (below_any B p _ c0.out 9 (by omega) (by omega)).mono ?_
  rintro e w1 ⟨x, ⟨x0, x1⟩, rfl, c1, g1⟩
  have o1 := Lib.hid (o0.out.kept g1 (fun k hk => by injection hk with hk; omega))
  have G1 := Lib.hid (g0.out.trans g1)
  have C1 := Lib.hid c1
  obtain ⟨q, rfl⟩ := Int.eq_ofNat_of_zero_le x0
  clear c1 g1
  go_wp2
  go_loopw [3, 4] (fun r i wr => ∃ (k n c : Nat) (A : Option Addr) (xs : List Int), i = .int .i64 (k : Int) ∧ n + k ≤ 8 ∧ r = .slice A n c ∧ Own wr w.heap.size A n c xs ∧ Cur wr B p ∧ w.grownBy wr (some p)) (fun _ i _ => (intOf i).toNat)
  case atStart => exact ⟨q, 0, 0, _, [], rfl, by omega, rfl, o1.out, C1.out, G1.out⟩
  case round =>
    obtain ⟨k, n, c, A, xs, rfl, hnk, rfl, hown, hcur, hgr⟩ := hrel
    clear o1 C1 G1
    rcases k with _ | k
    · go_wp2_with fail
      refine (once_any B p _ hcur 8 (by omega) (by omega)).mono ?_
      rintro e w2 ⟨b, rfl, c2, g2⟩
      have o2 := hown.kept g2 (fun j hj => by injection hj with hj; omega)
      have g02 := hgr.trans g2
      clear hown hcur hgr g2
      cases b
      · go_wp2
        go_ret
        exact ⟨A, n, c, xs, rfl, o2, by omega, c2, g02⟩
      · by_cases hn0 : 0 < n
        · obtain ⟨g, rfl, hg, _⟩ := o2.at_ hn0
          have i0 : (0 : Int) < (n : Int) := by omega
          go_wp2_with fail
          refine (odd_any B p _ c2).mono ?_
          rintro e w3 ⟨y, _, rfl, c3, g3⟩
          have o3 := o2.kept g3 (fun j hj => by injection hj with hj; omega)
          have g03 := g02.trans g3
          have ck := o3.cell_ (j := 0) hn0
          have fk : w3.frozen? ⟨g, 0, none⟩ = false := World.ownsRow.frozenAt o3 0
          generalize xs.getD 0 0 = z at ck
          have O4 := Lib.hid (o3.put_ 0 y)
          have gs := grown_setCell w3 g 0 (.int .i64 y)
          have C4 := Lib.hid (c3.kept gs (fun k hk => by injection hk with hk; omega))
          have G4 := Lib.hid (g03.andThen gs (fun j hj => .inl (by injection hj with hj; omega)))
          clear c2 g02 o2 c3 g3 o3 g03 gs
          go_wp2
          go_ret
          exact ⟨_, n, c, _, rfl, O4.out, by omega, C4.out, G4.out⟩
        · have i0 : ¬ ((0 : Int) < (n : Int)) := by omega
          go_wp2
          go_ret
          exact ⟨A, n, c, xs, rfl, o2, by omega, c2, g02⟩
    · have i0 : (0 : Int) < (k : Int) + 1 := by omega
      go_wp2_with fail
      refine (below_any B p _ hcur 3 (by omega) (by omega)).mono ?_
      rintro e w2 ⟨y, _, rfl, c2, g2⟩
      have o2 := hown.kept g2 (fun j hj => by injection hj with hj; omega)
      have g02 := hgr.trans g2
      have o2' := o2.below ((Below.refl _ w2).alloc (Nat.le_refl _) (.cells #[.int .i64 y] 2))
      have r2 := (own_one w2 y).irow
      have zb : w.heap.size ≤ (w2.alloc (.cells #[.int .i64 y] 2)).heap.size := by have := g02.size; simp; omega
      clear hown hcur hgr g2
      go_wp2_with (first
        | (at_builtin
           refine wpList_append_ints rfl (.tmp 12) (.tmp 15) rfl rfl o2' rfl r2 zb (by omega) ?_
           intro A3 c3 w3 o3 g3 e3))
      have R := push_ints c2 hp g02 o2 g3 rfl
      go_roundw
      case rel => exact ⟨k, n + 1, c3, A3, xs ++ [y], by go_num, by omega, rfl, o3, R.1, R.2⟩
      case measure => simp [intOf]

end Go.Proofs.Ytejcpoidoekleaa
