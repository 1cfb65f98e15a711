/-
  Slices of int64 that a call owns: what keeps them, a store, a copy, an append; and the walks of the laws' two helpers that mark and look.
-/
import Derived.Test.YtejcpoidoekleaaEq
import Derived.Laws.CopyOwn
import Derived.Maps.AppendAt
namespace Go.Proofs.Ytejcpoidoekleaa
set_option maxRecDepth 100000
open Go.RowKit

theorem grown_drewN {w w' : World} {row : Option Nat} (h : w.grownBy w' row) (n : Nat) : w.grownBy (w'.drewN n) row := ⟨h.os, h.tape, h.output, h.size, h.block⟩
theorem cell_of_blk {w : World} {p : Nat} {cs : Array Value} {t : TypeId} (h : w.heap[p]? = some (.cells cs t (0, 0))) (i : Nat) : w.cell? ⟨p, i, none⟩ = cs[i]? := cell_of_row w p i cs t (0, 0) h
theorem free_of_blk {w : World} {p : Nat} {cs : Array Value} {t : TypeId} (h : w.heap[p]? = some (.cells cs t (0, 0))) (i : Nat) : w.frozen? ⟨p, i, none⟩ = false := frozen_of_row w p i cs t h
theorem set_blk {w : World} {p : Nat} {cs : Array Value} {t : TypeId} (h : w.heap[p]? = some (.cells cs t (0, 0))) (i : Nat) (u : Value) :
    (w.setCell ⟨p, i, none⟩ u).heap[p]? = some (.cells (cs.setIfInBounds i u) t (0, 0)) := heap_setCell_same w p i cs t u h
theorem grown_setCell (w : World) (p i : Nat) (u : Value) : w.grownBy (w.setCell ⟨p, i, none⟩ u) (some p) :=
  ⟨rfl, rfl, rfl, by simp, fun k _ hk => heap_setCell_other w ⟨p, i, none⟩ k u (fun e => hk (by simp [e]))⟩


section
variable {w w' : World} {base B : Nat} {A : Option Addr} {n c : Nat} {xs ys : List Int}

theorem Own.below (h : Own w base A n c xs) (hb : Below w.heap.size w w') : Own w' base A n c xs := by
  refine ⟨h.1, ?_⟩
  rcases h.2 with h0 | ⟨g, cap, cur, hv, hg, hh, r⟩
  · exact .inl h0
  · refine .inr ⟨g, cap, cur, hv, hg, ?_, r⟩
    rw [hb.block g]
    · exact hh
    · rcases Nat.lt_or_ge g w.heap.size with hlt | hge
      · exact hlt
      · rw [Array.getElem?_eq_none hge] at hh; cases hh

theorem Own.drew (h : Own w base A n c xs) (hd : Drew w w') : Own w' base A n c xs := h.below (hd.below _)

theorem Own.up {base' : Nat} (h : Own w base A n c xs) (hb : base' ≤ base) : Own w base' A n c xs := by
  refine ⟨h.1, ?_⟩
  rcases h.2 with h0 | ⟨g, cap, cur, hv, hg, r⟩
  · exact .inl h0
  · exact .inr ⟨g, cap, cur, hv, Nat.le_trans hb hg, r⟩

theorem Own.at_ (h : Own w base A n c xs) (hn : 0 < n) : ∃ g, A = some ⟨g, 0, none⟩ ∧ base ≤ g ∧ g < w.heap.size := by
  rcases h.2 with ⟨_, h0⟩ | ⟨g, cap, cur, hv, hg, hh, r⟩
  · omega
  · injection hv with h1 h2 h3
    refine ⟨g, h1, hg, ?_⟩
    rcases Nat.lt_or_ge g w.heap.size with hlt | hge
    · exact hlt
    · rw [Array.getElem?_eq_none hge] at hh; cases hh

/-- The row that the slice lies in, if it has one, is one of the call's own. -/
theorem Own.ge (h : Own w base A n c xs) : ∀ k, (Value.slice A n c).ownBlock = some k → base ≤ k ∧ k < w.heap.size := World.ownsRow.lt h

theorem Own.kept {row : Option Nat} (h : Own w base A n c xs) (hg : w.grownBy w' row) (hr : ∀ k, row = some k → k < base) : Own w' base A n c xs := by
  refine World.ownsRow.kept h hg ?_
  cases hv : (Value.slice A n c).ownBlock with
  | none => exact .inl rfl
  | some k =>
    refine .inr fun e => ?_
    have := hr k e.symm
    have := (h.ge k hv).1
    omega

theorem grown_below {row : Option Nat} (hg : w.grownBy w' row) (hB : B ≤ w.heap.size) (hr : ∀ k, row = some k → B ≤ k) : Below B w w' := (Below.refl B w).grown hg hB hr

theorem Own.blk {g : Nat} (h : Own w base (some ⟨g, 0, none⟩) n n xs) : w.heap[g]? = some (.cells (ivals xs).toArray 2 (0, 0)) ∧ base ≤ g := by
  rcases h.2 with ⟨h0, _⟩ | ⟨g', cap, cur, hv, hg, hh, hnc, hcm, hcs, htake⟩
  · simp at h0
  · simp only [Value.slice.injEq, Option.some.injEq, Addr.mk.injEq, and_true, true_and] at hv
    obtain ⟨rfl, rfl⟩ := hv
    refine ⟨?_, hg⟩
    rw [hh, ← htake, List.take_of_length_le (by rw [Array.length_toList, hcs]; exact Nat.le_refl _)]

theorem Own.of_blk {g : Nat} (h : w.heap[g]? = some (.cells (ivals xs).toArray 2 (0, 0))) (hg : base ≤ g) (hl : xs.length = n) (hn : n ≤ maxLen) : Own w base (some ⟨g, 0, none⟩) n n xs := by
  refine ⟨by simp [ivals, hl], .inr ⟨g, n, _, rfl, hg, h, Nat.le_refl _, hn, by simp [ivals, hl], ?_⟩⟩
  rw [List.take_of_length_le (by simp [ivals, hl])]

theorem ivals_one (xs : List Int) : ∀ u ∈ ivals xs, u.oneCell' = true := by
  intro u hu
  simp only [ivals, List.mem_map] at hu
  obtain ⟨x, _, rfl⟩ := hu
  rfl

theorem IRow.cells {A' : Option Addr} {m : Nat} (h : IRow w B A' m ys) {ad : Addr} (ha : A' = some ad) : ∀ j u, (ivals ys)[j]? = some u → w.cell? (ad.add j) = some u := by
  intro j u hu
  have hl := h.1
  have hj : j < ys.length := by
    rcases Nat.lt_or_ge j ys.length with h0 | h0
    · exact h0
    · rw [ivals_get, List.getElem?_eq_none h0] at hu; cases hu
  obtain ⟨b, off, hA, _, hc⟩ := h.2 (by omega)
  rw [ha] at hA
  injection hA with hA
  subst hA
  have e : (⟨b, off, none⟩ : Addr).add j = ⟨b, off + j, none⟩ := by
    unfold Addr.add
    by_cases h0 : j = 0 <;> simp [h0]
  rw [e, hc j (by omega), ← hu, ivals_get]
  simp [List.getD, List.getElem?_eq_getElem hj]

theorem IRow.some_ {A' : Option Addr} {m : Nat} (h : IRow w B A' m ys) (hm : 0 < m) : ∃ ad, A' = some ad := by
  obtain ⟨b, off, hA, _⟩ := h.2 hm
  exact ⟨_, hA⟩

set_option maxRecDepth 100000 in
/-- 'append(out, src...)', out the call's own. -/
theorem append_ints (o : Own w base A n c xs) {A' : Option Addr} {m c' : Nat} (h : IRow w B A' m ys) (hb : base ≤ w.heap.size) (hs : n + m ≤ 4194304) (ty : TypeId) :
    ∃ A2 c2 w', (Builtin.append_ #[35, 35] ty #[.slice A n c, .slice A' m c']).run Try.prog w = .ok (.slice A2 (n + m) c2) w' ∧ Own w' base A2 (n + m) c2 (xs ++ ys) ∧ w.grownBy w' (Value.slice A n c).ownBlock ∧
      ((Value.slice A2 (n + m) c2).ownBlock = (Value.slice A n c).ownBlock ∨ (Value.slice A2 (n + m) c2).ownBlock = some w.heap.size) := by
  obtain ⟨i0, hi0, hz0, hz1, hz2⟩ := info_parts info64
  rcases A' with _ | ad
  · have hm : m = 0 := by
      rcases Nat.eq_zero_or_pos m with h0 | h0
      · exact h0
      · obtain ⟨ad, e⟩ := h.some_ h0; cases e
    subst hm
    have hys : ys = [] := List.eq_nil_of_length_eq_zero h.1
    subst hys
    refine ⟨A, c, w, ?_, by simpa using o, World.grownBy.refl w _, .inl rfl⟩
    rcases o.2 with ⟨hv, rfl⟩ | ⟨g, cap, cur, hv, _, _, hnc, _⟩
    · injection hv with h1 _ h3
      subst h1 h3
      simp [Builtin.append_, run_underlying Try.underlying35, sizeOf, typeInfo, hi0, Builtin.lenOf, Builtin.firstCells]
    · injection hv with h1 _ h3
      subst h1 h3
      simp [Builtin.append_, run_underlying Try.underlying35, sizeOf, typeInfo, hi0, Builtin.lenOf, Builtin.firstCells, hnc, storeCells]
  · obtain ⟨v', w', hrun, h2, h3, _, h5⟩ := run_append_own_at (P := Try.prog) w base 35 ty 2 i0 _ 1 8 Try.underlying35 hi0 hz0 hz1 hz2 rfl (by omega) _ n _ o ad m c' (ivals ys) (by rw [ivals_length, h.1]; omega) (h.cells rfl) (ivals_one _) (by simp only [maxLen]; omega) (by omega) hb
    have hap : ivals xs ++ ivals ys = ivals (xs ++ ys) := by simp [ivals]
    rw [hap] at h2
    rcases h2.2 with ⟨hv, hnm⟩ | ⟨g, cap, cur, hv, r⟩
    · have e : (Value.slice none 0 0) = Value.slice none (n + m) 0 := by rw [hnm]
      rw [hv, e] at hrun h2 h5
      exact ⟨_, _, w', hrun, h2, h3, h5⟩
    · rw [hv] at hrun h2 h5
      exact ⟨_, _, w', hrun, h2, h3, h5⟩

theorem wpList_append_ints {ops : Array Oper} {rest : List Oper} {op : Oper} {a : Act} {Q : Exit → Act → World → Prop} (hgd : op.guard = none) (s x : Operand)
    (ho : op.op = .call { callee := .builtin .append, args := #[s, x], argTypes := #[35, 35] }) (hse : a.eval s = .slice A n c) (o : Own w base A n c xs)
    {A' : Option Addr} {m c' : Nat} (hx : a.eval x = .slice A' m c') (h : IRow w B A' m ys) (hb : base ≤ w.heap.size) (hs : n + m ≤ 4194304)
    (hK : ∀ A2 c2 w', Own w' base A2 (n + m) c2 (xs ++ ys) → w.grownBy w' (Value.slice A n c).ownBlock →
      ((Value.slice A2 (n + m) c2).ownBlock = (Value.slice A n c).ownBlock ∨ (Value.slice A2 (n + m) c2).ownBlock = some w.heap.size) → wpList Try.prog ops Q rest (a.put op.dst (.slice A2 (n + m) c2)) w') :
    wpList Try.prog ops Q (op :: rest) a w := by
  refine wpList_plain hgd fun K hK' => ?_
  obtain ⟨A2, c2, w', hrun, h2, h3, h4⟩ := append_ints (c' := c') o h hb hs op.type
  unfold Oper.wp execOp
  simp only [ho, resolve, invoke, builtin, Sem.run_bind, Sem.run_pure, Result.andThen_ok, List.map_toArray, List.map_cons, List.map_nil, hse, hx, hrun]
  exact hK' _ _ (hK A2 c2 w' h2 h3 h4)

theorem size64 : (Try.prog.info? 2).map (·.size) = some 1 := by kernel_rfl

/-- 'copy(out, src)', out a made row of n numbers, src of m numbers, m at most n. -/
theorem wpList_copy_ints {ops : Array Oper} {rest : List Oper} {op : Oper} {a : Act} {Q : Exit → Act → World → Prop} (hgd : op.guard = none) (s x : Operand)
    (ho : op.op = .call { callee := .builtin .copy, args := #[s, x], argTypes := #[35, 35] }) {g : Nat} (hse : a.eval s = .slice (some ⟨g, 0, none⟩) n n) (o : Own w base (some ⟨g, 0, none⟩) n n xs)
    {A' : Option Addr} {m c' : Nat} (hx : a.eval x = .slice A' m c') (h : IRow w B A' m ys) (hmn : m ≤ n) (hn : n ≤ maxLen) {w0 : World} (hb : Below base w0 w)
    (hK : ∀ w', Own w' base (some ⟨g, 0, none⟩) n n (ys ++ xs.drop m) → Below base w0 w' → wpList Try.prog ops Q rest (a.put op.dst (goInt m)) w') :
    wpList Try.prog ops Q (op :: rest) a w := by
  obtain ⟨hblk, hbg⟩ := o.blk
  have hlx := o.len
  refine wpList_copy_splice hgd s x 35 35 ho 2 Try.underlying35 size64 _ _ n n m c' hse hx g 0 (ivals xs) 2 hblk (ivals ys) (by rw [ivals_length, h.1]; exact (Nat.min_eq_left hmn).symm) ?_ (by rw [ivals_length, ivals_length, h.1, hlx]; omega) (ivals_one _) base w0 hb hbg ?_
  · intro hp
    rw [ivals_length, h.1] at hp
    obtain ⟨ad, rfl⟩ := h.some_ hp
    exact ⟨rfl, ad, rfl, h.cells rfl⟩
  · intro w' hw' hb'
    have e : goInt (ivals ys).length = goInt m := by rw [ivals_length, h.1]
    rw [e]
    refine hK w' (Own.of_blk ?_ hbg (by simp [h.1, hlx]; omega) hn) hb'
    have hw2 := hw'.out
    rw [hw2]
    simp only [splice, ivals, List.take_zero, List.nil_append, Nat.zero_add, List.length_map, h.1, List.map_append, List.map_drop]

end

/-- The numbers k, k + 1 .., n of them. -/
def upFrom (k : Int) (n : Nat) : List Int := (List.range n).map fun (i : Nat) => k + (i : Int)
theorem upFrom_length (k : Int) (n : Nat) : (upFrom k n).length = n := by simp [upFrom]
theorem upFrom_get (k : Int) (n j : Nat) (h : j < n) : (upFrom k n).getD j 0 = k + (j : Int) := by simp [upFrom, List.getD, h]

theorem mark_step (xs : List Int) (k : Int) (n j : Nat) (hl : xs.length = n) (hj : j < n) :
    (ivals (upFrom k j ++ xs.drop j)).set j (.int .i64 (k + (j : Int))) = ivals (upFrom k (j + 1) ++ xs.drop (j + 1)) := by
  have h1 : ivals (upFrom k j ++ xs.drop j) = ivals (upFrom k j) ++ ivals (xs.drop j) := by simp [ivals]
  have h2 : xs.drop j = xs[j] :: xs.drop (j + 1) := List.drop_eq_getElem_cons (by omega)
  have h3 : upFrom k (j + 1) = upFrom k j ++ [k + (j : Int)] := by simp [upFrom, List.range_succ]
  rw [h1, List.set_append_right _ _ (by rw [ivals_length, upFrom_length]; omega), ivals_length, upFrom_length, Nat.sub_self, h2, h3]
  simp only [ivals, List.map_cons, List.map_append, List.set_cons_zero, List.append_assoc, List.cons_append, List.nil_append]

set_option maxHeartbeats 400000 in
theorem mark_any (A : Option Addr) (n c base : Nat) (xs : List Int) (w : World) (o : Own w base A n c xs) (hn : n ≤ 1048577) (k : Int) (k0 : 0 ≤ k) (k1 : k ≤ 1099511627776) :
    Calls Try.prog 39 #[.slice A n c, .int .i64 k] w fun e w' => e = .returned (.int .i64 (k + (n : Int))) ∧ Own w' base A n c (upFrom k n) ∧ w.grownBy w' (Value.slice A n c).ownBlock := by
  have hl := Lib.hid o.len
  have O := Lib.hid o
  clear o
  go_enter Try.func39, Try.ntmps39
  go_wp2
  go_loopw [1, 5] (fun q i wr => ∃ j : Nat, j ≤ n ∧ i = .int .i64 j ∧ q = .int .i64 (k + (j : Int)) ∧ Own wr base A n c (upFrom k j ++ xs.drop j) ∧ w.grownBy wr (Value.slice A n c).ownBlock) (fun _ i _ => n - (intOf i).toNat)
  case atStart => exact ⟨0, Nat.zero_le _, rfl, by simp, by simpa [upFrom] using O.out, World.grownBy.refl _ _⟩
  case round =>
    obtain ⟨j, hj, rfl, rfl, hown, hgr⟩ := hrel
    by_cases hlt : j < n
    · obtain ⟨g, rfl, _⟩ := O.out.at_ (by omega)
      have hold : wr.cell? ⟨g, j, none⟩ = some (.int .i64 (xs.getD j 0)) := by
        rw [World.ownsRow.cellAt hown j (by omega), ivals_get, List.getElem?_append_right (by rw [upFrom_length]; omega), upFrom_length, Nat.sub_self, List.drop_eq_getElem_cons (by have := hl.out; omega)]
        simp [List.getD, List.getElem?_eq_getElem (show j < xs.length by have := hl.out; omega)]
      generalize xs.getD j 0 = y at hold
      have hfr : wr.frozen? ⟨g, j, none⟩ = false := World.ownsRow.frozenAt hown j
      have R := World.ownsRow.stored hown j (.int .i64 (k + (j : Int)))
      have R1 := Lib.hid (p := Own (wr.setCell ⟨g, j, none⟩ (.int .i64 (k + (j : Int)))) base (some ⟨g, 0, none⟩) n c (upFrom k (j + 1) ++ xs.drop (j + 1))) (by
        have h1 := R.1
        rw [mark_step xs k n j hl.out hlt] at h1
        exact h1)
      have R2 := Lib.hid (hgr.trans R.2)
      clear R hown hgr O
      go_wp2
      go_roundw
      case rel => exact ⟨j + 1, by omega, by go_num, by go_num, R1.out, R2.out⟩
      case measure => simp [intOf]; omega
    · go_wp2
      go_ret
      have hjn : j = n := by omega
      subst hjn
      refine ⟨rfl, ?_, hgr⟩
      have := hown
      rw [List.drop_eq_nil_of_le (by have := hl.out; omega), List.append_nil] at this
      exact this

set_option maxHeartbeats 400000 in
theorem held_any (A : Option Addr) (n c B : Nat) (w : World) (k : Int) (h : IRow w B A n (upFrom k n)) (hn : n ≤ 1048577) (k0 : 0 ≤ k) (k1 : k ≤ 1099511627776) :
    Calls Try.prog 84 #[.slice A n c, .int .i64 k] w fun e w' => e = .returned (.int .i64 (k + (n : Int))) ∧ w = w' := by
  go_enter Try.func84, Try.ntmps84
  go_wp2
  go_loop [1, 5] (fun q i => ∃ j : Nat, j ≤ n ∧ i = .int .i64 j ∧ q = .int .i64 (k + (j : Int))) (fun _ i => n - (intOf i).toNat)
  case atStart => exact ⟨0, Nat.zero_le _, rfl, by simp⟩
  case round =>
    obtain ⟨j, hj, rfl, rfl⟩ := hrel
    by_cases hlt : j < n
    · obtain ⟨b, off, rfl, hb, hc⟩ := h.2 (by omega)
      have hcell := hc j hlt
      rw [upFrom_get k n j hlt] at hcell
      clear hc h
      go_wp2
      go_round
      case rel => exact ⟨j + 1, by omega, by go_num, by go_num⟩
      case measure => simp [intOf]; omega
    · go_wp2
      go_ret
      have hjn : j = n := by omega
      subst hjn
      exact ⟨rfl, rfl⟩

end Go.Proofs.Ytejcpoidoekleaa
