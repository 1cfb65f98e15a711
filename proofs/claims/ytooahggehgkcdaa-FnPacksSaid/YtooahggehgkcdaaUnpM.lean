/-
  Unpacking as plain mathematics, and the append of one more row to an own slice of rows.
-/
import Derived.Test.YtooahggehgkcdaaRows4
import Derived.Test.YtooahggehgkcdaaUns
namespace Go.Proofs.Ytooahggehgkcdaa
open Go.RowKit

def numAt (xs : List Int) (i : Nat) : Nat := (xs.getD i 0).toNat
/-- Where the length of row k stands. -/
def posTo (xs : List Int) : Nat → Nat
  | 0 => 1
  | k + 1 => posTo xs k + 1 + numAt xs (posTo xs k)
def rowAt (xs : List Int) (k : Nat) : List Int := (xs.drop (posTo xs k + 1)).take (numAt xs (posTo xs k))
def rowsTo (xs : List Int) (k : Nat) : List (List Int) := (List.range k).map (rowAt xs)
def unpacked (xs : List Int) : List (List Int) × Bool :=
  if rowOk xs = true ∧ 0 < xs.length ∧ posTo xs (numAt xs 0) = xs.length then (rowsTo xs (numAt xs 0), true) else ([], false)

theorem rowsTo_succ (xs : List Int) (k : Nat) : rowsTo xs (k + 1) = rowsTo xs k ++ [rowAt xs k] := by
  simp [rowsTo, List.range_succ]
theorem rowsTo_length (xs : List Int) (k : Nat) : (rowsTo xs k).length = k := by simp [rowsTo]
theorem posTo_mono {xs : List Int} {j k : Nat} (h : j ≤ k) : posTo xs j + (k - j) ≤ posTo xs k := by
  induction k with
  | zero => have : j = 0 := by omega
            subst this; simp
  | succ k ih =>
    rcases Nat.lt_or_ge j (k + 1) with h1 | h1
    · have := ih (by omega)
      show _ ≤ posTo xs k + 1 + _
      omega
    · have : j = k + 1 := by omega
      subst this; simp
theorem posTo_pos (xs : List Int) (k : Nat) : 1 ≤ posTo xs k := by
  have := posTo_mono (xs := xs) (j := 0) (k := k) (by omega)
  have h0 : posTo xs 0 = 1 := rfl
  omega

theorem unp_no {xs : List Int} (h : rowOk xs = false) : unpacked xs = ([], false) := by simp [unpacked, h]
theorem unp_nil {xs : List Int} (h : xs.length = 0) : unpacked xs = ([], false) := by
  unfold unpacked
  rw [if_neg (by omega)]
theorem unp_short {xs : List Int} {k : Nat} (hk : k < numAt xs 0) (h : xs.length < posTo xs (k + 1)) : unpacked xs = ([], false) := by
  unfold unpacked
  rw [if_neg]
  rintro ⟨_, _, e⟩
  have := posTo_mono (xs := xs) (j := k + 1) (k := numAt xs 0) hk
  omega
theorem unp_rest {xs : List Int} (h : posTo xs (numAt xs 0) ≠ xs.length) : unpacked xs = ([], false) := by
  unfold unpacked
  rw [if_neg (fun e => h e.2.2)]
theorem unp_yes {xs : List Int} (h : rowOk xs = true) (h0 : 0 < xs.length) (he : posTo xs (numAt xs 0) = xs.length) : unpacked xs = (rowsTo xs (numAt xs 0), true) := by
  unfold unpacked
  rw [if_pos ⟨h, h0, he⟩]

theorem rowAt_length {xs : List Int} {k : Nat} (h : posTo xs (k + 1) ≤ xs.length) : (rowAt xs k).length = numAt xs (posTo xs k) := by
  have e : posTo xs (k + 1) = posTo xs k + 1 + numAt xs (posTo xs k) := rfl
  unfold rowAt
  rw [List.length_take, List.length_drop]
  omega
theorem lens_rowsTo {xs : List Int} {k : Nat} (h : posTo xs k ≤ xs.length) : k + lensTo (rowsTo xs k) k + 1 ≤ xs.length := by
  have key : ∀ j, j ≤ k → posTo xs j = 1 + j + lensTo (rowsTo xs k) j := by
    intro j
    induction j with
    | zero => intro _; rw [lensTo_zero]; rfl
    | succ j ih =>
      intro hj
      have h1 := ih (by omega)
      have hle : posTo xs (j + 1) ≤ xs.length := by
        have := posTo_mono (xs := xs) (j := j + 1) (k := k) (by omega)
        omega
      rw [lensTo_succ (by rw [rowsTo_length]; omega)]
      have e : (rowsTo xs k).getD j [] = rowAt xs j := by
        simp [rowsTo, List.getD, show j < k by omega]
      rw [e, rowAt_length hle]
      show posTo xs j + 1 + _ = _
      omega
  have := key k (Nat.le_refl _)
  omega

theorem SOwn.top_up {w : World} {base top top' : Nat} {A : Option Addr} {n c : Nat} {xss : List (List Int)} (h : SOwn w base top A n c xss) (ht : top ≤ top') : SOwn w base top' A n c xss := by
  obtain ⟨vs, ho, hl, hin, hd, hp⟩ := h
  exact ⟨vs, ho, hl, hin, hd, fun j hj p hq => Nat.lt_of_lt_of_le (hp j hj p hq) ht⟩

/-- 'append(out, row)', out the call's own slice of rows, row a row of its own. -/
theorem wpList_append_row {w : World} {base top top' : Nat} {G : Option Addr} {k d : Nat} {xss : List (List Int)} {ops : Array Oper} {rest : List Oper} {op : Oper} {a : Act} {Q : Exit → Act → World → Prop}
    (hgd : op.guard = none) (s x : Operand) (ho : op.op = .call { callee := .builtin .append, args := #[s, x], argTypes := #[35, 35] })
    (hse : a.eval s = .slice G k d) (h : SOwn w base top G k d xss) {hb : Nat} (hx : a.eval x = .slice (some ⟨hb, 0, none⟩) 1 1) {A' : Option Addr} {q c' : Nat} {r : List Int}
    (hcell : w.cell? ⟨hb, 0, none⟩ = some (.slice A' q c')) (o : Own w base A' q c' r) (hnew : ∀ p, (Value.slice A' q c').ownBlock = some p → top ≤ p ∧ p < top') (htop : top ≤ top')
    (hbase : base ≤ w.heap.size) (hk : k ≤ 1048576)
    (hK : ∀ G3 d3 w3, SOwn w3 base top' G3 (k + 1) d3 (xss ++ [r]) → w.grownBy w3 (Value.slice G k d).ownBlock → (∀ p, (Value.slice G k d).ownBlock = some p → base ≤ p) → wpList Try.prog ops Q rest (a.put op.dst (.slice G3 (k + 1) d3)) w3) :
    wpList Try.prog ops Q (op :: rest) a w := by
  refine wpList_plain hgd fun K hK' => ?_
  obtain ⟨vs, hov, hl, hin, hd, hp⟩ := h
  obtain ⟨i0, hi0, hz0, hz1, hz2⟩ := info_parts infoRow
  have hvl : vs.length = k := by have := hov.1; omega
  obtain ⟨v', w', hrun, h2, h3, h4, _⟩ := run_append_own_at (P := Try.prog) w base 35 op.type 24 i0 _ 1 24 Try.underlying35 hi0 hz0 hz1 hz2 rfl (by omega) _ k _ hov ⟨hb, 0, none⟩ 1 1 [.slice A' q c'] rfl
    (by intro j u hj
        match j, hj with
        | 0, hj => simp at hj; subst hj; simpa [Addr.add] using hcell)
    (by intro u hu; simp at hu; subst hu; rfl) (by simp only [maxLen]; omega) (by omega) hbase
  unfold Oper.wp execOp
  simp only [ho, resolve, invoke, builtin, Sem.run_bind, Sem.run_pure, Result.andThen_ok, List.map_toArray, List.map_cons, List.map_nil, hse, hx, hrun]
  have keep : ∀ {A2 : Option Addr} {m2 c2 : Nat} {ys : List Int}, Own w base A2 m2 c2 ys → Own w' base A2 m2 c2 ys := by
    intro A2 m2 c2 ys o2
    refine World.ownsRow.kept o2 h3 ?_
    cases hb2 : (Value.slice A2 m2 c2).ownBlock with
    | none => exact .inl rfl
    | some p2 =>
      right
      intro e
      rcases own_ne_outer hov o2 with h5 | h5
      · rw [h5] at e; cases e
      · exact h5 (e.symm.trans hb2.symm)
  rcases h2.2 with ⟨hv, hnm⟩ | ⟨g, cap, cur, hv, rr⟩
  · omega
  · rw [hv] at h2 ⊢
    refine hK' _ _ (hK _ _ w' ⟨_, h2, by simp [hl], fun j hj => ?_, fun i j hij hj p hpi => ?_, fun j hj p hpj => ?_⟩ h3 (fun p hp' => (World.ownsRow.lt hov p hp').1))
    · by_cases hjk : j < k
      · obtain ⟨A2, m2, c2, e1, e2⟩ := hin j hjk
        refine ⟨A2, m2, c2, by rw [List.getElem?_append_left (by omega)]; exact e1, ?_⟩
        have e3 : (xss ++ [r]).getD j [] = xss.getD j [] := by simp [List.getD, List.getElem?_append_left (show j < xss.length by omega)]
        rw [e3]
        exact keep e2
      · have e : j = k := by omega
        subst e
        refine ⟨A', q, c', by rw [List.getElem?_append_right (by omega), hvl, Nat.sub_self]; rfl, ?_⟩
        have e3 : (xss ++ [r]).getD j [] = r := by simp [List.getD, ← hl]
        rw [e3]
        exact keep o
    · have ei : i < k := by omega
      have e1 : (vs ++ [Value.slice A' q c']).getD i (.slice none 0 0) = vs.getD i (.slice none 0 0) := by
        simp [List.getD, List.getElem?_append_left (show i < vs.length by omega)]
      rw [e1] at hpi
      by_cases hjk : j < k
      · have e2 : (vs ++ [Value.slice A' q c']).getD j (.slice none 0 0) = vs.getD j (.slice none 0 0) := by
          simp [List.getD, List.getElem?_append_left (show j < vs.length by omega)]
        rw [e2]
        exact hd i j hij hjk p hpi
      · have e : j = k := by omega
        subst e
        have e2 : (vs ++ [Value.slice A' q c']).getD j (.slice none 0 0) = .slice A' q c' := by
          simp [List.getD, ← hvl]
        rw [e2]
        intro e3
        have h5 := (hnew p e3).1
        have h6 := hp i ei p hpi
        omega
    · by_cases hjk : j < k
      · have e2 : (vs ++ [Value.slice A' q c']).getD j (.slice none 0 0) = vs.getD j (.slice none 0 0) := by
          simp [List.getD, List.getElem?_append_left (show j < vs.length by omega)]
        rw [e2] at hpj
        exact Nat.lt_of_lt_of_le (hp j hjk p hpj) htop
      · have e : j = k := by omega
        subst e
        have e2 : (vs ++ [Value.slice A' q c']).getD j (.slice none 0 0) = .slice A' q c' := by
          simp [List.getD, ← hvl]
        rw [e2] at hpj
        exact (hnew p hpj).2

end Go.Proofs.Ytooahggehgkcdaa
