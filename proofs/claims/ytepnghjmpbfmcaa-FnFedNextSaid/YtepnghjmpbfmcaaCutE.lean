/-
  append(list[:i:i], list[i+1:]...), list any slice of elements: what reads as the list without element i; nothing that was there is written.
-/
import Derived.Test.YtepnghjmpbfmcaaMove
import Derived.Laws.AppendOwn
import Derived.Laws.Append
import Derived.Maps.AppendAt
namespace Go.Proofs.Ytepnghjmpbfmcaa
set_option maxRecDepth 100000
open Go.RowKit

section
variable {α : Type} {w : World} {B : Nat} {e : TypeId} {k : Nat} {f : α → List Dat} {l : List α}
theorem Rd.whole {A : Option Addr} {n c : Nat} (hk : ∀ x, (f x).length = k) (h : Rd w B [Go.Proofs.Ytepnghjmpbfmcaa.lst e k f l] [.slice A n c]) (hn : 0 < n) (k0 : 0 < k) :
    ∃ b off us, A = some ⟨b, off, none⟩ ∧ b < B ∧ us.length = n * k ∧ (∀ j, j < n * k → w.cell? ⟨b, off + j, none⟩ = us[j]?) ∧ Rd w B (l.flatMap f) us ∧ l.length = n := by
  obtain ⟨_, _, _, e1, hl, _, _, _⟩ := Rd.lst hk k0 h
  injection e1 with a1 a2 a3
  subst a1 a2 a3
  cases h with
  | row hlen hc hm hcell hr _ =>
    obtain ⟨b, off, rfl, hb, hj⟩ := hcell hn
    exact ⟨b, off, _, rfl, hb, by rw [hr.len, hlen], hj, hr, hl⟩
theorem Rd.oneCells {ds : List Dat} {vs : List Value} (h : Rd w B ds vs) : ∀ u ∈ vs, u.oneCell' = true := by
  induction h with
  | nil => intro u hu; cases hu
  | int _ ih => intro u hu; rcases List.mem_cons.1 hu with rfl | hu; exact rfl; exact ih u hu
  | bool _ ih => intro u hu; rcases List.mem_cons.1 hu with rfl | hu; exact rfl; exact ih u hu
  | row _ _ _ _ _ _ _ ih => intro u hu; rcases List.mem_cons.1 hu with rfl | hu; exact rfl; exact ih u hu

theorem append_cut {P : Program} {t ty : TypeId} {z : Value} {bytes : Nat} {A A2 : Option Addr} {n c c2 i : Nat} (ht : P.underlying t = some (.slice e))
    (hinfo : (P.info? e).map (fun i => (i.zero, i.size, i.bytes)) = some (some z, k, bytes)) (k0 : 0 < k) (hk : ∀ x, (f x).length = k)
    (h : Rd w B [Go.Proofs.Ytepnghjmpbfmcaa.lst e k f l] [.slice A n c]) (hB : B ≤ w.heap.size) (hi : i < n) (hA2 : ∀ b off, A = some ⟨b, off, none⟩ → i + 1 < n → A2 = some ⟨b, off + (i + 1) * k, none⟩) (hl : n ≤ 2097154) (hby : bytes ≤ 1048576) :
    ∃ A3 c3 w3, (Builtin.append_ #[t, t] ty #[.slice A i i, .slice A2 (n - (i + 1)) c2]).run P w = .ok (.slice A3 (i + (n - (i + 1))) c3) w3 ∧ Rd w3 w3.heap.size [Go.Proofs.Ytepnghjmpbfmcaa.lst e k f (l.eraseIdx i)] [.slice A3 (i + (n - (i + 1))) c3] ∧ Below w.heap.size w w3 := by
  obtain ⟨i0, hi0, hz⟩ := Option.map_eq_some_iff.1 hinfo
  simp only [Prod.mk.injEq] at hz
  obtain ⟨hz0, hz1, hz2⟩ := hz
  obtain ⟨b, off, us, rfl, hb, hlen, hcell, hrd, hll⟩ := h.whole hk (by omega) k0
  have hil : i < l.length := by omega
  rw [flatMap_at l hil] at hrd
  obtain ⟨u1, v2, rfl, r1, r2⟩ := hrd.split
  obtain ⟨u2, u3, rfl, r3, r4⟩ := r2.split
  have l1 : u1.length = i * k := by rw [r1.len, flatMap_len hk, List.length_take, Nat.min_eq_left (by omega)]
  have l2 : u2.length = k := by rw [r3.len, hk]
  have l3 : u3.length = (n - (i + 1)) * k := by rw [r4.len, flatMap_len hk, List.length_drop, hll]
  have her : (l.eraseIdx i).flatMap f = (l.take i).flatMap f ++ (l.drop (i + 1)).flatMap f := by rw [List.eraseIdx_eq_take_drop_succ, List.flatMap_append]
  have hel : (l.eraseIdx i).length = i + (n - (i + 1)) := by rw [List.length_eraseIdx_of_lt hil]; omega
  have hmul : (n - (i + 1)) * k + ((i + 1) * k) = n * k := by rw [← Nat.add_mul]; congr 1; omega
  have hmul2 : (i + 1) * k = i * k + k := by rw [Nat.add_mul, Nat.one_mul]
  have old : ∀ j, j < i * k → w.cell? ⟨b, off + j, none⟩ = u1[j]? := fun j hj => by
    rw [hcell j (by omega), List.getElem?_append_left (by omega)]
  by_cases hlast : i + 1 < n
  · obtain rfl := hA2 b off rfl hlast
    have new : ∀ j, j < (n - (i + 1)) * k → w.cell? ⟨b, off + (i + 1) * k + j, none⟩ = u3[j]? := fun j hj => by
      rw [Nat.add_assoc, hcell _ (by omega), List.getElem?_append_right (by omega), List.getElem?_append_right (by omega), l1, l2]
      congr 1
      omega
    have add0 : ∀ (o j : Nat), (⟨b, o, none⟩ : Addr).add j = ⟨b, o + j, none⟩ := fun o j => by unfold Addr.add; split <;> simp_all
    have hr := run_append_grow (P := P) (w := w) t ty e i0 z ht hi0 hz0 ⟨b, off, none⟩ i i u1 (by rw [l1, hz1])
      (fun j v hj => by
        have hlt : j < i * k := by
          rcases Nat.lt_or_ge j u1.length with h | h
          · omega
          · rw [List.getElem?_eq_none h] at hj; cases hj
        rw [add0, old j hlt, hj])
      ⟨b, off + (i + 1) * k, none⟩ (n - (i + 1)) c2 u3 (by rw [l3, hz1])
      (fun j v hj => by
        have hlt : j < (n - (i + 1)) * k := by
          rcases Nat.lt_or_ge j u3.length with h | h
          · omega
          · rw [List.getElem?_eq_none h] at hj; cases hj
        rw [add0, new j hlt, hj])
      (by omega) (by omega) (growslice_fits (by omega) (by
        rw [hz2]
        have : (i + (n - (i + 1))) * bytes ≤ 2097154 * 1048576 := Nat.mul_le_mul (by omega) hby
        omega))
    have hge := grownCap_ge w (i + (n - (i + 1))) i e
    have hle := grownCap_le_maxLen w (i + (n - (i + 1))) i e (by simp only [maxLen]; omega)
    have hbel : Below w.heap.size w (w.drew.alloc (.cells (u1.toArray ++ u3.toArray ++ Builtin.zeroCells z.cells (grownCap w (i + (n - (i + 1))) i e - (i + (n - (i + 1))))) e)) :=
      (Below.refl _ w).drew.alloc (Nat.le_refl _) _
    refine ⟨_, _, _, hr, ?_, hbel⟩
    have hcont : Rd w B ((l.eraseIdx i).flatMap f) (u1 ++ u3) := by rw [her]; exact r1.append r4
    have h5 := (hcont.keep (hbel.mono hB)).up (Nat.le_trans hB hbel.size)
    refine Rd.of_lst hk hel hge hle (fun _ => ⟨w.heap.size, 0, rfl, ?_, fun j hj => ?_⟩) h5
    · show w.heap.size < (w.drew.alloc _).heap.size
      simp
    · have hj' : j < (u1 ++ u3).length := by
        rw [List.length_append, l1, l3, ← Nat.add_mul]
        exact hj
      have hblk := Blk.new w.drew (u1.toArray ++ u3.toArray ++ Builtin.zeroCells z.cells (grownCap w (i + (n - (i + 1))) i e - (i + (n - (i + 1))))) e
      have h6 := hblk.cell (0 + j)
      have h7 : (u1.toArray ++ u3.toArray ++ Builtin.zeroCells z.cells (grownCap w (i + (n - (i + 1))) i e - (i + (n - (i + 1)))))[0 + j]? = (u1 ++ u3)[j]? := by
        rw [Nat.zero_add, Array.getElem?_append_left (by simpa using hj'), List.append_toArray]
        simp
      exact h6.trans h7
  · have hm : n - (i + 1) = 0 := by omega
    rw [hm] at l3 hel ⊢
    rw [Nat.add_zero] at hel ⊢
    have hu3 : u3 = [] := List.eq_nil_of_length_eq_zero (by rw [l3, Nat.zero_mul])
    subst hu3
    refine ⟨some ⟨b, off, none⟩, i, w, ?_, ?_, Below.refl _ _⟩
    · have hle : i ≤ i := Nat.le_refl _
      have hl0 : ∀ (x : Addr), (loadCells x 0).run P w = .ok #[] w := fun x => by simpa using run_loadCells_list (P := P) w x [] (by simp)
      cases A2 <;> simp [Builtin.append_, run_underlying ht, sizeOf, typeInfo, hi0, Builtin.lenOf, Builtin.firstCells, storeCells, hl0]
    · have hcont : Rd w B ((l.eraseIdx i).flatMap f) u1 := by
        have h8 := r1.append r4
        rw [List.append_nil] at h8
        rw [her]
        exact h8
      have hc : c ≤ maxLen := by
        obtain ⟨_, _, _, e1, _, _, h9, _⟩ := Rd.lst hk k0 h
        injection e1 with a1 a2 a3
        subst a1 a2 a3
        exact h9
      have hnc : n ≤ c := by
        obtain ⟨_, _, _, e1, _, h9, _, _⟩ := Rd.lst hk k0 h
        injection e1 with a1 a2 a3
        subst a1 a2 a3
        exact h9
      exact Rd.of_lst hk hel (Nat.le_refl _) (by omega) (fun _ => ⟨b, off, rfl, Nat.lt_of_lt_of_le hb hB, fun j hj => old j hj⟩) (hcont.up hB)
theorem wp_append_cut {P : Program} {t : TypeId} {z : Value} {bytes : Nat} {A A2 : Option Addr} {n c c2 i : Nat} {op : Oper} {a : Act} {Q : Exit → Act → World → Prop} {K : Act → World → Prop} (s x : Operand) (hop : op.op = .call { callee := .builtin .append, args := #[s, x], argTypes := #[t, t] }) (ht : P.underlying t = some (.slice e))
    (hinfo : (P.info? e).map (fun i => (i.zero, i.size, i.bytes)) = some (some z, k, bytes)) (k0 : 0 < k) (hk : ∀ x, (f x).length = k) (hse : a.eval s = .slice A i i) (hx : a.eval x = .slice A2 (n - (i + 1)) c2)
    (h : Rd w B [Go.Proofs.Ytepnghjmpbfmcaa.lst e k f l] [.slice A n c]) (hB : B ≤ w.heap.size) (hi : i < n) (hA2 : ∀ b off, A = some ⟨b, off, none⟩ → i + 1 < n → A2 = some ⟨b, off + (i + 1) * k, none⟩) (hl : n ≤ 2097154) (hby : bytes ≤ 1048576)
    (hK : ∀ A3 c3 w3, Rd w3 w3.heap.size [Go.Proofs.Ytepnghjmpbfmcaa.lst e k f (l.eraseIdx i)] [.slice A3 (i + (n - (i + 1))) c3] → Below w.heap.size w w3 → K (a.put op.dst (.slice A3 (i + (n - (i + 1))) c3)) w3) :
    Oper.wp P op a w K Q := by
  obtain ⟨A3, c3, w3, hrun, h1, h2⟩ := append_cut (P := P) (ty := op.type) (c2 := c2) ht hinfo k0 hk h hB hi hA2 hl hby
  unfold Oper.wp execOp
  simp only [hop, resolve, invoke, builtin, Sem.run_bind, Sem.run_pure, Result.andThen_ok, List.map_toArray, List.map_cons, List.map_nil, hse, hx, hrun]
  exact hK A3 c3 w3 h1 h2
end

end Go.Proofs.Ytepnghjmpbfmcaa
