/-
  Rows of int64 as plain data: the bridge to slices that read as lists of numbers; elements of slices that are read, changed and put back.
-/
import Derived.Test.YtejcpoidoekleaaRep
namespace Go.Proofs.Ytejcpoidoekleaa
set_option maxRecDepth 100000
open Go.RowKit

/-- A row of numbers. -/
def rowD (xs : List Int) : Dat := lst 2 1 (fun x => [.int x]) xs

section
variable {w w' : World} {B base : Nat} {xs : List Int} {us : List Value} {fp : List Nat} {v : Value}

theorem rd_ints (h : Rd w B (xs.flatMap fun x => [Dat.int x]) us) : us = ivals xs := by
  induction xs generalizing us with
  | nil => cases h; rfl
  | cons x xs ih => cases h with | int h => rw [ih h]; rfl
theorem rd_ints_mk (xs : List Int) : Rd w B (xs.flatMap fun x => [Dat.int x]) (ivals xs) := by
  induction xs with
  | nil => exact .nil
  | cons x xs ih => exact .int ih
theorem ow_ints (h : Ow w (xs.flatMap fun x => [Dat.int x]) us fp) : us = ivals xs ∧ fp = [] := by
  induction xs generalizing us with
  | nil => cases h; exact ⟨rfl, rfl⟩
  | cons x xs ih =>
    cases h with
    | int h => obtain ⟨h1, h2⟩ := ih h; rw [h1]; exact ⟨rfl, h2⟩
theorem ow_ints_mk (xs : List Int) : Ow w (xs.flatMap fun x => [Dat.int x]) (ivals xs) [] := by
  induction xs with
  | nil => exact .nil
  | cons x xs ih => exact .int ih

theorem Rd.irow (h : Rd w B [rowD xs] [v]) : ∃ A n c, v = .slice A n c ∧ IRow w B A n xs ∧ n ≤ c ∧ c ≤ maxLen := by
  obtain ⟨A, n, c, rfl, hl, h1, h2, h3⟩ := Rd.lst (k := 1) (fun _ => rfl) Nat.one_pos h
  refine ⟨A, n, c, rfl, ⟨hl, fun hn => ?_⟩, h1, h2⟩
  obtain ⟨b, off, rfl, hb, hc⟩ := h3 hn
  refine ⟨b, off, rfl, hb, fun j hj => ?_⟩
  obtain ⟨es, he, hr, hcell⟩ := hc j (by omega)
  have := hcell 0 (by omega)
  rw [Nat.mul_one, Nat.add_zero] at this
  rw [this]
  cases hr with
  | int _ => simp [List.getD, List.getElem?_eq_getElem (show j < xs.length by omega)]

theorem IRow.rd {A : Option Addr} {n c : Nat} (h : IRow w B A n xs) (h1 : n ≤ c) (h2 : c ≤ maxLen) : Rd w B [rowD xs] [.slice A n c] := by
  refine Rd.of_lst (us := ivals xs) (fun _ => rfl) h.1 h1 h2 (fun hn => ?_) (rd_ints_mk xs)
  obtain ⟨b, off, rfl, hb, hc⟩ := h.2 hn
  refine ⟨b, off, rfl, hb, fun j hj => ?_⟩
  have hl := h.1
  rw [hc j (by omega), ivals_get, List.getElem?_eq_getElem (show j < xs.length by omega)]
  simp [List.getD, List.getElem?_eq_getElem (show j < xs.length by omega)]

theorem Ow.own (h : Ow w [rowD xs] [v] fp) : ∃ A n c, v = .slice A n c ∧ Own w 0 A n c xs ∧ fp = v.ownBlock.toList := by
  cases h with
  | @row _ _ _ n us _ _ _ _ _ h1 h2 h3 =>
    obtain ⟨rfl, rfl⟩ := ow_ints h2
    cases h3
    obtain ⟨A, c, rfl, _⟩ := ownsRow_cap h1
    exact ⟨A, n, c, rfl, h1, by simp⟩

theorem Own.ow {A : Option Addr} {n c : Nat} (o : Own w base A n c xs) : Ow w [rowD xs] [.slice A n c] (Value.slice A n c).ownBlock.toList := by
  have h := Ow.row (ds := []) (vs := []) (fp2 := []) (ownsRow_at (base' := 0) o (fun _ _ => rfl) (fun _ _ => Nat.zero_le _)) (ow_ints_mk xs) .nil
  rw [List.append_nil, List.append_nil] at h
  exact h

theorem Own.has {A : Option Addr} {n c : Nat} (o : Own w base A n c xs) : Has w base [rowD xs] [.slice A n c] := by
  refine ⟨_, o.ow, ?_, fun p hp => ?_⟩
  · cases (Value.slice A n c).ownBlock <;> simp
  · exact (o.ge p (by simpa using hp)).1

theorem Has.own (h : Has w base [rowD xs] [v]) : ∃ A n c, v = .slice A n c ∧ Own w base A n c xs := by
  obtain ⟨fp, h, _, hp⟩ := h
  obtain ⟨A, n, c, rfl, o, rfl⟩ := h.own
  exact ⟨A, n, c, rfl, ownsRow_at o (fun _ _ => rfl) (fun g hg => hp g (by simp [hg]))⟩
end

theorem Own.cell_ {w : World} {base g n c : Nat} {xs : List Int} (o : Own w base (some ⟨g, 0, none⟩) n c xs) {j : Nat} (hj : j < n) : w.cell? ⟨g, j, none⟩ = some (.int .i64 (xs.getD j 0)) := by
  have hl := o.len
  rw [World.ownsRow.cellAt o j (by omega), ivals_get, List.getElem?_eq_getElem (by omega)]
  simp [List.getD, List.getElem?_eq_getElem (show j < xs.length by omega)]
theorem Own.put_ {w : World} {base g n c : Nat} {xs : List Int} (o : Own w base (some ⟨g, 0, none⟩) n c xs) (j : Nat) (y : Int) : Own (w.setCell ⟨g, j, none⟩ (.int .i64 y)) base (some ⟨g, 0, none⟩) n c (xs.set j y) := by
  have h := (World.ownsRow.stored o j (.int .i64 y)).1
  have e : (ivals xs).set j (.int .i64 y) = ivals (xs.set j y) := by simp [ivals, List.map_set]
  rw [e] at h
  exact h

/-! ### Elements of an own slice -/
section
variable {α : Type} {w w' : World} {e : TypeId} {k : Nat} {f : α → List Dat} {l : List α} {v : Value} {us : List Value} {fp : List Nat}

theorem Ow.lst (hk : ∀ x, (f x).length = k) (k0 : 0 < k) (h : Ow w [lst e k f l] [v] fp) : ∃ us fp1, w.ownsRow 0 e k v l.length us ∧ Ow w (l.flatMap f) us fp1 ∧ fp = v.ownBlock.toList ++ fp1 := by
  cases h with
  | @row _ _ _ n us _ _ _ fp1 _ h1 h2 h3 =>
    cases h3
    have hl : n = l.length := by
      have := h2.len
      rw [h1.1, flatMap_len hk] at this
      exact Nat.eq_of_mul_eq_mul_right k0 this
    subst hl
    exact ⟨us, fp1, h1, h2, by simp⟩

theorem Ow.of_lst {fp1 : List Nat} {n : Nat} (h1 : w.ownsRow 0 e k v n us) (h2 : Ow w (l.flatMap f) us fp1) : Ow w [Go.Proofs.Ytejcpoidoekleaa.lst e k f l] [v] (v.ownBlock.toList ++ fp1) := by
  have := Ow.row (ds := []) (vs := []) (fp2 := []) h1 h2 .nil
  rw [List.append_nil] at this
  exact this

theorem Ow.at_ (hk : ∀ x, (f x).length = k) (h : Ow w (l.flatMap f) us fp) {j : Nat} (hj : j < l.length) : ∃ u1 es u2 f1 f2 f3, us = u1 ++ (es ++ u2) ∧ u1.length = j * k ∧ es.length = k ∧ fp = f1 ++ (f2 ++ f3) ∧
    Ow w ((l.take j).flatMap f) u1 f1 ∧ Ow w (f l[j]) es f2 ∧ Ow w ((l.drop (j + 1)).flatMap f) u2 f3 := by
  rw [flatMap_at l hj] at h
  obtain ⟨u1, v2, f1, g2, rfl, rfl, r1, r2⟩ := h.split
  obtain ⟨es, u2, f2, f3, rfl, rfl, r3, r4⟩ := r2.split
  exact ⟨u1, es, u2, f1, f2, f3, rfl, by rw [r1.len, flatMap_len hk, List.length_take, Nat.min_eq_left (Nat.le_of_lt hj)], by rw [r3.len, hk], rfl, r1, r3, r4⟩

theorem Ow.put {u1 es u2 : List Value} {f1 f2 f3 : List Nat} {j : Nat} (hj : j < l.length) {x : α} (r1 : Ow w ((l.take j).flatMap f) u1 f1) (r2 : Ow w (f x) es f2) (r3 : Ow w ((l.drop (j + 1)).flatMap f) u2 f3) :
    Ow w ((l.set j x).flatMap f) (u1 ++ (es ++ u2)) (f1 ++ (f2 ++ f3)) := by
  rw [List.set_eq_take_append_cons_drop, if_pos hj, List.flatMap_append, List.flatMap_cons]
  exact r1.append (r2.append r3)

theorem nodup_parts {a b c d : List Nat} (h : (a ++ (b ++ (c ++ d))).Nodup) : c.Nodup ∧ (∀ p ∈ c, p ∉ a ∧ p ∉ b ∧ p ∉ d) := by
  rw [List.nodup_append, List.nodup_append, List.nodup_append] at h
  obtain ⟨_, ⟨_, ⟨hc, _, hcd⟩, hb⟩, ha⟩ := h
  refine ⟨hc, fun p hp => ⟨fun hm => ?_, fun hm => ?_, fun hm => ?_⟩⟩
  · exact ha p hm p (List.mem_append_right _ (List.mem_append_left _ hp)) rfl
  · exact hb p hm p (List.mem_append_left _ hp) rfl
  · exact hcd p hp p hm rfl

/-- The element j of an own slice: its cells, and how it is put back when it alone has been changed behind its own cells, or in one cell of its own. -/
theorem Ow.elem (hk : ∀ x, (f x).length = k) (k0 : 0 < k) (h : Ow w [Go.Proofs.Ytejcpoidoekleaa.lst e k f l] [v] fp) (hn : fp.Nodup) {j : Nat} (hj : j < l.length) :
    ∃ g c es f2, v = .slice (some ⟨g, 0, none⟩) l.length c ∧ l.length ≤ c ∧ c ≤ maxLen ∧ es.length = k ∧ (∀ i, i < k → w.cell? ⟨g, j * k + i, none⟩ = es[i]?) ∧ (∀ i, w.frozen? ⟨g, i, none⟩ = false) ∧ Ow w (f l[j]) es f2 ∧ f2.Nodup ∧ g ∉ f2 ∧ g ∈ fp ∧ (∀ p ∈ f2, p ∈ fp) ∧
    (∀ w' x, Touch f2 w w' → Ow w' (f x) es f2 → Ow w' [Go.Proofs.Ytejcpoidoekleaa.lst e k f (l.set j x)] [v] fp) ∧
    (∀ i u x, i < k → Ow (w.setCell ⟨g, j * k + i, none⟩ u) (f x) (es.set i u) f2 → Ow (w.setCell ⟨g, j * k + i, none⟩ u) [Go.Proofs.Ytejcpoidoekleaa.lst e k f (l.set j x)] [v] fp) := by
  obtain ⟨us, fp1, h1, h2, rfl⟩ := h.lst hk k0
  obtain ⟨u1, es, u2, f1, f2, f3, rfl, l1, l2, rfl, r1, r2, r3⟩ := h2.at_ hk hj
  obtain ⟨hn2, hnd⟩ := nodup_parts hn
  obtain ⟨g, c, hv⟩ : ∃ g c, v = .slice (some ⟨g, 0, none⟩) l.length c := by
    rcases h1.2 with ⟨_, h0⟩ | ⟨g, c, _, hv, _⟩
    · omega
    · exact ⟨g, c, hv⟩
  subst hv
  have hcap := ownsRow_cap h1
  obtain ⟨A', c', hv', hc1, hc2, _⟩ := hcap
  injection hv' with e1 _ e2
  subst e2
  have hg : g ∉ f2 := fun hm => (hnd g hm).1 (by simp [Value.ownBlock])
  have hn1 : ∀ p ∈ f1, p ≠ g := by
    rw [List.nodup_append] at hn
    intro p hp e
    exact hn.2.2 g (by simp [Value.ownBlock]) p (List.mem_append_left _ hp) e.symm
  have hn3 : ∀ p ∈ f3, p ≠ g := by
    rw [List.nodup_append] at hn
    intro p hp e
    exact hn.2.2 g (by simp [Value.ownBlock]) p (List.mem_append_right _ (List.mem_append_right _ hp)) e.symm
  have hlt : ∀ i, i < k → j * k + i < l.length * k := fun i hi => by
    have : (j + 1) * k ≤ l.length * k := Nat.mul_le_mul_right k (by omega)
    rw [Nat.add_mul, Nat.one_mul] at this
    omega
  refine ⟨g, c, es, f2, rfl, hc1, hc2, l2, fun i hi => ?_, fun i => World.ownsRow.frozenAt h1 i, r2, hn2, hg, by simp [Value.ownBlock], fun p hp => List.mem_append_right _ (List.mem_append_right _ (List.mem_append_left _ hp)), fun w' x ht ho => ?_, fun i u x hi ho => ?_⟩
  · rw [World.ownsRow.cellAt h1 _ (hlt i hi), List.getElem?_append_right (by omega), l1, Nat.add_sub_cancel_left, List.getElem?_append_left (by omega)]
  · refine Ow.of_lst (ownsRow_at h1 (fun q hq => ?_) (fun _ _ => Nat.zero_le _)) (Ow.put hj (r1.touch ht fun p hp hm => (hnd p hm).2.1 hp) ho (r3.touch ht fun p hp hm => (hnd p hm).2.2 hp))
    have hq' : g = q := by simpa [Value.ownBlock] using hq
    subst hq'
    exact ht.block g (World.ownsRow.lt h1 g rfl).2 hg
  · have hs := (World.ownsRow.stored h1 (j * k + i) u).1
    have hset : (u1 ++ (es ++ u2)).set (j * k + i) u = u1 ++ (es.set i u ++ u2) := by
      rw [List.set_append_right _ _ (by omega), l1, Nat.add_sub_cancel_left, List.set_append_left _ _ (by omega)]
    rw [hset] at hs
    have ht : Touch [g] w (w.setCell ⟨g, j * k + i, none⟩ u) := Touch.of_set (by simp)
    exact Ow.of_lst hs (Ow.put hj (r1.touch ht fun p hp hm => hn1 p hp (by simpa using hm)) ho (r3.touch ht fun p hp hm => hn3 p hp (by simpa using hm)))

/-- The cells of the element j, where the slice is known. -/
theorem Ow.slots {g n c : Nat} (hk : ∀ x, (f x).length = k) (k0 : 0 < k) (h : Ow w [Go.Proofs.Ytejcpoidoekleaa.lst e k f l] [.slice (some ⟨g, 0, none⟩) n c] fp) {j : Nat} (hj : j < l.length) :
    ∃ es : List Value, es.length = k ∧ (∀ i, i < k → w.cell? ⟨g, j * k + i, none⟩ = es[i]?) ∧ ∀ i, w.frozen? ⟨g, i, none⟩ = false := by
  obtain ⟨us, fp1, h1, h2, rfl⟩ := h.lst hk k0
  obtain ⟨u1, es, u2, f1, f2, f3, rfl, l1, l2, rfl, r1, r2, r3⟩ := h2.at_ hk hj
  have hnl : n = l.length := by
    rcases h1.2 with ⟨h0, _⟩ | ⟨_, _, _, h0, _⟩
    · cases h0
    · injection h0
  rw [← hnl] at h1
  refine ⟨es, l2, fun i hi => ?_, fun i => World.ownsRow.frozenAt h1 i⟩
  have hlt : j * k + i < n * k := by
    have : (j + 1) * k ≤ n * k := Nat.mul_le_mul_right k (by omega)
    rw [Nat.add_mul, Nat.one_mul] at this
    omega
  rw [World.ownsRow.cellAt h1 _ hlt, List.getElem?_append_right (by omega), l1, Nat.add_sub_cancel_left, List.getElem?_append_left (by omega)]
end

end Go.Proofs.Ytejcpoidoekleaa
