/-
  Go values as plain data (numbers, bools, slices of cells): what reads as such data, what a call owns, and which blocks were written.
-/
import Derived.Test.YtejcpoidoekleaaMem
namespace Go.Proofs.Ytejcpoidoekleaa
set_option maxRecDepth 100000
open Go.RowKit

/-- A cell's content: a number, a bool, or a slice whose elements have k cells each; e is the element type of own memory. -/
inductive Dat where
  | int (n : Int)
  | bool (b : Bool)
  | rows (e : TypeId) (k : Nat) (cells : List Dat)

/-- The cells vs read as the data ds, in blocks below B. -/
inductive Rd (w : World) (B : Nat) : List Dat → List Value → Prop
  | nil : Rd w B [] []
  | int {n ds vs} : Rd w B ds vs → Rd w B (.int n :: ds) (.int .i64 n :: vs)
  | bool {b ds vs} : Rd w B ds vs → Rd w B (.bool b :: ds) (.bool b :: vs)
  | row {e k A n c us cells ds vs} : cells.length = n * k → n ≤ c → c ≤ maxLen →
      (0 < n → ∃ b off, A = some ⟨b, off, none⟩ ∧ b < B ∧ ∀ j, j < n * k → w.cell? ⟨b, off + j, none⟩ = us[j]?) →
      Rd w B cells us → Rd w B ds vs → Rd w B (.rows e k cells :: ds) (.slice A n c :: vs)

/-- The cells vs are the data ds in memory of the call's own: fp lists the blocks, slice by slice. -/
inductive Ow (w : World) : List Dat → List Value → List Nat → Prop
  | nil : Ow w [] [] []
  | int {n ds vs fp} : Ow w ds vs fp → Ow w (.int n :: ds) (.int .i64 n :: vs) fp
  | bool {b ds vs fp} : Ow w ds vs fp → Ow w (.bool b :: ds) (.bool b :: vs) fp
  | row {e k v n us cells ds vs fp1 fp2} : w.ownsRow 0 e k v n us → Ow w cells us fp1 → Ow w ds vs fp2 →
      Ow w (.rows e k cells :: ds) (v :: vs) (v.ownBlock.toList ++ (fp1 ++ fp2))

/-- Of the blocks that were there, only those of the list S may have been written. -/
structure Touch (S : List Nat) (w w' : World) : Prop where
  os : w'.os = w.os
  tape : w'.tape = w.tape
  output : w'.output = w.output
  size : w.heap.size ≤ w'.heap.size
  block : ∀ k, k < w.heap.size → k ∉ S → w'.heap[k]? = w.heap[k]?

theorem Touch.refl (S : List Nat) (w : World) : Touch S w w := ⟨rfl, rfl, rfl, Nat.le_refl _, fun _ _ _ => rfl⟩
theorem Touch.trans {S : List Nat} {a b c : World} (h : Touch S a b) (k : Touch S b c) : Touch S a c :=
  ⟨k.os.trans h.os, k.tape.trans h.tape, k.output.trans h.output, Nat.le_trans h.size k.size, fun i hi hn => (k.block i (Nat.lt_of_lt_of_le hi h.size) hn).trans (h.block i hi hn)⟩
theorem Touch.mono {S S' : List Nat} {a b : World} (h : Touch S a b) (hs : ∀ p ∈ S, p ∈ S') : Touch S' a b :=
  ⟨h.os, h.tape, h.output, h.size, fun i hi hn => h.block i hi (fun hm => hn (hs i hm))⟩
theorem Touch.of_below {a b : World} (h : Below a.heap.size a b) (S : List Nat) : Touch S a b := ⟨h.os, h.tape, h.output, h.size, fun i hi _ => h.block i hi⟩
theorem Touch.of_grown {a b : World} {row : Option Nat} (h : a.grownBy b row) {S : List Nat} (hs : ∀ p, row = some p → p ∈ S) : Touch S a b :=
  ⟨h.os, h.tape, h.output, h.size, fun i hi hn => h.block i hi (fun e => hn (hs i e.symm))⟩
theorem Touch.of_set {w : World} {p i : Nat} {u : Value} {S : List Nat} (hs : p ∈ S) : Touch S w (w.setCell ⟨p, i, none⟩ u) :=
  Touch.of_grown (grown_setCell w p i u) (fun q hq => by injection hq with hq; rw [← hq]; exact hs)
theorem Touch.drewN {S : List Nat} {a b : World} (h : Touch S a b) (m : Nat) : Touch S a (b.drewN m) := ⟨h.os, h.tape, h.output, h.size, h.block⟩
theorem Touch.drew {S : List Nat} {a b : World} (h : Touch S a b) : Touch S a b.drew := ⟨h.os, h.tape, h.output, h.size, h.block⟩
theorem Touch.below {S : List Nat} {a b : World} {B : Nat} (h : Touch S a b) (hS : ∀ p ∈ S, B ≤ p) (hB : B ≤ a.heap.size) : Below B a b :=
  ⟨h.os, h.tape, h.output, h.size, fun i hi => h.block i (by omega) (fun hm => by have := hS i hm; omega)⟩

/-- Block p holds the cells cs. -/
def Blk (w : World) (p : Nat) (cs : Array Value) (t : TypeId) : Prop := w.heap[p]? = some (.cells cs t (0, 0))
section
variable {w w' : World} {p : Nat} {cs : Array Value} {t : TypeId}
theorem Blk.lt (h : Blk w p cs t) : p < w.heap.size := (Array.getElem?_eq_some_iff.1 h).1
theorem Blk.keep {B : Nat} (h : Blk w p cs t) (hb : Below B w w') (hp : p < B) : Blk w' p cs t := (hb.block p hp).trans h
theorem Blk.touch {S : List Nat} (h : Blk w p cs t) (hb : Touch S w w') (hp : p ∉ S) : Blk w' p cs t := (hb.block p h.lt hp).trans h
theorem Blk.cell (h : Blk w p cs t) (i : Nat) : w.cell? ⟨p, i, none⟩ = cs[i]? := cell_of_blk h i
theorem Blk.free (h : Blk w p cs t) (i : Nat) : w.frozen? ⟨p, i, none⟩ = false := free_of_blk h i
theorem Blk.set_ (h : Blk w p cs t) (i : Nat) (u : Value) : Blk (w.setCell ⟨p, i, none⟩ u) p (cs.setIfInBounds i u) t := set_blk h i u
theorem Blk.far (h : Blk w p cs t) {q i : Nat} (u : Value) (hne : p ≠ q) : Blk (w.setCell ⟨q, i, none⟩ u) p cs t := by
  unfold Blk at *
  rw [Below.heap_setCell w ⟨q, i, none⟩ u p hne]
  exact h
theorem Blk.new (w : World) (cs : Array Value) (t : TypeId) : Blk (w.alloc (.cells cs t)) w.heap.size cs t := heap_alloc_new w _
theorem Blk.alloc (h : Blk w p cs t) (o : Obj) : Blk (w.alloc o) p cs t := h.keep ((Below.refl _ _).alloc (Nat.le_refl _) _) h.lt
end

/-! ### Reading -/
section
variable {w w' : World} {B B' : Nat} {ds ds' : List Dat} {vs vs' : List Value} {fp : List Nat}

theorem Rd.len (h : Rd w B ds vs) : vs.length = ds.length := by
  induction h with
  | nil => rfl
  | int _ ih => simp [ih]
  | bool _ ih => simp [ih]
  | row _ _ _ _ _ _ _ ih => simp [ih]

theorem Rd.keep (h : Rd w B ds vs) (hb : Below B w w') : Rd w' B ds vs := by
  induction h with
  | nil => exact .nil
  | int _ ih => exact .int ih
  | bool _ ih => exact .bool ih
  | row h1 h2 h3 h4 _ _ ih1 ih2 =>
    refine .row h1 h2 h3 (fun hn => ?_) ih1 ih2
    obtain ⟨b, off, rfl, hlt, hc⟩ := h4 hn
    exact ⟨b, off, rfl, hlt, fun j hj => (hb.cell (p := ⟨b, off + j, none⟩) hlt).trans (hc j hj)⟩

theorem Rd.up (h : Rd w B ds vs) (hB : B ≤ B') : Rd w B' ds vs := by
  induction h with
  | nil => exact .nil
  | int _ ih => exact .int ih
  | bool _ ih => exact .bool ih
  | row h1 h2 h3 h4 _ _ ih1 ih2 =>
    refine .row h1 h2 h3 (fun hn => ?_) ih1 ih2
    obtain ⟨b, off, rfl, hlt, hc⟩ := h4 hn
    exact ⟨b, off, rfl, by omega, hc⟩

theorem Rd.append (h : Rd w B ds vs) (h' : Rd w B ds' vs') : Rd w B (ds ++ ds') (vs ++ vs') := by
  induction h with
  | nil => exact h'
  | int _ ih => exact .int ih
  | bool _ ih => exact .bool ih
  | row h1 h2 h3 h4 h5 _ _ ih2 => exact .row h1 h2 h3 h4 h5 ih2

theorem Rd.split : ∀ {ds ds' : List Dat} {vs : List Value}, Rd w B (ds ++ ds') vs → ∃ v1 v2, vs = v1 ++ v2 ∧ Rd w B ds v1 ∧ Rd w B ds' v2
  | [], _, vs, h => ⟨[], vs, rfl, .nil, h⟩
  | d :: ds, ds', vs, h => by
    cases h with
    | int h => obtain ⟨v1, v2, rfl, a, b⟩ := Rd.split h; exact ⟨_ :: v1, v2, rfl, .int a, b⟩
    | bool h => obtain ⟨v1, v2, rfl, a, b⟩ := Rd.split h; exact ⟨_ :: v1, v2, rfl, .bool a, b⟩
    | row h1 h2 h3 h4 h5 h => obtain ⟨v1, v2, rfl, a, b⟩ := Rd.split h; exact ⟨_ :: v1, v2, rfl, .row h1 h2 h3 h4 h5 a, b⟩

theorem Rd.one {n : Int} {v : Value} (h : Rd w B [.int n] [v]) : v = .int .i64 n := by cases h; rfl

/-! ### Owning -/

theorem Ow.len (h : Ow w ds vs fp) : vs.length = ds.length := by
  induction h with
  | nil => rfl
  | int _ ih => simp [ih]
  | bool _ ih => simp [ih]
  | row _ _ _ _ ih => simp [ih]

theorem ownsRow_at {e : TypeId} {k n base base' : Nat} {v : Value} {us : List Value} (h : w.ownsRow base e k v n us) (hb : ∀ g, v.ownBlock = some g → w'.heap[g]? = w.heap[g]?) (hbase : ∀ g, v.ownBlock = some g → base' ≤ g) : w'.ownsRow base' e k v n us := by
  refine ⟨h.1, ?_⟩
  rcases h.2 with h0 | ⟨g, cap, cur, hv, _, hh, r⟩
  · exact .inl h0
  · refine .inr ⟨g, cap, cur, hv, hbase g (by rw [hv]; rfl), ?_, r⟩
    rw [hb g (by rw [hv]; rfl)]
    exact hh

theorem Ow.lt (h : Ow w ds vs fp) : ∀ p ∈ fp, p < w.heap.size := by
  induction h with
  | nil => intro p hp; cases hp
  | int _ ih => exact ih
  | bool _ ih => exact ih
  | row h1 _ _ ih1 ih2 =>
    intro p hp
    rcases List.mem_append.1 hp with hp | hp
    · exact (World.ownsRow.lt h1 p (by simpa using hp)).2
    · rcases List.mem_append.1 hp with hp | hp
      · exact ih1 p hp
      · exact ih2 p hp

/-- Where the blocks of the list are as they were, all is as it was. -/
theorem Ow.same (h : Ow w ds vs fp) (hb : ∀ p ∈ fp, w'.heap[p]? = w.heap[p]?) : Ow w' ds vs fp := by
  induction h with
  | nil => exact .nil
  | int _ ih => exact .int (ih hb)
  | bool _ ih => exact .bool (ih hb)
  | row h1 _ _ ih1 ih2 =>
    refine .row (ownsRow_at h1 (fun g hg => hb g (by simp [hg])) (fun _ _ => Nat.zero_le _)) (ih1 fun p hp => hb p ?_) (ih2 fun p hp => hb p ?_)
    · exact List.mem_append_right _ (List.mem_append_left _ hp)
    · exact List.mem_append_right _ (List.mem_append_right _ hp)

theorem Ow.keep (h : Ow w ds vs fp) (hb : Below w.heap.size w w') : Ow w' ds vs fp := h.same fun p hp => hb.block p (h.lt p hp)
theorem Ow.touch {S : List Nat} (h : Ow w ds vs fp) (ht : Touch S w w') (hd : ∀ p ∈ fp, p ∉ S) : Ow w' ds vs fp := h.same fun p hp => ht.block p (h.lt p hp) (hd p hp)

theorem Ow.append {fp' : List Nat} (h : Ow w ds vs fp) (h' : Ow w ds' vs' fp') : Ow w (ds ++ ds') (vs ++ vs') (fp ++ fp') := by
  induction h with
  | nil => exact h'
  | int _ ih => exact .int ih
  | bool _ ih => exact .bool ih
  | row h1 h2 _ _ ih2 =>
    have := Ow.row h1 h2 ih2
    simpa [List.append_assoc] using this

theorem Ow.split : ∀ {ds ds' : List Dat} {vs : List Value} {fp : List Nat}, Ow w (ds ++ ds') vs fp → ∃ v1 v2 f1 f2, vs = v1 ++ v2 ∧ fp = f1 ++ f2 ∧ Ow w ds v1 f1 ∧ Ow w ds' v2 f2
  | [], _, vs, fp, h => ⟨[], vs, [], fp, rfl, rfl, .nil, h⟩
  | d :: ds, ds', vs, fp, h => by
    cases h with
    | int h => obtain ⟨v1, v2, f1, f2, rfl, rfl, a, b⟩ := Ow.split h; exact ⟨_ :: v1, v2, f1, f2, rfl, rfl, .int a, b⟩
    | bool h => obtain ⟨v1, v2, f1, f2, rfl, rfl, a, b⟩ := Ow.split h; exact ⟨_ :: v1, v2, f1, f2, rfl, rfl, .bool a, b⟩
    | row h1 h2 h =>
      obtain ⟨v1, v2, f1, f2, rfl, rfl, a, b⟩ := Ow.split h
      exact ⟨_ :: v1, v2, _, f2, rfl, by simp [List.append_assoc], .row h1 h2 a, b⟩

theorem ownsRow_cap {e : TypeId} {k n base : Nat} {v : Value} {us : List Value} (h : w.ownsRow base e k v n us) : ∃ A c, v = .slice A n c ∧ n ≤ c ∧ c ≤ maxLen ∧
    (0 < n → ∃ b, A = some ⟨b, 0, none⟩ ∧ b < w.heap.size ∧ ∀ j, j < n * k → w.cell? ⟨b, 0 + j, none⟩ = us[j]?) := by
  rcases h.2 with ⟨rfl, rfl⟩ | ⟨g, cap, cur, rfl, _, hh, h1, h2, _, ht⟩
  · exact ⟨none, 0, rfl, Nat.le_refl _, Nat.zero_le _, fun h => absurd h (by omega)⟩
  · refine ⟨_, cap, rfl, h1, h2, fun _ => ⟨g, rfl, (Array.getElem?_eq_some_iff.1 hh).1, fun j hj => ?_⟩⟩
    rw [Nat.zero_add, cell_of_row w g j cur e (0, 0) hh, ← ht, List.getElem?_take, if_pos hj]
    simp

theorem Ow.rd (h : Ow w ds vs fp) : Rd w w.heap.size ds vs := by
  induction h with
  | nil => exact .nil
  | int _ ih => exact .int ih
  | bool _ ih => exact .bool ih
  | row h1 h2 _ ih1 ih2 =>
    obtain ⟨A, c, rfl, a1, a2, a3⟩ := ownsRow_cap h1
    refine .row (by rw [← h2.len, h1.1]) a1 a2 (fun hn => ?_) ih1 ih2
    obtain ⟨b, rfl, hb, hc⟩ := a3 hn
    exact ⟨b, 0, rfl, hb, hc⟩

/-- What is owned from 'base' on: each block once. -/
def Has (w : World) (base : Nat) (ds : List Dat) (vs : List Value) : Prop := ∃ fp, Ow w ds vs fp ∧ fp.Nodup ∧ ∀ p ∈ fp, base ≤ p

theorem Has.rd {base : Nat} (h : Has w base ds vs) : Rd w w.heap.size ds vs := by obtain ⟨_, h, _⟩ := h; exact h.rd
theorem Has.below {base : Nat} (h : Has w base ds vs) (hb : Below w.heap.size w w') : Has w' base ds vs := by
  obtain ⟨fp, h, r⟩ := h
  exact ⟨fp, h.keep hb, r⟩
theorem Has.up {base base' : Nat} (h : Has w base ds vs) (hb : base' ≤ base) : Has w base' ds vs := by
  obtain ⟨fp, h, hn, hp⟩ := h
  exact ⟨fp, h, hn, fun p hm => Nat.le_trans hb (hp p hm)⟩
theorem Has.len {base : Nat} (h : Has w base ds vs) : vs.length = ds.length := by obtain ⟨_, h, _⟩ := h; exact h.len

/-- Two owned parts, the second one made behind the first. -/
theorem Has.join {base : Nat} (h : Has w base ds vs) (hb : Below w.heap.size w w') (h' : Has w' w.heap.size ds' vs') (hle : base ≤ w.heap.size) : Has w' base (ds ++ ds') (vs ++ vs') := by
  obtain ⟨fp, h, hn, hp⟩ := h
  obtain ⟨fp', h', hn', hp'⟩ := h'
  have hlt := h.lt
  refine ⟨fp ++ fp', (h.keep hb).append h', List.nodup_append.2 ⟨hn, hn', fun p hm q hq e => ?_⟩, fun p hm => ?_⟩
  · have := hlt p hm
    have := hp' q hq
    omega
  · rcases List.mem_append.1 hm with hm | hm
    · exact hp p hm
    · exact Nat.le_trans hle (hp' p hm)

/-- Nothing of what is owned lies where a cell was set. -/
theorem Has.far {base p i : Nat} (h : Has w base ds vs) (u : Value) (hp : p < base) : Has (w.setCell ⟨p, i, none⟩ u) base ds vs := by
  obtain ⟨fp, h, hn, hge⟩ := h
  refine ⟨fp, h.touch (Touch.of_set (S := [p]) (by simp)) (fun q hq hm => ?_), hn, hge⟩
  have h1 := hge q hq
  have h2 : q = p := by simpa using hm
  omega

theorem Has.int {base : Nat} {n : Int} (h : Has w base ds vs) : Has w base (.int n :: ds) (.int .i64 n :: vs) := by
  obtain ⟨fp, h, r⟩ := h
  exact ⟨fp, .int h, r⟩
theorem Has.bool {base : Nat} {b : Bool} (h : Has w base ds vs) : Has w base (.bool b :: ds) (.bool b :: vs) := by
  obtain ⟨fp, h, r⟩ := h
  exact ⟨fp, .bool h, r⟩
theorem Has.nil (w : World) (base : Nat) : Has w base [] [] := ⟨[], .nil, List.nodup_nil, fun p hp => by cases hp⟩
end

/-! ### Slices of typed elements -/

/-- A slice whose elements have k cells each, told by f. -/
def lst {α : Type} (e : TypeId) (k : Nat) (f : α → List Dat) (l : List α) : Dat := .rows e k (l.flatMap f)

section
variable {α : Type} {w w' : World} {B : Nat} {e : TypeId} {k : Nat} {f : α → List Dat} {l : List α}

theorem flatMap_len (hk : ∀ x, (f x).length = k) (l : List α) : (l.flatMap f).length = l.length * k := by
  induction l with
  | nil => simp
  | cons x l ih => simp [ih, hk, Nat.add_mul, Nat.add_comm]

theorem flatMap_at (l : List α) {j : Nat} (hj : j < l.length) : l.flatMap f = (l.take j).flatMap f ++ (f l[j] ++ (l.drop (j + 1)).flatMap f) := by
  have e : l = l.take j ++ (l[j] :: l.drop (j + 1)) := by rw [← List.drop_eq_getElem_cons hj, List.take_append_drop]
  have e2 : l.flatMap f = (l.take j ++ (l[j] :: l.drop (j + 1))).flatMap f := congrArg (List.flatMap f) e
  rw [e2, List.flatMap_append, List.flatMap_cons]

/-- What a slice of elements reads as. -/
theorem Rd.lst {v : Value} (hk : ∀ x, (f x).length = k) (k0 : 0 < k) (h : Rd w B [lst e k f l] [v]) :
    ∃ A n c, v = .slice A n c ∧ l.length = n ∧ n ≤ c ∧ c ≤ maxLen ∧ (0 < n → ∃ b off, A = some ⟨b, off, none⟩ ∧ b < B ∧
      ∀ j (hj : j < l.length), ∃ es, es.length = k ∧ Rd w B (f l[j]) es ∧ ∀ i, i < k → w.cell? ⟨b, off + j * k + i, none⟩ = es[i]?) := by
  cases h with
  | @row _ _ A n c us _ _ _ h1 h2 h3 h4 h5 _ =>
    rw [flatMap_len hk] at h1
    have hl : l.length = n := Nat.eq_of_mul_eq_mul_right k0 h1
    refine ⟨A, n, c, rfl, hl, h2, h3, fun hn => ?_⟩
    obtain ⟨b, off, rfl, hb, hc⟩ := h4 hn
    refine ⟨b, off, rfl, hb, fun j hj => ?_⟩
    rw [flatMap_at l hj] at h5
    obtain ⟨v1, v2, rfl, r1, r2⟩ := h5.split
    obtain ⟨es, v3, rfl, r3, r4⟩ := r2.split
    have e1 : v1.length = j * k := by rw [r1.len, flatMap_len hk, List.length_take, Nat.min_eq_left (Nat.le_of_lt hj)]
    have e2 : es.length = k := by rw [r3.len, hk]
    refine ⟨es, e2, r3, fun i hi => ?_⟩
    have hlt : j * k + i < n * k := by
      have : (j + 1) * k ≤ n * k := Nat.mul_le_mul_right k (by omega)
      rw [Nat.add_mul, Nat.one_mul] at this
      omega
    rw [Nat.add_assoc, hc _ hlt, List.getElem?_append_right (by omega), e1, Nat.add_sub_cancel_left, List.getElem?_append_left (by omega)]

theorem Rd.of_lst {A : Option Addr} {n c : Nat} {us : List Value} (hk : ∀ x, (f x).length = k) (hl : l.length = n) (hc : n ≤ c) (hm : c ≤ maxLen)
    (hcell : 0 < n → ∃ b off, A = some ⟨b, off, none⟩ ∧ b < B ∧ ∀ j, j < n * k → w.cell? ⟨b, off + j, none⟩ = us[j]?) (hr : Rd w B (l.flatMap f) us) : Rd w B [Go.Proofs.Ytejcpoidoekleaa.lst e k f l] [.slice A n c] :=
  .row (by rw [flatMap_len hk, hl]) hc hm hcell hr .nil
end

end Go.Proofs.Ytejcpoidoekleaa
