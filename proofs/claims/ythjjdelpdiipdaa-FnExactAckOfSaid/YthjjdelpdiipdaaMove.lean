/-
  append(out, src...), out an own slice: the source's elements come behind the slice's, and what the source's cells reach belongs to the result; flat elements are copied; a made slice is filled by copy.
-/
import Derived.Test.YthjjdelpdiipdaaKA
import Derived.Laws.IdiomCopy
namespace Go.Proofs.Ythjjdelpdiipdaa
set_option maxRecDepth 100000
open Go.RowKit

section
variable {α : Type} {w w' : World} {e : TypeId} {k : Nat} {f : α → List Dat} {l : List α} {fp : List Nat}

/-- What a source slice of m elements must tell: its cells. -/
def Src (w : World) (A : Option Addr) (m k : Nat) (us : List Value) : Prop := 0 < m → ∃ b off, A = some ⟨b, off, none⟩ ∧ ∀ i, i < m * k → w.cell? ⟨b, off + i, none⟩ = us[i]?

theorem append_many {P : Program} {t ty : TypeId} {z : Value} {bytes : Nat} {A A' : Option Addr} {n c m c' : Nat} {us2 : List Value} {f2 : List Nat} {l2 : List α} (ht : P.underlying t = some (.slice e))
    (hinfo : (P.info? e).map (fun i => (i.zero, i.size, i.bytes)) = some (some z, k, bytes)) (hzs : z.cells.size = k) (k0 : 0 < k) (hk : ∀ x, (f x).length = k)
    (h : Ow w [Go.Proofs.Ythjjdelpdiipdaa.lst e k f l] [.slice A n c] fp) (hn : fp.Nodup) (hsrc : Src w A' m k us2) (ho : Ow w (l2.flatMap f) us2 f2) (hl2 : l2.length = m) (hn2 : f2.Nodup) (hd : ∀ p ∈ f2, p ∉ fp) (hl : n + m ≤ 2097154) (hby : bytes ≤ 1048576) :
    ∃ A3 c3 w3 fp3, (Builtin.append_ #[t, t] ty #[.slice A n c, .slice A' m c']).run P w = .ok (.slice A3 (n + m) c3) w3 ∧ Ow w3 [Go.Proofs.Ythjjdelpdiipdaa.lst e k f (l ++ l2)] [.slice A3 (n + m) c3] fp3 ∧ fp3.Nodup ∧ (∀ p ∈ fp3, p ∈ fp ∨ p ∈ f2 ∨ p = w.heap.size) ∧ Touch fp w w3 := by
  obtain ⟨i0, hi0, hz⟩ := Option.map_eq_some_iff.1 hinfo
  simp only [Prod.mk.injEq] at hz
  obtain ⟨hz0, hz1, hz2⟩ := hz
  rcases A' with _ | ad
  · have hm : m = 0 := by
      rcases Nat.eq_zero_or_pos m with h0 | h0
      · exact h0
      · obtain ⟨b, off, e, _⟩ := hsrc h0; cases e
    subst hm
    have hl0 : l2 = [] := List.eq_nil_of_length_eq_zero hl2
    subst hl0
    have hf2 : f2 = [] := by
      have h0 : us2 = [] := by
        have := ho.len
        exact List.eq_nil_of_length_eq_zero (by simpa using this)
      subst h0
      exact Ow.nil_foot ho
    refine ⟨A, c, w, fp, ?_, by simpa using h, hn, fun p hp => .inl hp, Touch.refl _ _⟩
    obtain ⟨us, fp1, h1, _, _⟩ := h.lst hk k0
    rcases h1.2 with ⟨hv, h0⟩ | ⟨g, cap, cur, hv, _, _, hnc, _⟩
    · injection hv with h1 h2 h3
      subst h1 h2 h3
      simp [Builtin.append_, run_underlying ht, sizeOf, typeInfo, hi0, Builtin.lenOf, Builtin.firstCells]
    · injection hv with h1 h2 h3
      subst h1 h3
      have hnc' : n ≤ c := by omega
      simp [Builtin.append_, run_underlying ht, sizeOf, typeInfo, hi0, Builtin.lenOf, Builtin.firstCells, hnc', storeCells]
  · obtain ⟨us, fp1, h1, h2, rfl⟩ := h.lst hk k0
    have hnl : n = l.length := by
      rcases h1.2 with ⟨h0, h9⟩ | ⟨_, _, _, h0, _⟩
      · injection h0; omega
      · injection h0
    rw [← hnl] at h1
    have hle : us2.length = m * k := by rw [ho.len, flatMap_len hk, hl2]
    obtain ⟨v', w', hrun, q2, q3, _, q5⟩ := run_append_own_at (P := P) w 0 t ty e i0 _ k bytes ht hi0 hz0 hz1 hz2 hzs k0 _ n _ h1 ad m c' us2 hle
      (by intro j u hj
          have hjm : j < m * k := by
            rcases Nat.lt_or_ge j us2.length with h | h
            · omega
            · rw [List.getElem?_eq_none h] at hj; cases hj
          have hm0 : 0 < m := by
            rcases Nat.eq_zero_or_pos m with h0 | h0
            · subst h0; simp at hjm
            · exact h0
          obtain ⟨b, off, e1, hc⟩ := hsrc hm0
          injection e1 with e1
          subst e1
          have hadd : (⟨b, off, none⟩ : Addr).add j = ⟨b, off + j, none⟩ := by unfold Addr.add; split <;> simp_all
          rw [hadd, hc j hjm, hj])
      ho.one (by simp only [maxLen]; omega)
      (by have : (n + m) * bytes ≤ 2097154 * 1048576 := Nat.mul_le_mul (by omega) hby
          omega) (Nat.zero_le _)
    have hlt := h.lt
    have tt : Touch (Value.slice A n c).ownBlock.toList w w' := Touch.of_grown q3 (fun p hp => by rw [hp]; simp)
    have hn' := hn
    rw [List.nodup_append] at hn'
    have hap : (l ++ l2).flatMap f = l.flatMap f ++ l2.flatMap f := by simp
    have o1 := h2.touch tt (fun p hp hm => hn'.2.2 p hm p hp rfl)
    have o2 := ho.touch tt (fun p hp hm => hd p hp (List.mem_append_left _ hm))
    have o3 := o1.append o2
    rw [← hap] at o3
    have key : ∃ A3 c3, v' = .slice A3 (n + m) c3 := by
      rcases q2.2 with ⟨hv, hnm⟩ | ⟨g, cap, cur, hv, _⟩
      · exact ⟨none, 0, by rw [hv, hnm]⟩
      · exact ⟨_, _, hv⟩
    obtain ⟨A3, c3, hv⟩ := key
    subst hv
    have hgnew : ∀ p ∈ fp1 ++ f2, p ∉ (Value.slice A3 (n + m) c3).ownBlock.toList := by
      intro p hp hm
      rcases q5 with q5 | q5
      · rw [q5] at hm
        rcases List.mem_append.1 hp with hp | hp
        · exact hn'.2.2 p hm p hp rfl
        · exact hd p hp (List.mem_append_left _ hm)
      · rw [q5] at hm
        have e2 : p = w.heap.size := by simpa using hm
        rcases List.mem_append.1 hp with hp | hp
        · have := hlt p (List.mem_append_right _ hp); omega
        · have := ho.lt p hp; omega
    refine ⟨A3, c3, w', _, hrun, Ow.of_lst q2 o3, ?_, fun p hp => ?_, tt.mono fun p hp => List.mem_append_left _ hp⟩
    · rw [List.nodup_append, List.nodup_append]
      refine ⟨by cases (Value.slice A3 (n + m) c3).ownBlock <;> simp, ⟨hn'.2.1, hn2, fun p hp q hq e => hd q hq (by subst e; exact List.mem_append_right _ hp)⟩, fun p hp q hq e => ?_⟩
      subst e
      exact hgnew p hq hp
    · rcases List.mem_append.1 hp with hp | hp
      · rcases q5 with q5 | q5
        · rw [q5] at hp
          exact .inl (List.mem_append_left _ hp)
        · rw [q5] at hp
          right; right
          simpa using hp
      · rcases List.mem_append.1 hp with hp | hp
        · exact .inl (List.mem_append_right _ hp)
        · exact .inr (.inl hp)

theorem wpList_append_many {P : Program} {t : TypeId} {z : Value} {bytes : Nat} {A A' : Option Addr} {n c m c' : Nat} {us2 : List Value} {f2 : List Nat} {l2 : List α} {ops : Array Oper} {rest : List Oper} {op : Oper} {a : Act} {Q : Exit → Act → World → Prop}
    (hgd : op.guard = none) (s x : Operand) (hop : op.op = .call { callee := .builtin .append, args := #[s, x], argTypes := #[t, t] }) (ht : P.underlying t = some (.slice e))
    (hinfo : (P.info? e).map (fun i => (i.zero, i.size, i.bytes)) = some (some z, k, bytes)) (hzs : z.cells.size = k) (k0 : 0 < k) (hk : ∀ x, (f x).length = k)
    (hse : a.eval s = .slice A n c) (h : Ow w [Go.Proofs.Ythjjdelpdiipdaa.lst e k f l] [.slice A n c] fp) (hn : fp.Nodup) (hx : a.eval x = .slice A' m c') (hsrc : Src w A' m k us2) (ho : Ow w (l2.flatMap f) us2 f2) (hl2 : l2.length = m) (hn2 : f2.Nodup) (hd : ∀ p ∈ f2, p ∉ fp) (hl : n + m ≤ 2097154) (hby : bytes ≤ 1048576)
    (hK : ∀ A3 c3 w3 fp3, Ow w3 [Go.Proofs.Ythjjdelpdiipdaa.lst e k f (l ++ l2)] [.slice A3 (n + m) c3] fp3 → fp3.Nodup → (∀ p ∈ fp3, p ∈ fp ∨ p ∈ f2 ∨ p = w.heap.size) → Touch fp w w3 → wpList P ops Q rest (a.put op.dst (.slice A3 (n + m) c3)) w3) :
    wpList P ops Q (op :: rest) a w := by
  refine wpList_plain hgd fun K hK' => ?_
  obtain ⟨A3, c3, w3, fp3, hrun, a1, a2, a3, a4⟩ := append_many (P := P) (ty := op.type) (c' := c') ht hinfo hzs k0 hk h hn hsrc ho hl2 hn2 hd hl hby
  unfold Oper.wp execOp
  simp only [hop, resolve, invoke, builtin, Sem.run_bind, Sem.run_pure, Result.andThen_ok, List.map_toArray, List.map_cons, List.map_nil, hse, hx, hrun]
  exact hK' _ _ (hK A3 c3 w3 fp3 a1 a2 a3 a4)
theorem wp_append_many {P : Program} {t : TypeId} {z : Value} {bytes : Nat} {A A' : Option Addr} {n c m c' : Nat} {us2 : List Value} {f2 : List Nat} {l2 : List α} {op : Oper} {a : Act} {Q : Exit → Act → World → Prop} {K : Act → World → Prop}
    (s x : Operand) (hop : op.op = .call { callee := .builtin .append, args := #[s, x], argTypes := #[t, t] }) (ht : P.underlying t = some (.slice e))
    (hinfo : (P.info? e).map (fun i => (i.zero, i.size, i.bytes)) = some (some z, k, bytes)) (hzs : z.cells.size = k) (k0 : 0 < k) (hk : ∀ x, (f x).length = k)
    (hse : a.eval s = .slice A n c) (h : Ow w [Go.Proofs.Ythjjdelpdiipdaa.lst e k f l] [.slice A n c] fp) (hn : fp.Nodup) (hx : a.eval x = .slice A' m c') (hsrc : Src w A' m k us2) (ho : Ow w (l2.flatMap f) us2 f2) (hl2 : l2.length = m) (hn2 : f2.Nodup) (hd : ∀ p ∈ f2, p ∉ fp) (hl : n + m ≤ 2097154) (hby : bytes ≤ 1048576)
    (hK : ∀ A3 c3 w3 fp3, Ow w3 [Go.Proofs.Ythjjdelpdiipdaa.lst e k f (l ++ l2)] [.slice A3 (n + m) c3] fp3 → fp3.Nodup → (∀ p ∈ fp3, p ∈ fp ∨ p ∈ f2 ∨ p = w.heap.size) → Touch fp w w3 → K (a.put op.dst (.slice A3 (n + m) c3)) w3) :
    Oper.wp P op a w K Q := by
  obtain ⟨A3, c3, w3, fp3, hrun, a1, a2, a3, a4⟩ := append_many (P := P) (ty := op.type) (c' := c') ht hinfo hzs k0 hk h hn hsrc ho hl2 hn2 hd hl hby
  unfold Oper.wp execOp
  simp only [hop, resolve, invoke, builtin, Sem.run_bind, Sem.run_pure, Result.andThen_ok, List.map_toArray, List.map_cons, List.map_nil, hse, hx, hrun]
  exact hK A3 c3 w3 fp3 a1 a2 a3 a4
/-- .. onto an empty slice: the source alone. -/
theorem wp_append_fresh {P : Program} {t : TypeId} {z : Value} {bytes : Nat} {A A' : Option Addr} {c m c' : Nat} {us2 : List Value} {f2 : List Nat} {l2 : List α} {op : Oper} {a : Act} {Q : Exit → Act → World → Prop} {K : Act → World → Prop}
    (s x : Operand) (hop : op.op = .call { callee := .builtin .append, args := #[s, x], argTypes := #[t, t] }) (ht : P.underlying t = some (.slice e))
    (hinfo : (P.info? e).map (fun i => (i.zero, i.size, i.bytes)) = some (some z, k, bytes)) (hzs : z.cells.size = k) (k0 : 0 < k) (hk : ∀ x, (f x).length = k)
    (hse : a.eval s = .slice A 0 c) (h : Ow w [Go.Proofs.Ythjjdelpdiipdaa.lst e k f ([] : List α)] [.slice A 0 c] fp) (hn : fp.Nodup) (hx : a.eval x = .slice A' m c') (hsrc : Src w A' m k us2) (ho : Ow w (l2.flatMap f) us2 f2) (hl2 : l2.length = m) (hn2 : f2.Nodup) (hd : ∀ p ∈ f2, p ∉ fp) (hl : m ≤ 2097154) (hby : bytes ≤ 1048576)
    (hK : ∀ A3 c3 w3 fp3, Ow w3 [Go.Proofs.Ythjjdelpdiipdaa.lst e k f l2] [.slice A3 m c3] fp3 → fp3.Nodup → (∀ p ∈ fp3, p ∈ fp ∨ p ∈ f2 ∨ p = w.heap.size) → Touch fp w w3 → K (a.put op.dst (.slice A3 m c3)) w3) :
    Oper.wp P op a w K Q := by
  refine wp_append_many s x hop ht hinfo hzs k0 hk hse h hn hx hsrc ho hl2 hn2 hd (by omega) hby ?_
  intro A3 c3 w3 fp3 a1 a2 a3 a4
  rw [Nat.zero_add] at a1 ⊢
  exact hK A3 c3 w3 fp3 a1 a2 a3 a4
theorem wpList_append_fresh {P : Program} {t : TypeId} {z : Value} {bytes : Nat} {A A' : Option Addr} {c m c' : Nat} {us2 : List Value} {f2 : List Nat} {l2 : List α} {ops : Array Oper} {rest : List Oper} {op : Oper} {a : Act} {Q : Exit → Act → World → Prop}
    (hgd : op.guard = none) (s x : Operand) (hop : op.op = .call { callee := .builtin .append, args := #[s, x], argTypes := #[t, t] }) (ht : P.underlying t = some (.slice e))
    (hinfo : (P.info? e).map (fun i => (i.zero, i.size, i.bytes)) = some (some z, k, bytes)) (hzs : z.cells.size = k) (k0 : 0 < k) (hk : ∀ x, (f x).length = k)
    (hse : a.eval s = .slice A 0 c) (h : Ow w [Go.Proofs.Ythjjdelpdiipdaa.lst e k f ([] : List α)] [.slice A 0 c] fp) (hn : fp.Nodup) (hx : a.eval x = .slice A' m c') (hsrc : Src w A' m k us2) (ho : Ow w (l2.flatMap f) us2 f2) (hl2 : l2.length = m) (hn2 : f2.Nodup) (hd : ∀ p ∈ f2, p ∉ fp) (hl : m ≤ 2097154) (hby : bytes ≤ 1048576)
    (hK : ∀ A3 c3 w3 fp3, Ow w3 [Go.Proofs.Ythjjdelpdiipdaa.lst e k f l2] [.slice A3 m c3] fp3 → fp3.Nodup → (∀ p ∈ fp3, p ∈ fp ∨ p ∈ f2 ∨ p = w.heap.size) → Touch fp w w3 → wpList P ops Q rest (a.put op.dst (.slice A3 m c3)) w3) :
    wpList P ops Q (op :: rest) a w :=
  wpList_plain hgd fun _ hK' => wp_append_fresh s x hop ht hinfo hzs k0 hk hse h hn hx hsrc ho hl2 hn2 hd hl hby fun A3 c3 w3 fp3 a1 a2 a3 a4 => hK' _ _ (hK A3 c3 w3 fp3 a1 a2 a3 a4)
end

/-! ### Flat elements -/
section
variable {α : Type} {w w' : World} {B : Nat} {e : TypeId} {k : Nat} {f : α → List Dat} {g : α → List Int} {l : List α}
theorem flat_flat (hf : ∀ x, f x = (g x).flatMap fun y => [Dat.int y]) (l : List α) : l.flatMap f = (l.flatMap g).flatMap fun y => [Dat.int y] := by
  induction l with
  | nil => rfl
  | cons x l ih => rw [List.flatMap_cons, List.flatMap_cons, List.flatMap_append, ih, hf]
theorem ow_flat (hf : ∀ x, f x = (g x).flatMap fun y => [Dat.int y]) (w : World) (l : List α) : Ow w (l.flatMap f) (ivals (l.flatMap g)) [] := by
  rw [flat_flat hf]
  exact ow_ints_mk _
/-- A slice of flat elements that reads as l tells its cells. -/
theorem Rd.src (hf : ∀ x, f x = (g x).flatMap fun y => [Dat.int y]) (hk : ∀ x, (f x).length = k) (k0 : 0 < k) {A : Option Addr} {n c : Nat} (h : Rd w B [Go.Proofs.Ythjjdelpdiipdaa.lst e k f l] [.slice A n c]) : Src w A n k (ivals (l.flatMap g)) ∧ l.length = n := by
  obtain ⟨A', n', c', e1, hl, _, _, hel⟩ := Rd.lst hk k0 h
  injection e1 with e1 e2 e3
  subst e1 e2 e3
  refine ⟨fun hn => ?_, hl⟩
  obtain ⟨b, off, hA, _, hc⟩ := hel hn
  refine ⟨b, off, hA, fun i hi => ?_⟩
  have hkg : ∀ x, (g x).length = k := fun x => by
    have h1 := hk x
    have h2 : ∀ q : List Int, (q.flatMap fun y => [Dat.int y]).length = q.length := fun q => by
      induction q with
      | nil => rfl
      | cons x q ih => rw [List.flatMap_cons, List.length_append, ih, List.length_cons, Nat.add_comm]; rfl
    rw [hf x, h2] at h1
    exact h1
  have hq : i / k < l.length := by rw [hl]; exact Nat.div_lt_of_lt_mul (by rw [Nat.mul_comm]; exact hi)
  have hr : i % k < k := Nat.mod_lt _ k0
  obtain ⟨es, he, hrd, hcell⟩ := hc (i / k) hq
  have h1 := hcell (i % k) hr
  have h2 : off + i / k * k + i % k = off + i := by
    have := Nat.div_add_mod i k
    rw [Nat.mul_comm] at this
    omega
  rw [h2] at h1
  rw [h1]
  rw [hf] at hrd
  rw [rd_ints hrd]
  have h3 : l.flatMap g = (l.take (i / k)).flatMap g ++ (g l[i / k] ++ (l.drop (i / k + 1)).flatMap g) := by
    have e1 : l = l.take (i / k) ++ (l[i / k] :: l.drop (i / k + 1)) := by rw [← List.drop_eq_getElem_cons hq, List.take_append_drop]
    have e2 := congrArg (List.flatMap g) e1
    rw [List.flatMap_append, List.flatMap_cons] at e2
    exact e2
  have h4 : ((l.take (i / k)).flatMap g).length = i / k * k := by
    have : ∀ q : List α, (q.flatMap g).length = q.length * k := fun q => by
      induction q with
      | nil => simp
      | cons x q ih => rw [List.flatMap_cons, List.length_append, ih, hkg, List.length_cons, Nat.add_mul, Nat.one_mul, Nat.add_comm]
    rw [this, List.length_take, Nat.min_eq_left (Nat.le_of_lt hq)]
  rw [ivals_get, ivals_get, h3, List.getElem?_append_right (by rw [h4]; have := Nat.div_add_mod i k; rw [Nat.mul_comm] at this; omega), h4]
  have h5 : i - i / k * k = i % k := by
    have := Nat.div_add_mod i k
    rw [Nat.mul_comm] at this
    omega
  rw [h5, List.getElem?_append_left (by rw [hkg]; exact hr)]
end

/-- An empty own slice with a block. -/
theorem ow_empty {α : Type} {e : TypeId} {k : Nat} {f : α → List Dat} (w : World) : Ow (w.alloc (.cells #[] e)) [Go.Proofs.Ythjjdelpdiipdaa.lst e k f []] [.slice (some ⟨w.heap.size, 0, none⟩) 0 0] [w.heap.size] := by
  have h1 := World.ownsRow_lit (base := 0) (e := e) (size := k) w #[] 0 (Nat.zero_le _) (Nat.zero_le _) (by simp)
  have := Ow.of_lst (f := f) (l := []) h1 .nil
  simpa [Value.ownBlock] using this

/-- A piece in front of others, from base on. -/
theorem Sep.addAt {w : World} {base : Nat} {is : List Item} {ds : List Dat} {vs : List Value} {f : List Nat} (h : Sep w base is) (o : Ow w ds vs f) (hn : (f ++ foots is).Nodup) (hb : ∀ p ∈ f, base ≤ p) : Sep w base (.own ds vs f :: is) := by
  refine ⟨fun n i hi => ?_, hn, fun p hp => ?_⟩
  · cases n with
    | zero => simp at hi; subst hi; exact o
    | succ n => exact h.holds n i (by simpa using hi)
  · rcases List.mem_append.1 (show p ∈ f ++ foots is from hp) with hp | hp
    · exact hb p hp
    · exact h.ge p hp

/-- An empty block is an empty own slice. -/
theorem Sep.blk0 {α : Type} {w : World} {base q : Nat} {is : List Item} {e : TypeId} {k : Nat} {f : α → List Dat} (h : Sep w base (.blk q #[] e :: is)) : Sep w base (.own [lst e k f []] [.slice (some ⟨q, 0, none⟩) 0 0] [q] :: is) := by
  refine ⟨fun n i hi => ?_, h.nodup, h.ge⟩
  cases n with
  | zero =>
    simp at hi
    subst hi
    have hb : w.heap[q]? = some (.cells #[] e (0, 0)) := h.at_ 0 rfl
    have h1 : w.ownsRow 0 e k (.slice (some ⟨q, 0, none⟩) 0 0) 0 [] := ⟨by simp, .inr ⟨q, 0, #[], rfl, Nat.zero_le _, hb, Nat.le_refl _, Nat.zero_le _, by simp, by simp⟩⟩
    have h2 : Ow w [Go.Proofs.Ythjjdelpdiipdaa.lst e k f []] [.slice (some ⟨q, 0, none⟩) 0 0] [q] := by
      have := Ow.of_lst (f := f) (l := []) h1 .nil
      simpa [Value.ownBlock] using this
    exact h2
  | succ n => exact h.holds (n + 1) i (by simpa using hi)
/-- Flat contents beside other pieces. -/
theorem Sep.flat {α : Type} {w : World} {base : Nat} {is : List Item} {f : α → List Dat} {g : α → List Int} (h : Sep w base is) (hf : ∀ x, f x = (g x).flatMap fun y => [Dat.int y]) (l : List α) : Sep w base (.own (l.flatMap f) (ivals (l.flatMap g)) [] :: is) :=
  h.own0 (ow_flat hf w l)
theorem linkC_flat0 {α : Type} {f : α → List Dat} {g : α → List Int} (h : ∀ x, f x = (g x).map Dat.int) : ∀ x, f x = (g x).flatMap fun y => [Dat.int y] := fun x => by
  rw [h]
  induction g x with
  | nil => rfl
  | cons y l ih => rw [List.map_cons, List.flatMap_cons, ih]; rfl

/-- An own slice laid open: its block, and what its cells reach. -/
theorem Sep.lift {α : Type} {w : World} {base g n c : Nat} {is : List Item} {e : TypeId} {k : Nat} {f : α → List Dat} {l : List α} {fp : List Nat} (hk : ∀ x, (f x).length = k) (k0 : 0 < k)
    (h : Sep w base (.own [lst e k f l] [.slice (some ⟨g, 0, none⟩) n c] fp :: is)) : ∃ us cs f1, Sep w base (.own (l.flatMap f) us f1 :: .blk g cs e :: is) ∧ ∀ i, i < n * k → cs[i]? = us[i]? := by
  obtain ⟨us, fp1, h1, h2, hfp⟩ := (h.own_ 0 rfl).lst hk k0
  rcases h1.2 with ⟨h0, _⟩ | ⟨g', cap, cur, hv, _, hb, _, _, hcs, htk⟩
  · cases h0
  · injection hv with a1 a2 a3
    injection a1 with a1
    injection a1 with a1 _
    subst a1 a2 a3
    have hfp' : fp = g :: fp1 := by rw [hfp]; simp [Value.ownBlock]
    subst hfp'
    refine ⟨us, cur, fp1, ⟨fun m i hi => ?_, ?_, ?_⟩, fun i hi => ?_⟩
    · match m, hi with
      | 0, hi => simp at hi; subst hi; exact h2
      | 1, hi => simp at hi; subst hi; exact hb
      | m + 2, hi => exact h.holds (m + 1) i (by simpa using hi)
    · have hnd : (g :: (fp1 ++ foots is)).Nodup := h.nodup
      have hp : (g :: (fp1 ++ foots is)).Perm (fp1 ++ (g :: foots is)) := List.perm_middle.symm
      exact hp.nodup_iff.1 hnd
    · intro p hp
      refine h.ge p ?_
      have hp' : p ∈ fp1 ++ (g :: foots is) := hp
      show p ∈ (g :: fp1) ++ foots is
      simp only [List.mem_append, List.mem_cons] at hp' ⊢
      rcases hp' with h | h | h
      · exact .inl (.inr h)
      · exact .inl (.inl h)
      · exact .inr h
    · rw [← htk]
      simp [hi]
theorem Src.of_blk {w : World} {g off m k : Nat} {cs : Array Value} {t : TypeId} {us : List Value} (h : Blk w g cs t) (hc : ∀ i, i < m * k → cs[off + i]? = us[i]?) : Src w (some ⟨g, off, none⟩) m k us :=
  fun _ => ⟨g, off, rfl, fun i hi => (h.cell (off + i)).trans (hc i hi)⟩
theorem Src.zero {w : World} {A : Option Addr} {k : Nat} {us : List Value} : Src w A 0 k us := fun h => absurd h (by omega)

/-! ### copy -/
theorem setCells_puts (b : Nat) : ∀ (vs : List Value) (o : Nat) (w : World), w.setCells b o vs = puts w b o vs
  | [], _, _ => rfl
  | v :: r, o, w => by
    show (w.setCell ⟨b, o, none⟩ v).setCells b (o + 1) r = puts (w.setCell ⟨b, o, none⟩ v) b (o + 1) r
    exact setCells_puts b r (o + 1) _
theorem run_copy_k {P : Program} {k : Nat} (w : World) (dT sT ty elem : TypeId) (b o dLen dCap : Nat) (a : Addr) (sLen sCap : Nat) (cs : List Value)
    (hu : P.underlying dT = some (.slice elem)) (hs : (P.info? elem).map (·.size) = some k) (hn : cs.length = Nat.min sLen dLen * k)
    (hsrc : ∀ j v, cs[j]? = some v → w.cell? (a.add j) = some v) (hc : ∀ j, j < cs.length → (w.cell? ⟨b, o + j, none⟩).isSome = true) (hf : ∀ j, j < cs.length → w.frozen? ⟨b, o + j, none⟩ = false) (h1 : ∀ v ∈ cs, v.oneCell' = true) :
    (Builtin.copy_ #[dT, sT] ty #[.slice (some ⟨b, o, none⟩) dLen dCap, .slice (some a) sLen sCap]).run P w = .ok (goInt (Nat.min sLen dLen)) (w.setCells b o cs) := by
  have hl := run_loadCells_list (P := P) w a cs hsrc
  have hst := run_storeCells_cells (P := P) b o cs 0 w (by simpa using hc) (by simpa using hf) h1
  cases hq : P.info? elem with
  | none => simp [hq] at hs
  | some i =>
    have hi : i.size = k := by simpa [hq] using hs
    simp [Builtin.copy_, run_underlying hu, Builtin.lenOf, Builtin.firstCells, sizeOf, typeInfo, hq, hi, ← hn, hl, hst]
theorem run_copy_k0 {P : Program} {k : Nat} (w : World) (dT sT ty elem : TypeId) (d a : Option Addr) (dLen dCap sLen sCap : Nat) (hu : P.underlying dT = some (.slice elem)) (hs : (P.info? elem).map (·.size) = some k) (hn : Nat.min sLen dLen = 0) :
    (Builtin.copy_ #[dT, sT] ty #[.slice d dLen dCap, .slice a sLen sCap]).run P w = .ok (goInt 0) w := by
  cases hq : P.info? elem with
  | none => simp [hq] at hs
  | some i =>
    have hl : ∀ (x : Addr), (loadCells x 0).run P w = .ok #[] w := fun x => by simpa using run_loadCells_list (P := P) w x [] (by simp)
    cases d <;> cases a <;> simp [Builtin.copy_, run_underlying hu, Builtin.lenOf, Builtin.firstCells, sizeOf, typeInfo, hq, hn, storeCells, hl]

theorem wpList_copy_flat {P : Program} {α : Type} {w : World} {e t : TypeId} {k g n c' : Nat} {f : α → List Dat} {gg : α → List Int} {l l2 : List α} {fp : List Nat} {A' : Option Addr} {ops : Array Oper} {rest : List Oper} {op : Oper} {a : Act} {Q : Exit → Act → World → Prop}
    (hgd : op.guard = none) (s x : Operand) (hop : op.op = .call { callee := .builtin .copy, args := #[s, x], argTypes := #[t, t] }) (ht : P.underlying t = some (.slice e)) (hsz : (P.info? e).map (·.size) = some k) (k0 : 0 < k) (hk : ∀ x, (f x).length = k)
    (hf : ∀ x, f x = (gg x).flatMap fun y => [Dat.int y]) (hse : a.eval s = .slice (some ⟨g, 0, none⟩) n n) (h : Ow w [lst e k f l] [.slice (some ⟨g, 0, none⟩) n n] fp) (hx : a.eval x = .slice A' n c') (hsrc : Src w A' n k (ivals (l2.flatMap gg))) (hl2 : l2.length = n)
    (hK : ∀ w3, Ow w3 [lst e k f l2] [.slice (some ⟨g, 0, none⟩) n n] fp → Touch fp w w3 → wpList P ops Q rest (a.put op.dst (goInt n)) w3) :
    wpList P ops Q (op :: rest) a w := by
  refine wpList_plain hgd fun K hK' => ?_
  obtain ⟨us, fp1, h1, h2, hfp⟩ := h.lst hk k0
  rw [flat_flat hf] at h2
  obtain ⟨rfl, rfl⟩ := ow_ints h2
  have hfp' : fp = [g] := by rw [hfp]; simp [Value.ownBlock]
  subst hfp'
  have hnl : n = l.length := by
    rcases h1.2 with ⟨h0, _⟩ | ⟨_, _, _, h0, _⟩
    · cases h0
    · injection h0
  have len2 : (ivals (l2.flatMap gg)).length = n * k := by
    have h3 := (ow_flat hf w l2).len
    rw [flatMap_len hk, hl2] at h3
    exact h3
  have len1 : (ivals (l.flatMap gg)).length = n * k := by rw [h1.1, hnl]
  rcases Nat.eq_zero_or_pos n with h0 | h0
  · subst h0
    have e2 : l2 = [] := List.eq_nil_of_length_eq_zero hl2
    have e1 : l = [] := List.eq_nil_of_length_eq_zero hnl.symm
    subst e1 e2
    have hrun := run_copy_k0 (P := P) w t t op.type e (some ⟨g, 0, none⟩) A' 0 0 0 c' ht hsz rfl
    unfold Oper.wp execOp
    simp only [hop, resolve, invoke, builtin, Sem.run_bind, Sem.run_pure, Result.andThen_ok, List.map_toArray, List.map_cons, List.map_nil, hse, hx, hrun]
    exact hK' _ _ (hK w h (Touch.refl _ _))
  · obtain ⟨b, off, rfl, hc⟩ := hsrc h0
    have hmin : Nat.min n n = n := Nat.min_self n
    have h1n : w.ownsRow 0 e k (.slice (some ⟨g, 0, none⟩) n n) n (ivals (l.flatMap gg)) := by
      rw [← hnl] at h1
      exact h1
    have hrun := run_copy_k (P := P) w t t op.type e g 0 n n ⟨b, off, none⟩ n c' (ivals (l2.flatMap gg)) ht hsz (by rw [hmin, len2])
      (fun j v hj => by
        have hlt : j < n * k := by
          rcases Nat.lt_or_ge j (ivals (l2.flatMap gg)).length with h | h
          · omega
          · rw [List.getElem?_eq_none h] at hj; cases hj
        have hadd : (⟨b, off, none⟩ : Addr).add j = ⟨b, off + j, none⟩ := by unfold Addr.add; split <;> simp_all
        rw [hadd, hc j hlt, hj])
      (fun j hj => by
        rw [len2] at hj
        have h4 := World.ownsRow.cellAt h1n j hj
        rw [Nat.zero_add, h4, List.getElem?_eq_getElem (by rw [len1]; exact hj)]
        rfl)
      (fun j _ => World.ownsRow.frozenAt h1n _) (ivals_one _)
    rw [hmin, setCells_puts] at hrun
    have h1' : w.ownsRow 0 e k (.slice (some ⟨g, 0, none⟩) n n) n ([] ++ (ivals (l.flatMap gg) ++ [])) := by
      rw [List.nil_append, List.append_nil]
      exact h1n
    have hp := puts_own (ivals (l2.flatMap gg)) (ivals (l.flatMap gg)) [] w h1' (by rw [len1, len2])
    rw [List.nil_append, List.append_nil] at hp
    unfold Oper.wp execOp
    simp only [hop, resolve, invoke, builtin, Sem.run_bind, Sem.run_pure, Result.andThen_ok, List.map_toArray, List.map_cons, List.map_nil, hse, hx, hrun]
    refine hK' _ _ (hK _ ?_ hp.2)
    have := Ow.of_lst (f := f) (l := l2) hp.1 (ow_flat hf _ l2)
    simpa [Value.ownBlock] using this

/-- A made slice in front of other pieces. -/
theorem Sep.made {α : Type} {w : World} {base : Nat} {is : List Item} {e : TypeId} {k : Nat} {f : α → List Dat} {x0 : α} {zc : Array Value} (h : Sep w base is) (hle : base ≤ w.heap.size) (hk : zc.size = k) (k0 : 0 < k) (n : Nat) (hm : n ≤ maxLen) (hz : ∀ w, Ow w (f x0) zc.toList []) {p : Nat} (hp : w.heap.size = p) :
    Sep (w.alloc (.cells (madeCells zc (n * k)) e)) base (.own [lst e k f (List.replicate n x0)] [.slice (some ⟨p, 0, none⟩) n n] [p] :: is) := by
  subst hp
  refine (h.keep ((Below.refl _ _).alloc (Nat.le_refl _) _)).addAt (ow_made hk k0 n hm hz) ?_ (fun q hq => ?_)
  · show ([w.heap.size] ++ foots is).Nodup
    rw [List.singleton_append, List.nodup_cons]
    exact ⟨fun hm => Nat.lt_irrefl _ (h.lt _ hm), h.nodup⟩
  · have : q = w.heap.size := by simpa using hq
    omega

end Go.Proofs.Ythjjdelpdiipdaa
