/- Parts of my texts: Move EntI3. -/
import Derived.Test.YthjjdelpdiipdaaGreatDoorMX14
import Derived.Laws.IdiomCopy
import Derived.Laws.EntriesVeiled
namespace Go.Proofs.YthjjdelpdiipdaaGreatDoor
set_option maxRecDepth 100000
set_option linter.unusedVariables false
open Go.RowKit
section
variable {α : Type} {w w' : World} {e : TypeId} {k : Nat} {f : α → List Dat} {l : List α} {fp : List Nat}
def Src (w : World) (A : Option Addr) (m k : Nat) (us : List Value) : Prop := 0 < m → ∃ b off, A = some ⟨b, off, none⟩ ∧ ∀ i, i < m * k → w.cell? ⟨b, off + i, none⟩ = us[i]?
theorem append_many {P : Program} {t ty : TypeId} {z : Value} {bytes : Nat} {A A' : Option Addr} {n c m c' : Nat} {us2 : List Value} {f2 : List Nat} {l2 : List α} (ht : P.underlying t = some (.slice e))
    (hinfo : (P.info? e).map (fun i => (i.zero, i.size, i.bytes)) = some (some z, k, bytes)) (hzs : z.cells.size = k) (k0 : 0 < k) (hk : ∀ x, (f x).length = k)
    (h : Ow w [Go.Proofs.YthjjdelpdiipdaaGreatDoor.lst e k f l] [.slice A n c] fp) (hn : fp.Nodup) (hsrc : Src w A' m k us2) (ho : Ow w (l2.flatMap f) us2 f2) (hl2 : l2.length = m) (hn2 : f2.Nodup) (hd : ∀ p ∈ f2, p ∉ fp) (hl : n + m ≤ 2097154) (hby : bytes ≤ 1048576) :
    ∃ A3 c3 w3 fp3, (Builtin.append_ #[t, t] ty #[.slice A n c, .slice A' m c']).run P w = .ok (.slice A3 (n + m) c3) w3 ∧ Ow w3 [Go.Proofs.YthjjdelpdiipdaaGreatDoor.lst e k f (l ++ l2)] [.slice A3 (n + m) c3] fp3 ∧ fp3.Nodup ∧ (∀ p ∈ fp3, p ∈ fp ∨ p ∈ f2 ∨ p = w.heap.size) ∧ Touch fp w w3 := by
 obtain ⟨i0, hi0, hz⟩ := Option.map_eq_some_iff.1 hinfo
 simp only [Prod.mk.injEq] at hz
 obtain ⟨hz0, hz1, hz2⟩ := hz
 rcases A' with _ | ad
 · have hm : m = 0 := by
     rcases Nat.eq_zero_or_pos m with h0 | h0
     · exact h0
     · obtain ⟨b, off, e, _⟩ := hsrc h0; cases e
   subst hm
   have hl0 : l2 = [] := List.eq_nil_of_length_eq_zero hl2
   subst hl0
   have hf2 : f2 = [] := by
    have h0 : us2 = [] := by
     have := ho.len
     exact List.eq_nil_of_length_eq_zero (by simpa using this)
    subst h0
    exact Ow.nil_foot ho
   refine ⟨A, c, w, fp, ?_, by simpa using h, hn, fun p hp => .inl hp, Touch.refl _ _⟩
   obtain ⟨us, fp1, h1, _, _⟩ := h.lst hk k0
   rcases h1.2 with ⟨hv, h0⟩ | ⟨g, cap, cur, hv, _, _, hnc, _⟩
   · injection hv with h1 h2 h3
     subst h1 h2 h3
     simp [Builtin.append_, run_underlying ht, sizeOf, typeInfo, hi0, Builtin.lenOf, Builtin.firstCells]
   · injection hv with h1 h2 h3
     subst h1 h3
     have hnc' : n ≤ c := by omega
     simp [Builtin.append_, run_underlying ht, sizeOf, typeInfo, hi0, Builtin.lenOf, Builtin.firstCells, hnc', storeCells]
 · obtain ⟨us, fp1, h1, h2, rfl⟩ := h.lst hk k0
   have hnl : n = l.length := by
    rcases h1.2 with ⟨h0, h9⟩ | ⟨_, _, _, h0, _⟩
    · injection h0; omega
    · injection h0
   rw [← hnl] at h1
   have hle : us2.length = m * k := by rw [ho.len, flatMap_len hk, hl2]
   obtain ⟨v', w', hrun, q2, q3, _, q5⟩ := run_append_own_at (P := P) w 0 t ty e i0 _ k bytes ht hi0 hz0 hz1 hz2 hzs k0 _ n _ h1 ad m c' us2 hle
    (by intro j u hj
        have hjm : j < m * k := by
         rcases Nat.lt_or_ge j us2.length with h | h
         · omega
         · rw [List.getElem?_eq_none h] at hj; cases hj
        have hm0 : 0 < m := by
         rcases Nat.eq_zero_or_pos m with h0 | h0
         · subst h0; simp at hjm
         · exact h0
        obtain ⟨b, off, e1, hc⟩ := hsrc hm0
        injection e1 with e1
        subst e1
        have hadd : (⟨b, off, none⟩ : Addr).add j = ⟨b, off + j, none⟩ := by unfold Addr.add; split <;> simp_all
        rw [hadd, hc j hjm, hj])
    ho.one (by simp only [maxLen]; omega)
    (by have : (n + m) * bytes ≤ 2097154 * 1048576 := Nat.mul_le_mul (by omega) hby
        omega) (Nat.zero_le _)
   have hlt := h.lt
   have tt : Touch (Value.slice A n c).ownBlock.toList w w' := Touch.of_grown q3 (fun p hp => by rw [hp]; simp)
   have hn' := hn
   rw [List.nodup_append] at hn'
   have hap : (l ++ l2).flatMap f = l.flatMap f ++ l2.flatMap f := by simp
   have o1 := h2.touch tt (fun p hp hm => hn'.2.2 p hm p hp rfl)
   have o2 := ho.touch tt (fun p hp hm => hd p hp (List.mem_append_left _ hm))
   have o3 := o1.append o2
   rw [← hap] at o3
   have key : ∃ A3 c3, v' = .slice A3 (n + m) c3 := by
    rcases q2.2 with ⟨hv, hnm⟩ | ⟨g, cap, cur, hv, _⟩
    · exact ⟨none, 0, by rw [hv, hnm]⟩
    · exact ⟨_, _, hv⟩
   obtain ⟨A3, c3, hv⟩ := key
   subst hv
   have hgnew : ∀ p ∈ fp1 ++ f2, p ∉ (Value.slice A3 (n + m) c3).ownBlock.toList := by
    intro p hp hm
    rcases q5 with q5 | q5
    · rw [q5] at hm
      rcases List.mem_append.1 hp with hp | hp
      · exact hn'.2.2 p hm p hp rfl
      · exact hd p hp (List.mem_append_left _ hm)
    · rw [q5] at hm
      have e2 : p = w.heap.size := by simpa using hm
      rcases List.mem_append.1 hp with hp | hp
      · have := hlt p (List.mem_append_right _ hp); omega
      · have := ho.lt p hp; omega
   refine ⟨A3, c3, w', _, hrun, Ow.of_lst q2 o3, ?_, fun p hp => ?_, tt.mono fun p hp => List.mem_append_left _ hp⟩
   · rw [List.nodup_append, List.nodup_append]
     refine ⟨by cases (Value.slice A3 (n + m) c3).ownBlock <;> simp, ⟨hn'.2.1, hn2, fun p hp q hq e => hd q hq (by subst e; exact List.mem_append_right _ hp)⟩, fun p hp q hq e => ?_⟩
     subst e
     exact hgnew p hq hp
   · rcases List.mem_append.1 hp with hp | hp
     · rcases q5 with q5 | q5
       · rw [q5] at hp
         exact .inl (List.mem_append_left _ hp)
       · rw [q5] at hp
         right; right
         simpa using hp
     · rcases List.mem_append.1 hp with hp | hp
       · exact .inl (List.mem_append_right _ hp)
       · exact .inr (.inl hp)
theorem wp_append_many {P : Program} {t : TypeId} {z : Value} {bytes : Nat} {A A' : Option Addr} {n c m c' : Nat} {us2 : List Value} {f2 : List Nat} {l2 : List α} {op : Oper} {a : Act} {Q : Exit → Act → World → Prop} {K : Act → World → Prop}
    (s x : Operand) (hop : op.op = .call { callee := .builtin .append, args := #[s, x], argTypes := #[t, t] }) (ht : P.underlying t = some (.slice e))
    (hinfo : (P.info? e).map (fun i => (i.zero, i.size, i.bytes)) = some (some z, k, bytes)) (hzs : z.cells.size = k) (k0 : 0 < k) (hk : ∀ x, (f x).length = k)
    (hse : a.eval s = .slice A n c) (h : Ow w [Go.Proofs.YthjjdelpdiipdaaGreatDoor.lst e k f l] [.slice A n c] fp) (hn : fp.Nodup) (hx : a.eval x = .slice A' m c') (hsrc : Src w A' m k us2) (ho : Ow w (l2.flatMap f) us2 f2) (hl2 : l2.length = m) (hn2 : f2.Nodup) (hd : ∀ p ∈ f2, p ∉ fp) (hl : n + m ≤ 2097154) (hby : bytes ≤ 1048576)
    (hK : ∀ A3 c3 w3 fp3, Ow w3 [Go.Proofs.YthjjdelpdiipdaaGreatDoor.lst e k f (l ++ l2)] [.slice A3 (n + m) c3] fp3 → fp3.Nodup → (∀ p ∈ fp3, p ∈ fp ∨ p ∈ f2 ∨ p = w.heap.size) → Touch fp w w3 → K (a.put op.dst (.slice A3 (n + m) c3)) w3) :
    Oper.wp P op a w K Q := by
 obtain ⟨A3, c3, w3, fp3, hrun, a1, a2, a3, a4⟩ := append_many (P := P) (ty := op.type) (c' := c') ht hinfo hzs k0 hk h hn hsrc ho hl2 hn2 hd hl hby
 unfold Oper.wp execOp
 simp only [hop, resolve, invoke, builtin, Sem.run_bind, Sem.run_pure, Result.andThen_ok, List.map_toArray, List.map_cons, List.map_nil, hse, hx, hrun]
 exact hK A3 c3 w3 fp3 a1 a2 a3 a4
theorem wp_append_fresh {P : Program} {t : TypeId} {z : Value} {bytes : Nat} {A A' : Option Addr} {c m c' : Nat} {us2 : List Value} {f2 : List Nat} {l2 : List α} {op : Oper} {a : Act} {Q : Exit → Act → World → Prop} {K : Act → World → Prop}
    (s x : Operand) (hop : op.op = .call { callee := .builtin .append, args := #[s, x], argTypes := #[t, t] }) (ht : P.underlying t = some (.slice e))
    (hinfo : (P.info? e).map (fun i => (i.zero, i.size, i.bytes)) = some (some z, k, bytes)) (hzs : z.cells.size = k) (k0 : 0 < k) (hk : ∀ x, (f x).length = k)
    (hse : a.eval s = .slice A 0 c) (h : Ow w [Go.Proofs.YthjjdelpdiipdaaGreatDoor.lst e k f ([] : List α)] [.slice A 0 c] fp) (hn : fp.Nodup) (hx : a.eval x = .slice A' m c') (hsrc : Src w A' m k us2) (ho : Ow w (l2.flatMap f) us2 f2) (hl2 : l2.length = m) (hn2 : f2.Nodup) (hd : ∀ p ∈ f2, p ∉ fp) (hl : m ≤ 2097154) (hby : bytes ≤ 1048576)
    (hK : ∀ A3 c3 w3 fp3, Ow w3 [Go.Proofs.YthjjdelpdiipdaaGreatDoor.lst e k f l2] [.slice A3 m c3] fp3 → fp3.Nodup → (∀ p ∈ fp3, p ∈ fp ∨ p ∈ f2 ∨ p = w.heap.size) → Touch fp w w3 → K (a.put op.dst (.slice A3 m c3)) w3) :
    Oper.wp P op a w K Q := by
 refine wp_append_many s x hop ht hinfo hzs k0 hk hse h hn hx hsrc ho hl2 hn2 hd (by omega) hby ?_
 intro A3 c3 w3 fp3 a1 a2 a3 a4
 rw [Nat.zero_add] at a1 ⊢
 exact hK A3 c3 w3 fp3 a1 a2 a3 a4
theorem wpList_append_fresh {P : Program} {t : TypeId} {z : Value} {bytes : Nat} {A A' : Option Addr} {c m c' : Nat} {us2 : List Value} {f2 : List Nat} {l2 : List α} {ops : Array Oper} {rest : List Oper} {op : Oper} {a : Act} {Q : Exit → Act → World → Prop}
    (hgd : op.guard = none) (s x : Operand) (hop : op.op = .call { callee := .builtin .append, args := #[s, x], argTypes := #[t, t] }) (ht : P.underlying t = some (.slice e))
    (hinfo : (P.info? e).map (fun i => (i.zero, i.size, i.bytes)) = some (some z, k, bytes)) (hzs : z.cells.size = k) (k0 : 0 < k) (hk : ∀ x, (f x).length = k)
    (hse : a.eval s = .slice A 0 c) (h : Ow w [Go.Proofs.YthjjdelpdiipdaaGreatDoor.lst e k f ([] : List α)] [.slice A 0 c] fp) (hn : fp.Nodup) (hx : a.eval x = .slice A' m c') (hsrc : Src w A' m k us2) (ho : Ow w (l2.flatMap f) us2 f2) (hl2 : l2.length = m) (hn2 : f2.Nodup) (hd : ∀ p ∈ f2, p ∉ fp) (hl : m ≤ 2097154) (hby : bytes ≤ 1048576)
    (hK : ∀ A3 c3 w3 fp3, Ow w3 [Go.Proofs.YthjjdelpdiipdaaGreatDoor.lst e k f l2] [.slice A3 m c3] fp3 → fp3.Nodup → (∀ p ∈ fp3, p ∈ fp ∨ p ∈ f2 ∨ p = w.heap.size) → Touch fp w w3 → wpList P ops Q rest (a.put op.dst (.slice A3 m c3)) w3) :
    wpList P ops Q (op :: rest) a w :=
 wpList_plain hgd fun _ hK' => wp_append_fresh s x hop ht hinfo hzs k0 hk hse h hn hx hsrc ho hl2 hn2 hd hl hby fun A3 c3 w3 fp3 a1 a2 a3 a4 => hK' _ _ (hK A3 c3 w3 fp3 a1 a2 a3 a4)
end
/-! ### Flat elements -/
section
variable {α : Type} {w w' : World} {B : Nat} {e : TypeId} {k : Nat} {f : α → List Dat} {g : α → List Int} {l : List α}
theorem flat_flat (hf : ∀ x, f x = (g x).flatMap fun y => [Dat.int y]) (l : List α) : l.flatMap f = (l.flatMap g).flatMap fun y => [Dat.int y] := by
 induction l with
 | nil => rfl
 | cons x l ih => rw [List.flatMap_cons, List.flatMap_cons, List.flatMap_append, ih, hf]
theorem ow_flat (hf : ∀ x, f x = (g x).flatMap fun y => [Dat.int y]) (w : World) (l : List α) : Ow w (l.flatMap f) (ivals (l.flatMap g)) [] := by
 rw [flat_flat hf]
 exact ow_ints_mk _
theorem Rd.src (hf : ∀ x, f x = (g x).flatMap fun y => [Dat.int y]) (hk : ∀ x, (f x).length = k) (k0 : 0 < k) {A : Option Addr} {n c : Nat} (h : Rd w B [Go.Proofs.YthjjdelpdiipdaaGreatDoor.lst e k f l] [.slice A n c]) : Src w A n k (ivals (l.flatMap g)) ∧ l.length = n := by
 obtain ⟨A', n', c', e1, hl, _, _, hel⟩ := Rd.lst hk k0 h
 injection e1 with e1 e2 e3
 subst e1 e2 e3
 refine ⟨fun hn => ?_, hl⟩
 obtain ⟨b, off, hA, _, hc⟩ := hel hn
 refine ⟨b, off, hA, fun i hi => ?_⟩
 have hkg : ∀ x, (g x).length = k := fun x => by
  have h1 := hk x
  have h2 : ∀ q : List Int, (q.flatMap fun y => [Dat.int y]).length = q.length := fun q => by
   induction q with
   | nil => rfl
   | cons x q ih => rw [List.flatMap_cons, List.length_append, ih, List.length_cons, Nat.add_comm]; rfl
  rw [hf x, h2] at h1
  exact h1
 have hq : i / k < l.length := by rw [hl]; exact Nat.div_lt_of_lt_mul (by rw [Nat.mul_comm]; exact hi)
 have hr : i % k < k := Nat.mod_lt _ k0
 obtain ⟨es, he, hrd, hcell⟩ := hc (i / k) hq
 have h1 := hcell (i % k) hr
 have h2 : off + i / k * k + i % k = off + i := by
  have := Nat.div_add_mod i k
  rw [Nat.mul_comm] at this
  omega
 rw [h2] at h1
 rw [h1]
 rw [hf] at hrd
 rw [rd_ints hrd]
 have h3 : l.flatMap g = (l.take (i / k)).flatMap g ++ (g l[i / k] ++ (l.drop (i / k + 1)).flatMap g) := by
  have e1 : l = l.take (i / k) ++ (l[i / k] :: l.drop (i / k + 1)) := by rw [← List.drop_eq_getElem_cons hq, List.take_append_drop]
  have e2 := congrArg (List.flatMap g) e1
  rw [List.flatMap_append, List.flatMap_cons] at e2
  exact e2
 have h4 : ((l.take (i / k)).flatMap g).length = i / k * k := by
  have : ∀ q : List α, (q.flatMap g).length = q.length * k := fun q => by
   induction q with
   | nil => simp
   | cons x q ih => rw [List.flatMap_cons, List.length_append, ih, hkg, List.length_cons, Nat.add_mul, Nat.one_mul, Nat.add_comm]
  rw [this, List.length_take, Nat.min_eq_left (Nat.le_of_lt hq)]
 rw [ivals_get, ivals_get, h3, List.getElem?_append_right (by rw [h4]; have := Nat.div_add_mod i k; rw [Nat.mul_comm] at this; omega), h4]
 have h5 : i - i / k * k = i % k := by
  have := Nat.div_add_mod i k
  rw [Nat.mul_comm] at this
  omega
 rw [h5, List.getElem?_append_left (by rw [hkg]; exact hr)]
end
theorem Sep.addAt {w : World} {base : Nat} {is : List Item} {ds : List Dat} {vs : List Value} {f : List Nat} (h : Sep w base is) (o : Ow w ds vs f) (hn : (f ++ foots is).Nodup) (hb : ∀ p ∈ f, base ≤ p) : Sep w base (.own ds vs f :: is) := by
 refine ⟨fun n i hi => ?_, hn, fun p hp => ?_⟩
 · cases n with
   | zero => simp at hi; subst hi; exact o
   | succ n => exact h.holds n i (by simpa using hi)
 · rcases List.mem_append.1 (show p ∈ f ++ foots is from hp) with hp | hp
   · exact hb p hp
   · exact h.ge p hp
theorem Sep.blk0 {α : Type} {w : World} {base q : Nat} {is : List Item} {e : TypeId} {k : Nat} {f : α → List Dat} (h : Sep w base (.blk q #[] e :: is)) : Sep w base (.own [lst e k f []] [.slice (some ⟨q, 0, none⟩) 0 0] [q] :: is) := by
 refine ⟨fun n i hi => ?_, h.nodup, h.ge⟩
 cases n with
 | zero =>
  simp at hi
  subst hi
  have hb : w.heap[q]? = some (.cells #[] e (0, 0)) := h.at_ 0 rfl
  have h1 : w.ownsRow 0 e k (.slice (some ⟨q, 0, none⟩) 0 0) 0 [] := ⟨by simp, .inr ⟨q, 0, #[], rfl, Nat.zero_le _, hb, Nat.le_refl _, Nat.zero_le _, by simp, by simp⟩⟩
  have h2 : Ow w [Go.Proofs.YthjjdelpdiipdaaGreatDoor.lst e k f []] [.slice (some ⟨q, 0, none⟩) 0 0] [q] := by
   have := Ow.of_lst (f := f) (l := []) h1 .nil
   simpa [Value.ownBlock] using this
  exact h2
 | succ n => exact h.holds (n + 1) i (by simpa using hi)
theorem Sep.flat {α : Type} {w : World} {base : Nat} {is : List Item} {f : α → List Dat} {g : α → List Int} (h : Sep w base is) (hf : ∀ x, f x = (g x).flatMap fun y => [Dat.int y]) (l : List α) : Sep w base (.own (l.flatMap f) (ivals (l.flatMap g)) [] :: is) :=
 h.own0 (ow_flat hf w l)
theorem Src.zero {w : World} {A : Option Addr} {k : Nat} {us : List Value} : Src w A 0 k us := fun h => absurd h (by omega)
/-! ### copy -/
theorem Sep.made {α : Type} {w : World} {base : Nat} {is : List Item} {e : TypeId} {k : Nat} {f : α → List Dat} {x0 : α} {zc : Array Value} (h : Sep w base is) (hle : base ≤ w.heap.size) (hk : zc.size = k) (k0 : 0 < k) (n : Nat) (hm : n ≤ maxLen) (hz : ∀ w, Ow w (f x0) zc.toList []) {p : Nat} (hp : w.heap.size = p) :
    Sep (w.alloc (.cells (madeCells zc (n * k)) e)) base (.own [lst e k f (List.replicate n x0)] [.slice (some ⟨p, 0, none⟩) n n] [p] :: is) := by
 subst hp
 refine (h.keep ((Below.refl _ _).alloc (Nat.le_refl _) _)).addAt (ow_made hk k0 n hm hz) ?_ (fun q hq => ?_)
 · show ([w.heap.size] ++ foots is).Nodup
   rw [List.singleton_append, List.nodup_cons]
   exact ⟨fun hm => Nat.lt_irrefl _ (h.lt _ hm), h.nodup⟩
 · have : q = w.heap.size := by simpa using hq
   omega
set_option maxHeartbeats 6400000 in
theorem iEntryOk_any (x0 x1 x2 x3 x4 x5 x6 x7 x8 : Int) (w : World) :
    Calls Tryz.prog 156 #[.agg #[.int .i64 x0, .int .i64 x1, .int .i64 x2, .int .i64 x3, .int .i64 x4, .int .i64 x5, .int .i64 x6, .int .i64 x7, .int .i64 x8]] w fun e w' => e = .returned (.bool (entB ⟨x0, x1, x2, x3, x4, x5, x6, x7, x8⟩)) ∧ Below w.heap.size w w' := by
 have C := jd ((Below.refl w.heap.size w).alloc (Nat.le_refl _) (.cells #[.int .i64 x0, .int .i64 x1, .int .i64 x2, .int .i64 x3, .int .i64 x4, .int .i64 x5, .int .i64 x6, .int .i64 x7, .int .i64 x8] 98))
 by_cases c0 : 1 ≤ x0 ∧ x0 ≤ 2000
 · have C0 := jd c0
   by_cases c1 : 0 ≤ x1 ∧ x1 ≤ 1000000
   · have C1 := jd c1
     by_cases c2 : 2 ≤ x2 ∧ x2 ≤ 5
     · have C2 := jd c2
       by_cases c3 : 1 ≤ x3 ∧ x3 ≤ 2000
       · have C3 := jd c3
         have HV := jd (show opB ⟨x4, x5, x6, x7, x8⟩ = entB ⟨x0, x1, x2, x3, x4, x5, x6, x7, x8⟩ by simp [entB, askB, inB, EntM.op, c0.1, c0.2, c1.1, c1.2, c2.1, c2.2, c3.1, c3.2])
         clear c0 c1 c2 c3
         go_enter Tryz.func156, Tryz.ntmps156
         go_wp2_with (first
          | (go_at_call 154; refine (i_isIndex_yes x0 _ C0.out).mono ?_; rintro e w' ⟨rfl, rfl⟩)
          | (go_at_call 115; refine (i_TimeOk_yes x1 _ C1.out).mono ?_; rintro e w' ⟨rfl, rfl⟩)
          | (go_at_call 152; refine (i_AskerOk_yes x2 _ C2.out).mono ?_; rintro e w' ⟨rfl, rfl⟩)
          | (go_at_call 153; refine (i_isSeq_yes x3 _ C3.out).mono ?_; rintro e w' ⟨rfl, rfl⟩)
          | (go_at_call 172; refine (iFits_any x4 x5 x6 x7 x8 _).mono ?_; rintro e w' ⟨rfl, b⟩))
         have CC := jd (C.out.trans (b.mono C.out.size))
         clear b
         go_ret
         exact ⟨ret_bool HV.out, CC.out⟩
       · have C3 := jd c3
         have HV := jd (show false = entB ⟨x0, x1, x2, x3, x4, x5, x6, x7, x8⟩ by simp [entB, askB, inB]; omega)
         clear c0 c1 c2 c3
         go_enter Tryz.func156, Tryz.ntmps156
         go_wp2_with (first
          | (go_at_call 154; refine (i_isIndex_yes x0 _ C0.out).mono ?_; rintro e w' ⟨rfl, rfl⟩)
          | (go_at_call 115; refine (i_TimeOk_yes x1 _ C1.out).mono ?_; rintro e w' ⟨rfl, rfl⟩)
          | (go_at_call 152; refine (i_AskerOk_yes x2 _ C2.out).mono ?_; rintro e w' ⟨rfl, rfl⟩)
          | (go_at_call 153; refine (i_isSeq_no x3 _ C3.out).mono ?_; rintro e w' ⟨rfl, rfl⟩))
         go_ret
         exact ⟨ret_bool HV.out, C.out⟩
     · have C2 := jd c2
       have HV := jd (show false = entB ⟨x0, x1, x2, x3, x4, x5, x6, x7, x8⟩ by simp [entB, askB, inB]; omega)
       clear c0 c1 c2
       go_enter Tryz.func156, Tryz.ntmps156
       go_wp2_with (first
        | (go_at_call 154; refine (i_isIndex_yes x0 _ C0.out).mono ?_; rintro e w' ⟨rfl, rfl⟩)
        | (go_at_call 115; refine (i_TimeOk_yes x1 _ C1.out).mono ?_; rintro e w' ⟨rfl, rfl⟩)
        | (go_at_call 152; refine (i_AskerOk_no x2 _ C2.out).mono ?_; rintro e w' ⟨rfl, rfl⟩))
       go_ret
       exact ⟨ret_bool HV.out, C.out⟩
   · have C1 := jd c1
     have HV := jd (show false = entB ⟨x0, x1, x2, x3, x4, x5, x6, x7, x8⟩ by simp [entB, askB, inB]; omega)
     clear c0 c1
     go_enter Tryz.func156, Tryz.ntmps156
     go_wp2_with (first
      | (go_at_call 154; refine (i_isIndex_yes x0 _ C0.out).mono ?_; rintro e w' ⟨rfl, rfl⟩)
      | (go_at_call 115; refine (i_TimeOk_no x1 _ C1.out).mono ?_; rintro e w' ⟨rfl, rfl⟩))
     go_ret
     exact ⟨ret_bool HV.out, C.out⟩
 · have C0 := jd c0
   have HV := jd (show false = entB ⟨x0, x1, x2, x3, x4, x5, x6, x7, x8⟩ by simp [entB, askB, inB]; omega)
   clear c0
   go_enter Tryz.func156, Tryz.ntmps156
   go_wp2_with (first
    | (go_at_call 154; refine (i_isIndex_no x0 _ C0.out).mono ?_; rintro e w' ⟨rfl, rfl⟩))
   go_ret
   exact ⟨ret_bool HV.out, C.out⟩
set_option maxHeartbeats 3200000 in
theorem iFollows_any (x0 x1 x2 x3 x4 x5 x6 x7 x8 y0 y1 y2 y3 y4 y5 y6 y7 y8 : Int) (hy : 0 ≤ y0 ∧ y0 ≤ 1000000) (w : World) :
    Calls Tryz.prog 119 #[.agg #[.int .i64 y0, .int .i64 y1, .int .i64 y2, .int .i64 y3, .int .i64 y4, .int .i64 y5, .int .i64 y6, .int .i64 y7, .int .i64 y8], .agg #[.int .i64 x0, .int .i64 x1, .int .i64 x2, .int .i64 x3, .int .i64 x4, .int .i64 x5, .int .i64 x6, .int .i64 x7, .int .i64 x8]] w fun e w' => e = .returned (.bool (decide (x0 = y0 + 1) && decide (y1 ≤ x1))) ∧ Below w.heap.size w w' := by
 have C := jd (((Below.refl w.heap.size w).alloc (Nat.le_refl _) (.cells #[.int .i64 y0, .int .i64 y1, .int .i64 y2, .int .i64 y3, .int .i64 y4, .int .i64 y5, .int .i64 y6, .int .i64 y7, .int .i64 y8] 98)).alloc (by simp) (.cells #[.int .i64 x0, .int .i64 x1, .int .i64 x2, .int .i64 x3, .int .i64 x4, .int .i64 x5, .int .i64 x6, .int .i64 x7, .int .i64 x8] 98))
 have ew : IntKind.i64.wrap (y0 + 1) = y0 + 1 := by rw [IntKind.wrap_i64]; omega
 clear hy
 by_cases q1 : x0 = y0 + 1
 case neg =>
  have e1 : (x0 == y0 + 1) = false := by simpa using q1
  have HV := jd (show false = (decide (x0 = y0 + 1) && decide (y1 ≤ x1)) by rw [decide_eq_false q1]; rfl)
  go_enter Tryz.func119, Tryz.ntmps119
  go_wp2
  go_ret
  exact ⟨ret_bool HV.out, C.out⟩
 case pos =>
  subst q1
  have e1 : (y0 + 1 == y0 + 1) = true := by simp
  have HV := jd (show decide (y1 ≤ x1) = (decide (y0 + 1 = y0 + 1) && decide (y1 ≤ x1)) by simp)
  go_enter Tryz.func119, Tryz.ntmps119
  go_wp2
  go_ret
  exact ⟨ret_bool (by first | exact HV.out | (rw [← HV.out])), C.out⟩
end Go.Proofs.YthjjdelpdiipdaaGreatDoor
