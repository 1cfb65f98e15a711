/-
  Own slices of elements: a whole element stored, slices made of zero values, an element appended.
-/
import Derived.Test.YtejcpoidoekleaaRepI
namespace Go.Proofs.Ytejcpoidoekleaa
set_option maxRecDepth 100000
open Go.RowKit

/-- Cells stored one after another from offset o on. -/
def puts (w : World) (g : Nat) : Nat → List Value → World
  | _, [] => w
  | o, v :: vs => puts (w.setCell ⟨g, o, none⟩ v) g (o + 1) vs

theorem puts_own {e : TypeId} {k n c g : Nat} {u2 : List Value} : ∀ (es' es u1 : List Value) (w : World), w.ownsRow 0 e k (.slice (some ⟨g, 0, none⟩) n c) n (u1 ++ (es ++ u2)) → es.length = es'.length →
    (puts w g u1.length es').ownsRow 0 e k (.slice (some ⟨g, 0, none⟩) n c) n (u1 ++ (es' ++ u2)) ∧ Touch [g] w (puts w g u1.length es')
  | [], es, u1, w, h, hl => by
    have : es = [] := List.eq_nil_of_length_eq_zero hl
    subst this
    exact ⟨h, Touch.refl _ _⟩
  | v :: es', [], _, _, _, hl => by cases hl
  | v :: es', x :: es, u1, w, h, hl => by
    have hs := (World.ownsRow.stored h u1.length v).1
    have e1 : (u1 ++ (x :: es ++ u2)).set u1.length v = (u1 ++ [v]) ++ (es ++ u2) := by
      rw [List.set_append_right _ _ (Nat.le_refl _), Nat.sub_self]
      simp
    rw [e1] at hs
    have ih := puts_own es' es (u1 ++ [v]) (w.setCell ⟨g, u1.length, none⟩ v) hs (by simpa using hl)
    have e2 : (u1 ++ [v]).length = u1.length + 1 := by simp
    rw [e2] at ih
    refine ⟨?_, (Touch.of_set (by simp)).trans ih.2⟩
    have := ih.1
    rw [List.append_assoc] at this
    exact this

section
variable {α : Type} {w w' : World} {e : TypeId} {k : Nat} {f : α → List Dat} {l : List α} {v : Value} {us : List Value} {fp : List Nat}

theorem Ow.one {ds : List Dat} {vs : List Value} (h : Ow w ds vs fp) : ∀ u ∈ vs, u.oneCell' = true := by
  induction h with
  | nil => intro u hu; cases hu
  | int _ ih => intro u hu; rcases List.mem_cons.1 hu with rfl | hu; · rfl
                exact ih u hu
  | bool _ ih => intro u hu; rcases List.mem_cons.1 hu with rfl | hu; · rfl
                 exact ih u hu
  | row h1 _ _ _ ih =>
    intro u hu
    rcases List.mem_cons.1 hu with rfl | hu
    · obtain ⟨A, c, rfl, _⟩ := ownsRow_cap h1
      rfl
    · exact ih u hu

theorem nodup_swap {a b c c' d : List Nat} (h : (a ++ (b ++ (c ++ d))).Nodup) (hc : c'.Nodup) (hd : ∀ p ∈ c', p ∉ a ++ (b ++ (c ++ d))) : (a ++ (b ++ (c' ++ d))).Nodup := by
  have h' := h
  rw [List.nodup_append, List.nodup_append, List.nodup_append] at h ⊢
  obtain ⟨ha, ⟨hb, ⟨_, hdd, _⟩, hbd⟩, had⟩ := h
  refine ⟨ha, ⟨hb, ⟨hc, hdd, fun p hp q hq e => ?_⟩, fun p hp q hq e => ?_⟩, fun p hp q hq e => ?_⟩
  · subst e
    exact hd p hp (by simp [hq])
  · subst e
    rcases List.mem_append.1 hq with hq | hq
    · exact hd p hq (by simp [hp])
    · exact hbd p hp p (List.mem_append_right _ hq) rfl
  · subst e
    rcases List.mem_append.1 hq with hq | hq
    · exact had p hp p (List.mem_append_left _ hq) rfl
    · rcases List.mem_append.1 hq with hq | hq
      · exact hd p hq (by simp [hp])
      · exact had p hp p (by simp [hq]) rfl

/-- A whole element is stored over the element j. -/
theorem Ow.store {g n c : Nat} (hk : ∀ x, (f x).length = k) (k0 : 0 < k) (h : Ow w [Go.Proofs.Ytejcpoidoekleaa.lst e k f l] [.slice (some ⟨g, 0, none⟩) n c] fp) (hn : fp.Nodup) {j : Nat} (hj : j < l.length) {x : α} {es' : List Value} {f2' : List Nat}
    (ho : Ow w (f x) es' f2') (hn' : f2'.Nodup) (hd : ∀ p ∈ f2', p ∉ fp) :
    Touch [g] w (puts w g (j * k) es') ∧ ∃ fp', Ow (puts w g (j * k) es') [Go.Proofs.Ytejcpoidoekleaa.lst e k f (l.set j x)] [.slice (some ⟨g, 0, none⟩) n c] fp' ∧ fp'.Nodup ∧ ∀ p ∈ fp', p ∈ fp ∨ p ∈ f2' := by
  obtain ⟨us, fp1, h1, h2, rfl⟩ := h.lst hk k0
  obtain ⟨u1, es, u2, f1, f2, f3, rfl, l1, l2, rfl, r1, r2, r3⟩ := h2.at_ hk hj
  have hnl : n = l.length := by
    rcases h1.2 with ⟨h0, _⟩ | ⟨_, _, _, h0, _⟩
    · cases h0
    · injection h0
  rw [hnl] at h1 ⊢
  have hp := puts_own es' es u1 w h1 (by rw [l2, ho.len, hk])
  rw [l1] at hp
  have hg : ∀ p ∈ f1 ++ (f2 ++ f3), p ≠ g := by
    rw [List.nodup_append] at hn
    intro p hp e
    exact hn.2.2 g (by simp [Value.ownBlock]) p hp e.symm
  have hgd : ∀ p ∈ f2', p ≠ g := fun p hp e => hd p hp (by subst e; simp [Value.ownBlock])
  refine ⟨hp.2, _, Ow.of_lst hp.1 (Ow.put hj (r1.touch hp.2 fun p hp hm => hg p (by simp [hp]) (by simpa using hm)) (ho.touch hp.2 fun p hp hm => hgd p hp (by simpa using hm)) (r3.touch hp.2 fun p hp hm => hg p (by simp [hp]) (by simpa using hm))), nodup_swap hn hn' hd, fun p hp => ?_⟩
  simp only [List.mem_append] at hp ⊢
  rcases hp with h | h | h | h
  · exact .inl (.inl h)
  · exact .inl (.inr (.inl h))
  · exact .inr h
  · exact .inl (.inr (.inr (.inr h)))

/-! ### Zero values -/

theorem ow_zeros {x0 : α} {zs : List Value} (hz : Ow w (f x0) zs []) : ∀ n : Nat, Ow w ((List.replicate n x0).flatMap f) (List.replicate n zs).flatten []
  | 0 => .nil
  | n + 1 => by
    have := hz.append (ow_zeros hz n)
    simpa [List.replicate_succ] using this

theorem zeros_get (zs : List Value) (k : Nat) (hk : zs.length = k) : ∀ (n j : Nat), j < n * k → ((List.replicate n zs).flatten)[j]? = zs[j % k]?
  | 0, j, h => by simp at h
  | n + 1, j, h => by
    rw [List.replicate_succ, List.flatten_cons]
    by_cases hj : j < k
    · rw [List.getElem?_append_left (by omega), Nat.mod_eq_of_lt hj]
    · rw [List.getElem?_append_right (by omega), hk, zeros_get zs k hk n (j - k) (by rw [Nat.add_mul] at h; omega), ← Nat.mod_eq_sub_mod (by omega)]

theorem toList_made (zc : Array Value) (k n : Nat) (hk : zc.size = k) (k0 : 0 < k) : (madeCells zc (n * k)).toList = (List.replicate n zc.toList).flatten := by
  apply List.ext_getElem?
  intro j
  by_cases hj : j < n * k
  · rw [zeros_get zc.toList k (by simpa using hk) n j hj]
    subst hk
    have hm : j % zc.size < zc.size := Nat.mod_lt _ k0
    refine (show (madeCells zc (n * zc.size)).toList[j]? = some zc[j % zc.size] from ?_).trans (by simp [hm])
    simp [madeCells, hm, List.getElem?_range hj]
  · rw [List.getElem?_eq_none (by simp [madeCells]; omega), List.getElem?_eq_none]
    simp [hk]
    omega

/-- 'make([]T, n)', n a variable, T of k cells. -/
theorem run_make_k {P : Program} (t e : TypeId) (z : Value) (zc : Array Value) (k bytes : Nat) (ht : P.underlying t = some (.slice e)) (hinfo : (P.info? e).map (fun i => (i.zero, i.size, i.bytes)) = some (some z, k, bytes)) (hz1 : z.cells = zc)
    (kl kc : IntKind) (n : Nat) (hbytes : bytes * n ≤ 281474976710656) (h63 : n ≤ 9223372036854775807) (w : World) :
    (Instr.makeSlice t (.int kl (n : Int)) (.int kc (n : Int))).run P w = .ok (.slice (some ⟨w.heap.size, 0, none⟩) n n) (w.alloc (.cells (madeCells zc (n * k)) e)) := by
  obtain ⟨i, hi, hzz⟩ := Option.map_eq_some_iff.1 hinfo
  simp only [Prod.mk.injEq] at hzz
  obtain ⟨hz, hs, hb⟩ := hzz
  have hb' : (i.bytes : Int) * (n : Int) ≤ 281474976710656 := by
    have h : ((i.bytes * n : Nat) : Int) ≤ 281474976710656 := by rw [hb]; omega
    rwa [Int.natCast_mul] at h
  have hr := run_make (P := P) w t e i z ht hi hz kl kc n n (by omega) (Int.le_refl _) hb' (by omega)
  simp only [Int.toNat_natCast, hs, hz1] at hr
  exact hr

theorem ow_made {x0 : α} {zc : Array Value} (hk : zc.size = k) (k0 : 0 < k) (n : Nat) (hm : n ≤ maxLen) (hz : ∀ w, Ow w (f x0) zc.toList []) :
    Ow (w.alloc (.cells (madeCells zc (n * k)) e)) [Go.Proofs.Ytejcpoidoekleaa.lst e k f (List.replicate n x0)] [.slice (some ⟨w.heap.size, 0, none⟩) n n] [w.heap.size] := by
  have h1 := World.ownsRow_lit (base := 0) (e := e) (size := k) w (madeCells zc (n * k)) n (Nat.zero_le _) hm (size_madeCells _ _)
  rw [toList_made zc k n hk k0] at h1
  have := Ow.of_lst h1 (ow_zeros (hz _) n)
  simpa [Value.ownBlock] using this

/-! ### Append -/

/-- 'append(out, x)' as it runs. -/
theorem wp_append_elem {P : Program} {t : TypeId} {z : Value} {bytes : Nat} {A : Option Addr} {n c hb : Nat} {es : List Value} {f2 : List Nat} {y : α} {op : Oper} {a : Act} {Q : Exit → Act → World → Prop} {K : Act → World → Prop}
    (s x : Operand) (hop : op.op = .call { callee := .builtin .append, args := #[s, x], argTypes := #[t, t] }) (ht : P.underlying t = some (.slice e))
    (hinfo : (P.info? e).map (fun i => (i.zero, i.size, i.bytes)) = some (some z, k, bytes)) (hzs : z.cells.size = k) (k0 : 0 < k) (hk : ∀ x, (f x).length = k)
    (hse : a.eval s = .slice A n c) (h : Ow w [Go.Proofs.Ytejcpoidoekleaa.lst e k f l] [.slice A n c] fp) (hn : fp.Nodup) (hx : a.eval x = .slice (some ⟨hb, 0, none⟩) 1 1)
    (hcell : ∀ i, i < k → w.cell? ⟨hb, i, none⟩ = es[i]?) (ho : Ow w (f y) es f2) (hn2 : f2.Nodup) (hd : ∀ p ∈ f2, p ∉ fp) (hl : n ≤ 1048577) (hby : bytes ≤ 1048576)
    (hK : ∀ A3 c3 w3 fp3, Ow w3 [Go.Proofs.Ytejcpoidoekleaa.lst e k f (l ++ [y])] [.slice A3 (n + 1) c3] fp3 → fp3.Nodup → (∀ p ∈ fp3, p ∈ fp ∨ p ∈ f2 ∨ p = w.heap.size) → Touch fp w w3 → K (a.put op.dst (.slice A3 (n + 1) c3)) w3) :
    Oper.wp P op a w K Q := by
  obtain ⟨us, fp1, h1, h2, rfl⟩ := h.lst hk k0
  have hnl : n = l.length := by
    rcases h1.2 with ⟨h0, h9⟩ | ⟨_, _, _, h0, _⟩
    · injection h0; omega
    · injection h0
  rw [← hnl] at h1
  obtain ⟨i0, hi0, hz⟩ := Option.map_eq_some_iff.1 hinfo
  simp only [Prod.mk.injEq] at hz
  obtain ⟨hz0, hz1, hz2⟩ := hz
  have hle : es.length = k := by rw [ho.len, hk]
  obtain ⟨v', w', hrun, q2, q3, _, q5⟩ := run_append_own_at (P := P) w 0 t op.type e i0 _ k bytes ht hi0 hz0 hz1 hz2 hzs k0 _ n _ h1 ⟨hb, 0, none⟩ 1 1 es (by omega)
    (by intro j u hj
        have hjk : j < k := by
          rcases Nat.lt_or_ge j es.length with h | h
          · omega
          · rw [List.getElem?_eq_none h] at hj; cases hj
        have hadd : (⟨hb, 0, none⟩ : Addr).add j = ⟨hb, j, none⟩ := by unfold Addr.add; split <;> simp_all
        rw [hadd, hcell j hjk, hj])
    ho.one (by simp only [maxLen]; omega)
    (by have : (n + 1) * bytes ≤ 1048578 * 1048576 := Nat.mul_le_mul (by omega) hby
        omega) (Nat.zero_le _)
  unfold Oper.wp execOp
  simp only [hop, resolve, invoke, builtin, Sem.run_bind, Sem.run_pure, Result.andThen_ok, List.map_toArray, List.map_cons, List.map_nil, hse, hx, hrun]
  rcases q2.2 with ⟨hv, hnm⟩ | ⟨g, cap, cur, hv, _⟩
  · omega
  subst hv
  have hlt := h.lt
  have tt : Touch (Value.slice A n c).ownBlock.toList w w' := Touch.of_grown q3 (fun p hp => by rw [hp]; simp)
  have hn' := hn
  rw [List.nodup_append] at hn'
  have hgnew : ∀ p ∈ fp1 ++ f2, p ≠ g := by
    intro p hp e
    subst e
    rcases q5 with q5 | q5
    · have hm : p ∈ (Value.slice A n c).ownBlock.toList := by rw [← q5]; simp [Value.ownBlock]
      rcases List.mem_append.1 hp with hp | hp
      · exact hn'.2.2 p hm p hp rfl
      · exact hd p hp (List.mem_append_left _ hm)
    · have e2 : p = w.heap.size := by simpa [Value.ownBlock] using q5
      rcases List.mem_append.1 hp with hp | hp
      · have := hlt p (List.mem_append_right _ hp); omega
      · have := ho.lt p hp; omega
  have hap : (l ++ [y]).flatMap f = l.flatMap f ++ f y := by simp
  have o1 := h2.touch tt (fun p hp hm => hn'.2.2 p hm p hp rfl)
  have o2 := ho.touch tt (fun p hp hm => hd p hp (List.mem_append_left _ hm))
  have o3 := o1.append o2
  rw [← hap] at o3
  refine hK _ _ w' _ (Ow.of_lst q2 o3) ?_ (fun p hp => ?_) (tt.mono fun p hp => List.mem_append_left _ hp)
  · rw [List.nodup_append, List.nodup_append]
    refine ⟨by simp [Value.ownBlock], ⟨hn'.2.1, hn2, fun p hp q hq e => hd q hq (by subst e; exact List.mem_append_right _ hp)⟩, fun p hp q hq e => ?_⟩
    have : p = g := by simpa [Value.ownBlock] using hp
    exact hgnew q hq (by rw [← e, this])
  · rcases List.mem_append.1 hp with hp | hp
    · have hpg : p = g := by simpa [Value.ownBlock] using hp
      subst hpg
      rcases q5 with q5 | q5
      · left
        refine List.mem_append_left _ ?_
        rw [← q5]
        simp [Value.ownBlock]
      · right; right
        simpa [Value.ownBlock] using q5
    · rcases List.mem_append.1 hp with hp | hp
      · exact .inl (List.mem_append_right _ hp)
      · exact .inr (.inl hp)

theorem wpList_append_elem {P : Program} {t : TypeId} {z : Value} {bytes : Nat} {A : Option Addr} {n c hb : Nat} {es : List Value} {f2 : List Nat} {y : α} {ops : Array Oper} {rest : List Oper} {op : Oper} {a : Act} {Q : Exit → Act → World → Prop}
    (hgd : op.guard = none) (s x : Operand) (hop : op.op = .call { callee := .builtin .append, args := #[s, x], argTypes := #[t, t] }) (ht : P.underlying t = some (.slice e))
    (hinfo : (P.info? e).map (fun i => (i.zero, i.size, i.bytes)) = some (some z, k, bytes)) (hzs : z.cells.size = k) (k0 : 0 < k) (hk : ∀ x, (f x).length = k)
    (hse : a.eval s = .slice A n c) (h : Ow w [Go.Proofs.Ytejcpoidoekleaa.lst e k f l] [.slice A n c] fp) (hn : fp.Nodup) (hx : a.eval x = .slice (some ⟨hb, 0, none⟩) 1 1)
    (hcell : ∀ i, i < k → w.cell? ⟨hb, i, none⟩ = es[i]?) (ho : Ow w (f y) es f2) (hn2 : f2.Nodup) (hd : ∀ p ∈ f2, p ∉ fp) (hl : n ≤ 1048577) (hby : bytes ≤ 1048576)
    (hK : ∀ A3 c3 w3 fp3, Ow w3 [Go.Proofs.Ytejcpoidoekleaa.lst e k f (l ++ [y])] [.slice A3 (n + 1) c3] fp3 → fp3.Nodup → (∀ p ∈ fp3, p ∈ fp ∨ p ∈ f2 ∨ p = w.heap.size) → Touch fp w w3 → wpList P ops Q rest (a.put op.dst (.slice A3 (n + 1) c3)) w3) :
    wpList P ops Q (op :: rest) a w :=
  wpList_plain hgd fun _ hK' => wp_append_elem s x hop ht hinfo hzs k0 hk hse h hn hx hcell ho hn2 hd hl hby fun A3 c3 w3 fp3 a1 a2 a3 a4 => hK' _ _ (hK A3 c3 w3 fp3 a1 a2 a3 a4)

/-- At a step of a region that draws its order. -/
theorem step_append_elem {P : Program} {t : TypeId} {z : Value} {bytes : Nat} {A : Option Addr} {n c hb : Nat} {es : List Value} {f2 : List Nat} {y : α} {ops : Array Oper} {op : Oper} {a : Act} {Q : Exit → Act → World → Prop} {K : Act → World → Prop} {E : Prop}
    (hgd : op.guard = none) (s x : Operand) (hop : op.op = .call { callee := .builtin .append, args := #[s, x], argTypes := #[t, t] }) (ht : P.underlying t = some (.slice e))
    (hinfo : (P.info? e).map (fun i => (i.zero, i.size, i.bytes)) = some (some z, k, bytes)) (hzs : z.cells.size = k) (k0 : 0 < k) (hk : ∀ x, (f x).length = k)
    (hse : a.eval s = .slice A n c) (h : Ow w [Go.Proofs.Ytejcpoidoekleaa.lst e k f l] [.slice A n c] fp) (hn : fp.Nodup) (hx : a.eval x = .slice (some ⟨hb, 0, none⟩) 1 1)
    (hcell : ∀ i, i < k → w.cell? ⟨hb, i, none⟩ = es[i]?) (ho : Ow w (f y) es f2) (hn2 : f2.Nodup) (hd : ∀ p ∈ f2, p ∉ fp) (hl : n ≤ 1048577) (hby : bytes ≤ 1048576)
    (hK : ∀ A3 c3 w3 fp3, Ow w3 [Go.Proofs.Ytejcpoidoekleaa.lst e k f (l ++ [y])] [.slice A3 (n + 1) c3] fp3 → fp3.Nodup → (∀ p ∈ fp3, p ∈ fp ∨ p ∈ f2 ∨ p = w.heap.size) → Touch fp w w3 → K (a.put op.dst (.slice A3 (n + 1) c3)) w3) :
    if Region.wanted op (yielded ops a.tmps) = true then Oper.wp P op a w K Q else E := by
  have hw : Region.wanted op (yielded ops a.tmps) = true := by simp [Region.wanted, hgd]
  rw [if_pos hw]
  exact wp_append_elem s x hop ht hinfo hzs k0 hk hse h hn hx hcell ho hn2 hd hl hby hK
end

end Go.Proofs.Ytejcpoidoekleaa
