/-
  The law of messages in flight: the law's own list of letters, whose rows are shared; what the calls answer.
-/
import Derived.Test.YthcagdcbifdfeaaNetQ0
import Derived.Test.YthcagdcbifdfeaaNetQ1
import Derived.Test.YthcagdcbifdfeaaNetK1
import Derived.Test.YthcagdcbifdfeaaNetH2
import Derived.Maps.AppendAt
namespace Go.Proofs.Ythcagdcbifdfeaa
set_option maxRecDepth 100000
open Go.RowKit

/-! ### A slice whose elements' rows are shared: its block alone -/
def pC (q : MsgM × Value) : List Dat := msgC q.1
def pV (q : MsgM × Value) : List Value := [.int .i64 q.1.frm, .int .i64 q.1.dest, q.2]
def ltr (L : List (MsgM × Value)) : List MsgM := L.map fun q => q.1
theorem pV_len (L : List (MsgM × Value)) : (L.flatMap pV).length = L.length * 3 := by
  induction L with
  | nil => rfl
  | cons q L ih => rw [List.flatMap_cons, List.length_append, ih]; simp [pV]; omega
theorem pC_ltr (L : List (MsgM × Value)) : (ltr L).flatMap msgC = L.flatMap pC := by
  unfold ltr
  rw [List.flatMap_map]
  rfl
structure Raw (cur : Array Value) (n c : Nat) (us : List Value) : Prop where
  size : cur.size = c * 3
  le : n ≤ c
  max : c ≤ maxLen
  take : cur.toList.take (n * 3) = us
  len : us.length = n * 3
section
variable {w w' : World} {g n c : Nat} {cur : Array Value} {us : List Value} {L Q : List (MsgM × Value)}
theorem Raw.zero : Raw #[] 0 0 [] := ⟨rfl, Nat.le_refl _, Nat.zero_le _, rfl, rfl⟩
theorem Raw.own (h : Raw cur n c us) (hb : Blk w g cur 37) : w.ownsRow 0 37 3 (.slice (some ⟨g, 0, none⟩) n c) n us :=
  ⟨h.len, .inr ⟨g, c, cur, rfl, Nat.zero_le _, hb, h.le, h.max, h.size, h.take⟩⟩
theorem Raw.at_ (h : Raw cur n c us) (hb : Blk w g cur 37) {j : Nat} (hj : j < n * 3) : w.cell? ⟨g, j, none⟩ = us[j]? := by
  rw [hb.cell j, ← h.take, List.getElem?_take, if_pos hj, Array.getElem?_toList]
theorem raw_append (h : Raw cur n c us) (hb : Blk w g cur 37) {A' : Option Addr} {m c2 : Nat} {news : List Value} {ty : TypeId} (hl : news.length = m * 3) (hsrc : Src w A' m 3 news) (h1 : ∀ u ∈ news, u.oneCell' = true) (hle : n + m ≤ 1000) :
    ∃ g' c' cur' w', (Builtin.append_ #[27, 27] ty #[.slice (some ⟨g, 0, none⟩) n c, .slice A' m c2]).run Try.prog w = .ok (.slice (some ⟨g', 0, none⟩) (n + m) c') w' ∧ Blk w' g' cur' 37 ∧ Raw cur' (n + m) c' (us ++ news) ∧ (g' = g ∨ g' = w.heap.size) ∧ Touch [g] w w' := by
  obtain ⟨i0, hi0, hz⟩ := Option.map_eq_some_iff.1 infoMsg
  simp only [Prod.mk.injEq] at hz
  obtain ⟨hz0, hz1, hz2⟩ := hz
  rcases Nat.eq_zero_or_pos m with hm | hm
  · subst hm
    have hn0 : news = [] := List.eq_nil_of_length_eq_zero (by omega)
    subst hn0
    have hnc := h.le
    refine ⟨g, c, cur, w, ?_, hb, by simpa using h, .inl rfl, Touch.refl _ _⟩
    rcases A' with _ | ad
    · simp [Builtin.append_, run_underlying Try.underlying27, sizeOf, typeInfo, hi0, Builtin.lenOf, Builtin.firstCells, hnc, storeCells]
    · have hl0 : (loadCells ad 0).run Try.prog w = .ok #[] w := by simpa using run_loadCells_list (P := Try.prog) w ad [] (by simp)
      simp [Builtin.append_, run_underlying Try.underlying27, sizeOf, typeInfo, hi0, Builtin.lenOf, Builtin.firstCells, hnc, storeCells, hl0]
  · obtain ⟨b, off, rfl, hcell⟩ := hsrc hm
    obtain ⟨v', w1, hrun, q2, q3, q4, q5⟩ := run_append_own_at (P := Try.prog) (c := c2) w 0 27 ty 37 i0 _ 3 40 Try.underlying27 hi0 hz0 hz1 hz2 rfl (by decide) _ n us (h.own hb) ⟨b, off, none⟩ m news hl
      (by intro j u hj
          have hjk : j < m * 3 := by
            rcases Nat.lt_or_ge j news.length with h9 | h9
            · omega
            · rw [List.getElem?_eq_none h9] at hj; cases hj
          rw [Addr.add_lit, hcell j hjk, hj]) h1 (by simp only [maxLen]; omega) (by omega) (Nat.zero_le _)
    rcases q2.2 with ⟨hv, hnm⟩ | ⟨g', c', cur', hv, _, hh, hnc, hcm, hcs, ht⟩
    · omega
    · subst hv
      refine ⟨g', c', cur', w1, hrun, hh, ⟨hcs, hnc, hcm, ht, q2.1⟩, ?_, Touch.of_grown q3 (fun p hp => by
        have hp' : some g = some p := hp
        injection hp' with hp'
        rw [← hp']
        simp)⟩
      rcases q5 with q5 | q5
      · left; injection q5
      · right; injection q5
theorem flat3 : ∀ (L : List (MsgM × Value)) (i : Nat) (hi : i < L.length) (t : Nat), t < 3 → (L.flatMap pV)[i * 3 + t]? = (pV L[i])[t]?
  | q :: L, 0, _, t, ht => by
    rw [List.flatMap_cons, List.getElem?_append_left (by simp [pV]; omega), Nat.zero_mul, Nat.zero_add]
    rfl
  | q :: L, i + 1, hi, t, ht => by
    rw [List.flatMap_cons, List.getElem?_append_right (by simp [pV]; omega), show (i + 1) * 3 + t - (pV q).length = i * 3 + t by simp [pV]; omega]
    exact flat3 L i (by simpa using hi) t ht
theorem raw_at (h : Raw cur n c (L.flatMap pV)) (hb : Blk w g cur 37) {i : Nat} (hi : i < L.length) :
    w.cell? ⟨g, i * 3, none⟩ = some (.int .i64 L[i].1.frm) ∧ w.cell? ⟨g, i * 3 + 1, none⟩ = some (.int .i64 L[i].1.dest) ∧ w.cell? ⟨g, i * 3 + 2, none⟩ = some L[i].2 := by
  have hn : L.length = n := by have := h.len; rw [pV_len] at this; omega
  exact ⟨(h.at_ hb (show i * 3 < n * 3 by omega)).trans (flat3 L i hi 0 (by omega)), (h.at_ hb (by omega)).trans (flat3 L i hi 1 (by omega)), (h.at_ hb (by omega)).trans (flat3 L i hi 2 (by omega))⟩
theorem flat_take (L : List (MsgM × Value)) (i : Nat) (hi : i ≤ L.length) : (L.take i).flatMap pV = (L.flatMap pV).take (i * 3) := by
  have e : L.flatMap pV = (L.take i).flatMap pV ++ (L.drop i).flatMap pV := by rw [← List.flatMap_append, List.take_append_drop]
  rw [e]
  exact (List.take_left' (by rw [pV_len, List.length_take, Nat.min_eq_left hi])).symm
theorem flat_drop (L : List (MsgM × Value)) (i : Nat) (hi : i ≤ L.length) : (L.drop i).flatMap pV = (L.flatMap pV).drop (i * 3) := by
  have e : L.flatMap pV = (L.take i).flatMap pV ++ (L.drop i).flatMap pV := by rw [← List.flatMap_append, List.take_append_drop]
  rw [e]
  exact (List.drop_left' (by rw [pV_len, List.length_take, Nat.min_eq_left hi])).symm
theorem src_front (h : Raw cur n c (L.flatMap pV)) (hb : Blk w g cur 37) {i : Nat} (hi : i ≤ n) : Src w (some ⟨g, 0, none⟩) i 3 ((L.take i).flatMap pV) := fun _ => by
  have hn : L.length = n := by have := h.len; rw [pV_len] at this; omega
  refine ⟨g, 0, rfl, fun j hj => ?_⟩
  rw [Nat.zero_add, h.at_ hb (by omega), flat_take L i (by omega), List.getElem?_take, if_pos hj]
theorem src_back (h : Raw cur n c (L.flatMap pV)) (hb : Blk w g cur 37) {i : Nat} (hi : i ≤ n) : Src w (some ⟨g, i * 3, none⟩) (n - i) 3 ((L.drop i).flatMap pV) := fun _ => by
  have hn : L.length = n := by have := h.len; rw [pV_len] at this; omega
  refine ⟨g, i * 3, rfl, fun j hj => ?_⟩
  rw [h.at_ hb (by omega), flat_drop L i (by omega), List.getElem?_drop]
theorem src_back' (h : Raw cur n c (L.flatMap pV)) (hb : Blk w g cur 37) {i : Nat} (hi : i ≤ n) : Src w (if c = i then some ⟨g, 0, none⟩ else some ⟨g, i * 3, none⟩) (n - i) 3 ((L.drop i).flatMap pV) := fun hp => by
  rw [if_neg (by have := h.le; omega)]
  exact src_back h hb hi hp
theorem src_one {q : Nat} {u0 u1 u2 : Value} {t : TypeId} (hb : Blk w q #[u0, u1, u2] t) : Src w (some ⟨q, 0, none⟩) 1 3 [u0, u1, u2] := fun _ => ⟨q, 0, rfl, fun j hj => by
  rw [Nat.zero_add, hb.cell j]
  simp⟩
/-- Reading a part of the pool. -/
theorem rd_pick {B : Nat} : ∀ (Q : List (MsgM × Value)), Rd w B (Q.flatMap pC) (Q.flatMap pV) → ∀ q ∈ Q, Rd w B (pC q) (pV q)
  | x :: Q, h, q, hq => by
    rw [List.flatMap_cons, List.flatMap_cons] at h
    obtain ⟨v1, v2, e, h1, h2⟩ := Rd.split h
    have hl : (pV x).length = v1.length := by rw [h1.len]; rfl
    obtain ⟨e1, e2⟩ := List.append_inj e hl
    subst e1 e2
    rcases List.mem_cons.1 hq with rfl | hq
    · exact h1
    · exact rd_pick Q h2 q hq
theorem rd_sub {B : Nat} (h : Rd w B (Q.flatMap pC) (Q.flatMap pV)) : ∀ (L : List (MsgM × Value)), (∀ q ∈ L, q ∈ Q) → Rd w B (L.flatMap pC) (L.flatMap pV)
  | [], _ => .nil
  | x :: L, hs => by
    rw [List.flatMap_cons, List.flatMap_cons]
    exact (rd_pick Q h x (hs x (by simp))).append (rd_sub h L fun q hq => hs q (List.mem_cons_of_mem _ hq))
theorem raw_rd {B : Nat} (h : Raw cur n c (L.flatMap pV)) (hb : Blk w g cur 37) (hg : g < B) (hr : Rd w B (Q.flatMap pC) (Q.flatMap pV)) (hs : ∀ q ∈ L, q ∈ Q) : Rd w B [msgD (ltr L)] [.slice (some ⟨g, 0, none⟩) n c] := by
  have hn : L.length = n := by have := h.len; rw [pV_len] at this; omega
  refine .row (us := L.flatMap pV) ?_ h.le h.max (fun _ => ⟨g, 0, rfl, hg, fun j hj => ?_⟩) ?_ .nil
  · rw [pC_ltr, ← (rd_sub hr L hs).len, h.len]
  · rw [Nat.zero_add]; exact h.at_ hb hj
  · rw [pC_ltr]; exact rd_sub hr L hs
theorem rd_row {B : Nat} {q : MsgM × Value} (h : Rd w B (pC q) (pV q)) : ∃ A m c, q.2 = .slice A m c ∧ IRow w B A m q.1.row := by
  have h' : Rd w B [.int q.1.frm, .int q.1.dest, rowD q.1.row] [.int .i64 q.1.frm, .int .i64 q.1.dest, q.2] := h
  cases h' with
  | int h1 =>
    cases h1 with
    | int h2 =>
      obtain ⟨A, m, c, e, hi, _⟩ := Rd.rowS (xs := q.1.row) h2
      exact ⟨A, m, c, e, hi⟩
theorem pV_one {L : List (MsgM × Value)} {B : Nat} (h : Rd w B (L.flatMap pC) (L.flatMap pV)) : ∀ u ∈ L.flatMap pV, u.oneCell' = true := fun u hu => by
  obtain ⟨q, hq, hu⟩ := List.mem_flatMap.1 hu
  obtain ⟨A, m, c, e, _⟩ := rd_row (rd_pick L h q hq)
  unfold pV at hu
  rw [e] at hu
  simp at hu
  rcases hu with rfl | rfl | rfl <;> rfl
end

section
variable {w W W' : World} {B p : Nat} {is : List Item} {g g' : Nat} {cur cur' : Array Value} {t t' : TypeId}
theorem DrL.reblk (h : DrL w W B p (.blk g cur t :: is)) (hb : Blk W' g' cur' t') (hg : g' = g ∨ g' = W.heap.size) (ht : Touch [g] W W') : DrL w W' B p (.blk g' cur' t' :: is) := by
  have hall : foots (.blk g cur t :: is) = g :: foots is := rfl
  have hnd := h.sep.nodup
  have hlt := h.sep.lt
  rw [hall] at hnd hlt
  rw [List.nodup_cons] at hnd
  have hge : w.heap.size ≤ g := h.sep.ge g (by rw [hall]; simp)
  have hgs := h.grown.size
  refine h.move (ht.below (fun q hq => by rw [List.mem_singleton.1 hq]; exact hge) hgs) ⟨fun n i hi => ?_, ?_, fun q hq => ?_⟩
  · cases n with
    | zero => simp at hi; subst hi; exact hb
    | succ n =>
      have hi' : is[n]? = some i := by simpa using hi
      have hh := h.sep.holds (n + 1) i (by simpa using hi')
      refine Item.same hh (fun q hq => ht.block q (Item.lt hh q hq) (fun hm => ?_))
      rw [List.mem_singleton.1 hm] at hq
      exact hnd.1 (foot_mem hi' hq)
  · show (g' :: foots is).Nodup
    refine List.nodup_cons.2 ⟨fun hm => ?_, hnd.2⟩
    rcases hg with rfl | rfl
    · exact hnd.1 hm
    · have := hlt _ (List.mem_cons_of_mem _ hm)
      omega
  · rcases List.mem_cons.1 (show q ∈ g' :: foots is from hq) with rfl | h1
    · rcases hg with h2 | h2
      · rw [h2]; exact hge
      · rw [h2]; exact hgs
    · exact h.sep.ge q (by rw [hall]; exact List.mem_cons_of_mem _ h1)
end

section
variable {w : World} {g n c m c2 : Nat} {cur : Array Value} {us news : List Value} {A' : Option Addr} {op : Oper} {a : Act} {K : Act → World → Prop} {Q : Exit → Act → World → Prop}
theorem wp_raw (s x : Operand) (hop : op.op = .call { callee := .builtin .append, args := #[s, x], argTypes := #[27, 27] }) (hse : a.eval s = .slice (some ⟨g, 0, none⟩) n c) (h : Raw cur n c us) (hb : Blk w g cur 37)
    (hx : a.eval x = .slice A' m c2) (hl : news.length = m * 3) (hsrc : Src w A' m 3 news) (h1 : ∀ u ∈ news, u.oneCell' = true) (hle : n + m ≤ 1000)
    (hK : ∀ g' c' cur' w', Blk w' g' cur' 37 → Raw cur' (n + m) c' (us ++ news) → (g' = g ∨ g' = w.heap.size) → Touch [g] w w' → K (a.put op.dst (.slice (some ⟨g', 0, none⟩) (n + m) c')) w') : op.wp Try.prog a w K Q := by
  obtain ⟨g', c', cur', w', hrun, h2, h3, h4, h5⟩ := raw_append (c2 := c2) (ty := op.type) h hb hl hsrc h1 hle
  unfold Oper.wp execOp
  simp only [hop, resolve, invoke, builtin, Sem.run_bind, Sem.run_pure, Result.andThen_ok, List.map_toArray, List.map_cons, List.map_nil, hse, hx, hrun]
  exact hK g' c' cur' w' h2 h3 h4 h5
theorem wpList_raw {ops : Array Oper} {rest : List Oper} (hgd : op.guard = none) (s x : Operand) (hop : op.op = .call { callee := .builtin .append, args := #[s, x], argTypes := #[27, 27] }) (hse : a.eval s = .slice (some ⟨g, 0, none⟩) n c) (h : Raw cur n c us) (hb : Blk w g cur 37)
    (hx : a.eval x = .slice A' m c2) (hl : news.length = m * 3) (hsrc : Src w A' m 3 news) (h1 : ∀ u ∈ news, u.oneCell' = true) (hle : n + m ≤ 1000)
    (hK : ∀ g' c' cur' w', Blk w' g' cur' 37 → Raw cur' (n + m) c' (us ++ news) → (g' = g ∨ g' = w.heap.size) → Touch [g] w w' → wpList Try.prog ops Q rest (a.put op.dst (.slice (some ⟨g', 0, none⟩) (n + m) c')) w') : wpList Try.prog ops Q (op :: rest) a w :=
  wpList_plain hgd fun _ hK' => wp_raw s x hop hse h hb hx hl hsrc h1 hle fun g' c' cur' w' a1 a2 a3 a4 => hK' _ _ (hK g' c' cur' w' a1 a2 a3 a4)
end

/-! ### The calls -/
section
variable {w : World} {t t' : NetM} {x : Int} {b : Bool} {A0 A1 : Option Addr} {n0 c0 n1 c1 : Nat}
theorem has_nm {w : World} {B : Nat} {t : NetM} {m : MsgM} {v0 v1 v2 : Value} {x0 x1 : Int} (h : Has w B (t.cells ++ m.cells) [v0, v1, .int .i64 x0, .int .i64 x1, v2]) : x0 = m.frm ∧ x1 = m.dest := by
  have h' : Rd w w.heap.size [msgD t.flight, linkD t.cuts, .int m.frm, .int m.dest, rowD m.row] [v0, v1, .int .i64 x0, .int .i64 x1, v2] := h.rd
  cases h' with
  | row _ _ _ _ _ h1 => cases h1 with
    | row _ _ _ _ _ h2 => cases h2 with
      | int h3 => cases h3 with
        | int _ => exact ⟨rfl, rfl⟩
theorem law_handed {m : MsgM} (hr : Rd w w.heap.size t.cells [.slice A0 n0 c0, .slice A1 n1 c1]) (hs : t.sz ≤ 1048576) (e : handedM t x = (t', m, b)) :
    Calls Try.prog 22 #[.agg #[.slice A0 n0 c0, .slice A1 n1 c1], .int .i64 x] w fun e w' => ∃ (A0 : Option Addr) (n0 c0 : Nat) (A1 : Option Addr) (n1 c1 : Nat) (A2 : Option Addr) (n2 c2 : Nat),
      e = .returned (.tuple #[.agg #[.slice A0 n0 c0, .slice A1 n1 c1], .agg #[.int .i64 m.frm, .int .i64 m.dest, .slice A2 n2 c2], .bool b]) ∧ Has w' w.heap.size (t'.cells ++ m.cells) [.slice A0 n0 c0, .slice A1 n1 c1, .int .i64 m.frm, .int .i64 m.dest, .slice A2 n2 c2] ∧ Below w.heap.size w w' := by
  have h := iHanded_at A0 n0 c0 A1 n1 c1 t x w hr hs
  rw [e] at h
  refine h.mono ?_
  rintro e w' ⟨A0, n0, c0, A1, n1, c1, x0, x1, A2, n2, c2, rfl, o, bl⟩
  obtain ⟨h1, h2⟩ := has_nm o
  subst h1 h2
  exact ⟨A0, n0, c0, A1, n1, c1, A2, n2, c2, rfl, o, bl⟩
theorem law_handed' {x0 x1 : Int} {xs : List Int} (hr : Rd w w.heap.size t.cells [.slice A0 n0 c0, .slice A1 n1 c1]) (hs : t.sz ≤ 1048576) (e : handedM t x = (t', ⟨x0, x1, xs⟩, b)) :
    Calls Try.prog 22 #[.agg #[.slice A0 n0 c0, .slice A1 n1 c1], .int .i64 x] w fun e w' => ∃ (A0 : Option Addr) (n0 c0 : Nat) (A1 : Option Addr) (n1 c1 : Nat) (A2 : Option Addr) (n2 c2 : Nat),
      e = .returned (.tuple #[.agg #[.slice A0 n0 c0, .slice A1 n1 c1], .agg #[.int .i64 x0, .int .i64 x1, .slice A2 n2 c2], .bool b]) ∧ Has w' w.heap.size (t'.cells ++ msgC ⟨x0, x1, xs⟩) [.slice A0 n0 c0, .slice A1 n1 c1, .int .i64 x0, .int .i64 x1, .slice A2 n2 c2] ∧ Below w.heap.size w w' :=
  law_handed hr hs e
theorem law_lost (hr : Rd w w.heap.size t.cells [.slice A0 n0 c0, .slice A1 n1 c1]) (hs : t.sz ≤ 1048576) (e : lostM t x = (t', b)) :
    Calls Try.prog 24 #[.agg #[.slice A0 n0 c0, .slice A1 n1 c1], .int .i64 x] w fun e w' => ∃ (A0 : Option Addr) (n0 c0 : Nat) (A1 : Option Addr) (n1 c1 : Nat), e = .returned (.tuple #[.agg #[.slice A0 n0 c0, .slice A1 n1 c1], .bool b]) ∧ Has w' w.heap.size t'.cells [.slice A0 n0 c0, .slice A1 n1 c1] ∧ Below w.heap.size w w' := by
  have h := iLost_at A0 n0 c0 A1 n1 c1 t x w hr hs
  rw [e] at h
  exact h
theorem law_doubled (hr : Rd w w.heap.size t.cells [.slice A0 n0 c0, .slice A1 n1 c1]) (hs : t.sz ≤ 1048576) (e : doubledM t x = (t', b)) :
    Calls Try.prog 25 #[.agg #[.slice A0 n0 c0, .slice A1 n1 c1], .int .i64 x] w fun e w' => ∃ (A0 : Option Addr) (n0 c0 : Nat) (A1 : Option Addr) (n1 c1 : Nat), e = .returned (.tuple #[.agg #[.slice A0 n0 c0, .slice A1 n1 c1], .bool b]) ∧ Has w' w.heap.size t'.cells [.slice A0 n0 c0, .slice A1 n1 c1] ∧ Below w.heap.size w w' := by
  have h := iDoubled_at A0 n0 c0 A1 n1 c1 t x w hr hs
  rw [e] at h
  exact h
theorem law_cut {y : Int} (hr : Rd w w.heap.size t.cells [.slice A0 n0 c0, .slice A1 n1 c1]) (hs : t.sz ≤ 1048576) (e : cutOffM t x y = (t', b)) :
    Calls Try.prog 21 #[.agg #[.slice A0 n0 c0, .slice A1 n1 c1], .int .i64 x, .int .i64 y] w fun e w' => ∃ (A0 : Option Addr) (n0 c0 : Nat) (A1 : Option Addr) (n1 c1 : Nat), e = .returned (.tuple #[.agg #[.slice A0 n0 c0, .slice A1 n1 c1], .bool b]) ∧ Has w' w.heap.size t'.cells [.slice A0 n0 c0, .slice A1 n1 c1] ∧ Below w.heap.size w w' := by
  have h := iCutOff_at A0 n0 c0 A1 n1 c1 t x y w hr hs
  rw [e] at h
  exact h
theorem law_sent {m : MsgM} {x0 x1 : Int} {A : Option Addr} {n c : Nat} (hr : Rd w w.heap.size t.cells [.slice A0 n0 c0, .slice A1 n1 c1]) (hs : t.sz ≤ 1048576) (hm : Rd w w.heap.size m.cells [.int .i64 x0, .int .i64 x1, .slice A n c]) (hms : m.sz ≤ 1048576) (e : sentM t m = (t', b)) :
    Calls Try.prog 27 #[.agg #[.slice A0 n0 c0, .slice A1 n1 c1], .agg #[.int .i64 x0, .int .i64 x1, .slice A n c]] w fun e w' => ∃ (A0 : Option Addr) (n0 c0 : Nat) (A1 : Option Addr) (n1 c1 : Nat), e = .returned (.tuple #[.agg #[.slice A0 n0 c0, .slice A1 n1 c1], .bool b]) ∧ Has w' w.heap.size t'.cells [.slice A0 n0 c0, .slice A1 n1 c1] ∧ Below w.heap.size w w' := by
  have h := iSent_at A0 n0 c0 A1 n1 c1 t x0 x1 A n c m w hr hs hm hms
  rw [e] at h
  exact h
end
theorem ltr_erase (L : List (MsgM × Value)) (i : Nat) : ltr (L.eraseIdx i) = (ltr L).eraseIdx i := by
  unfold ltr
  rw [List.eraseIdx_eq_take_drop_succ, List.eraseIdx_eq_take_drop_succ, List.map_append, List.map_take, List.map_drop]
theorem flat_erase (L : List (MsgM × Value)) (i : Nat) : (L.take i).flatMap pV ++ (L.drop (i + 1)).flatMap pV = (L.eraseIdx i).flatMap pV := by
  rw [List.eraseIdx_eq_take_drop_succ, List.flatMap_append]
theorem ltr_at {L : List (MsgM × Value)} {i : Nat} (hi : i < L.length) : (ltr L)[i]'(by unfold ltr; rw [List.length_map]; exact hi) = L[i].1 := by
  unfold ltr
  rw [List.getElem_map]
theorem handed_shut {L : List (MsgM × Value)} {i : Nat} {a b x0 x1 : Int} {xr : List Int} (hok : netOk ⟨ltr L, [linkOf a b]⟩ = true) (hi : i < L.length) (hm : L[i].1 = ⟨x0, x1, xr⟩) (hab : a ≠ b) (h : (x0 = a ∧ x1 = b) ∨ (x0 = b ∧ x1 = a)) :
    handedM ⟨ltr L, [linkOf a b]⟩ (i : Int) = (⟨(ltr L).eraseIdx i, [linkOf a b]⟩, ⟨0, 0, []⟩, false) := by
  have hi' : i < (ltr L).length := by unfold ltr; rw [List.length_map]; exact hi
  rw [handed_in hok hi', ltr_at hi, hm, if_pos]
  · rfl
  · rw [one_cut hab (show x0 ≠ x1 by omega)]
    simpa using h
theorem handed_open {L : List (MsgM × Value)} {i : Nat} {a b x0 x1 : Int} {xr : List Int} (hok : netOk ⟨ltr L, [linkOf a b]⟩ = true) (hi : i < L.length) (hm : L[i].1 = ⟨x0, x1, xr⟩) (hab : a ≠ b) (h : ¬ ((x0 = a ∧ x1 = b) ∨ (x0 = b ∧ x1 = a))) :
    handedM ⟨ltr L, [linkOf a b]⟩ (i : Int) = (⟨(ltr L).eraseIdx i, [linkOf a b]⟩, ⟨x0, x1, xr⟩, true) := by
  have hi' : i < (ltr L).length := by unfold ltr; rw [List.length_map]; exact hi
  have hmo : msgOk L[i].1 = true := by
    have := netOk_msgAt hok hi'
    rw [ltr_at hi] at this
    exact this
  have hne := msg_two hmo
  rw [hm] at hne
  rw [handed_in hok hi', ltr_at hi, hm, if_neg]
  rw [one_cut hab hne]
  simpa using h
theorem flat_snocC (Q : List (MsgM × Value)) (e : MsgM × Value) : Q.flatMap pC ++ pC e = (Q ++ [e]).flatMap pC := by rw [List.flatMap_append]; simp
theorem flat_snocV (Q : List (MsgM × Value)) (e : MsgM × Value) : Q.flatMap pV ++ pV e = (Q ++ [e]).flatMap pV := by rw [List.flatMap_append]; simp
theorem ltr_snoc (L : List (MsgM × Value)) (e : MsgM × Value) : ltr (L ++ [e]) = ltr L ++ [e.1] := by unfold ltr; rw [List.map_append]; rfl
theorem ltr_len (L : List (MsgM × Value)) : (ltr L).length = L.length := by unfold ltr; rw [List.length_map]

end Go.Proofs.Ythcagdcbifdfeaa
