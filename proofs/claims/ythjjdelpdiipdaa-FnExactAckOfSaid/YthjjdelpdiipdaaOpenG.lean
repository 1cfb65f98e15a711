/-
  What the frame of a law tells of an argument, type by type: numbers, bools, slices and structs of any depth read as plain data.
-/
import Derived.Test.YthjjdelpdiipdaaKA
import Derived.ChangeArms
import Derived.ProofKit
namespace Go.Proofs.Ythjjdelpdiipdaa
set_option maxRecDepth 100000
open Go.RowKit

/-- A value of type t that came in has k cells, and they read as data of which S holds. -/
def Opens (P : Program) (t : TypeId) (k : Nat) (S : List Dat → Prop) : Prop :=
  P.cellsOf t = k ∧ ∀ (H : Type) (enc : TypeId × Value → H) (w : World) (base : Nat) (spare : Nat → Bool) (held : Bool) (fuel : Nat) (cs : List Value) (x : DataW H × List MemPlace),
    DataW.trod enc P w base spare held fuel t cs = some x → cs.length = k ∧ ∃ ds, S ds ∧ Rd w w.heap.size ds cs

/-- The same of fields from offset 'off' on. -/
def OpensF (P : Program) (fs : List Field) (off k : Nat) (S : List Dat → Prop) : Prop :=
  ∀ (H : Type) (enc : TypeId × Value → H) (w : World) (base : Nat) (spare : Nat → Bool) (held : Bool) (fuel : Nat) (cs : List Value),
    off + k ≤ cs.length → (∀ f ∈ fs, ∃ x, DataW.trod enc P w base spare held fuel f.type ((cs.drop f.offset).take (P.cellsOf f.type)) = some x) →
    ∃ ds, S ds ∧ Rd w w.heap.size ds ((cs.drop off).take k)

section
variable {P : Program} {t : TypeId}

theorem opens_int (ht : P.underlying t = some (.int .i64)) (hc : P.cellsOf t = 1) : Opens P t 1 (fun ds => ∃ n : Int, ds = [.int n] ∧ (Lit.int .i64 n).wf = true) := by
  refine ⟨hc, fun H enc w base spare held fuel cs x h => ?_⟩
  obtain ⟨n, rfl, _, hw⟩ := DataW.trod_int ht h
  exact ⟨rfl, _, ⟨n, rfl, hw⟩, .int .nil⟩

theorem opens_bool (ht : P.underlying t = some .bool) (hc : P.cellsOf t = 1) : Opens P t 1 (fun ds => ∃ b : Bool, ds = [.bool b]) := by
  refine ⟨hc, fun H enc w base spare held fuel cs x h => ?_⟩
  obtain ⟨b, rfl, _⟩ := DataW.trod_bool ht h
  exact ⟨rfl, _, ⟨b, rfl⟩, .bool .nil⟩

theorem cells_at {w : World} {base k : Nat} {a : Addr} {ci : List Value} (h : w.cells? base a k = some ci) : ci.length = k ∧ ∀ i, i < k → w.cell? (a.add i) = ci[i]? := by
  unfold World.cells? at h
  split at h
  · refine ⟨by simpa using mapM_some_length h, fun i hi => mapM_some_get h i i (by simp [hi])⟩
  · cases h

theorem add_add (a : Addr) (m n : Nat) (h : a.spot = none) : (a.add m).add n = ⟨a.block, a.off + (m + n), none⟩ := by
  obtain ⟨b, o, s⟩ := a
  subst h
  unfold Addr.add
  by_cases hm : m = 0
  · subst hm
    by_cases hn : n = 0
    · subst hn; rfl
    · simp [hn]
  · by_cases hn : n = 0
    · subst hn; simp [hm]
    · simp [hm, hn, Nat.add_assoc]

theorem spot_none {w : World} {a : Addr} {v : Value} (h : w.cell? a = some v) : a.spot = none := by
  unfold World.cell? at h
  split at h
  · cases hs : a.spot with
    | none => rfl
    | some s => simp [hs] at h
  · cases h

theorem opens_slice {α : Type} {f : α → List Dat} {e e' : TypeId} {k : Nat} (ht : P.underlying t = some (.slice e)) (he : Opens P e k (fun ds => ∃ x, ds = f x)) (k0 : 0 < k) (hk : ∀ x, (f x).length = k) (hc : P.cellsOf t = 1) :
    Opens P t 1 (fun ds => ∃ l : List α, ds = [lst e' k f l]) := by
  refine ⟨hc, fun H enc w base spare held fuel cs x h => ?_⟩
  rcases DataW.trod_slice ht h with ⟨rfl, _⟩ | ⟨a, len, cap, elems, rest, n, _, rfl, _, _, hl, hm, hel, hall, _⟩
  · exact ⟨rfl, _, ⟨[], rfl⟩, .row (n := 0) (us := []) (by simp) (Nat.le_refl _) (Nat.zero_le _) (fun h => absurd h (by omega)) .nil .nil⟩
  · rw [he.1] at hall
    -- each element
    have each : ∀ i, i < len → ∃ (y : α) (ci : List Value), ci.length = k ∧ Rd w w.heap.size (f y) ci ∧ ∀ q, q < k → w.cell? ((a.add (i * k)).add q) = ci[q]? := by
      intro i hi
      have h1 := hall i hi
      rw [List.getElem?_eq_getElem (by omega), Option.bind_eq_some_iff] at h1
      obtain ⟨ci, h2, h3⟩ := h1
      obtain ⟨hlen, ds, ⟨y, rfl⟩, hr⟩ := he.2 H enc w base spare held n ci _ h3
      exact ⟨y, ci, hlen, hr, (cells_at h2).2⟩
    -- gathered from the front
    have gath : ∀ m, m ≤ len → ∃ (l : List α) (us : List Value), l.length = m ∧ us.length = m * k ∧ Rd w w.heap.size (l.flatMap f) us ∧ ∀ i, i < m → ∀ q, q < k → w.cell? ((a.add (i * k)).add q) = us[i * k + q]? := by
      intro m
      induction m with
      | zero => intro _; exact ⟨[], [], rfl, by simp, .nil, fun i hi => absurd hi (by omega)⟩
      | succ m ih =>
        intro hm
        obtain ⟨l, us, h1, h2, h3, h4⟩ := ih (by omega)
        obtain ⟨y, ci, h5, h6, h7⟩ := each m (by omega)
        refine ⟨l ++ [y], us ++ ci, by simp [h1], by rw [List.length_append, h2, h5, Nat.add_mul, Nat.one_mul], ?_, fun i hi q hq => ?_⟩
        · have := h3.append h6
          simpa using this
        · by_cases him : i < m
          · rw [h4 i him q hq, List.getElem?_append_left]
            have : (i + 1) * k ≤ m * k := Nat.mul_le_mul_right k (by omega)
            rw [Nat.add_mul, Nat.one_mul] at this
            omega
          · have : i = m := by omega
            subst this
            rw [h7 q hq, List.getElem?_append_right (by omega), h2, Nat.add_sub_cancel_left]
    obtain ⟨l, us, h1, h2, h3, h4⟩ := gath len (Nat.le_refl _)
    refine ⟨rfl, _, ⟨l, rfl⟩, .row (us := us) (by rw [flatMap_len hk, h1]) hl hm (fun hn => ?_) h3 .nil⟩
    have h5 := h4 0 hn 0 k0
    have hus : 0 * k + 0 < us.length := by rw [h2, Nat.zero_mul]; exact Nat.mul_pos hn k0
    rw [List.getElem?_eq_getElem hus] at h5
    have hs : a.spot = none := by
      have := spot_none h5
      simpa [Addr.add] using this
    refine ⟨a.block, a.off, ?_, ?_, fun j hj => ?_⟩
    · obtain ⟨b, o, s⟩ := a
      simp only at hs
      subst hs
      rfl
    · have := World.block_lt_of_cell? w _ h5
      simpa [Addr.add] using this
    · have hdm : j / k < len := Nat.div_lt_of_lt_mul (by rw [Nat.mul_comm]; exact hj)
      have h6 := h4 (j / k) hdm (j % k) (Nat.mod_lt _ k0)
      rw [add_add _ _ _ hs] at h6
      have e : j / k * k + j % k = j := by rw [Nat.mul_comm]; exact Nat.div_add_mod j k
      rw [e] at h6
      exact h6

theorem opensF_nil (off : Nat) : OpensF P [] off 0 (fun ds => ds = []) := fun H enc w base spare held fuel cs _ _ => ⟨[], rfl, by simp; exact .nil⟩

theorem opensF_cons {f : Field} {fs : List Field} {off k1 k2 : Nat} {S1 S2 : List Dat → Prop} (ho : f.offset = off) (h1 : Opens P f.type k1 S1) (h2 : OpensF P fs (off + k1) k2 S2) :
    OpensF P (f :: fs) off (k1 + k2) (fun ds => ∃ d1 d2, S1 d1 ∧ S2 d2 ∧ ds = d1 ++ d2) := by
  intro H enc w base spare held fuel cs hl hall
  obtain ⟨x, hx⟩ := hall f (by simp)
  rw [h1.1, ho] at hx
  obtain ⟨_, d1, s1, r1⟩ := h1.2 H enc w base spare held fuel _ x hx
  obtain ⟨d2, s2, r2⟩ := h2 H enc w base spare held fuel cs (by omega) (fun g hg => hall g (by simp [hg]))
  refine ⟨d1 ++ d2, ⟨d1, d2, s1, s2, rfl⟩, ?_⟩
  have e : (cs.drop off).take (k1 + k2) = (cs.drop off).take k1 ++ (cs.drop (off + k1)).take k2 := by
    rw [List.take_add, List.drop_drop]
  rw [e]
  exact r1.append r2

theorem opens_struct {fs : Array Field} {k : Nat} {S : List Dat → Prop} (ht : P.underlying t = some (.struct fs)) (hf : OpensF P fs.toList 0 k S) (hc : P.cellsOf t = k) : Opens P t k S := by
  refine ⟨hc, fun H enc w base spare held fuel cs x h => ?_⟩
  obtain ⟨xs, n, _, _, hl, hxl, hall⟩ := DataW.trod_struct ht h
  rw [hc] at hl
  obtain ⟨ds, s, r⟩ := hf H enc w base spare held n cs (by omega) (fun f hm => by
    obtain ⟨i, hi⟩ := List.getElem?_of_mem hm
    have hi' : fs[i]? = some f := by simpa using hi
    have hlt : i < xs.length := by
      rw [hxl]
      exact (Array.getElem?_eq_some_iff.1 hi').1
    exact ⟨xs[i], by rw [hall i f hi', List.getElem?_eq_getElem hlt]⟩)
  rw [List.drop_zero, List.take_of_length_le (by omega)] at r
  exact ⟨hl, ds, s, r⟩
end

end Go.Proofs.Ythjjdelpdiipdaa
