/- Parts of my texts: LawRowSlot LawSlotOf OpenG OpenR OpenMark OpenHead. -/
import Derived.Test.YtljnplalnhiidaaK3
import Derived.Test.YtljnplalnhiidaaK4
import Derived.ChangeArms
import Derived.ProofKit
namespace Go.Proofs.Ytljnplalnhiidaa
set_option maxRecDepth 100000
set_option linter.unusedVariables false
open Go.RowKit
set_option maxHeartbeats 12800000 in
theorem lawRowSlot (f : List Int → EntM × Bool)
    (hs : ∀ (A : Option Addr) (n c : Nat) (d0 : List Int) (w : World), Rd w w.heap.size (rowCells d0) [.slice A n c] → d0.length ≤ 1048576 → Calls Try.prog 27 #[.slice A n c] w (fun e w' => e = .returned (.tuple #[.agg #[.int .i64 (f d0).1.idx, .int .i64 (f d0).1.tm, .int .i64 (f d0).1.cl, .int .i64 (f d0).1.sq, .int .i64 (f d0).1.kd, .int .i64 (f d0).1.oa, .int .i64 (f d0).1.ob, .int .i64 (f d0).1.oc, .int .i64 (f d0).1.od], .bool (f d0).2]) ∧ Below w.heap.size w w'))
    (hi : ∀ (A : Option Addr) (n c : Nat) (d0 : List Int) (w : World), Rd w w.heap.size (rowCells d0) [.slice A n c] → d0.length ≤ 1048576 → Calls Try.prog 28 #[.slice A n c] w (fun e w' => e = .returned (.tuple #[.agg #[.int .i64 (f d0).1.idx, .int .i64 (f d0).1.tm, .int .i64 (f d0).1.cl, .int .i64 (f d0).1.sq, .int .i64 (f d0).1.kd, .int .i64 (f d0).1.oa, .int .i64 (f d0).1.ob, .int .i64 (f d0).1.oc, .int .i64 (f d0).1.od], .bool (f d0).2]) ∧ Below w.heap.size w w'))
    (A0 : Option Addr) (n0 c0 : Nat) (d0 : List Int) (w : World) (h0 : Rd w w.heap.size (rowCells d0) [.slice A0 n0 c0]) :
    Calls Try.prog 7 #[.slice A0 n0 c0] w fun e w' => e = .returned (.bool true) ∧ Below w.heap.size w w' := by
 have SP := jd hs
 have IM := jd hi
 clear hs hi
 have S := Sep.nil w w.heap.size
 have c := Below.refl w.heap.size w
 obtain ⟨_, _, _, e, hh, hnc, hcm⟩ := h0.irow
 injection e with e1 e2 e3
 subst e1 e2 e3
 have hl := hh.1
 have mx : n0 ≤ maxLen := Nat.le_trans hnc hcm
 unfold maxLen at mx
 clear hh hnc hcm
 go_enter Try.func7, Try.ntmps7
 by_cases hz : n0 ≤ 1048576
 case neg =>
  have hz1 : (n0 : Int) > 1048576 := by omega
  go_wp2
  go_ret
  exact ⟨rfl, c⟩
 have hz0 : d0.length ≤ 1048576 := by omega
 have hz1 : ¬ ((n0 : Int) > 1048576) := by omega
 clear hl
 obtain ⟨r0, hr0⟩ : ∃ r, r = (f d0).1.idx := ⟨_, rfl⟩
 obtain ⟨r1, hr1⟩ : ∃ r, r = (f d0).1.tm := ⟨_, rfl⟩
 obtain ⟨r2, hr2⟩ : ∃ r, r = (f d0).1.cl := ⟨_, rfl⟩
 obtain ⟨r3, hr3⟩ : ∃ r, r = (f d0).1.sq := ⟨_, rfl⟩
 obtain ⟨r4, hr4⟩ : ∃ r, r = (f d0).1.kd := ⟨_, rfl⟩
 obtain ⟨r5, hr5⟩ : ∃ r, r = (f d0).1.oa := ⟨_, rfl⟩
 obtain ⟨r6, hr6⟩ : ∃ r, r = (f d0).1.ob := ⟨_, rfl⟩
 obtain ⟨r7, hr7⟩ : ∃ r, r = (f d0).1.oc := ⟨_, rfl⟩
 obtain ⟨r8, hr8⟩ : ∃ r, r = (f d0).1.od := ⟨_, rfl⟩
 obtain ⟨rb, hrb⟩ : ∃ r, r = (f d0).2 := ⟨_, rfl⟩
 have HR0 := jd hr0
 have HR1 := jd hr1
 have HR2 := jd hr2
 have HR3 := jd hr3
 have HR4 := jd hr4
 have HR5 := jd hr5
 have HR6 := jd hr6
 have HR7 := jd hr7
 have HR8 := jd hr8
 have HRB := jd hrb
 clear hrb hr0 hr1 hr2 hr3 hr4 hr5 hr6 hr7 hr8
 go_wp2_with fail
 refine (toI_made _ _ _ d0 _ ((h0.keep c).up c.size) hz0).mono ?_
 rintro e w1 ⟨As0, ns0, cs0, rfl, o, b⟩
 obtain ⟨fp_s0, S'⟩ := S.has b o c.size
 replace c := c.trans (b.mono c.size)
 clear S; have S := S'; clear S' o b
 go_wp2_with fail
 refine (SP.out _ _ _ d0 _ (S.own_ 0 rfl).rd hz0).mono ?_
 rintro e w2 ⟨rfl, b⟩
 replace c := c.trans (b.mono c.size)
 replace S := S.keep b
 clear b
 rw [← HR0.out, ← HR1.out, ← HR2.out, ← HR3.out, ← HR4.out, ← HR5.out, ← HR6.out, ← HR7.out, ← HR8.out, ← HRB.out]
 replace S := S.boxAt c.size (w2.heap.size) rfl #[.int .i64 r0, .int .i64 r1, .int .i64 r2, .int .i64 r3, .int .i64 r4, .int .i64 r5, .int .i64 r6, .int .i64 r7, .int .i64 r8] 49
 replace c := al c S
 go_wp2_with fail
 generalize w2.alloc (.cells #[.int .i64 r0, .int .i64 r1, .int .i64 r2, .int .i64 r3, .int .i64 r4, .int .i64 r5, .int .i64 r6, .int .i64 r7, .int .i64 r8] 49) = w3 at *
 refine (toI_made _ _ _ d0 _ ((h0.keep c).up c.size) hz0).mono ?_
 rintro e w4 ⟨Ax0, nx0, cx0, rfl, o, b⟩
 obtain ⟨fp_x0, S'⟩ := S.has b o c.size
 replace c := c.trans (b.mono c.size)
 clear S; have S := S'; clear S' o b
 go_wp2_with fail
 refine (IM.out _ _ _ d0 _ (S.own_ 0 rfl).rd hz0).mono ?_
 rintro e w5 ⟨rfl, b⟩
 replace c := c.trans (b.mono c.size)
 replace S := S.keep b
 clear b
 rw [← HR0.out, ← HR1.out, ← HR2.out, ← HR3.out, ← HR4.out, ← HR5.out, ← HR6.out, ← HR7.out, ← HR8.out, ← HRB.out]
 replace S := S.boxAt c.size (w5.heap.size) rfl #[.int .i64 r0, .int .i64 r1, .int .i64 r2, .int .i64 r3, .int .i64 r4, .int .i64 r5, .int .i64 r6, .int .i64 r7, .int .i64 r8] 49
 replace c := al c S
 have f0 := lk S 0 0 rfl rfl
 have f1 := lk S 0 1 rfl rfl
 have f2 := lk S 0 2 rfl rfl
 have f3 := lk S 0 3 rfl rfl
 have f4 := lk S 0 4 rfl rfl
 have f5 := lk S 0 5 rfl rfl
 have f6 := lk S 0 6 rfl rfl
 have f7 := lk S 0 7 rfl rfl
 have f8 := lk S 0 8 rfl rfl
 have f9 := lk S 2 0 rfl rfl
 have f10 := lk S 2 1 rfl rfl
 have f11 := lk S 2 2 rfl rfl
 have f12 := lk S 2 3 rfl rfl
 have f13 := lk S 2 4 rfl rfl
 have f14 := lk S 2 5 rfl rfl
 have f15 := lk S 2 6 rfl rfl
 have f16 := lk S 2 7 rfl rfl
 have f17 := lk S 2 8 rfl rfl
 go_wp2_with fail
 generalize w5.alloc (.cells #[.int .i64 r0, .int .i64 r1, .int .i64 r2, .int .i64 r3, .int .i64 r4, .int .i64 r5, .int .i64 r6, .int .i64 r7, .int .i64 r8] 49) = w6 at *
 refine (eqEntry_one r0 r1 r2 r3 r4 r5 r6 r7 r8 _).mono ?_
 rintro e w7 ⟨rfl, b⟩
 replace c := c.trans (b.mono c.size)
 replace S := S.keep b
 clear b f0 f1 f2 f3 f4 f5 f6 f7 f8 f9 f10 f11 f12 f13 f14 f15 f16 f17
 have hbb : (rb != rb) = false := by simp
 go_wp2_with fail
 refine (toI_made _ _ _ d0 _ ((h0.keep c).up c.size) hz0).mono ?_
 rintro e w8 ⟨Az0, nz0, cz0, rfl, o, b⟩
 obtain ⟨fp_z0, S'⟩ := S.has b o c.size
 replace c := c.trans (b.mono c.size)
 clear S; have S := S'; clear S' o b
 go_wp2_with fail
 refine (eqI_yes _ _ _ _ _ _ _ _ d0 _ (S.own_ 2 rfl).rd (S.own_ 0 rfl).rd (by omega)).mono ?_
 rintro e w9 ⟨rfl, b⟩
 replace c := c.trans (b.mono c.size)
 replace S := S.keep b
 clear b
 go_wp2
 go_ret
 exact ⟨rfl, c⟩
set_option maxHeartbeats 12800000 in
theorem lawSlotOf (f : Int → Int)
    (hs : ∀ (x0 : Int) (w : World), Calls Try.prog 30 #[.int .i64 x0] w (fun e w' => e = .returned (.int .i64 (f x0)) ∧ Below w.heap.size w w'))
    (hi : ∀ (x0 : Int) (w : World), Calls Try.prog 31 #[.int .i64 x0] w (fun e w' => e = .returned (.int .i64 (f x0)) ∧ Below w.heap.size w w'))
    (x0 : Int) (w : World) :
    Calls Try.prog 8 #[.int .i64 x0] w fun e w' => e = .returned (.bool true) ∧ Below w.heap.size w w' := by
 have SP := jd hs
 have IM := jd hi
 clear hs hi
 have S := Sep.nil w w.heap.size
 have c := Below.refl w.heap.size w
 go_enter Try.func8, Try.ntmps8
 obtain ⟨fx0, hfx0⟩ : ∃ q, q = (f x0) := ⟨_, rfl⟩
 have HFX0 := jd hfx0
 clear hfx0
 go_wp2_with fail
 refine (SP.out _ _ ).mono ?_
 rintro e w1 ⟨rfl, b⟩
 replace c := c.trans (b.mono c.size)
 replace S := S.keep b
 clear b
 rw [← HFX0.out]
 go_wp2_with fail
 refine (IM.out _ _ ).mono ?_
 rintro e w2 ⟨rfl, b⟩
 replace c := c.trans (b.mono c.size)
 replace S := S.keep b
 clear b
 rw [← HFX0.out]
 go_wp2
 go_ret
 exact ⟨rfl, c⟩
def Opens (P : Program) (t : TypeId) (k : Nat) (S : List Dat → Prop) : Prop :=
 P.cellsOf t = k ∧ ∀ (H : Type) (enc : TypeId × Value → H) (w : World) (base : Nat) (spare : Nat → Bool) (held : Bool) (fuel : Nat) (cs : List Value) (x : DataW H × List MemPlace),
  DataW.trod enc P w base spare held fuel t cs = some x → cs.length = k ∧ ∃ ds, S ds ∧ Rd w w.heap.size ds cs
def OpensF (P : Program) (fs : List Field) (off k : Nat) (S : List Dat → Prop) : Prop :=
 ∀ (H : Type) (enc : TypeId × Value → H) (w : World) (base : Nat) (spare : Nat → Bool) (held : Bool) (fuel : Nat) (cs : List Value),
  off + k ≤ cs.length → (∀ f ∈ fs, ∃ x, DataW.trod enc P w base spare held fuel f.type ((cs.drop f.offset).take (P.cellsOf f.type)) = some x) →
  ∃ ds, S ds ∧ Rd w w.heap.size ds ((cs.drop off).take k)
section
variable {P : Program} {t : TypeId}
theorem opens_int (ht : P.underlying t = some (.int .i64)) (hc : P.cellsOf t = 1) : Opens P t 1 (fun ds => ∃ n : Int, ds = [.int n] ∧ (Lit.int .i64 n).wf = true) := by
 refine ⟨hc, fun H enc w base spare held fuel cs x h => ?_⟩
 obtain ⟨n, rfl, _, hw⟩ := DataW.trod_int ht h
 exact ⟨rfl, _, ⟨n, rfl, hw⟩, .int .nil⟩
theorem cells_at {w : World} {base k : Nat} {a : Addr} {ci : List Value} (h : w.cells? base a k = some ci) : ci.length = k ∧ ∀ i, i < k → w.cell? (a.add i) = ci[i]? := by
 unfold World.cells? at h
 split at h
 · refine ⟨by simpa using mapM_some_length h, fun i hi => mapM_some_get h i i (by simp [hi])⟩
 · cases h
theorem add_add (a : Addr) (m n : Nat) (h : a.spot = none) : (a.add m).add n = ⟨a.block, a.off + (m + n), none⟩ := by
 obtain ⟨b, o, s⟩ := a
 subst h
 unfold Addr.add
 by_cases hm : m = 0
 · subst hm
   by_cases hn : n = 0
   · subst hn; rfl
   · simp [hn]
 · by_cases hn : n = 0
   · subst hn; simp [hm]
   · simp [hm, hn, Nat.add_assoc]
theorem spot_none {w : World} {a : Addr} {v : Value} (h : w.cell? a = some v) : a.spot = none := by
 unfold World.cell? at h
 split at h
 · cases hs : a.spot with
   | none => rfl
   | some s => simp [hs] at h
 · cases h
theorem opens_slice {α : Type} {f : α → List Dat} {e e' : TypeId} {k : Nat} (ht : P.underlying t = some (.slice e)) (he : Opens P e k (fun ds => ∃ x, ds = f x)) (k0 : 0 < k) (hk : ∀ x, (f x).length = k) (hc : P.cellsOf t = 1) :
    Opens P t 1 (fun ds => ∃ l : List α, ds = [lst e' k f l]) := by
 refine ⟨hc, fun H enc w base spare held fuel cs x h => ?_⟩
 rcases DataW.trod_slice ht h with ⟨rfl, _⟩ | ⟨a, len, cap, elems, rest, n, _, rfl, _, _, hl, hm, hel, hall, _⟩
 · exact ⟨rfl, _, ⟨[], rfl⟩, .row (n := 0) (us := []) (by simp) (Nat.le_refl _) (Nat.zero_le _) (fun h => absurd h (by omega)) .nil .nil⟩
 · rw [he.1] at hall
   have each : ∀ i, i < len → ∃ (y : α) (ci : List Value), ci.length = k ∧ Rd w w.heap.size (f y) ci ∧ ∀ q, q < k → w.cell? ((a.add (i * k)).add q) = ci[q]? := by
    intro i hi
    have h1 := hall i hi
    rw [List.getElem?_eq_getElem (by omega), Option.bind_eq_some_iff] at h1
    obtain ⟨ci, h2, h3⟩ := h1
    obtain ⟨hlen, ds, ⟨y, rfl⟩, hr⟩ := he.2 H enc w base spare held n ci _ h3
    exact ⟨y, ci, hlen, hr, (cells_at h2).2⟩
   have gath : ∀ m, m ≤ len → ∃ (l : List α) (us : List Value), l.length = m ∧ us.length = m * k ∧ Rd w w.heap.size (l.flatMap f) us ∧ ∀ i, i < m → ∀ q, q < k → w.cell? ((a.add (i * k)).add q) = us[i * k + q]? := by
    intro m
    induction m with
    | zero => intro _; exact ⟨[], [], rfl, by simp, .nil, fun i hi => absurd hi (by omega)⟩
    | succ m ih =>
     intro hm
     obtain ⟨l, us, h1, h2, h3, h4⟩ := ih (by omega)
     obtain ⟨y, ci, h5, h6, h7⟩ := each m (by omega)
     refine ⟨l ++ [y], us ++ ci, by simp [h1], by rw [List.length_append, h2, h5, Nat.add_mul, Nat.one_mul], ?_, fun i hi q hq => ?_⟩
     · have := h3.append h6
       simpa using this
     · by_cases him : i < m
       · rw [h4 i him q hq, List.getElem?_append_left]
         have : (i + 1) * k ≤ m * k := Nat.mul_le_mul_right k (by omega)
         rw [Nat.add_mul, Nat.one_mul] at this
         omega
       · have : i = m := by omega
         subst this
         rw [h7 q hq, List.getElem?_append_right (by omega), h2, Nat.add_sub_cancel_left]
   obtain ⟨l, us, h1, h2, h3, h4⟩ := gath len (Nat.le_refl _)
   refine ⟨rfl, _, ⟨l, rfl⟩, .row (us := us) (by rw [flatMap_len hk, h1]) hl hm (fun hn => ?_) h3 .nil⟩
   have h5 := h4 0 hn 0 k0
   have hus : 0 * k + 0 < us.length := by rw [h2, Nat.zero_mul]; exact Nat.mul_pos hn k0
   rw [List.getElem?_eq_getElem hus] at h5
   have hs : a.spot = none := by
    have := spot_none h5
    simpa [Addr.add] using this
   refine ⟨a.block, a.off, ?_, ?_, fun j hj => ?_⟩
   · obtain ⟨b, o, s⟩ := a
     simp only at hs
     subst hs
     rfl
   · have := World.block_lt_of_cell? w _ h5
     simpa [Addr.add] using this
   · have hdm : j / k < len := Nat.div_lt_of_lt_mul (by rw [Nat.mul_comm]; exact hj)
     have h6 := h4 (j / k) hdm (j % k) (Nat.mod_lt _ k0)
     rw [add_add _ _ _ hs] at h6
     have e : j / k * k + j % k = j := by rw [Nat.mul_comm]; exact Nat.div_add_mod j k
     rw [e] at h6
     exact h6
theorem opensF_nil (off : Nat) : OpensF P [] off 0 (fun ds => ds = []) := fun H enc w base spare held fuel cs _ _ => ⟨[], rfl, by simp; exact .nil⟩
theorem opensF_cons {f : Field} {fs : List Field} {off k1 k2 : Nat} {S1 S2 : List Dat → Prop} (ho : f.offset = off) (h1 : Opens P f.type k1 S1) (h2 : OpensF P fs (off + k1) k2 S2) :
    OpensF P (f :: fs) off (k1 + k2) (fun ds => ∃ d1 d2, S1 d1 ∧ S2 d2 ∧ ds = d1 ++ d2) := by
 intro H enc w base spare held fuel cs hl hall
 obtain ⟨x, hx⟩ := hall f (by simp)
 rw [h1.1, ho] at hx
 obtain ⟨_, d1, s1, r1⟩ := h1.2 H enc w base spare held fuel _ x hx
 obtain ⟨d2, s2, r2⟩ := h2 H enc w base spare held fuel cs (by omega) (fun g hg => hall g (by simp [hg]))
 refine ⟨d1 ++ d2, ⟨d1, d2, s1, s2, rfl⟩, ?_⟩
 have e : (cs.drop off).take (k1 + k2) = (cs.drop off).take k1 ++ (cs.drop (off + k1)).take k2 := by
  rw [List.take_add, List.drop_drop]
 rw [e]
 exact r1.append r2
theorem opens_struct {fs : Array Field} {k : Nat} {S : List Dat → Prop} (ht : P.underlying t = some (.struct fs)) (hf : OpensF P fs.toList 0 k S) (hc : P.cellsOf t = k) : Opens P t k S := by
 refine ⟨hc, fun H enc w base spare held fuel cs x h => ?_⟩
 obtain ⟨xs, n, _, _, hl, hxl, hall⟩ := DataW.trod_struct ht h
 rw [hc] at hl
 obtain ⟨ds, s, r⟩ := hf H enc w base spare held n cs (by omega) (fun f hm => by
  obtain ⟨i, hi⟩ := List.getElem?_of_mem hm
  have hi' : fs[i]? = some f := by simpa using hi
  have hlt : i < xs.length := by
   rw [hxl]
   exact (Array.getElem?_eq_some_iff.1 hi').1
  exact ⟨xs[i], by rw [hall i f hi', List.getElem?_eq_getElem hlt]⟩)
 rw [List.drop_zero, List.take_of_length_le (by omega)] at r
 exact ⟨hl, ds, s, r⟩
end
end Go.Proofs.Ytljnplalnhiidaa
namespace Go.Proofs.Ytljnplalnhiidaa
set_option maxRecDepth 100000
set_option linter.unusedVariables false
open Go.RowKit Go.ChangeShapes Go.WideShapes Go.ChangeAt
theorem Opens.mono {P : Program} {t : TypeId} {k : Nat} {S S' : List Dat → Prop} (h : Opens P t k S) (hs : ∀ ds, S ds → S' ds) : Opens P t k S' :=
 ⟨h.1, fun H enc w base spare held fuel cs x hx => by
  obtain ⟨hl, ds, s, r⟩ := h.2 H enc w base spare held fuel cs x hx
  exact ⟨hl, ds, hs ds s, r⟩⟩
theorem opens_i64 : Opens Try.prog 2 1 (fun ds => ∃ n : Int, ds = [Dat.int n]) :=
 (opens_int Try.underlying2 (by kernel_rfl)).mono fun _ ⟨n, e, _⟩ => ⟨n, e⟩
theorem opens_row : Opens Try.prog 33 1 (fun ds => ∃ xs : List Int, ds = rowC xs) :=
 opens_slice Try.underlying33 opens_i64 Nat.one_pos (fun _ => rfl) (by kernel_rfl)
theorem array_list {α : Type} {cs : Array α} {n : Nat} (h : cs.size = n) : ∃ l : List α, l.length = n ∧ cs = l.toArray := ⟨cs.toList, by simpa using h, by simp⟩
end Go.Proofs.Ytljnplalnhiidaa
namespace Go.Proofs.Ytljnplalnhiidaa
set_option maxRecDepth 100000
set_option linter.unusedVariables false
open Go.RowKit Go.ChangeShapes Go.WideShapes Go.ChangeAt
theorem opens_mrk : Opens Try.prog 73 3 (fun ds => ∃ x : MarkM, ds = mrkC x) :=
 (opens_struct Try.underlying73 (opensF_cons rfl opens_i64 (opensF_cons rfl opens_i64 (opensF_cons rfl opens_i64 (opensF_nil _)))) (by kernel_rfl)).mono fun _ h => by
  obtain ⟨_, _, ⟨q0, rfl⟩, ⟨_, _, ⟨q1, rfl⟩, ⟨_, _, ⟨q2, rfl⟩, rfl, rfl⟩, rfl⟩, rfl⟩ := h
  exact ⟨⟨q0, q1, q2⟩, rfl⟩
theorem opens_mrks : Opens Try.prog 22 1 (fun ds => ∃ l : List MarkM, ds = [mrkD l]) :=
 opens_slice Try.underlying22 opens_mrk (by decide) mrkC_len (by kernel_rfl)
end Go.Proofs.Ytljnplalnhiidaa
namespace Go.Proofs.Ytljnplalnhiidaa
set_option maxRecDepth 100000
set_option linter.unusedVariables false
open Go.RowKit Go.ChangeShapes Go.WideShapes Go.ChangeAt
theorem opens_headT : Opens Try.prog 24 4 (fun ds => ∃ t : HeadM, ds = t.cells) :=
 (opens_struct Try.underlying24 (opensF_cons rfl opens_i64 (opensF_cons rfl opens_i64 (opensF_cons rfl opens_i64 (opensF_cons rfl opens_mrks (opensF_nil _))))) (by kernel_rfl)).mono fun _ h => by
  obtain ⟨_, _, ⟨q0, rfl⟩, ⟨_, _, ⟨q1, rfl⟩, ⟨_, _, ⟨q2, rfl⟩, ⟨_, _, ⟨q3, rfl⟩, rfl, rfl⟩, rfl⟩, rfl⟩, rfl⟩ := h
  exact ⟨⟨q0, q1, q2, q3⟩, by simp [HeadM.cells]⟩
theorem open_head {H : Type} {enc : TypeId × Value → H} {w : World} {base : Nat} {spare : Nat → Bool} {held : Bool} {r : Reach} {b0 : Nat} {v : Value} {x : DataW H} {p : List MemPlace}
    (hv : Value.okWide Try.prog w r b0 24 v) (h : DataW.Trod enc Try.prog w base spare held 24 v x p) :
    ∃ (x0 : Int) (x1 : Int) (x2 : Int) (A3 : Option Addr) (n3 c3 : Nat) (t : HeadM), v = .agg #[.int .i64 x0, .int .i64 x1, .int .i64 x2, .slice A3 n3 c3] ∧ Rd w w.heap.size t.cells [.int .i64 x0, .int .i64 x1, .int .i64 x2, .slice A3 n3 c3] := by
 obtain ⟨cs, rfl, hsz⟩ := okWide_struct Try.underlying24 hv
 rw [opens_headT.1] at hsz
 obtain ⟨l, hl, rfl⟩ := array_list hsz
 match l, hl with
 | [z0, z1, z2, z3], _ =>
 obtain ⟨fuel, hf⟩ := h
 obtain ⟨_, _, ⟨t, rfl⟩, hr⟩ := opens_headT.2 H enc w base spare held fuel _ _ hf
 have hr2 : Rd w w.heap.size t.cells [z0, z1, z2, z3] := hr
 obtain ⟨A3, n3, c3, rfl, rfl, rfl, rfl, _⟩ := hr2.headT
 exact ⟨_, _, _, _, _, _, t, rfl, hr2⟩
end Go.Proofs.Ytljnplalnhiidaa
