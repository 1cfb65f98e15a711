/- Parts of my texts: TurnM RecL. -/
import Derived.Test.YtmjifhjhialcbaaT20
namespace Go.Proofs.Ytmjifhjhialcbaa
set_option maxRecDepth 100000
set_option linter.unusedVariables false
open Go.RowKit
theorem keptHead_ok {t : TwoM} (hk : keptB t = true) (h : HeadM) : keptB (keptHeadM t h).1 = true := by
 unfold keptHeadM
 rw [if_pos hk]
 split
 · exact keptB_wrote hk _ _
 · exact hk
theorem one_fall {K : List (List Int)} {J : Nat} {w : List Int} (h : diskOk ⟨K, [((J : Int), w)]⟩ = true) (fs : List Int) :
    ∃ K', fallen ⟨K, [((J : Int), w)]⟩ fs = ⟨K', []⟩ ∧ diskOk ⟨K', []⟩ = true ∧ K'.length = K.length ∧ (∀ I, I < K.length → I ≠ J → K'.getD I [] = K.getD I []) ∧ (J < K.length → K'.getD J [] = K.getD J [] ∨ K'.getD J [] = w ∨ K'.getD J [] = torn w (K.getD J [])) ∧ (fs = [] → K' = K) := by
 have e : fallen ⟨K, [((J : Int), w)]⟩ fs = ⟨fell false (fs.getD 0 0) K ((J : Int), w), []⟩ := by
  unfold fallen
  rw [if_pos h]
  rfl
 have hok := fallen_okT h fs
 rw [e] at hok
 have hJ : ((J : Int)).toNat = J := by omega
 refine ⟨_, e, hok, ?_, ?_, ?_, ?_⟩
 · unfold fell
   split
   · rw [List.length_set]
   · split
     · rw [List.length_set]
     · rfl
 · intro I hI hne
   unfold fell
   split
   · rw [getD_setL hI, if_neg (by show ¬ ((J : Int)).toNat = I; omega)]
   · split
     · rw [getD_setL hI, if_neg (by show ¬ ((J : Int)).toNat = I; omega)]
     · rfl
 · intro hJl
   unfold fell
   split
   · right; left
     rw [getD_setL hJl, if_pos hJ]
   · split
     · right; right
       rw [getD_setL hJl, if_pos hJ]
       show torn w (K.getD ((J : Int)).toNat []) = _
       rw [hJ]
     · left; rfl
 · rintro rfl
   rfl
theorem turn_rows {g : HeadM} (hg : headOkB g = true) (hn : 1 ≤ g.num) {J : Nat} (hJ : J < 2) (hJn : g.num % 2 = (J : Int)) {c r : List Int} (hc : c = zeroRows.getD J [] ∨ c = withSum (headRowM g) ∨ c = torn (withSum (headRowM g)) (zeroRows.getD J [])) (hr : unsummed c = (r, true)) :
    r = headRowM g ∨ (r = headRowM headZ ∧ g.num % 2 = 0) ∨ (rowHeadM r).2 = false := by
 obtain ⟨g1, g2⟩ := headRow_ok hg
 have hz : headOkB headZ = true := by decide
 obtain ⟨z1, z2⟩ := headRow_ok hz
 have hj : J = 0 ∨ J = 1 := by omega
 rcases hc with rfl | rfl | rfl
 · rcases hj with rfl | rfl
   · rw [zero_0] at hr
     exact .inr (.inl ⟨row_of z1 (by omega) hr, by omega⟩)
   · rw [zero_at (by decide) (by decide)] at hr
     obtain ⟨h1, h2⟩ := unsummed_is hr
     simp at h2
 · exact .inl (row_of g1 (by omega) hr)
 · rcases hj with rfl | rfl
   · rw [zero_0] at hr
     obtain ⟨a0, a1, a2⟩ := headRow_at hz
     obtain ⟨b0, _, _⟩ := headRow_at hg
     exact .inr (.inr (torn_no (n := 11) (Or.inr rfl) z2 g2 z1 g1 (by rw [a0, a1, a2]; exact ⟨rfl, rfl⟩) (by rw [a0, b0]; show (0 : Int) ≠ g.num; omega) ⟨0, 0, Or.inl rfl⟩ hr).2)
   · rw [zero_at (by decide) (by decide)] at hr
     obtain ⟨h1, h2⟩ := unsummed_is hr
     refine .inr (.inr ?_)
     rw [rowHead_len]
     intro h9
     rw [h1, List.length_take] at h9
     unfold torn at h9
     rw [List.length_append, List.length_take, List.length_drop, withSum_lenR g1 (by omega), g2] at h9
     simp at h9
theorem turn_zero {g : HeadM} (hg : headOkB g = true) (hn : 1 ≤ g.num) {J : Nat} (hJ : J < 2) : ¬ headRowM g ∈ rights (zeroRows.getD J []) (zeroRows.getD J []) := by
 intro hm
 obtain ⟨g1, g2⟩ := headRow_ok hg
 have hz : headOkB headZ = true := by decide
 obtain ⟨z1, z2⟩ := headRow_ok hz
 have hu : unsummed (zeroRows.getD J []) = (headRowM g, true) := by
  rcases rights_mem hm with h | h <;> exact h
 have hj : J = 0 ∨ J = 1 := by omega
 rcases hj with rfl | rfl
 · rw [zero_0] at hu
   have h1 := row_of z1 (by omega) hu
   obtain ⟨a0, _, _⟩ := headRow_at hz
   obtain ⟨b0, _, _⟩ := headRow_at hg
   rw [h1, a0] at b0
   have : (0 : Int) = g.num := b0
   omega
 · rw [zero_at (by decide) (by decide)] at hu
   obtain ⟨_, h2⟩ := unsummed_is hu
   simp at h2
theorem turn_law {l : List EntM} (hr : RunS l) (hl : l.length = 12) {num : Int} {b1 b2 : Nat} (h0 : 0 ≤ num ∧ num < 4) (h1 : num < (b1 : Int)) (h12 : b1 < b2) (hb2 : b2 ≤ 11) {e g : HeadM} (he9 : e = headOf l num b1) (hg9 : g = headOf l (num + 1) b2) :
    ∃ T1 T2, keptHeadM newKeptM e = (T1, true) ∧ keptHeadM (bothSynced T1) g = (T2, true) ∧ keptB newKeptM = true ∧ keptB T1 = true ∧ keptB (bothSynced T1) = true ∧ keptB T2 = true ∧
     (∀ fs, headInM (bothFallen T2 fs) = (e, true) ∨ headInM (bothFallen T2 fs) = (g, true)) ∧ headInM (bothFallen T2 []) = (e, true) ∧ (∀ fs, headInM (bothFallen (bothSynced T2) fs) = (g, true)) := by
 have he : headOkB e = true := by rw [he9]; exact (headOf_ok hr (by omega) (by omega) (by omega) (by omega)).1
 have hg : headOkB g = true := by rw [hg9]; exact (headOf_ok hr (by omega) (by omega) (by omega) (by omega)).1
 have en : e.num = num := by rw [he9]; rfl
 have gn : g.num = num + 1 := by rw [hg9]; rfl
 obtain ⟨g1, g2⟩ := headRow_ok hg
 obtain ⟨e1, e2⟩ := headRow_ok he
 have we := withSum_ok e1 (by omega)
 have wg := withSum_ok g1 (by omega)
 obtain ⟨n1, n2⟩ := newKept_twin
 obtain ⟨I, hI, hI2⟩ : ∃ I : Nat, e.num % 2 = (I : Int) ∧ I < 2 := ⟨(e.num % 2).toNat, by omega, by omega⟩
 obtain ⟨J, hJ, hJ2⟩ : ∃ J : Nat, g.num % 2 = (J : Int) ∧ J < 2 := ⟨(g.num % 2).toNat, by omega, by omega⟩
 have hne : I ≠ J := by omega
 have hz0 : diskOk ⟨zeroRows, []⟩ = true := (twoOk_iff.1 ((keptB_iff _).1 n2).1).1
 have hzl : zeroRows.length = 22 := ((keptB_iff _).1 n2).2
 have k1 : keptHeadM newKeptM e = (twin ⟨zeroRows, [((I : Int), withSum (headRowM e))]⟩, true) := by
  rw [n1, twin_head n2 he (by show (0 : Nat) < 60; decide), hI]
  rfl
 have hk1 : keptB (twin ⟨zeroRows, [((I : Int), withSum (headRowM e))]⟩) = true := by
  have := keptHead_ok (t := newKeptM) (by rw [n1]; exact n2) e
  rwa [k1] at this
 have s1 : bothSynced (twin ⟨zeroRows, [((I : Int), withSum (headRowM e))]⟩) = twin ⟨zeroRows.set I (withSum (headRowM e)), []⟩ := by
  unfold bothSynced
  rw [if_pos ((keptB_iff _).1 hk1).1]
  show (⟨synced ⟨zeroRows, [((I : Int), withSum (headRowM e))]⟩, synced ⟨zeroRows, [((I : Int), withSum (headRowM e))]⟩⟩ : TwoM) = _
  rw [synced_one hz0 (by omega) we]
  rfl
 have hks := keptB_synced hk1
 have hks2 := hks
 rw [s1] at hks2
 have k2 : keptHeadM (bothSynced (twin ⟨zeroRows, [((I : Int), withSum (headRowM e))]⟩)) g = (twin ⟨zeroRows.set I (withSum (headRowM e)), [((J : Int), withSum (headRowM g))]⟩, true) := by
  rw [s1, twin_head hks2 hg (by show (0 : Nat) < 60; decide), hJ]
  rfl
 have hk2 : keptB (twin ⟨zeroRows.set I (withSum (headRowM e)), [((J : Int), withSum (headRowM g))]⟩) = true := by
  have := keptHead_ok hks g
  rwa [k2] at this
 have hd2 : diskOk ⟨zeroRows.set I (withSum (headRowM e)), [((J : Int), withSum (headRowM g))]⟩ = true := (twoOk_iff.1 ((keptB_iff _).1 hk2).1).1
 have hd1 : diskOk ⟨zeroRows.set I (withSum (headRowM e)), []⟩ = true := (twoOk_iff.1 ((keptB_iff _).1 hks2).1).1
 obtain ⟨K1, hK1⟩ : ∃ K, K = zeroRows.set I (withSum (headRowM e)) := ⟨_, rfl⟩
 have hKl : K1.length = 22 := by rw [hK1, List.length_set, hzl]
 have hKI : K1.getD I [] = withSum (headRowM e) := by rw [hK1, getD_setL (by omega), if_pos rfl]
 have hKJ : K1.getD J [] = zeroRows.getD J [] := by rw [hK1, getD_setL (by omega), if_neg hne]
 have hin : (e.num % 2).toNat = I := by omega
 have hjn : (g.num % 2).toNat = J := by omega
 rw [← hK1] at hd2 hd1
 have found : ∀ Ka Kb : List (List Int), diskOk ⟨Ka, []⟩ = true → diskOk ⟨Kb, []⟩ = true → Ka.length = 22 → Kb.length = 22 → Ka.getD I [] = withSum (headRowM e) → Kb.getD I [] = withSum (headRowM e) →
     (Ka.getD J [] = zeroRows.getD J [] ∨ Ka.getD J [] = withSum (headRowM g) ∨ Ka.getD J [] = torn (withSum (headRowM g)) (zeroRows.getD J [])) → (Kb.getD J [] = zeroRows.getD J [] ∨ Kb.getD J [] = withSum (headRowM g) ∨ Kb.getD J [] = torn (withSum (headRowM g)) (zeroRows.getD J [])) →
     headInM ⟨⟨Ka, []⟩, ⟨Kb, []⟩⟩ = if headRowM g ∈ rights (Ka.getD J []) (Kb.getD J []) then (g, true) else (e, true) := by
  intro Ka Kb da db la lb ea eb ca cb
  have := turn_found (ca := Ka) (cb := Kb) ((keptB_iff _).2 ⟨twoOk_iff.2 ⟨da, db, by show Ka.length = Kb.length; omega⟩, la⟩) he hg (by omega) (by rw [hin]; exact ⟨ea, eb⟩) (by
   rw [hjn]
   intro r hr
   rcases rights_mem hr with h9 | h9
   · exact turn_rows hg (by omega) hJ2 hJ ca h9
   · exact turn_rows hg (by omega) hJ2 hJ cb h9)
  rw [hjn] at this
  exact this
 have hT2 : twin ⟨zeroRows.set I (withSum (headRowM e)), [((J : Int), withSum (headRowM g))]⟩ = twin ⟨K1, [((J : Int), withSum (headRowM g))]⟩ := by rw [hK1]
 have fall : ∀ fs, ∃ Ka Kb, bothFallen (twin ⟨K1, [((J : Int), withSum (headRowM g))]⟩) fs = ⟨⟨Ka, []⟩, ⟨Kb, []⟩⟩ ∧ headInM ⟨⟨Ka, []⟩, ⟨Kb, []⟩⟩ = (if headRowM g ∈ rights (Ka.getD J []) (Kb.getD J []) then (g, true) else (e, true)) ∧ (fs = [] → Ka = K1 ∧ Kb = K1) := by
  intro fs
  obtain ⟨Ka, a1, a2, a3, a4, a5, a6⟩ := one_fall hd2 (second fs 0)
  obtain ⟨Kb, b1, b2, b3, b4, b5, b6⟩ := one_fall hd2 (second fs 1)
  refine ⟨Ka, Kb, ?_, ?_, ?_⟩
  · unfold bothFallen
    rw [if_pos (twin_ok hd2)]
    show (⟨fallen ⟨K1, [((J : Int), withSum (headRowM g))]⟩ (second fs 0), fallen ⟨K1, [((J : Int), withSum (headRowM g))]⟩ (second fs 1)⟩ : TwoM) = _
    rw [a1, b1]
  · have a5 := a5 (by omega)
    have b5 := b5 (by omega)
    rw [hKJ] at a5 b5
    exact found Ka Kb a2 b2 (by omega) (by omega) (by rw [a4 I (by omega) hne, hKI]) (by rw [b4 I (by omega) hne, hKI]) a5 b5
  · rintro rfl
    exact ⟨a6 rfl, b6 rfl⟩
 refine ⟨_, _, k1, k2, by rw [n1]; exact n2, hk1, hks, hk2, ?_, ?_, ?_⟩
 · intro fs
   rw [hT2]
   obtain ⟨Ka, Kb, f1, f2, _⟩ := fall fs
   rw [f1, f2]
   split
   · exact .inr rfl
   · exact .inl rfl
 · rw [hT2]
   obtain ⟨Ka, Kb, f1, f2, f3⟩ := fall []
   obtain ⟨rfl, rfl⟩ := f3 rfl
   rw [f1, f2, hKJ, if_neg (turn_zero hg (by omega) hJ2)]
 · intro fs
   rw [hT2]
   have s2 : bothSynced (twin ⟨K1, [((J : Int), withSum (headRowM g))]⟩) = twin ⟨K1.set J (withSum (headRowM g)), []⟩ := by
    unfold bothSynced
    rw [if_pos (twin_ok hd2)]
    show (⟨synced ⟨K1, [((J : Int), withSum (headRowM g))]⟩, synced ⟨K1, [((J : Int), withSum (headRowM g))]⟩⟩ : TwoM) = _
    rw [synced_one hd1 (by omega) wg]
    rfl
   have hd3 : diskOk ⟨K1.set J (withSum (headRowM g)), []⟩ = true := ok_set hd1 wg
   have f3 : bothFallen (twin ⟨K1.set J (withSum (headRowM g)), []⟩) fs = ⟨⟨K1.set J (withSum (headRowM g)), []⟩, ⟨K1.set J (withSum (headRowM g)), []⟩⟩ := by
    unfold bothFallen
    rw [if_pos (twin_ok hd3)]
    show (⟨fallen ⟨K1.set J (withSum (headRowM g)), []⟩ (second fs 0), fallen ⟨K1.set J (withSum (headRowM g)), []⟩ (second fs 1)⟩ : TwoM) = _
    rw [fallen_safe hd3, fallen_safe hd3]
   have hJ3 : (K1.set J (withSum (headRowM g))).getD J [] = withSum (headRowM g) := by rw [getD_setL (by omega), if_pos rfl]
   have hI3 : (K1.set J (withSum (headRowM g))).getD I [] = withSum (headRowM e) := by rw [getD_setL (by omega), if_neg (by omega), hKI]
   rw [s2, f3, found _ _ hd3 hd3 (by rw [List.length_set, hKl]) (by rw [List.length_set, hKl]) hI3 hI3 (.inr (.inl hJ3)) (.inr (.inl hJ3)), hJ3, rights_one g1 (by omega), if_pos (by simp)]
def CBothFallen (p : Nat) : Prop := ∀ (Aa0 : Option Addr) (na0 ca0 : Nat) (Aa1 : Option Addr) (na1 ca1 : Nat) (Aa2 : Option Addr) (na2 ca2 : Nat) (Aa3 : Option Addr) (na3 ca3 : Nat) (t : TwoM) (E : Option Addr) (o co : Nat) (fs : List Int) (w : World), Rd w w.heap.size t.cells [.slice Aa0 na0 ca0, .slice Aa1 na1 ca1, .slice Aa2 na2 ca2, .slice Aa3 na3 ca3] → t.sz ≤ 1048576 → Rd w w.heap.size (rowCells fs) [.slice E o co] → fs.length ≤ 1048576 → Calls Try.prog p #[.agg #[.slice Aa0 na0 ca0, .slice Aa1 na1 ca1, .slice Aa2 na2 ca2, .slice Aa3 na3 ca3], .slice E o co] w (MadeT w (bothFallen t fs))
end Go.Proofs.Ytmjifhjhialcbaa
