/- Parts of my texts: HeadD4 RecL. -/
import Derived.Test.YtmjifhjhialcbaaGreatL7
namespace Go.Proofs.YtmjifhjhialcbaaGreat
set_option maxRecDepth 100000
set_option linter.unusedVariables false
open Go.RowKit
def CBothSynced (p : Nat) : Prop := ∀ (Aa0 : Option Addr) (na0 ca0 : Nat) (Aa1 : Option Addr) (na1 ca1 : Nat) (Aa2 : Option Addr) (na2 ca2 : Nat) (Aa3 : Option Addr) (na3 ca3 : Nat) (t : TwoM) (w : World), Rd w w.heap.size t.cells [.slice Aa0 na0 ca0, .slice Aa1 na1 ca1, .slice Aa2 na2 ca2, .slice Aa3 na3 ca3] → t.sz ≤ 1048576 → Calls Tryz.prog p #[.agg #[.slice Aa0 na0 ca0, .slice Aa1 na1 ca1, .slice Aa2 na2 ca2, .slice Aa3 na3 ca3]] w (MadeT w (bothSynced t))
def syncAt (s : Int) (t : TwoM) (j : Nat) : TwoM := if (j : Int) = s then bothSynced t else t
def keptTo (t : TwoM) (l : List EntM) (s : Int) : Nat → TwoM
 | 0 => t
 | j + 1 => (keptEntryM (syncAt s (keptTo t l s j) j) (l.getD j ent0)).1
def keptAll (t : TwoM) (l : List EntM) (s : Int) : TwoM := if (l.length : Int) ≤ s then bothSynced (keptTo t l s l.length) else keptTo t l s l.length
theorem keptB_wrote {t : TwoM} (h : keptB t = true) (i : Int) (r : List Int) : keptB (bothWrote t i r).1 = true := by
 obtain ⟨h1, h2⟩ := (keptB_iff t).1 h
 refine (keptB_iff _).2 ⟨bothWrote_ok h1 i r, ?_⟩
 unfold bothWrote
 rw [if_pos h1]
 split
 · show (wrote t.a i (withSum r)).1.kept.length = 22
   rw [wrote_len (twoOk_iff.1 h1).1, h2]
 · exact h2
theorem keptB_synced {t : TwoM} (h : keptB t = true) : keptB (bothSynced t) = true := by
 obtain ⟨h1, h2⟩ := (keptB_iff t).1 h
 refine (keptB_iff _).2 ⟨bothSynced_ok h1, ?_⟩
 unfold bothSynced
 rw [if_pos h1]
 show (synced t.a).kept.length = 22
 rw [synced_lenT (twoOk_iff.1 h1).1, h2]
theorem keptB_entry {t : TwoM} (h : keptB t = true) (e : EntM) : keptB (keptEntryM t e).1 = true := by
 unfold keptEntryM
 rw [if_pos h]
 split
 · exact keptB_wrote h _ _
 · exact h
theorem keptB_sync {t : TwoM} (h : keptB t = true) (s : Int) (j : Nat) : keptB (syncAt s t j) = true := by
 unfold syncAt
 split
 · exact keptB_synced h
 · exact h
theorem keptB_to {t : TwoM} (h : keptB t = true) (l : List EntM) (s : Int) (j : Nat) : keptB (keptTo t l s j) = true := by
 induction j with
 | zero => exact h
 | succ j ih => exact keptB_entry (keptB_sync ih s j) _
theorem keptB_sz {t : TwoM} (h : keptB t = true) : t.sz ≤ 9800 := ok_two_sz ((keptB_iff t).1 h).1
def KeptAt (j : Nat) (w wr : World) (u : TwoM) (vs : List Value) (bx : List Item) : Prop := (j = 0 ∧ Rd w w.heap.size u.cells vs ∧ Sep wr w.heap.size bx) ∨ ∃ fp, Sep wr w.heap.size (.own u.cells vs fp :: bx)
theorem KeptAt.rd {j : Nat} {w wr : World} {u : TwoM} {vs : List Value} {bx : List Item} (h : KeptAt j w wr u vs bx) (c : Below w.heap.size w wr) : Rd wr wr.heap.size u.cells vs := by
 rcases h with ⟨_, h, _⟩ | ⟨_, S⟩
 · exact (h.keep c).up c.size
 · exact (S.own_ 0 rfl).rd
theorem KeptAt.sep {j : Nat} {w wr : World} {u : TwoM} {vs : List Value} {bx : List Item} (h : KeptAt j w wr u vs bx) : Sep wr w.heap.size bx := by
 rcases h with ⟨_, _, S⟩ | ⟨_, S⟩
 · exact S
 · exact S.tail
set_option maxHeartbeats 12800000 in
theorem w9kept_any (HKE : CKeptEntry 47) (HBS : CBothSynced 46) (Aa0 : Option Addr) (na0 ca0 : Nat) (Aa1 : Option Addr) (na1 ca1 : Nat) (Aa2 : Option Addr) (na2 ca2 : Nat) (Aa3 : Option Addr) (na3 ca3 : Nat) (t : TwoM) (A : Option Addr) (n c9 : Nat) (l : List EntM) (s : Int) (w : World) (h : Rd w w.heap.size t.cells [.slice Aa0 na0 ca0, .slice Aa1 na1 ca1, .slice Aa2 na2 ca2, .slice Aa3 na3 ca3]) (hk : keptB t = true) (h2 : Rd w w.heap.size [entD l] [.slice A n c9]) (hn : n ≤ 1000) :
    Calls Tryz.prog 12 #[.agg #[.slice Aa0 na0 ca0, .slice Aa1 na1 ca1, .slice Aa2 na2 ca2, .slice Aa3 na3 ca3], .slice A n c9, .int .i64 s] w fun e w' => ∃ A0 n0 c0 A1 n1 c1 A2 n2 c2 A3 n3 c3, e = .returned (.agg #[.slice A0 n0 c0, .slice A1 n1 c1, .slice A2 n2 c2, .slice A3 n3 c3]) ∧ Rd w' w'.heap.size (keptAll t l s).cells [.slice A0 n0 c0, .slice A1 n1 c1, .slice A2 n2 c2, .slice A3 n3 c3] ∧ (0 < n → Has w' w.heap.size (keptAll t l s).cells [.slice A0 n0 c0, .slice A1 n1 c1, .slice A2 n2 c2, .slice A3 n3 c3]) ∧ Below w.heap.size w w' := by
 have HH := jd h
 obtain ⟨_, _, _, e, hl, _, _, hel⟩ := h2.ents
 injection e with e1 e2 e3
 subst e1 e2 e3
 have HL := jd hl
 have HKT := jd (fun j => keptB_to hk l s j)
 have KE := jd HKE
 have BS := jd HBS
 clear h h2 hl hk HKE HBS
 have S := Sep.nil w w.heap.size
 have c := Below.refl w.heap.size w
 replace S := S.boxAt c.size (w.heap.size) rfl #[.slice Aa0 na0 ca0, .slice Aa1 na1 ca1, .slice Aa2 na2 ca2, .slice Aa3 na3 ca3] 35
 replace c := al c S
 replace S := S.boxAt c.size (w.heap.size + 1) (by simp) #[.slice none 0 0, .slice none 0 0, .slice none 0 0, .slice none 0 0] 35
 replace c := al c S
 go_enter Tryz.func12, Tryz.ntmps12
 have S0 := jd S
 have B0 := jd c
 clear S c
 go_wp2
 go_loopw [7] (fun i wr => ∃ (j : Nat) (Ab0 : Option Addr) (nb0 cb0 : Nat) (Ab1 : Option Addr) (nb1 cb1 : Nat) (Ab2 : Option Addr) (nb2 cb2 : Nat) (Ab3 : Option Addr) (nb3 cb3 : Nat), j ≤ n ∧ i = .int .i64 (j : Int) ∧ KeptAt j w wr (keptTo t l s j) [.slice Ab0 nb0 cb0, .slice Ab1 nb1 cb1, .slice Ab2 nb2 cb2, .slice Ab3 nb3 cb3] [.blk (w.heap.size + 1) #[.slice none 0 0, .slice none 0 0, .slice none 0 0, .slice none 0 0] 35, .blk w.heap.size #[.slice Ab0 nb0 cb0, .slice Ab1 nb1 cb1, .slice Ab2 nb2 cb2, .slice Ab3 nb3 cb3] 35] ∧ Below w.heap.size w wr) (fun i _ => n - (intOf i).toNat)
 case atStart => exact ⟨0, Aa0, na0, ca0, Aa1, na1, ca1, Aa2, na2, ca2, Aa3, na3, ca3, Nat.zero_le _, rfl, Or.inl ⟨rfl, HH.out, S0.out⟩, B0.out⟩
 case round =>
  obtain ⟨j, Ab0, nb0, cb0, Ab1, nb1, cb1, Ab2, nb2, cb2, Ab3, nb3, cb3, hj, rfl, hka, c⟩ := hrel
  clear S0 B0
  by_cases hlt : j < n
  case neg =>
   obtain rfl : j = n := by omega
   clear hel
   by_cases hs9 : (j : Int) ≤ s
   case pos =>
    have d0 : decide (s ≥ (j : Int)) = true := decide_eq_true hs9
    have d1 : decide ((j : Int) ≤ s) = true := decide_eq_true hs9
    have HV := jd (show keptAll t l s = bothSynced (keptTo t l s j) by unfold keptAll; rw [HL.out, if_pos hs9])
    have HR := jd (hka.rd c)
    have S := hka.sep
    have hz := keptB_sz (HKT.out j)
    clear hka hs9
    have f0 := lk S 1 0 rfl rfl
    have f1 := lk S 1 1 rfl rfl
    have f2 := lk S 1 2 rfl rfl
    have f3 := lk S 1 3 rfl rfl
    go_wp2_with fail
    refine (BS.out Ab0 nb0 cb0 Ab1 nb1 cb1 Ab2 nb2 cb2 Ab3 nb3 cb3 (keptTo t l s j) _ HR.out (by omega)).mono ?_
    rintro e w1 ⟨Au0, nu0, cu0, Au1, nu1, cu1, Au2, nu2, cu2, Au3, nu3, cu3, rfl, o, b⟩
    obtain ⟨fp_u, S'⟩ := S.has b o c.size
    replace c := c.trans (b.mono c.size)
    clear S; have S := S'; clear S' o b f0 f1 f2 f3
    have f4 := lk S 2 0 rfl rfl
    have f5 := (S.at_ 2 rfl).free 0
    have f6 := lk S 2 1 rfl rfl
    have f7 := (S.at_ 2 rfl).free 1
    have f8 := lk S 2 2 rfl rfl
    have f9 := (S.at_ 2 rfl).free 2
    have f10 := lk S 2 3 rfl rfl
    have f11 := (S.at_ 2 rfl).free 3
    replace S := S.put 2 rfl 0 (.slice Au0 nu0 cu0)
    replace c := st c S (by omega)
    replace S := S.put 2 rfl 1 (.slice Au1 nu1 cu1)
    replace c := st c S (by omega)
    replace S := S.put 2 rfl 2 (.slice Au2 nu2 cu2)
    replace c := st c S (by omega)
    replace S := S.put 2 rfl 3 (.slice Au3 nu3 cu3)
    replace c := st c S (by omega)
    have f12 := lk S 1 0 rfl rfl
    have f13 := (S.at_ 1 rfl).free 0
    have f14 := lk S 1 1 rfl rfl
    have f15 := (S.at_ 1 rfl).free 1
    have f16 := lk S 1 2 rfl rfl
    have f17 := (S.at_ 1 rfl).free 2
    have f18 := lk S 1 3 rfl rfl
    have f19 := (S.at_ 1 rfl).free 3
    replace S := S.put 1 rfl 0 (.slice Au0 nu0 cu0)
    replace c := st c S (by omega)
    replace S := S.put 1 rfl 1 (.slice Au1 nu1 cu1)
    replace c := st c S (by omega)
    replace S := S.put 1 rfl 2 (.slice Au2 nu2 cu2)
    replace c := st c S (by omega)
    replace S := S.put 1 rfl 3 (.slice Au3 nu3 cu3)
    replace c := st c S (by omega)
    have r0 := jd ((S.at_ 1 rfl).cell 0)
    have r1 := jd ((S.at_ 1 rfl).cell 1)
    have r2 := jd ((S.at_ 1 rfl).cell 2)
    have r3 := jd ((S.at_ 1 rfl).cell 3)
    have CC := jd c
    have RR := jd ((S.own_ 0 rfl).rd)
    have RH := jd S.first
    clear S c
    go_wp2
    exact bodyPost_ret (v := .agg #[.slice Au0 nu0 cu0, .slice Au1 nu1 cu1, .slice Au2 nu2 cu2, .slice Au3 nu3 cu3]) (by simp [results, Tryz.results12, go_sem, r0.out, r1.out, r2.out, r3.out]) rfl ⟨_, _, _, _, _, _, _, _, _, _, _, _, rfl, by rw [HV.out]; exact RR.out, fun _ => by rw [HV.out]; exact RH.out, CC.out⟩
   case neg =>
    have d0 : decide (s ≥ (j : Int)) = false := decide_eq_false hs9
    have d1 : decide ((j : Int) ≤ s) = false := decide_eq_false hs9
    have HV := jd (show keptAll t l s = keptTo t l s j by unfold keptAll; rw [HL.out, if_neg hs9])
    clear hs9
    rcases hka with ⟨hj0, hr0, S⟩ | ⟨fp, S⟩
    · have HJ0 := jd hj0
      clear hj0
      have f0 := lk S 1 0 rfl rfl
      have f1 := lk S 1 1 rfl rfl
      have f2 := lk S 1 2 rfl rfl
      have f3 := lk S 1 3 rfl rfl
      have f4 := lk S 0 0 rfl rfl
      have f5 := (S.at_ 0 rfl).free 0
      have f6 := lk S 0 1 rfl rfl
      have f7 := (S.at_ 0 rfl).free 1
      have f8 := lk S 0 2 rfl rfl
      have f9 := (S.at_ 0 rfl).free 2
      have f10 := lk S 0 3 rfl rfl
      have f11 := (S.at_ 0 rfl).free 3
      replace S := S.put 0 rfl 0 (.slice Ab0 nb0 cb0)
      replace c := st c S (by omega)
      replace S := S.put 0 rfl 1 (.slice Ab1 nb1 cb1)
      replace c := st c S (by omega)
      replace S := S.put 0 rfl 2 (.slice Ab2 nb2 cb2)
      replace c := st c S (by omega)
      replace S := S.put 0 rfl 3 (.slice Ab3 nb3 cb3)
      replace c := st c S (by omega)
      have r0 := jd ((S.at_ 0 rfl).cell 0)
      have r1 := jd ((S.at_ 0 rfl).cell 1)
      have r2 := jd ((S.at_ 0 rfl).cell 2)
      have r3 := jd ((S.at_ 0 rfl).cell 3)
      have CC := jd c
      have RR := jd ((hr0.keep c).up c.size)
      clear S c
      go_wp2
      exact bodyPost_ret (v := .agg #[.slice Ab0 nb0 cb0, .slice Ab1 nb1 cb1, .slice Ab2 nb2 cb2, .slice Ab3 nb3 cb3]) (by simp [results, Tryz.results12, go_sem, r0.out, r1.out, r2.out, r3.out]) rfl ⟨_, _, _, _, _, _, _, _, _, _, _, _, rfl, by rw [HV.out]; exact RR.out, fun h9 => absurd h9 (by have := HJ0.out; omega), CC.out⟩
    · have f0 : wr.cell? ⟨w.heap.size, 0, none⟩ = some (.slice Ab0 nb0 cb0) := (S.at_ 2 rfl).cell 0
      have f1 := lk S 2 1 rfl rfl
      have f2 := lk S 2 2 rfl rfl
      have f3 := lk S 2 3 rfl rfl
      have f4 := lk S 1 0 rfl rfl
      have f5 := (S.at_ 1 rfl).free 0
      have f6 := lk S 1 1 rfl rfl
      have f7 := (S.at_ 1 rfl).free 1
      have f8 := lk S 1 2 rfl rfl
      have f9 := (S.at_ 1 rfl).free 2
      have f10 := lk S 1 3 rfl rfl
      have f11 := (S.at_ 1 rfl).free 3
      replace S := S.put 1 rfl 0 (.slice Ab0 nb0 cb0)
      replace c := st c S (by omega)
      replace S := S.put 1 rfl 1 (.slice Ab1 nb1 cb1)
      replace c := st c S (by omega)
      replace S := S.put 1 rfl 2 (.slice Ab2 nb2 cb2)
      replace c := st c S (by omega)
      replace S := S.put 1 rfl 3 (.slice Ab3 nb3 cb3)
      replace c := st c S (by omega)
      have r0 := jd ((S.at_ 1 rfl).cell 0)
      have r1 := jd ((S.at_ 1 rfl).cell 1)
      have r2 := jd ((S.at_ 1 rfl).cell 2)
      have r3 := jd ((S.at_ 1 rfl).cell 3)
      have CC := jd c
      have RR := jd ((S.own_ 0 rfl).rd)
      have RH := jd S.first
      clear S c
      go_wp2
      exact bodyPost_ret (v := .agg #[.slice Ab0 nb0 cb0, .slice Ab1 nb1 cb1, .slice Ab2 nb2 cb2, .slice Ab3 nb3 cb3]) (by simp [results, Tryz.results12, go_sem, r0.out, r1.out, r2.out, r3.out]) rfl ⟨_, _, _, _, _, _, _, _, _, _, _, _, rfl, by rw [HV.out]; exact RR.out, fun _ => by rw [HV.out]; exact RH.out, CC.out⟩
  case pos =>
   have hjl : j < l.length := by have := HL.out; omega
   obtain ⟨b, off, rfl, hb, hc⟩ := hel (by omega)
   obtain ⟨h0, h1, h2, h3, h4, h5, h6, h7, h8⟩ := hc j hjl
   obtain ⟨x0, hx0⟩ : ∃ y, y = l[j].idx := ⟨_, rfl⟩
   rw [← hx0] at h0
   obtain ⟨x1, hx1⟩ : ∃ y, y = l[j].tm := ⟨_, rfl⟩
   rw [← hx1] at h1
   obtain ⟨x2, hx2⟩ : ∃ y, y = l[j].cl := ⟨_, rfl⟩
   rw [← hx2] at h2
   obtain ⟨x3, hx3⟩ : ∃ y, y = l[j].sq := ⟨_, rfl⟩
   rw [← hx3] at h3
   obtain ⟨x4, hx4⟩ : ∃ y, y = l[j].kd := ⟨_, rfl⟩
   rw [← hx4] at h4
   obtain ⟨x5, hx5⟩ : ∃ y, y = l[j].oa := ⟨_, rfl⟩
   rw [← hx5] at h5
   obtain ⟨x6, hx6⟩ : ∃ y, y = l[j].ob := ⟨_, rfl⟩
   rw [← hx6] at h6
   obtain ⟨x7, hx7⟩ : ∃ y, y = l[j].oc := ⟨_, rfl⟩
   rw [← hx7] at h7
   obtain ⟨x8, hx8⟩ : ∃ y, y = l[j].od := ⟨_, rfl⟩
   rw [← hx8] at h8
   have hmk : l[j] = ⟨x0, x1, x2, x3, x4, x5, x6, x7, x8⟩ := by rw [hx0, hx1, hx2, hx3, hx4, hx5, hx6, hx7, hx8]
   have HN := jd (show keptTo t l s (j + 1) = (keptEntryM (syncAt s (keptTo t l s j) j) ⟨x0, x1, x2, x3, x4, x5, x6, x7, x8⟩).1 by show (keptEntryM (syncAt s (keptTo t l s j) j) (l.getD j ent0)).1 = _; rw [egetD hjl, hmk])
   have HR := jd (hka.rd c)
   have S := hka.sep
   have hz := keptB_sz (keptB_sync (HKT.out j) s j)
   have hz0 := keptB_sz (HKT.out j)
   have j0 : (0 : Int) ≤ (j : Int) := by omega
   have j1 : (j : Int) < (n : Int) := by omega
   clear hka hmk hc hel hjl hx0 hx1 hx2 hx3 hx4 hx5 hx6 hx7 hx8
   by_cases hq : (j : Int) = s
   case pos =>
    have hsy : syncAt s (keptTo t l s j) j = bothSynced (keptTo t l s j) := if_pos hq
    rw [hsy] at hz HN
    have HNN := HN
    clear HN hsy
    have e1 : ((j : Int) == s) = true := by simpa using hq
    clear hq
    have f0 := lk S 1 0 rfl rfl
    have f1 := lk S 1 1 rfl rfl
    have f2 := lk S 1 2 rfl rfl
    have f3 := lk S 1 3 rfl rfl
    go_wp2_with fail
    refine (BS.out Ab0 nb0 cb0 Ab1 nb1 cb1 Ab2 nb2 cb2 Ab3 nb3 cb3 (keptTo t l s j) _ HR.out (by omega)).mono ?_
    rintro e w1 ⟨Au0, nu0, cu0, Au1, nu1, cu1, Au2, nu2, cu2, Au3, nu3, cu3, rfl, o, b9⟩
    obtain ⟨fp_u, S'⟩ := S.has b9 o c.size
    replace c := c.trans (b9.mono c.size)
    clear S; have S := S'; clear S' o b9 f0 f1 f2 f3
    have f4 := lk S 2 0 rfl rfl
    have f5 := (S.at_ 2 rfl).free 0
    have f6 := lk S 2 1 rfl rfl
    have f7 := (S.at_ 2 rfl).free 1
    have f8 := lk S 2 2 rfl rfl
    have f9 := (S.at_ 2 rfl).free 2
    have f10 := lk S 2 3 rfl rfl
    have f11 := (S.at_ 2 rfl).free 3
    replace S := S.put 2 rfl 0 (.slice Au0 nu0 cu0)
    replace c := st c S (by omega)
    replace S := S.put 2 rfl 1 (.slice Au1 nu1 cu1)
    replace c := st c S (by omega)
    replace S := S.put 2 rfl 2 (.slice Au2 nu2 cu2)
    replace c := st c S (by omega)
    replace S := S.put 2 rfl 3 (.slice Au3 nu3 cu3)
    replace c := st c S (by omega)
    skip
    go_wp2_with fail
    generalize (((w1.setCell ⟨w.heap.size, 0, none⟩ (.slice Au0 nu0 cu0)).setCell ⟨w.heap.size, 1, none⟩ (.slice Au1 nu1 cu1)).setCell ⟨w.heap.size, 2, none⟩ (.slice Au2 nu2 cu2)).setCell ⟨w.heap.size, 3, none⟩ (.slice Au3 nu3 cu3) = w2 at *
    clear f4 f5 f6 f7 f8 f9 f10 f11
    go_wp2_with fail
    refine wp_region_L (fun v => v.cell? ⟨w.heap.size, 0, none⟩ = some (.slice Au0 nu0 cu0) ∧ v.cell? ⟨w.heap.size, 1, none⟩ = some (.slice Au1 nu1 cu1) ∧ v.cell? ⟨w.heap.size, 2, none⟩ = some (.slice Au2 nu2 cu2) ∧ v.cell? ⟨w.heap.size, 3, none⟩ = some (.slice Au3 nu3 cu3) ∧ v.cell? ⟨b, off + j * 9, none⟩ = some (.int .i64 x0) ∧ v.cell? ⟨b, off + j * 9 + 1, none⟩ = some (.int .i64 x1) ∧ v.cell? ⟨b, off + j * 9 + 2, none⟩ = some (.int .i64 x2) ∧ v.cell? ⟨b, off + j * 9 + 3, none⟩ = some (.int .i64 x3) ∧ v.cell? ⟨b, off + j * 9 + 4, none⟩ = some (.int .i64 x4) ∧ v.cell? ⟨b, off + j * 9 + 5, none⟩ = some (.int .i64 x5) ∧ v.cell? ⟨b, off + j * 9 + 6, none⟩ = some (.int .i64 x6) ∧ v.cell? ⟨b, off + j * 9 + 7, none⟩ = some (.int .i64 x7) ∧ v.cell? ⟨b, off + j * 9 + 8, none⟩ = some (.int .i64 x8)) 9 (by kernel_rfl) ?_
    replace S := S.keep ((Below.refl _ _).drew)
    replace c := c.drew
    generalize w2.drew = w3 at *
    have HF : w3.cell? ⟨w.heap.size, 0, none⟩ = some (.slice Au0 nu0 cu0) ∧ w3.cell? ⟨w.heap.size, 1, none⟩ = some (.slice Au1 nu1 cu1) ∧ w3.cell? ⟨w.heap.size, 2, none⟩ = some (.slice Au2 nu2 cu2) ∧ w3.cell? ⟨w.heap.size, 3, none⟩ = some (.slice Au3 nu3 cu3) ∧ w3.cell? ⟨b, off + j * 9, none⟩ = some (.int .i64 x0) ∧ w3.cell? ⟨b, off + j * 9 + 1, none⟩ = some (.int .i64 x1) ∧ w3.cell? ⟨b, off + j * 9 + 2, none⟩ = some (.int .i64 x2) ∧ w3.cell? ⟨b, off + j * 9 + 3, none⟩ = some (.int .i64 x3) ∧ w3.cell? ⟨b, off + j * 9 + 4, none⟩ = some (.int .i64 x4) ∧ w3.cell? ⟨b, off + j * 9 + 5, none⟩ = some (.int .i64 x5) ∧ w3.cell? ⟨b, off + j * 9 + 6, none⟩ = some (.int .i64 x6) ∧ w3.cell? ⟨b, off + j * 9 + 7, none⟩ = some (.int .i64 x7) ∧ w3.cell? ⟨b, off + j * 9 + 8, none⟩ = some (.int .i64 x8) := ⟨(S.at_ 2 rfl).cell 0, (S.at_ 2 rfl).cell 1, (S.at_ 2 rfl).cell 2, (S.at_ 2 rfl).cell 3, cu0z c h0 (show b < _ by omega), cu0z c h1 (show b < _ by omega), cu0z c h2 (show b < _ by omega), cu0z c h3 (show b < _ by omega), cu0z c h4 (show b < _ by omega), cu0z c h5 (show b < _ by omega), cu0z c h6 (show b < _ by omega), cu0z c h7 (show b < _ by omega), cu0z c h8 (show b < _ by omega)⟩
    refine tk 0 (v := ?_) rfl rfl HF (.inl ⟨by rfl, ?_⟩) ?_
    rotate_left 1
    · (rintro v ⟨a0, a1, a2, a3, a4, a5, a6, a7, a8, a9, a10, a11, a12⟩; go_simp; try with_reducible rfl)
    try simp only [Act.put]
    refine tk 1 (v := ?_) rfl rfl HF (.inl ⟨by rfl, ?_⟩) ?_
    rotate_left 1
    · (rintro v ⟨a0, a1, a2, a3, a4, a5, a6, a7, a8, a9, a10, a11, a12⟩; go_simp; try with_reducible rfl)
    try simp only [Act.put]
    refine tk 2 (v := ?_) rfl rfl HF (.inl ⟨by rfl, ?_⟩) ?_
    rotate_left 1
    · (rintro v ⟨a0, a1, a2, a3, a4, a5, a6, a7, a8, a9, a10, a11, a12⟩; go_simp; try with_reducible rfl)
    try simp only [Act.put]
    refine tk 3 (v := ?_) rfl rfl HF (.inl ⟨by rfl, ?_⟩) ?_
    rotate_left 1
    · (rintro v ⟨a0, a1, a2, a3, a4, a5, a6, a7, a8, a9, a10, a11, a12⟩; go_simp; try with_reducible rfl)
    try simp only [Act.put]
    refine tk 4 (v := ?_) rfl rfl HF (.inl ⟨by rfl, ?_⟩) ?_
    rotate_left 1
    · (rintro v ⟨a0, a1, a2, a3, a4, a5, a6, a7, a8, a9, a10, a11, a12⟩; go_simp; try with_reducible rfl)
    try simp only [Act.put]
    refine wpAnyL_step (i := 5) (by kernel_rfl) rfl rfl ?_
    intro K hK
    go_simp
    refine (KE.out Au0 nu0 cu0 Au1 nu1 cu1 Au2 nu2 cu2 Au3 nu3 cu3 (bothSynced (keptTo t l s j)) x0 x1 x2 x3 x4 x5 x6 x7 x8 _ (S.own_ 0 rfl).rd (by omega)).mono ?_
    rintro e w4 ⟨Az0, nz0, cz0, Az1, nz1, cz1, Az2, nz2, cz2, Az3, nz3, cz3, rfl, o, b9⟩
    obtain ⟨fp_z, S'⟩ := S.has b9 o c.size
    replace c := c.trans (b9.mono c.size)
    clear S; have S := S'; clear S' o b9
    rw [← HNN.out] at S
    clear HF
    have HF : w4.cell? ⟨w.heap.size, 0, none⟩ = some (.slice Au0 nu0 cu0) ∧ w4.cell? ⟨w.heap.size, 1, none⟩ = some (.slice Au1 nu1 cu1) ∧ w4.cell? ⟨w.heap.size, 2, none⟩ = some (.slice Au2 nu2 cu2) ∧ w4.cell? ⟨w.heap.size, 3, none⟩ = some (.slice Au3 nu3 cu3) ∧ w4.cell? ⟨b, off + j * 9, none⟩ = some (.int .i64 x0) ∧ w4.cell? ⟨b, off + j * 9 + 1, none⟩ = some (.int .i64 x1) ∧ w4.cell? ⟨b, off + j * 9 + 2, none⟩ = some (.int .i64 x2) ∧ w4.cell? ⟨b, off + j * 9 + 3, none⟩ = some (.int .i64 x3) ∧ w4.cell? ⟨b, off + j * 9 + 4, none⟩ = some (.int .i64 x4) ∧ w4.cell? ⟨b, off + j * 9 + 5, none⟩ = some (.int .i64 x5) ∧ w4.cell? ⟨b, off + j * 9 + 6, none⟩ = some (.int .i64 x6) ∧ w4.cell? ⟨b, off + j * 9 + 7, none⟩ = some (.int .i64 x7) ∧ w4.cell? ⟨b, off + j * 9 + 8, none⟩ = some (.int .i64 x8) := ⟨(S.at_ 3 rfl).cell 0, (S.at_ 3 rfl).cell 1, (S.at_ 3 rfl).cell 2, (S.at_ 3 rfl).cell 3, cu0z c h0 (show b < _ by omega), cu0z c h1 (show b < _ by omega), cu0z c h2 (show b < _ by omega), cu0z c h3 (show b < _ by omega), cu0z c h4 (show b < _ by omega), cu0z c h5 (show b < _ by omega), cu0z c h6 (show b < _ by omega), cu0z c h7 (show b < _ by omega), cu0z c h8 (show b < _ by omega)⟩
    refine hK _ _ (fun _ => HF) ?_
    clear hK K
    try simp only [Act.put]
    refine wpAnyL_pure (i := 6) (v := ?_) rfl rfl (by kernel_rfl) (by kernel_rfl) (by kernel_rfl) (fun _ _ _ h => h) HF (Or.inl ⟨by rfl, ?_⟩) ?_
    rotate_left 1
    · (intro v _; go_simp; try with_reducible rfl)
    try simp only [Act.put]
    refine wpAnyL_pure (i := 7) (v := ?_) rfl rfl (by kernel_rfl) (by kernel_rfl) (by kernel_rfl) (fun _ _ _ h => h) HF (Or.inl ⟨by rfl, ?_⟩) ?_
    rotate_left 1
    · (intro v _; go_simp; try with_reducible rfl)
    try simp only [Act.put]
    refine wpAnyL_pure (i := 8) (v := ?_) rfl rfl (by kernel_rfl) (by kernel_rfl) (by kernel_rfl) (fun _ _ _ h => h) HF (Or.inl ⟨by rfl, ?_⟩) ?_
    rotate_left 1
    · (intro v _; go_simp; try with_reducible rfl)
    try simp only [Act.put]
    have f12 := lk S 3 0 rfl rfl
    have f13 := (S.at_ 3 rfl).free 0
    have f14 := lk S 3 1 rfl rfl
    have f15 := (S.at_ 3 rfl).free 1
    have f16 := lk S 3 2 rfl rfl
    have f17 := (S.at_ 3 rfl).free 2
    have f18 := lk S 3 3 rfl rfl
    have f19 := (S.at_ 3 rfl).free 3
    refine wpAnyL_step (i := 9) (by kernel_rfl) rfl rfl ?_
    intro K hK
    go_simp
    refine hK _ _ (fun h => nomatch (show true = false from h)) ?_
    clear hK K
    try simp only [Act.put]
    refine wpAnyL_done (by kernel_rfl) ?_ _
    replace S := S.put 3 rfl 0 (.slice Az0 nz0 cz0)
    replace c := st c S (by omega)
    replace S := S.put 3 rfl 1 (.slice Az1 nz1 cz1)
    replace c := st c S (by omega)
    replace S := S.put 3 rfl 2 (.slice Az2 nz2 cz2)
    replace c := st c S (by omega)
    replace S := S.put 3 rfl 3 (.slice Az3 nz3 cz3)
    replace c := st c S (by omega)
    clear HF
    generalize (((w4.setCell ⟨w.heap.size, 0, none⟩ (.slice Az0 nz0 cz0)).setCell ⟨w.heap.size, 1, none⟩ (.slice Az1 nz1 cz1)).setCell ⟨w.heap.size, 2, none⟩ (.slice Az2 nz2 cz2)).setCell ⟨w.heap.size, 3, none⟩ (.slice Az3 nz3 cz3) = w5 at *
    clear f12 f13 f14 f15 f16 f17 f18 f19
    replace S := S.sub (.cons_cons _ (.cons _ (.cons_cons _ (.cons_cons _ (List.nil_sublist _)))))
    have SS := jd S
    have CC := jd c
    clear S c h0 h1 h2 h3 h4 h5 h6 h7 h8
    go_wp2
    go_roundw
    case rel => exact ⟨j + 1, Az0, nz0, cz0, Az1, nz1, cz1, Az2, nz2, cz2, Az3, nz3, cz3, by omega, by go_num, Or.inr ⟨_, SS.out⟩, CC.out⟩
    case measure => simp [intOf] <;> omega
   case neg =>
    have hsy : syncAt s (keptTo t l s j) j = keptTo t l s j := if_neg hq
    rw [hsy] at hz HN
    have HNN := HN
    clear HN hsy
    have e1 : ((j : Int) == s) = false := by simpa using hq
    clear hq
    have HRD := jd (show Rd wr.drew wr.drew.heap.size (keptTo t l s j).cells [.slice Ab0 nb0 cb0, .slice Ab1 nb1 cb1, .slice Ab2 nb2 cb2, .slice Ab3 nb3 cb3] from HR.out.keep ((Below.refl _ _).drew))
    go_wp2_with fail
    refine wp_region_L (fun v => v.cell? ⟨w.heap.size, 0, none⟩ = some (.slice Ab0 nb0 cb0) ∧ v.cell? ⟨w.heap.size, 1, none⟩ = some (.slice Ab1 nb1 cb1) ∧ v.cell? ⟨w.heap.size, 2, none⟩ = some (.slice Ab2 nb2 cb2) ∧ v.cell? ⟨w.heap.size, 3, none⟩ = some (.slice Ab3 nb3 cb3) ∧ v.cell? ⟨b, off + j * 9, none⟩ = some (.int .i64 x0) ∧ v.cell? ⟨b, off + j * 9 + 1, none⟩ = some (.int .i64 x1) ∧ v.cell? ⟨b, off + j * 9 + 2, none⟩ = some (.int .i64 x2) ∧ v.cell? ⟨b, off + j * 9 + 3, none⟩ = some (.int .i64 x3) ∧ v.cell? ⟨b, off + j * 9 + 4, none⟩ = some (.int .i64 x4) ∧ v.cell? ⟨b, off + j * 9 + 5, none⟩ = some (.int .i64 x5) ∧ v.cell? ⟨b, off + j * 9 + 6, none⟩ = some (.int .i64 x6) ∧ v.cell? ⟨b, off + j * 9 + 7, none⟩ = some (.int .i64 x7) ∧ v.cell? ⟨b, off + j * 9 + 8, none⟩ = some (.int .i64 x8)) 9 (by kernel_rfl) ?_
    replace S := S.keep ((Below.refl _ _).drew)
    replace c := c.drew
    generalize wr.drew = w1 at *
    have HF : w1.cell? ⟨w.heap.size, 0, none⟩ = some (.slice Ab0 nb0 cb0) ∧ w1.cell? ⟨w.heap.size, 1, none⟩ = some (.slice Ab1 nb1 cb1) ∧ w1.cell? ⟨w.heap.size, 2, none⟩ = some (.slice Ab2 nb2 cb2) ∧ w1.cell? ⟨w.heap.size, 3, none⟩ = some (.slice Ab3 nb3 cb3) ∧ w1.cell? ⟨b, off + j * 9, none⟩ = some (.int .i64 x0) ∧ w1.cell? ⟨b, off + j * 9 + 1, none⟩ = some (.int .i64 x1) ∧ w1.cell? ⟨b, off + j * 9 + 2, none⟩ = some (.int .i64 x2) ∧ w1.cell? ⟨b, off + j * 9 + 3, none⟩ = some (.int .i64 x3) ∧ w1.cell? ⟨b, off + j * 9 + 4, none⟩ = some (.int .i64 x4) ∧ w1.cell? ⟨b, off + j * 9 + 5, none⟩ = some (.int .i64 x5) ∧ w1.cell? ⟨b, off + j * 9 + 6, none⟩ = some (.int .i64 x6) ∧ w1.cell? ⟨b, off + j * 9 + 7, none⟩ = some (.int .i64 x7) ∧ w1.cell? ⟨b, off + j * 9 + 8, none⟩ = some (.int .i64 x8) := ⟨(S.at_ 1 rfl).cell 0, (S.at_ 1 rfl).cell 1, (S.at_ 1 rfl).cell 2, (S.at_ 1 rfl).cell 3, cu0z c h0 (show b < _ by omega), cu0z c h1 (show b < _ by omega), cu0z c h2 (show b < _ by omega), cu0z c h3 (show b < _ by omega), cu0z c h4 (show b < _ by omega), cu0z c h5 (show b < _ by omega), cu0z c h6 (show b < _ by omega), cu0z c h7 (show b < _ by omega), cu0z c h8 (show b < _ by omega)⟩
    refine tk 0 (v := ?_) rfl rfl HF (.inl ⟨by rfl, ?_⟩) ?_
    rotate_left 1
    · (rintro v ⟨a0, a1, a2, a3, a4, a5, a6, a7, a8, a9, a10, a11, a12⟩; go_simp; try with_reducible rfl)
    try simp only [Act.put]
    refine tk 1 (v := ?_) rfl rfl HF (.inl ⟨by rfl, ?_⟩) ?_
    rotate_left 1
    · (rintro v ⟨a0, a1, a2, a3, a4, a5, a6, a7, a8, a9, a10, a11, a12⟩; go_simp; try with_reducible rfl)
    try simp only [Act.put]
    refine tk 2 (v := ?_) rfl rfl HF (.inl ⟨by rfl, ?_⟩) ?_
    rotate_left 1
    · (rintro v ⟨a0, a1, a2, a3, a4, a5, a6, a7, a8, a9, a10, a11, a12⟩; go_simp; try with_reducible rfl)
    try simp only [Act.put]
    refine tk 3 (v := ?_) rfl rfl HF (.inl ⟨by rfl, ?_⟩) ?_
    rotate_left 1
    · (rintro v ⟨a0, a1, a2, a3, a4, a5, a6, a7, a8, a9, a10, a11, a12⟩; go_simp; try with_reducible rfl)
    try simp only [Act.put]
    refine tk 4 (v := ?_) rfl rfl HF (.inl ⟨by rfl, ?_⟩) ?_
    rotate_left 1
    · (rintro v ⟨a0, a1, a2, a3, a4, a5, a6, a7, a8, a9, a10, a11, a12⟩; go_simp; try with_reducible rfl)
    try simp only [Act.put]
    refine wpAnyL_step (i := 5) (by kernel_rfl) rfl rfl ?_
    intro K hK
    go_simp
    refine (KE.out Ab0 nb0 cb0 Ab1 nb1 cb1 Ab2 nb2 cb2 Ab3 nb3 cb3 (keptTo t l s j) x0 x1 x2 x3 x4 x5 x6 x7 x8 _ HRD.out (by omega)).mono ?_
    rintro e w2 ⟨Az0, nz0, cz0, Az1, nz1, cz1, Az2, nz2, cz2, Az3, nz3, cz3, rfl, o, b9⟩
    obtain ⟨fp_z, S'⟩ := S.has b9 o c.size
    replace c := c.trans (b9.mono c.size)
    clear S; have S := S'; clear S' o b9
    rw [← HNN.out] at S
    clear HF
    have HF : w2.cell? ⟨w.heap.size, 0, none⟩ = some (.slice Ab0 nb0 cb0) ∧ w2.cell? ⟨w.heap.size, 1, none⟩ = some (.slice Ab1 nb1 cb1) ∧ w2.cell? ⟨w.heap.size, 2, none⟩ = some (.slice Ab2 nb2 cb2) ∧ w2.cell? ⟨w.heap.size, 3, none⟩ = some (.slice Ab3 nb3 cb3) ∧ w2.cell? ⟨b, off + j * 9, none⟩ = some (.int .i64 x0) ∧ w2.cell? ⟨b, off + j * 9 + 1, none⟩ = some (.int .i64 x1) ∧ w2.cell? ⟨b, off + j * 9 + 2, none⟩ = some (.int .i64 x2) ∧ w2.cell? ⟨b, off + j * 9 + 3, none⟩ = some (.int .i64 x3) ∧ w2.cell? ⟨b, off + j * 9 + 4, none⟩ = some (.int .i64 x4) ∧ w2.cell? ⟨b, off + j * 9 + 5, none⟩ = some (.int .i64 x5) ∧ w2.cell? ⟨b, off + j * 9 + 6, none⟩ = some (.int .i64 x6) ∧ w2.cell? ⟨b, off + j * 9 + 7, none⟩ = some (.int .i64 x7) ∧ w2.cell? ⟨b, off + j * 9 + 8, none⟩ = some (.int .i64 x8) := ⟨(S.at_ 2 rfl).cell 0, (S.at_ 2 rfl).cell 1, (S.at_ 2 rfl).cell 2, (S.at_ 2 rfl).cell 3, cu0z c h0 (show b < _ by omega), cu0z c h1 (show b < _ by omega), cu0z c h2 (show b < _ by omega), cu0z c h3 (show b < _ by omega), cu0z c h4 (show b < _ by omega), cu0z c h5 (show b < _ by omega), cu0z c h6 (show b < _ by omega), cu0z c h7 (show b < _ by omega), cu0z c h8 (show b < _ by omega)⟩
    refine hK _ _ (fun _ => HF) ?_
    clear hK K
    try simp only [Act.put]
    refine wpAnyL_pure (i := 6) (v := ?_) rfl rfl (by kernel_rfl) (by kernel_rfl) (by kernel_rfl) (fun _ _ _ h => h) HF (Or.inl ⟨by rfl, ?_⟩) ?_
    rotate_left 1
    · (intro v _; go_simp; try with_reducible rfl)
    try simp only [Act.put]
    refine wpAnyL_pure (i := 7) (v := ?_) rfl rfl (by kernel_rfl) (by kernel_rfl) (by kernel_rfl) (fun _ _ _ h => h) HF (Or.inl ⟨by rfl, ?_⟩) ?_
    rotate_left 1
    · (intro v _; go_simp; try with_reducible rfl)
    try simp only [Act.put]
    refine wpAnyL_pure (i := 8) (v := ?_) rfl rfl (by kernel_rfl) (by kernel_rfl) (by kernel_rfl) (fun _ _ _ h => h) HF (Or.inl ⟨by rfl, ?_⟩) ?_
    rotate_left 1
    · (intro v _; go_simp; try with_reducible rfl)
    try simp only [Act.put]
    have f0 := lk S 2 0 rfl rfl
    have f1 := (S.at_ 2 rfl).free 0
    have f2 := lk S 2 1 rfl rfl
    have f3 := (S.at_ 2 rfl).free 1
    have f4 := lk S 2 2 rfl rfl
    have f5 := (S.at_ 2 rfl).free 2
    have f6 := lk S 2 3 rfl rfl
    have f7 := (S.at_ 2 rfl).free 3
    refine wpAnyL_step (i := 9) (by kernel_rfl) rfl rfl ?_
    intro K hK
    go_simp
    refine hK _ _ (fun h => nomatch (show true = false from h)) ?_
    clear hK K
    try simp only [Act.put]
    refine wpAnyL_done (by kernel_rfl) ?_ _
    replace S := S.put 2 rfl 0 (.slice Az0 nz0 cz0)
    replace c := st c S (by omega)
    replace S := S.put 2 rfl 1 (.slice Az1 nz1 cz1)
    replace c := st c S (by omega)
    replace S := S.put 2 rfl 2 (.slice Az2 nz2 cz2)
    replace c := st c S (by omega)
    replace S := S.put 2 rfl 3 (.slice Az3 nz3 cz3)
    replace c := st c S (by omega)
    clear HF
    generalize (((w2.setCell ⟨w.heap.size, 0, none⟩ (.slice Az0 nz0 cz0)).setCell ⟨w.heap.size, 1, none⟩ (.slice Az1 nz1 cz1)).setCell ⟨w.heap.size, 2, none⟩ (.slice Az2 nz2 cz2)).setCell ⟨w.heap.size, 3, none⟩ (.slice Az3 nz3 cz3) = w3 at *
    clear f0 f1 f2 f3 f4 f5 f6 f7
    replace S := S.sub (.cons_cons _ (.cons_cons _ (.cons_cons _ (List.nil_sublist _))))
    have SS := jd S
    have CC := jd c
    clear S c h0 h1 h2 h3 h4 h5 h6 h7 h8
    go_wp2
    go_roundw
    case rel => exact ⟨j + 1, Az0, nz0, cz0, Az1, nz1, cz1, Az2, nz2, cz2, Az3, nz3, cz3, by omega, by go_num, Or.inr ⟨_, SS.out⟩, CC.out⟩
    case measure => simp [intOf] <;> omega
def CBothFallen (p : Nat) : Prop := ∀ (Aa0 : Option Addr) (na0 ca0 : Nat) (Aa1 : Option Addr) (na1 ca1 : Nat) (Aa2 : Option Addr) (na2 ca2 : Nat) (Aa3 : Option Addr) (na3 ca3 : Nat) (t : TwoM) (E : Option Addr) (o co : Nat) (fs : List Int) (w : World), Rd w w.heap.size t.cells [.slice Aa0 na0 ca0, .slice Aa1 na1 ca1, .slice Aa2 na2 ca2, .slice Aa3 na3 ca3] → t.sz ≤ 1048576 → Rd w w.heap.size (rowCells fs) [.slice E o co] → fs.length ≤ 1048576 → Calls Tryz.prog p #[.agg #[.slice Aa0 na0 ca0, .slice Aa1 na1 ca1, .slice Aa2 na2 ca2, .slice Aa3 na3 ca3], .slice E o co] w (MadeT w (bothFallen t fs))
def CRotted (p : Nat) : Prop := ∀ (A : Option Addr) (n c : Nat) (A' : Option Addr) (n' c' : Nat) (d : DiskM) (at_ i x : Int) (w : World), Rd w w.heap.size d.cells [.slice A n c, .slice A' n' c'] → d.sz ≤ 1048576 → Calls Tryz.prog p #[.agg #[.slice A n c, .slice A' n' c'], .int .i64 at_, .int .i64 i, .int .i64 x] w (fun e w' => ∃ (B1 : Option Addr) (b1 b2 : Nat) (B2 : Option Addr) (b3 b4 : Nat), e = .returned (.tuple #[.agg #[.slice B1 b1 b2, .slice B2 b3 b4], .bool (rotted d at_ i x).2]) ∧ Has w' w.heap.size (rotted d at_ i x).1.cells [.slice B1 b1 b2, .slice B2 b3 b4] ∧ Below w.heap.size w w')
def CEqualIn (p : Nat) : Prop := ∀ (Aa0 : Option Addr) (na0 ca0 : Nat) (Aa1 : Option Addr) (na1 ca1 : Nat) (Aa2 : Option Addr) (na2 ca2 : Nat) (Aa3 : Option Addr) (na3 ca3 : Nat) (t : TwoM) (w : World), Rd w w.heap.size t.cells [.slice Aa0 na0 ca0, .slice Aa1 na1 ca1, .slice Aa2 na2 ca2, .slice Aa3 na3 ca3] → t.sz ≤ 1048576 → Calls Tryz.prog p #[.agg #[.slice Aa0 na0 ca0, .slice Aa1 na1 ca1, .slice Aa2 na2 ca2, .slice Aa3 na3 ca3]] w (fun e w' => e = .returned (.bool (equalIn t)) ∧ Below w.heap.size w w')
theorem MadeR1.parts {w w' : World} {R : RecM} {e : Ending} (h : MadeR1 w R e w') : ∃ (A0 : Option Addr) (n0 c0 : Nat) (A1 : Option Addr) (n1 c1 : Nat) (A2 : Option Addr) (n2 c2 : Nat) (A3 : Option Addr) (n3 c3 : Nat) (A4 : Option Addr) (n4 c4 : Nat) (A5 : Option Addr) (n5 c5 : Nat),
    e = .returned (.tuple #[.agg #[.slice A0 n0 c0, .slice A1 n1 c1, .slice A2 n2 c2, .slice A3 n3 c3], .agg #[.int .i64 R.head.num, .int .i64 R.head.base, .int .i64 R.head.tm, .slice A4 n4 c4], .agg #[.int .i64 R.book.base, .int .i64 R.book.tm, .slice A5 n5 c5], .bool R.ok]) ∧
    Rd w' w'.heap.size R.two.cells [.slice A0 n0 c0, .slice A1 n1 c1, .slice A2 n2 c2, .slice A3 n3 c3] ∧ Rd w' w'.heap.size [mrkD R.head.seen] [.slice A4 n4 c4] ∧ Rd w' w'.heap.size [entD R.book.ents] [.slice A5 n5 c5] ∧ Below w.heap.size w w' := by
 obtain ⟨A0, n0, c0, A1, n1, c1, A2, n2, c2, A3, n3, c3, x0, x1, x2, A4, n4, c4, y0, y1, A5, n5, c5, rfl, ⟨fp, o, _, _⟩, b⟩ := h
 have hr : Rd w' w'.heap.size (R.two.cells ++ (R.head.cells ++ R.book.cells)) [.slice A0 n0 c0, .slice A1 n1 c1, .slice A2 n2 c2, .slice A3 n3 c3, .int .i64 x0, .int .i64 x1, .int .i64 x2, .slice A4 n4 c4, .int .i64 y0, .int .i64 y1, .slice A5 n5 c5] := o.rd
 obtain ⟨r1, r2⟩ := Rd.cut (vs := [.slice A0 n0 c0, .slice A1 n1 c1, .slice A2 n2 c2, .slice A3 n3 c3]) (vs' := [.int .i64 x0, .int .i64 x1, .int .i64 x2, .slice A4 n4 c4, .int .i64 y0, .int .i64 y1, .slice A5 n5 c5]) hr rfl
 obtain ⟨r3, r4⟩ := Rd.cut (vs := [.int .i64 x0, .int .i64 x1, .int .i64 x2, .slice A4 n4 c4]) (vs' := [.int .i64 y0, .int .i64 y1, .slice A5 n5 c5]) r2 rfl
 obtain ⟨h0, h1, h2, r5⟩ := r3.headL
 obtain ⟨h3, h4, r6⟩ := rd_split r4
 subst h0 h1 h2 h3 h4
 exact ⟨A0, n0, c0, A1, n1, c1, A2, n2, c2, A3, n3, c3, A4, n4, c4, A5, n5, c5, rfl, r1, r5, r6, b⟩
end Go.Proofs.YtmjifhjhialcbaaGreat
