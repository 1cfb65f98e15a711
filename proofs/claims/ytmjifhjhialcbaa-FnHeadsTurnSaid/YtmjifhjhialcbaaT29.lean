/- Parts of my texts: MarkI8 MarkIC KS6 TwoS1 TwoS2. -/
import Derived.Test.YtmjifhjhialcbaaT12
import Derived.Test.YtmjifhjhialcbaaT28
namespace Go.Proofs.Ytmjifhjhialcbaa
set_option maxRecDepth 100000
set_option linter.unusedVariables false
open Go.RowKit
theorem seen_w64 {l : List MarkM} (h : seenB l = true) : ∀ m ∈ l, w64 m.mi := fun m hm => mark_w64 ((seen_pairs h).1 m hm)
theorem iTable_ok (A : Option Addr) (n cc B : Nat) (l : List MarkM) (w : World) (h : Rd w B [mrkD l] [.slice A n cc]) (hB : B ≤ w.heap.size) (hs : mrkSz l ≤ 1048577) (hok : seenB l = true) :
    Calls Try.prog 68 #[.slice A n cc] w fun e w' => e = .returned (.map (some w.heap.size)) ∧ Tab w' w.heap.size l ∧ Below w.heap.size w w' := by
 have := iTable_any A n cc B l w h hB hs (seen_w64 hok)
 rw [tabOf_apart (seen_apart hok)] at this
 exact this
set_option maxHeartbeats 6400000 in
theorem iLastSeen_any (A : Option Addr) (n cc B : Nat) (l : List MarkM) (w : World) (h : Rd w B [mrkD l] [.slice A n cc]) (hB : B ≤ w.heap.size) (hs : mrkSz l ≤ 1048577) :
    Calls Try.prog 67 #[.slice A n cc] w fun e w' => e = .returned (.int .i64 (lastS l)) ∧ Below w.heap.size w w' := by
 have hc := iSeen_any A n cc B l w h hB hs
 have HH := jd h
 cases hok : seenB l
 case false =>
  have HV := jd (show lastS l = 0 by unfold lastS; rw [hok]; rfl)
  rw [hok] at hc
  clear h hok
  go_enter Try.func67, Try.ntmps67
  go_wp2_with fail
  refine hc.mono ?_
  rintro e w2 ⟨rfl, b2⟩
  go_wp2
  go_ret
  exact ⟨by first | (rw [HV.out]; done) | (rw [HV.out]; rfl), b2⟩
 case true =>
  have HV := jd (show lastS l = maxTo l l.length by unfold lastS; rw [hok]; rfl)
  have HO := jd hok
  rw [hok] at hc
  clear h hok
  go_enter Try.func67, Try.ntmps67
  go_wp2_with fail
  refine hc.mono ?_
  rintro e w2 ⟨rfl, b2⟩
  have ht := iTable_ok A n cc B l w2 (HH.out.keep (b2.mono hB)) (Nat.le_trans hB b2.size) hs HO.out
  have B2 := jd b2
  clear b2
  go_wp2_with fail
  refine ht.mono ?_
  rintro e w3 ⟨rfl, t3, b3⟩
  have hl := iLast_any w2.heap.size l w3 t3
  have B3 := jd (B2.out.trans (b3.mono B2.out.size))
  clear b3 t3 ht
  go_wp2_with fail
  refine hl.mono ?_
  rintro e w4 ⟨rfl, b4⟩
  have B4 := jd (B3.out.trans (b4.mono B3.out.size))
  clear b4
  go_wp2
  go_ret
  exact ⟨by first | (rw [HV.out]; done) | (rw [HV.out]; rfl), B4.out⟩
set_option maxHeartbeats 6400000 in
theorem iMarkOf_any (A : Option Addr) (n cc B : Nat) (l : List MarkM) (q : Int) (w : World) (h : Rd w B [mrkD l] [.slice A n cc]) (hB : B ≤ w.heap.size) (hs : mrkSz l ≤ 1048577) :
    Calls Try.prog 33 #[.slice A n cc, .int .i64 q] w fun e w' => e = .returned (.agg #[.int .i64 (markOf l q).mc, .int .i64 (markOf l q).ms, .int .i64 (markOf l q).mi]) ∧ Below w.heap.size w w' := by
 have HH := jd h
 have S := Sep.nil w w.heap.size
 have c := Below.refl w.heap.size w
 replace S := S.boxAt c.size (w.heap.size) rfl #[.int .i64 0, .int .i64 0, .int .i64 0] 76
 replace c := al c S
 go_enter Try.func33, Try.ntmps33
 go_wp2_with fail
 generalize w.alloc (.cells #[.int .i64 0, .int .i64 0, .int .i64 0] 76) = w1 at *
 refine (iSeen_any A n cc B l _ (HH.out.keep (c.mono hB)) (Nat.le_trans hB c.size) hs).mono ?_
 rintro e w2 ⟨rfl, b2⟩
 replace c := c.trans (b2.mono c.size)
 replace S := S.keep b2
 clear b2 h
 cases hok : seenB l
 case false =>
  have HV := jd (show markOf l q = mark0 by unfold markOf; rw [hok]; rfl)
  clear hok
  have f0 := lk S 0 0 rfl rfl
  have f1 := (S.at_ 0 rfl).free 0
  have f2 := lk S 0 1 rfl rfl
  have f3 := (S.at_ 0 rfl).free 1
  have f4 := lk S 0 2 rfl rfl
  have f5 := (S.at_ 0 rfl).free 2
  replace S := S.put 0 rfl 0 (.int .i64 0)
  replace c := st c S (by omega)
  replace S := S.put 0 rfl 1 (.int .i64 0)
  replace c := st c S (by omega)
  replace S := S.put 0 rfl 2 (.int .i64 0)
  replace c := st c S (by omega)
  have r0 := jd ((S.at_ 0 rfl).cell 0)
  have r1 := jd ((S.at_ 0 rfl).cell 1)
  have r2 := jd ((S.at_ 0 rfl).cell 2)
  have CC := jd c
  clear S c
  go_wp2
  exact bodyPost_ret (v := .agg #[.int .i64 0, .int .i64 0, .int .i64 0]) (by simp [results, Try.results33, go_sem, r0.out, r1.out, r2.out]) rfl ⟨by first | (rw [HV.out]; done) | (rw [HV.out]; rfl), CC.out⟩
 case true =>
  have HM := jd (show markOf l q = findM l q by unfold markOf; rw [if_pos hok])
  have HO := jd hok
  have ht := iTable_ok A n cc B l w2 (HH.out.keep (c.mono hB)) (Nat.le_trans hB c.size) hs hok
  have S2 := jd S
  have C2 := jd c
  clear S c hok
  go_wp2_with fail
  refine ht.mono ?_
  rintro e w3 ⟨rfl, t3, b3⟩
  have hl := iTabOf_any w2.heap.size l q w3 t3 (seen_solo HO.out)
  obtain ⟨y0, y1, y2, hy⟩ : ∃ y0 y1 y2, findM l q = ⟨y0, y1, y2⟩ := ⟨_, _, _, rfl⟩
  rw [hy] at hl HM
  have S3 := jd (S2.out.keep b3)
  have C3 := jd (C2.out.trans (b3.mono C2.out.size))
  clear b3 t3 ht S2 C2 hy
  go_wp2_with fail
  refine hl.mono ?_
  rintro e w4 ⟨rfl, b4⟩
  have S := S3.out.keep b4
  have c := C3.out.trans (b4.mono C3.out.size)
  have HV := HM
  clear b4 hl S3 C3 HM
  have f0 := lk S 0 0 rfl rfl
  have f1 := (S.at_ 0 rfl).free 0
  have f2 := lk S 0 1 rfl rfl
  have f3 := (S.at_ 0 rfl).free 1
  have f4 := lk S 0 2 rfl rfl
  have f5 := (S.at_ 0 rfl).free 2
  replace S := S.put 0 rfl 0 (.int .i64 y0)
  replace c := st c S (by omega)
  replace S := S.put 0 rfl 1 (.int .i64 y1)
  replace c := st c S (by omega)
  replace S := S.put 0 rfl 2 (.int .i64 y2)
  replace c := st c S (by omega)
  have r0 := jd ((S.at_ 0 rfl).cell 0)
  have r1 := jd ((S.at_ 0 rfl).cell 1)
  have r2 := jd ((S.at_ 0 rfl).cell 2)
  have CC := jd c
  clear S c
  go_wp2
  exact bodyPost_ret (v := .agg #[.int .i64 y0, .int .i64 y1, .int .i64 y2]) (by simp [results, Try.results33, go_sem, r0.out, r1.out, r2.out]) rfl ⟨by first | (rw [HV.out]; done) | (rw [HV.out]; rfl), CC.out⟩
set_option maxHeartbeats 6400000 in
theorem iEqualMs_any (A A2 : Option Addr) (n c n2 c2 B B2 : Nat) (l r : List MarkM) (w : World) (h : Rd w B [mrkD l] [.slice A n c]) (h2 : Rd w B2 [mrkD r] [.slice A2 n2 c2]) (hB : B ≤ w.heap.size) (hB2 : B2 ≤ w.heap.size) (hs : mrkSz l ≤ 1048577) (hs2 : mrkSz r ≤ 1048577) :
    Calls Try.prog 59 #[.slice A n c, .slice A2 n2 c2] w fun e w' => e = .returned (.bool (sameMs l r)) ∧ Below w.heap.size w w' := by
 obtain ⟨_, _, _, e, hl, _, _, hel⟩ := h.mrks
 injection e with e1 e2 e3
 subst e1 e2 e3
 obtain ⟨_, _, _, e, hl2, _, _, hel2⟩ := h2.mrks
 injection e with e1 e2 e3
 subst e1 e2 e3
 have hn : n ≤ 1048577 := by unfold mrkSz at hs; omega
 have hn2 : n2 ≤ 1048577 := by unfold mrkSz at hs2; omega
 have HL := jd hl
 have HL2 := jd hl2
 clear h h2 hs hs2 hl hl2
 by_cases hnn : n = n2
 case neg =>
  have HD := jd (sameMs_len (l := l) (r := r) (by rw [HL.out, HL2.out]; exact hnn))
  have e1 : ((n : Int) != (n2 : Int)) = true := by simp; omega
  have e2 : ((n : Int) == (n2 : Int)) = false := by simp; omega
  clear hel hel2
  go_enter Try.func59, Try.ntmps59
  go_wp2
  go_ret
  exact ⟨ret_bool HD.out.symm, Below.refl _ _⟩
 case pos =>
  subst hnn
  have e1 : ((n : Int) != (n : Int)) = false := by simp
  go_enter Try.func59, Try.ntmps59
  go_wp2
  go_loopw [13] (fun i wr => ∃ j : Nat, j ≤ n ∧ i = .int .i64 (j : Int) ∧ (∀ q, q < j → l.getD q mark0 = r.getD q mark0) ∧ Below w.heap.size w wr) (fun i _ => n - (intOf i).toNat)
  case atStart => exact ⟨0, Nat.zero_le _, rfl, fun q hq => absurd hq (by omega), Below.refl _ _⟩
  case round =>
   obtain ⟨j, hj, rfl, hall, c0⟩ := hrel
   have HA := jd hall
   clear hall
   by_cases hlt : j < n
   case neg =>
    obtain rfl : j = n := by omega
    have HD := jd (show sameMs l r = true from (sameMs_iff l r).2 (List.ext_getElem (by rw [HL.out, HL2.out]) fun q h1 h2 => by have h9 := HA.out q (by have := HL.out; omega); rwa [mgetD h1, mgetD h2] at h9))
    have CC := jd c0
    clear hel hel2 c0
    go_wp2
    go_ret
    exact ⟨ret_bool HD.out.symm, CC.out⟩
   case pos =>
   have hjl : j < l.length := by have := HL.out; omega
   have hjr : j < r.length := by have := HL2.out; omega
   obtain ⟨b, off, rfl, hb, hcA⟩ := hel (by omega)
   obtain ⟨b2, off2, rfl, hb2, hcB⟩ := hel2 (by omega)
   obtain ⟨hc0, hc1, hc2⟩ := hcA j hjl
   obtain ⟨hd0, hd1, hd2⟩ := hcB j hjr
   have cs0 := (c0.cell (p := ⟨b, off + j * 3, none⟩) (show b < _ by omega)).trans hc0
   have ct0 := (c0.cell (p := ⟨b2, off2 + j * 3, none⟩) (show b2 < _ by omega)).trans hd0
   have cs1 := (c0.cell (p := ⟨b, off + j * 3 + 1, none⟩) (show b < _ by omega)).trans hc1
   have ct1 := (c0.cell (p := ⟨b2, off2 + j * 3 + 1, none⟩) (show b2 < _ by omega)).trans hd1
   have cs2 := (c0.cell (p := ⟨b, off + j * 3 + 2, none⟩) (show b < _ by omega)).trans hc2
   have ct2 := (c0.cell (p := ⟨b2, off2 + j * 3 + 2, none⟩) (show b2 < _ by omega)).trans hd2
   obtain ⟨z0, hz0⟩ : ∃ q, q = l[j].mc := ⟨_, rfl⟩
   rw [← hz0] at cs0
   obtain ⟨y0, hy0⟩ : ∃ q, q = r[j].mc := ⟨_, rfl⟩
   rw [← hy0] at ct0
   obtain ⟨z1, hz1⟩ : ∃ q, q = l[j].ms := ⟨_, rfl⟩
   rw [← hz1] at cs1
   obtain ⟨y1, hy1⟩ : ∃ q, q = r[j].ms := ⟨_, rfl⟩
   rw [← hy1] at ct1
   obtain ⟨z2, hz2⟩ : ∃ q, q = l[j].mi := ⟨_, rfl⟩
   rw [← hz2] at cs2
   obtain ⟨y2, hy2⟩ : ∃ q, q = r[j].mi := ⟨_, rfl⟩
   rw [← hy2] at ct2
   have hm1 : l[j] = ⟨z0, z1, z2⟩ := by rw [hz0, hz1, hz2]
   have hm2 : r[j] = ⟨y0, y1, y2⟩ := by rw [hy0, hy1, hy2]
   have HC := jd c0
   by_cases he : l[j] = r[j]
   case pos =>
    rw [hm1, hm2] at he
    injection he with q0 q1 q2
    have HN := jd (show ∀ q, q < j + 1 → l.getD q mark0 = r.getD q mark0 from fun q hq => by
     rcases Nat.lt_or_ge q j with h1 | h1
     · exact HA.out q h1
     · obtain rfl : q = j := by omega
       rw [mgetD hjl, mgetD hjr, hm1, hm2, q0, q1, q2])
    clear hcA hcB hel hel2 hm1 hm2 hz0 hy0 hc0 hd0 hz1 hy1 hc1 hd1 hz2 hy2 hc2 hd2
    subst q0 q1 q2
    go_wp2_with fail
    go_quiet (fail)
    have CC := jd (below_drewN HC.out nq)
    clear c0 cs0 ct0 cs1 ct1 cs2 ct2
    generalize wr.drewN nq = w9 at *
    go_wp2
    go_roundw
    case rel => exact ⟨j + 1, by omega, by go_num, HN.out, CC.out⟩
    case measure => simp [intOf]; omega
   case neg =>
    have HD := jd (sameMs_step (l := l) (r := r) (j := j) (by rw [Bool.eq_false_iff]; intro h9; exact he (by have h8 := (sameM_iff _ _).1 h9; rwa [mgetD hjl, mgetD hjr] at h8)))
    have hne : ¬ (z0 = y0 ∧ z1 = y1 ∧ z2 = y2) := fun h9 => he (by rw [hm1, hm2]; obtain ⟨q0, q1, q2⟩ := h9; rw [q0, q1, q2])
    clear he hm1 hm2 hcA hcB hel hel2 hz0 hy0 hc0 hd0 hz1 hy1 hc1 hd1 hz2 hy2 hc2 hd2
    by_cases q0 : z0 = y0
    case neg =>
     have e3 : (z0 == y0) = false := by simpa using q0
     clear hne q0
     go_wp2_with fail
     go_quiet (fail)
     have CC := jd (below_drewN HC.out nq)
     go_wp2
     go_ret
     exact ⟨ret_bool HD.out.symm, CC.out⟩
    subst q0
    by_cases q1 : z1 = y1
    case neg =>
     have e4 : (z1 == y1) = false := by simpa using q1
     clear hne q1
     go_wp2_with fail
     go_quiet (fail)
     have CC := jd (below_drewN HC.out nq)
     go_wp2
     go_ret
     exact ⟨ret_bool HD.out.symm, CC.out⟩
    subst q1
    by_cases q2 : z2 = y2
    case neg =>
     have e5 : (z2 == y2) = false := by simpa using q2
     clear hne q2
     go_wp2_with fail
     go_quiet (fail)
     have CC := jd (below_drewN HC.out nq)
     go_wp2
     go_ret
     exact ⟨ret_bool HD.out.symm, CC.out⟩
    subst q2
    exact absurd ⟨rfl, rfl, rfl⟩ hne
theorem iSameSeen_any (A A2 : Option Addr) (n c n2 c2 B B2 : Nat) (l r : List MarkM) (w : World) (h : Rd w B [mrkD l] [.slice A n c]) (h2 : Rd w B2 [mrkD r] [.slice A2 n2 c2]) (hB : B ≤ w.heap.size) (hB2 : B2 ≤ w.heap.size) (hs : mrkSz l ≤ 1048577) (hs2 : mrkSz r ≤ 1048577) :
    Calls Try.prog 28 #[.slice A n c, .slice A2 n2 c2] w fun e w' => e = .returned (.bool (sameMs l r)) ∧ Below w.heap.size w w' := by
 have hc := iEqualMs_any A A2 n c n2 c2 B B2 l r w h h2 hB hB2 hs hs2
 go_enter Try.func28, Try.ntmps28
 go_wp2_with fail
 refine hc.mono ?_
 rintro e w2 ⟨rfl, b2⟩
 go_wp2
 go_ret
 exact ⟨rfl, b2⟩
theorem iSameSeen_c : CSameSeen 28 := fun A n cc l A2 n2 c2 r w h hs h2 hs2 => iSameSeen_any A A2 n cc n2 c2 w.heap.size w.heap.size l r w h h2 (Nat.le_refl _) (Nat.le_refl _) hs hs2
end Go.Proofs.Ytmjifhjhialcbaa
namespace Go.Proofs.Ytmjifhjhialcbaa
set_option maxRecDepth 100000
set_option linter.unusedVariables false
open Go.RowKit
theorem has_kept_nil {w : World} {base : Nat} {l : List (List Int)} {v : Value} (h : Has w base [keptD l] [v]) : Has w base [keptD l, waitD []] [v, .slice none 0 0] := by
 obtain ⟨fp, ho, hn, hg⟩ := h
 have := ho.append (ow_nil_wait w)
 rw [List.append_nil] at this
 exact ⟨fp, this, hn, hg⟩
theorem fell_keep {all : Bool} {fate : Int} {k : List (List Int)} {X : Nat} {r : List Int} (h : all = true ∨ fate = 1) : fell all fate k ((X : Int), r) = k.set X r := by
 unfold fell; rw [if_pos h]; rfl
theorem fell_torn {fate : Int} {k : List (List Int)} {X : Nat} {r : List Int} (h : fate = 2) : fell false fate k ((X : Int), r) = k.set X (torn r (k.getD X [])) := by
 unfold fell; rw [if_neg (by rintro (h1 | h1); cases h1; omega), if_pos h]; rfl
theorem fell_lost {fate : Int} {k : List (List Int)} {p : Int × List Int} (h1 : fate ≠ 1) (h2 : fate ≠ 2) : fell false fate k p = k := by
 unfold fell; rw [if_neg (by rintro (h | h); cases h; exact h1 h), if_neg h2]
end Go.Proofs.Ytmjifhjhialcbaa
namespace Go.Proofs.Ytmjifhjhialcbaa
set_option maxRecDepth 100000
open Go.RowKit
end Go.Proofs.Ytmjifhjhialcbaa
namespace Go.Proofs.Ytmjifhjhialcbaa
set_option maxRecDepth 100000
set_option linter.unusedVariables false
open Go.RowKit
theorem rdKeptLen {w : World} {B : Nat} {d : DiskM} {A : Option Addr} {n c : Nat} {v : Value} (h : Rd w B d.cells [.slice A n c, v]) : d.kept.length = n := by
 obtain ⟨_, _, _, _, _, _, e, _, h1, _⟩ := h.disk
 injection e with e1 e2 e3
 subst e1 e2 e3
 obtain ⟨_, _, _, e, hl, _⟩ := h1.kept
 injection e with e1 e2 e3
 subst e1 e2 e3
 exact hl
theorem has_zeroT (w : World) (base : Nat) : Has w base zeroT.cells [.slice none 0 0, .slice none 0 0, .slice none 0 0, .slice none 0 0] :=
 ⟨[], ((ow_nil_kept w).append (ow_nil_wait w)).append ((ow_nil_kept w).append (ow_nil_wait w)), List.nodup_nil, fun p hp => by cases hp⟩
theorem withSum_len (r : List Int) : (withSum r).length ≤ 48 := by
 unfold withSum
 split
 · simp; omega
 · simp
end Go.Proofs.Ytmjifhjhialcbaa
