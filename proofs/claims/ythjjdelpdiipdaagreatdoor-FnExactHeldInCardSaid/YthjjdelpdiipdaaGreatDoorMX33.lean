/- Parts of my texts: MarkI4 Srt. -/
import Derived.Test.YthjjdelpdiipdaaGreatDoorMX32
import Derived.Shelf.SlSortCmp.SmallK
import Derived.Shelf.Small.Bits
namespace Go.Proofs.YthjjdelpdiipdaaGreatDoor
set_option maxRecDepth 100000
set_option linter.unusedVariables false
open Go.RowKit
theorem takes_may {l : List MarkM} (h : seenB l = true) (e : EntM) : takesT l e = mayB l e := by
 unfold takesT freshT mayB freshB markOf lastS
 rw [h, if_pos rfl, if_pos rfl, Bool.true_and]
theorem seen_solo {l : List MarkM} (h : seenB l = true) : Solo l := (seen_pairs h).2.1.imp fun {a b} hab => by omega
theorem seen_apart {l : List MarkM} (h : seenB l = true) : Apart l := (seen_pairs h).2.2
theorem solo_eq {l : List MarkM} (h : Solo l) {m m' : MarkM} (hm : m ∈ l) (hm' : m' ∈ l) (he : m.mc = m'.mc) : m = m' := by
 have h1 := findM_mem h hm
 rw [he, findM_mem h hm'] at h1
 exact h1.symm
theorem apart_eq {l : List MarkM} (h : Apart l) {m m' : MarkM} (hm : m ∈ l) (hm' : m' ∈ l) (he : m.mi = m'.mi) : m = m' := by
 have h1 := tabF_at h hm
 rw [he, tabF_at h hm'] at h1
 obtain ⟨m0, m1, m2⟩ := m
 obtain ⟨n0, n1, n2⟩ := m'
 unfold mrkV at h1
 simp at h1
 obtain ⟨rfl, rfl, rfl⟩ := h1
 rfl
theorem del_client {l : List MarkM} (h : seenB l = true) (c : Int) : delT l (findM l c).mi = l.filter fun m => decide (m.mc ≠ c) := by
 unfold delT
 refine List.filter_congr fun m hm => ?_
 rw [decide_eq_decide]
 by_cases e : ∃ m0 ∈ l, m0.mc = c
 · obtain ⟨m0, hm0, rfl⟩ := e
   rw [findM_mem (seen_solo h) hm0]
   constructor
   · intro h1 h2
     exact h1 (congrArg MarkM.mi (solo_eq (seen_solo h) hm hm0 h2))
   · intro h1 h2
     exact h1 (congrArg MarkM.mc (apart_eq (seen_apart h) hm hm0 h2))
 · rw [findM_no fun m0 h0 h1 => e ⟨m0, h0, h1⟩]
   have h1 := (markB_iff m).1 ((seen_pairs h).1 m hm)
   constructor
   · intro _ h2
     exact e ⟨m, hm, h2⟩
   · intro _
     show m.mi ≠ 0
     omega
theorem rec_perm {l : List MarkM} {e : EntM} (h : seenB l = true) (hm : mayB l e = true) : (recT l e).Perm (insM l ⟨e.cl, e.sq, e.idx⟩) := by
 unfold recT putT
 rw [del_client h]
 have h1 : delT (l.filter fun m => decide (m.mc ≠ e.cl)) e.idx = l.filter fun m => decide (m.mc ≠ e.cl) := by
  unfold delT
  rw [List.filter_eq_self]
  intro m h2
  have h3 := lastS_ge h (List.mem_filter.1 h2).1
  have h4 := ((mayB_iff l e).1 hm).2.2
  rw [decide_eq_true_eq]
  omega
 show (delT (l.filter fun m => decide (m.mc ≠ e.cl)) e.idx ++ [(⟨e.cl, e.sq, e.idx⟩ : MarkM)]).Perm _
 rw [h1]
 unfold insM
 have h2 := List.filter_append_perm (fun m : MarkM => decide (m.mc < e.cl)) (l.filter fun m => decide (m.mc ≠ e.cl))
 rw [List.filter_filter, List.filter_filter] at h2
 have h3 : (l.filter fun m => decide (m.mc < e.cl) && decide (m.mc ≠ e.cl)) = l.filter fun m => decide (m.mc < e.cl) := by
  refine List.filter_congr fun m _ => ?_
  rw [Bool.eq_iff_iff]
  simp only [Bool.and_eq_true, decide_eq_true_eq]
  omega
 have h4 : (l.filter fun m => (!decide (m.mc < e.cl)) && decide (m.mc ≠ e.cl)) = l.filter fun m => decide (e.cl < m.mc) := by
  refine List.filter_congr fun m _ => ?_
  rw [Bool.eq_iff_iff]
  simp only [Bool.and_eq_true, Bool.not_eq_true', decide_eq_true_eq, decide_eq_false_iff_not]
  omega
 rw [h3, h4] at h2
 exact ((List.Perm.append_right _ h2.symm).trans (by rw [List.append_assoc]; exact List.Perm.append_left _ (List.perm_append_singleton _ _)))
theorem may_idx {l : List MarkM} {e : EntM} (hm : mayB l e = true) : w64 e.idx := by
 have h1 := ((mayB_iff l e).1 hm).1
 have h2 := (entB_iff e).1 h1
 exact w64_in (by omega)
set_option maxHeartbeats 6400000 in
theorem iRecordAll_tab (b n0 : Nat) (l : List MarkM) (A : Option Addr) (n cc B : Nat) (es : List EntM) (w : World) (h : Tab w b l) (hok : seenB l = true) (hr : Rd w B [entD es] [.slice A n cc]) (hn : n ≤ 1048577) (h0 : n0 ≤ b) (h1 : n0 ≤ w.heap.size) (hB : B ≤ n0) :
    Calls Tryz.prog 122 #[.map (some b), .slice A n cc] w fun e w' => e = .returned (.bool (overB l es)) ∧ (overB l es = true → Tab w' b (overM l es)) ∧ Below n0 w w' := by
 have HH := jd h
 obtain ⟨_, _, _, e, hl, _, _, hel⟩ := hr.ents
 injection e with e1 e2 e3
 subst e1 e2 e3
 have HL := jd hl
 have HO := jd hok
 have H1 := jd h1
 have H0 := jd h0
 clear h hl hr hok
 go_enter Tryz.func122, Tryz.ntmps122
 go_wp2
 go_loopw [9] (fun i wr => ∃ j : Nat, j ≤ n ∧ i = .int .i64 (j : Int) ∧ (∀ q, q < j → overAt l es q = true) ∧ Tab wr b (overM l (es.take j)) ∧ Below n0 w wr) (fun i _ => n - (intOf i).toNat)
 case atStart => exact ⟨0, Nat.zero_le _, rfl, fun q hq => absurd hq (by omega), HH.out, Below.refl _ _⟩
 case round =>
  obtain ⟨j, hj, rfl, hall, T, c⟩ := hrel
  have HALL := jd hall
  have HT := jd T
  have CC := jd c
  have HS := jd (over_ok HO.out j (by have := HL.out; omega) hall)
  clear hall T
  by_cases hlt : j < n
  case neg =>
   obtain rfl : j = n := by omega
   have HV := jd (show overB l es = true from (overB_iff l es).2 fun q hq => HALL.out q (by have := HL.out; omega))
   have HT2 := jd (show Tab wr b (overM l es) by have := HT.out; rwa [show es.take j = es from by rw [← HL.out, List.take_length]] at this)
   clear hel c
   go_wp2
   go_ret
   exact ⟨ret_bool HV.out.symm, fun _ => HT2.out, CC.out⟩
  case pos =>
   have hjl : j < es.length := by have := HL.out; omega
   obtain ⟨bb, off, rfl, hb, hc⟩ := hel (by omega)
   obtain ⟨hq0, hq1, hq2, hq3, hq4, hq5, hq6, hq7, hq8⟩ := hc j hjl
   have k0 := cu c hq0 (show bb < _ by omega)
   obtain ⟨z0, hz0⟩ : ∃ y, y = es[j].idx := ⟨_, rfl⟩
   rw [← hz0] at k0
   have k1 := cu c hq1 (show bb < _ by omega)
   obtain ⟨z1, hz1⟩ : ∃ y, y = es[j].tm := ⟨_, rfl⟩
   rw [← hz1] at k1
   have k2 := cu c hq2 (show bb < _ by omega)
   obtain ⟨z2, hz2⟩ : ∃ y, y = es[j].cl := ⟨_, rfl⟩
   rw [← hz2] at k2
   have k3 := cu c hq3 (show bb < _ by omega)
   obtain ⟨z3, hz3⟩ : ∃ y, y = es[j].sq := ⟨_, rfl⟩
   rw [← hz3] at k3
   have k4 := cu c hq4 (show bb < _ by omega)
   obtain ⟨z4, hz4⟩ : ∃ y, y = es[j].kd := ⟨_, rfl⟩
   rw [← hz4] at k4
   have k5 := cu c hq5 (show bb < _ by omega)
   obtain ⟨z5, hz5⟩ : ∃ y, y = es[j].oa := ⟨_, rfl⟩
   rw [← hz5] at k5
   have k6 := cu c hq6 (show bb < _ by omega)
   obtain ⟨z6, hz6⟩ : ∃ y, y = es[j].ob := ⟨_, rfl⟩
   rw [← hz6] at k6
   have k7 := cu c hq7 (show bb < _ by omega)
   obtain ⟨z7, hz7⟩ : ∃ y, y = es[j].oc := ⟨_, rfl⟩
   rw [← hz7] at k7
   have k8 := cu c hq8 (show bb < _ by omega)
   obtain ⟨z8, hz8⟩ : ∃ y, y = es[j].od := ⟨_, rfl⟩
   rw [← hz8] at k8
   have hmk : es[j] = ⟨z0, z1, z2, z3, z4, z5, z6, z7, z8⟩ := by rw [hz0, hz1, hz2, hz3, hz4, hz5, hz6, hz7, hz8]
   have HG := jd (show es.getD j ent0 = ⟨z0, z1, z2, z3, z4, z5, z6, z7, z8⟩ by rw [egetD hjl, hmk])
   have HM := jd (show overM l (es.take (j + 1)) = insM (overM l (es.take j)) ⟨z2, z3, z0⟩ by rw [overM_step hjl, hmk])
   have HJ := jd hjl
   have HA := jd (show overAt l es j = mayB (overM l (es.take j)) ⟨z0, z1, z2, z3, z4, z5, z6, z7, z8⟩ by unfold overAt; rw [HG.out])
   clear hmk hc hel hz0 hq0 hz1 hq1 hz2 hq2 hz3 hq3 hz4 hq4 hz5 hq5 hz6 hq6 hz7 hq7 hz8 hq8
   obtain ⟨L, hL⟩ : ∃ L, L = overM l (es.take j) := ⟨_, rfl⟩
   rw [← hL] at HT HS HM HA
   have HLL := jd hL
   clear hL
   have T1 := jd (HT.out.keep ((Below.refl wr.heap.size wr).alloc (Nat.le_refl _) (.cells #[.int .i64 z0, .int .i64 z1, .int .i64 z2, .int .i64 z3, .int .i64 z4, .int .i64 z5, .int .i64 z6, .int .i64 z7, .int .i64 z8] 98)) HT.out.lt)
   have C1 := jd (CC.out.alloc (Nat.le_trans H1.out CC.out.size) (.cells #[.int .i64 z0, .int .i64 z1, .int .i64 z2, .int .i64 z3, .int .i64 z4, .int .i64 z5, .int .i64 z6, .int .i64 z7, .int .i64 z8] 98))
   have kk := Blk.new wr #[.int .i64 z0, .int .i64 z1, .int .i64 z2, .int .i64 z3, .int .i64 z4, .int .i64 z5, .int .i64 z6, .int .i64 z7, .int .i64 z8] 98
   have K1 := jd kk
   have m0 : (wr.alloc (.cells #[.int .i64 z0, .int .i64 z1, .int .i64 z2, .int .i64 z3, .int .i64 z4, .int .i64 z5, .int .i64 z6, .int .i64 z7, .int .i64 z8] 98)).cell? ⟨wr.heap.size, 0, none⟩ = some (.int .i64 z0) := kk.cell 0
   have m1 : (wr.alloc (.cells #[.int .i64 z0, .int .i64 z1, .int .i64 z2, .int .i64 z3, .int .i64 z4, .int .i64 z5, .int .i64 z6, .int .i64 z7, .int .i64 z8] 98)).cell? ⟨wr.heap.size, 1, none⟩ = some (.int .i64 z1) := kk.cell 1
   have m2 : (wr.alloc (.cells #[.int .i64 z0, .int .i64 z1, .int .i64 z2, .int .i64 z3, .int .i64 z4, .int .i64 z5, .int .i64 z6, .int .i64 z7, .int .i64 z8] 98)).cell? ⟨wr.heap.size, 2, none⟩ = some (.int .i64 z2) := kk.cell 2
   have m3 : (wr.alloc (.cells #[.int .i64 z0, .int .i64 z1, .int .i64 z2, .int .i64 z3, .int .i64 z4, .int .i64 z5, .int .i64 z6, .int .i64 z7, .int .i64 z8] 98)).cell? ⟨wr.heap.size, 3, none⟩ = some (.int .i64 z3) := kk.cell 3
   have m4 : (wr.alloc (.cells #[.int .i64 z0, .int .i64 z1, .int .i64 z2, .int .i64 z3, .int .i64 z4, .int .i64 z5, .int .i64 z6, .int .i64 z7, .int .i64 z8] 98)).cell? ⟨wr.heap.size, 4, none⟩ = some (.int .i64 z4) := kk.cell 4
   have m5 : (wr.alloc (.cells #[.int .i64 z0, .int .i64 z1, .int .i64 z2, .int .i64 z3, .int .i64 z4, .int .i64 z5, .int .i64 z6, .int .i64 z7, .int .i64 z8] 98)).cell? ⟨wr.heap.size, 5, none⟩ = some (.int .i64 z5) := kk.cell 5
   have m6 : (wr.alloc (.cells #[.int .i64 z0, .int .i64 z1, .int .i64 z2, .int .i64 z3, .int .i64 z4, .int .i64 z5, .int .i64 z6, .int .i64 z7, .int .i64 z8] 98)).cell? ⟨wr.heap.size, 6, none⟩ = some (.int .i64 z6) := kk.cell 6
   have m7 : (wr.alloc (.cells #[.int .i64 z0, .int .i64 z1, .int .i64 z2, .int .i64 z3, .int .i64 z4, .int .i64 z5, .int .i64 z6, .int .i64 z7, .int .i64 z8] 98)).cell? ⟨wr.heap.size, 7, none⟩ = some (.int .i64 z7) := kk.cell 7
   have m8 : (wr.alloc (.cells #[.int .i64 z0, .int .i64 z1, .int .i64 z2, .int .i64 z3, .int .i64 z4, .int .i64 z5, .int .i64 z6, .int .i64 z7, .int .i64 z8] 98)).cell? ⟨wr.heap.size, 8, none⟩ = some (.int .i64 z8) := kk.cell 8
   have HLen := jd (show L.length < maxLen from Nat.lt_of_le_of_lt (seen_len HS.out) (by decide))
   have RS := jd (show wr.heap.size < (wr.alloc (.cells #[.int .i64 z0, .int .i64 z1, .int .i64 z2, .int .i64 z3, .int .i64 z4, .int .i64 z5, .int .i64 z6, .int .i64 z7, .int .i64 z8] 98)).heap.size by simp)
   clear kk c CC
   go_wp2_with fail
   generalize wr.alloc (.cells #[.int .i64 z0, .int .i64 z1, .int .i64 z2, .int .i64 z3, .int .i64 z4, .int .i64 z5, .int .i64 z6, .int .i64 z7, .int .i64 z8] 98) = w1 at *
   refine (iTakes_tab b L z0 z1 z2 z3 z4 z5 z6 z7 z8 w1 T1.out (seen_solo HS.out)).mono ?_
   rintro e w2 ⟨rfl, b2⟩
   have T2 := jd (T1.out.keep b2 T1.out.lt)
   have C2 := jd (C1.out.trans (b2.mono (Nat.le_trans H1.out C1.out.size)))
   have K2 := jd (K1.out.keep b2 RS.out)
   clear b2 m0 m1 m2 m3 m4 m5 m6 m7 m8
   cases p : takesT L ⟨z0, z1, z2, z3, z4, z5, z6, z7, z8⟩
   case false =>
    have HV := jd (show overB l es = false from overB_step HJ.out (by rw [HA.out, ← takes_may HS.out, p]))
    go_wp2
    go_ret
    exact ⟨ret_bool HV.out.symm, fun h9 => absurd (HV.out.symm.trans h9) Bool.false_ne_true, C2.out⟩
   case true =>
    have HMay := jd (show mayB L ⟨z0, z1, z2, z3, z4, z5, z6, z7, z8⟩ = true by rw [← takes_may HS.out, p])
    have HALL2 := jd (show ∀ q, q < j + 1 → overAt l es q = true from fun q hq => by
     rcases Nat.lt_or_ge q j with h2 | h2
     · exact HALL.out q h2
     · obtain rfl : q = j := by omega
       rw [HA.out, HMay.out])
    have m0 : w2.cell? ⟨wr.heap.size, 0, none⟩ = some (.int .i64 z0) := K2.out.cell 0
    have m1 : w2.cell? ⟨wr.heap.size, 1, none⟩ = some (.int .i64 z1) := K2.out.cell 1
    have m2 : w2.cell? ⟨wr.heap.size, 2, none⟩ = some (.int .i64 z2) := K2.out.cell 2
    have m3 : w2.cell? ⟨wr.heap.size, 3, none⟩ = some (.int .i64 z3) := K2.out.cell 3
    have m4 : w2.cell? ⟨wr.heap.size, 4, none⟩ = some (.int .i64 z4) := K2.out.cell 4
    have m5 : w2.cell? ⟨wr.heap.size, 5, none⟩ = some (.int .i64 z5) := K2.out.cell 5
    have m6 : w2.cell? ⟨wr.heap.size, 6, none⟩ = some (.int .i64 z6) := K2.out.cell 6
    have m7 : w2.cell? ⟨wr.heap.size, 7, none⟩ = some (.int .i64 z7) := K2.out.cell 7
    have m8 : w2.cell? ⟨wr.heap.size, 8, none⟩ = some (.int .i64 z8) := K2.out.cell 8
    go_wp2_with fail
    refine (iRecord_tab b n0 L z0 z1 z2 z3 z4 z5 z6 z7 z8 w2 T2.out (seen_solo HS.out) (may_idx HMay.out) HLen.out H0.out (Nat.le_trans H1.out C2.out.size)).mono ?_
    rintro e w3 ⟨rfl, t3, b3⟩
    have T3 := jd (show Tab w3 b (overM l (es.take (j + 1))) by rw [HM.out]; exact t3.perm (rec_perm HS.out HMay.out))
    have C3 := jd (C2.out.trans b3)
    clear t3 b3 m0 m1 m2 m3 m4 m5 m6 m7 m8
    go_wp2
    go_roundw
    case rel => exact ⟨j + 1, by omega, by go_num, HALL2.out, T3.out, C3.out⟩
    case measure => simp [intOf]; omega
end Go.Proofs.YthjjdelpdiipdaaGreatDoor
namespace Go.Proofs.YthjjdelpdiipdaaGreatDoor
set_option maxRecDepth 100000
set_option linter.unusedVariables false
open Go.RowKit
open Go.Shelf
def srt_ren : Go.Shelf.Ren := ⟨fun | 6 => 176 | 15 => 186 | 14 => 185 | 28 => 196 | 29 => 197 | 20 => 188 | 21 => 189 | 22 => 190 | 23 => 191 | 24 => 192 | 25 => 193 | 26 => 194 | 27 => 195 | 46 => 198 | 47 => 199 | 48 => 200 | 49 => 201 | 50 => 202 | 57 => 203 | n => n, fun | 22 => 44 | 24 => 114 | 25 => 183 | 3 => 3 | 39 => 196 | 0 => 0 | 53 => 206 | 55 => 208 | 4 => 4 | 46 => 199 | 45 => 198 | 50 => 203 | 5 => 5 | 9 => 9 | 66 => 209 | 70 => 213 | 76 => 215 | 77 => 216 | n => n, fun n => n⟩
theorem srt : SlLaysF0.n6 Tryz.prog srt_ren := {
 mixed := by kernel_rfl,
 f6 := ⟨Tryz.f176.name, by decide, Tryz.func176.trans (congrArg some (by kernel_rfl))⟩,
 f14 := ⟨Tryz.f185.name, by decide, Tryz.func185.trans (congrArg some (by kernel_rfl))⟩,
 f15 := Tryz.func186.trans (congrArg some (by kernel_rfl)),
 f20 := ⟨Tryz.f188.name, by decide, Tryz.func188.trans (congrArg some (by kernel_rfl))⟩,
 f21 := ⟨Tryz.f189.name, by decide, Tryz.func189.trans (congrArg some (by kernel_rfl))⟩,
 f22 := ⟨Tryz.f190.name, by decide, Tryz.func190.trans (congrArg some (by kernel_rfl))⟩,
 f23 := ⟨Tryz.f191.name, by decide, Tryz.func191.trans (congrArg some (by kernel_rfl))⟩,
 f24 := ⟨Tryz.f192.name, by decide, Tryz.func192.trans (congrArg some (by kernel_rfl))⟩,
 f25 := ⟨Tryz.f193.name, by decide, Tryz.func193.trans (congrArg some (by kernel_rfl))⟩,
 f26 := ⟨Tryz.f194.name, by decide, Tryz.func194.trans (congrArg some (by kernel_rfl))⟩,
 f27 := ⟨Tryz.f195.name, by decide, Tryz.func195.trans (congrArg some (by kernel_rfl))⟩,
 f28 := Tryz.func196.trans (congrArg some (by kernel_rfl)),
 f29 := Tryz.func197.trans (congrArg some (by kernel_rfl)),
 f46 := ⟨Tryz.f198.name, by decide, Tryz.func198.trans (congrArg some (by kernel_rfl))⟩,
 f47 := Tryz.func199.trans (congrArg some (by kernel_rfl)),
 f48 := Tryz.func200.trans (congrArg some (by kernel_rfl)),
 f49 := ⟨Tryz.f201.name, by decide, Tryz.func201.trans (congrArg some (by kernel_rfl))⟩,
 f50 := ⟨Tryz.f202.name, by decide, Tryz.func202.trans (congrArg some (by kernel_rfl))⟩,
 f57 := ⟨Tryz.f203.name, by decide, Tryz.func203.trans (congrArg some (by kernel_rfl))⟩,
 t0 := Tryz.underlying0,
 a0 := Tryz.isAgg0,
 z0 := Tryz.sizeOf0,
 v0 := Tryz.zeroValue0,
 t3 := Tryz.underlying3,
 a3 := Tryz.isAgg3,
 z3 := Tryz.sizeOf3,
 v3 := Tryz.zeroValue3,
 t4 := Tryz.underlying4,
 a4 := Tryz.isAgg4,
 z4 := Tryz.sizeOf4,
 v4 := Tryz.zeroValue4,
 t5 := Tryz.underlying5,
 a5 := Tryz.isAgg5,
 z5 := Tryz.sizeOf5,
 v5 := Tryz.zeroValue5,
 t9 := Tryz.underlying9,
 a9 := Tryz.isAgg9,
 z9 := Tryz.sizeOf9,
 v9 := Tryz.zeroValue9,
 t22 := Tryz.underlying44,
 a22 := Tryz.isAgg44,
 z22 := Tryz.sizeOf44,
 v22 := Tryz.zeroValue44,
 t25 := Tryz.underlying183,
 a25 := Tryz.isAgg183,
 z25 := Tryz.sizeOf183,
 v25 := Tryz.zeroValue183,
 t39 := Tryz.underlying196,
 a39 := Tryz.isAgg196,
 z39 := Tryz.sizeOf196,
 v39 := Tryz.zeroValue196,
 t45 := Tryz.underlying198,
 a45 := Tryz.isAgg198,
 z45 := Tryz.sizeOf198,
 v45 := Tryz.zeroValue198,
 t46 := Tryz.underlying199,
 a46 := Tryz.isAgg199,
 z46 := Tryz.sizeOf199,
 v46 := Tryz.zeroValue199,
 t50 := Tryz.underlying203,
 a50 := Tryz.isAgg203,
 z50 := Tryz.sizeOf203,
 v50 := Tryz.zeroValue203,
 t53 := Tryz.underlying206,
 a53 := Tryz.isAgg206,
 z53 := Tryz.sizeOf206,
 v53 := Tryz.zeroValue206,
 t55 := Tryz.underlying208,
 a55 := Tryz.isAgg208,
 z55 := Tryz.sizeOf208,
 v55 := Tryz.zeroValue208,
 t66 := Tryz.underlying209,
 a66 := Tryz.isAgg209,
 z66 := Tryz.sizeOf209,
 v66 := Tryz.zeroValue209,
 t70 := Tryz.underlying213,
 a70 := Tryz.isAgg213,
 z70 := Tryz.sizeOf213,
 v70 := Tryz.zeroValue213,
 t76 := Tryz.underlying215,
 a76 := Tryz.isAgg215,
 z76 := Tryz.sizeOf215,
 v76 := Tryz.zeroValue215,
 t77 := Tryz.underlying216,
 a77 := Tryz.isAgg216,
 z77 := Tryz.sizeOf216,
 v77 := Tryz.zeroValue216 }
def bln_ren : Go.Shelf.Ren := ⟨fun | 125 => 186 | 128 => 196 | 129 => 197 | n => n, fun | 46 => 196 | 3 => 3 | 51 => 206 | 53 => 208 | 4 => 4 | 5 => 5 | 9 => 9 | n => n, fun n => n⟩
theorem bln : Lays.n125 Tryz.prog bln_ren := {
 mixed := by kernel_rfl,
 f125 := Tryz.func186.trans (congrArg some (by kernel_rfl)),
 f128 := Tryz.func196.trans (congrArg some (by kernel_rfl)),
 f129 := Tryz.func197.trans (congrArg some (by kernel_rfl)),
 t3 := Tryz.underlying3,
 a3 := Tryz.isAgg3,
 z3 := Tryz.sizeOf3,
 v3 := Tryz.zeroValue3,
 t4 := Tryz.underlying4,
 a4 := Tryz.isAgg4,
 z4 := Tryz.sizeOf4,
 v4 := Tryz.zeroValue4,
 t5 := Tryz.underlying5,
 a5 := Tryz.isAgg5,
 z5 := Tryz.sizeOf5,
 v5 := Tryz.zeroValue5,
 t9 := Tryz.underlying9,
 a9 := Tryz.isAgg9,
 z9 := Tryz.sizeOf9,
 v9 := Tryz.zeroValue9,
 t46 := Tryz.underlying196,
 a46 := Tryz.isAgg196,
 z46 := Tryz.sizeOf196,
 v46 := Tryz.zeroValue196,
 t51 := Tryz.underlying206,
 a51 := Tryz.isAgg206,
 z51 := Tryz.sizeOf206,
 v51 := Tryz.zeroValue206,
 t53 := Tryz.underlying208,
 a53 := Tryz.isAgg208,
 z53 := Tryz.sizeOf208,
 v53 := Tryz.zeroValue208 }
end Go.Proofs.YthjjdelpdiipdaaGreatDoor
