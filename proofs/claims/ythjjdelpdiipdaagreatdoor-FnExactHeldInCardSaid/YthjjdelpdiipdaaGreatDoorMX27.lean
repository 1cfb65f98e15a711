/- Parts of my texts: LogS4. -/
import Derived.Test.YthjjdelpdiipdaaGreatDoorMX25
namespace Go.Proofs.YthjjdelpdiipdaaGreatDoor
set_option maxRecDepth 100000
set_option linter.unusedVariables false
open Go.RowKit
set_option maxHeartbeats 12800000 in
theorem sOwes_any (v0 v1 v2 v3 v4 v5 v6 v7 v8 v9 v10 v11 v12 v13 v14 v15 v16 v17 v18 : Value) (t : LogM) (w : World) (h : Rd w w.heap.size t.cells [v0, v1, v2, v3, v4, v5, v6, v7, v8, v9, v10, v11, v12, v13, v14, v15, v16, v17, v18]) (hs : t.sz ≤ 1048576) (hd : 0 ≤ t.dur ∧ t.dur ≤ 1000000) :
    Calls Tryz.prog 35 #[.agg #[v0, v1, v2, v3, v4, v5, v6, v7, v8, v9, v10, v11, v12, v13, v14, v15, v16, v17, v18]] w fun e w' => e = .returned (.bool (logW t)) ∧ Below w.heap.size w w' := by
 obtain ⟨Aa0, na0, ca0, Aa1, na1, ca1, Aa2, na2, ca2, Aa3, na3, ca3, Aa7, na7, ca7, Aa11, na11, ca11, Aa15, na15, ca15, Aa16, na16, ca16, Aa18, na18, ca18, ea0, ea1, ea2, ea3, ea4, ea5, ea6, ea7, ea8, ea9, ea10, ea11, ea12, ea13, ea14, ea15, ea16, ea17, ea18, hr0, hr1, hr2, hr4, hr5, hr7⟩ := h.logT
 subst ea0 ea1 ea2 ea3 ea4 ea5 ea6 ea7 ea8 ea9 ea10 ea11 ea12 ea13 ea14 ea15 ea16 ea17 ea18
 have hz0 : t.two.sz ≤ 1048576 := by unfold LogM.sz at hs; omega
 have hz1 : t.head.sz ≤ 1048576 := by unfold LogM.sz at hs; omega
 have hz2 : t.next.sz ≤ 1048576 := by unfold LogM.sz at hs; omega
 have hz4 : t.book.sz ≤ 1048576 := by unfold LogM.sz at hs; omega
 have hz5 : mrkSz t.seen ≤ 1048576 := by unfold LogM.sz at hs; omega
 have hz7 : oweSz t.owe ≤ 1048576 := by unfold LogM.sz at hs; omega
 have hm1 := (hr1.headL).2.2.2
 have hm2 := (hr2.headL).2.2.2
 have he4 := hr4.bookE
 have ys1 : mrkSz t.head.seen ≤ 1048576 := hz1
 have ys2 : mrkSz t.next.seen ≤ 1048576 := hz2
 have ye4 : entSz t.book.ents ≤ 1048576 := hz4
 clear h hs
 have ew : IntKind.i64.wrap (t.dur + 1) = t.dur + 1 := by rw [IntKind.wrap_i64]; omega
 have S := Sep.nil w w.heap.size
 have c := Below.refl w.heap.size w
 replace S := S.boxAt c.size (w.heap.size) rfl #[.slice Aa0 na0 ca0, .slice Aa1 na1 ca1, .slice Aa2 na2 ca2, .slice Aa3 na3 ca3, .int .i64 t.head.num, .int .i64 t.head.base, .int .i64 t.head.tm, .slice Aa7 na7 ca7, .int .i64 t.next.num, .int .i64 t.next.base, .int .i64 t.next.tm, .slice Aa11 na11 ca11, .bool t.more, .int .i64 t.book.base, .int .i64 t.book.tm, .slice Aa15 na15 ca15, .slice Aa16 na16 ca16, .int .i64 t.dur, .slice Aa18 na18 ca18] 52
 replace c := al c S
 go_enter Tryz.func35, Tryz.ntmps35
 have f0 := lk S 0 13 rfl rfl
 have f1 := lk S 0 14 rfl rfl
 have f2 := lk S 0 15 rfl rfl
 have f3 := lk S 0 17 rfl rfl
 go_wp2_with fail
 generalize w.alloc (.cells #[.slice Aa0 na0 ca0, .slice Aa1 na1 ca1, .slice Aa2 na2 ca2, .slice Aa3 na3 ca3, .int .i64 t.head.num, .int .i64 t.head.base, .int .i64 t.head.tm, .slice Aa7 na7 ca7, .int .i64 t.next.num, .int .i64 t.next.base, .int .i64 t.next.tm, .slice Aa11 na11 ca11, .bool t.more, .int .i64 t.book.base, .int .i64 t.book.tm, .slice Aa15 na15 ca15, .slice Aa16 na16 ca16, .int .i64 t.dur, .slice Aa18 na18 ca18] 52) = w1 at *
 refine (sPart12_any t.book.base t.book.tm _ _ _ w.heap.size t.book.ents (t.dur + 1) 2000 _ (he4.keep c) c.size (Nat.le_trans ye4 (by decide))).mono ?_
 rintro e w2 ⟨A4, n4, c4, rfl, o, b⟩
 obtain ⟨fp_pt, S'⟩ := S.has b o c.size
 replace c := c.trans (b.mono c.size)
 clear S; have S := S'; clear S' o b f0 f1 f2 f3
 have f4 := lk S 1 18 rfl rfl
 obtain ⟨ls, hls⟩ : ∃ q, q = selE t.book.ents (t.dur + 1) 2000 := ⟨_, rfl⟩
 have HW := jd (show logW t = sameAs t.owe (ls.map ackM) by unfold logW owedM; rw [hls])
 have hlz := sel_len t.book.ents (t.dur + 1) 2000
 rw [← hls] at S hlz
 obtain ⟨_, _, _, e, hl2, _, _, hel2⟩ := (S.own_ 0 rfl).rd.ents
 injection e with e1 e2 e3
 subst e1 e2 e3
 obtain ⟨_, _, _, e, hl, _, _, hel⟩ := ((hr7.keep c).up c.size).owes
 injection e with e1 e2 e3
 subst e1 e2 e3
 have hn : n4 ≤ 1048577 := by have ye9 := ye4; unfold entSz at ye9; omega
 have hn2 : na18 ≤ 1048577 := by unfold oweSz at hz7; omega
 have HL := jd hl
 have HL2 := jd hl2
 have HC := jd c
 clear S c hl hl2 hlz hls hr0 hr1 hr2 hr4 hr5 hr7 hm1 hm2 he4 ys1 ys2 ye4 hz0 hz1 hz2 hz4 hz5 hz7 ew hd
 by_cases hnn : n4 = na18
 case neg =>
  have HD := jd (show false = logW t by rw [HW.out, sameAs_len (by rw [HL.out, List.length_map, HL2.out]; exact fun h9 => hnn h9.symm)])
  have e1 : ((n4 : Int) != (na18 : Int)) = true := by simp; omega
  have e2 : ((n4 : Int) == (na18 : Int)) = false := by simp; omega
  clear hel hel2
  go_wp2
  go_ret
  exact ⟨ret_bool HD.out, HC.out⟩
 case pos =>
  subst hnn
  have e1 : ((n4 : Int) != (n4 : Int)) = false := by simp
  go_wp2
  go_loopw [4] (fun i wr => ∃ j : Nat, j ≤ n4 ∧ i = .int .i64 (j : Int) ∧ (∀ q, q < j → t.owe.getD q ack0 = (ls.map ackM).getD q ack0) ∧ Below w2.heap.size w2 wr) (fun i _ => n4 - (intOf i).toNat)
  case atStart => exact ⟨0, Nat.zero_le _, rfl, fun q hq => absurd hq (by omega), Below.refl _ _⟩
  case round =>
   obtain ⟨j, hj, rfl, hall, c0⟩ := hrel
   have HA := jd hall
   clear hall
   by_cases hlt : j < n4
   case neg =>
    obtain rfl : j = n4 := by omega
    have HD := jd (show true = logW t by rw [HW.out]; exact ((sameAs_iff _ _).2 (List.ext_getElem (by rw [HL.out, List.length_map, HL2.out]) fun q h1 h2 => by have h9 := HA.out q (by have := HL.out; omega); rwa [agetD h1, agetD h2] at h9)).symm)
    have CC := jd (HC.out.trans (c0.mono HC.out.size))
    clear hel hel2 c0
    go_wp2
    go_ret
    exact ⟨ret_bool HD.out, CC.out⟩
   case pos =>
   have hjl : j < t.owe.length := by have := HL.out; omega
   have hjr : j < ls.length := by have := HL2.out; omega
   have hjm : j < (ls.map ackM).length := by rw [List.length_map]; exact hjr
   obtain ⟨b, off, rfl, hb, hcA⟩ := hel (by omega)
   obtain ⟨b2, off2, rfl, hb2, hcB⟩ := hel2 (by omega)
   obtain ⟨hc0, hc1, hc2, hc3⟩ := hcA j hjl
   obtain ⟨hd0, hd1, hd2, hd3, hd4, hd5, hd6, hd7, hd8⟩ := hcB j hjr
   obtain ⟨z0, hz0⟩ : ∃ q, q = t.owe[j].cl := ⟨_, rfl⟩
   rw [← hz0] at hc0
   obtain ⟨z1, hz1⟩ : ∃ q, q = t.owe[j].sq := ⟨_, rfl⟩
   rw [← hz1] at hc1
   obtain ⟨z2, hz2⟩ : ∃ q, q = t.owe[j].ix := ⟨_, rfl⟩
   rw [← hz2] at hc2
   obtain ⟨z3, hz3⟩ : ∃ q, q = t.owe[j].last := ⟨_, rfl⟩
   rw [← hz3] at hc3
   obtain ⟨x0, hx0⟩ : ∃ q, q = ls[j].idx := ⟨_, rfl⟩
   rw [← hx0] at hd0
   obtain ⟨x1, hx1⟩ : ∃ q, q = ls[j].tm := ⟨_, rfl⟩
   rw [← hx1] at hd1
   obtain ⟨x2, hx2⟩ : ∃ q, q = ls[j].cl := ⟨_, rfl⟩
   rw [← hx2] at hd2
   obtain ⟨x3, hx3⟩ : ∃ q, q = ls[j].sq := ⟨_, rfl⟩
   rw [← hx3] at hd3
   obtain ⟨x4, hx4⟩ : ∃ q, q = ls[j].kd := ⟨_, rfl⟩
   rw [← hx4] at hd4
   obtain ⟨x5, hx5⟩ : ∃ q, q = ls[j].oa := ⟨_, rfl⟩
   rw [← hx5] at hd5
   obtain ⟨x6, hx6⟩ : ∃ q, q = ls[j].ob := ⟨_, rfl⟩
   rw [← hx6] at hd6
   obtain ⟨x7, hx7⟩ : ∃ q, q = ls[j].oc := ⟨_, rfl⟩
   rw [← hx7] at hd7
   obtain ⟨x8, hx8⟩ : ∃ q, q = ls[j].od := ⟨_, rfl⟩
   rw [← hx8] at hd8
   obtain ⟨y0, hy0⟩ : ∃ q, q = (ackM ⟨x0, x1, x2, x3, x4, x5, x6, x7, x8⟩).cl := ⟨_, rfl⟩
   obtain ⟨y1, hy1⟩ : ∃ q, q = (ackM ⟨x0, x1, x2, x3, x4, x5, x6, x7, x8⟩).sq := ⟨_, rfl⟩
   obtain ⟨y2, hy2⟩ : ∃ q, q = (ackM ⟨x0, x1, x2, x3, x4, x5, x6, x7, x8⟩).ix := ⟨_, rfl⟩
   obtain ⟨y3, hy3⟩ : ∃ q, q = (ackM ⟨x0, x1, x2, x3, x4, x5, x6, x7, x8⟩).last := ⟨_, rfl⟩
   have HK : Hid (∀ w9, Calls Tryz.prog 73 #[.agg #[.int .i64 x0, .int .i64 x1, .int .i64 x2, .int .i64 x3, .int .i64 x4, .int .i64 x5, .int .i64 x6, .int .i64 x7, .int .i64 x8]] w9 fun e w' => e = .returned (.agg #[.int .i64 y0, .int .i64 y1, .int .i64 y2, .int .i64 y3]) ∧ Below w9.heap.size w9 w') := jd (fun w9 => by rw [hy0, hy1, hy2, hy3]; exact sAckOf_any x0 x1 x2 x3 x4 x5 x6 x7 x8 w9)
   have hm1 : t.owe[j] = ⟨z0, z1, z2, z3⟩ := by rw [hz0, hz1, hz2, hz3]
   have hm2 : (ls.map ackM)[j] = ⟨y0, y1, y2, y3⟩ := by rw [List.getElem_map, show ls[j] = ⟨x0, x1, x2, x3, x4, x5, x6, x7, x8⟩ by rw [hx0, hx1, hx2, hx3, hx4, hx5, hx6, hx7, hx8], hy0, hy1, hy2, hy3]
   have j0 : (0 : Int) ≤ (j : Int) := by omega
   have j1 : (j : Int) < (n4 : Int) := by omega
   have c := c0
   clear hz0 hy0 hz1 hy1 hz2 hy2 hz3 hy3 hx0 hx1 hx2 hx3 hx4 hx5 hx6 hx7 hx8
   clear hcA hcB hel hel2
   by_cases he : t.owe[j] = (ls.map ackM)[j]
   case pos =>
    rw [hm1, hm2] at he
    injection he with q0 q1 q2 q3
    have HN := jd (show ∀ q, q < j + 1 → t.owe.getD q ack0 = (ls.map ackM).getD q ack0 from fun q hq => by
     rcases Nat.lt_or_ge q j with h1 | h1
     · exact HA.out q h1
     · obtain rfl : q = j := by omega
       rw [agetD hjl, agetD hjm, hm1, hm2, q0, q1, q2, q3])
    clear hm1 hm2
    subst q0 q1 q2 q3
    have S := Sep.nil wr wr.heap.size
    go_wp2_with fail
    refine wp_region_L (fun v => v.cell? ⟨w.heap.size, 18, none⟩ = some (.slice (some ⟨b, off, none⟩) n4 ca18) ∧ v.cell? ⟨b, off + j * 4, none⟩ = some (.int .i64 z0) ∧ v.cell? ⟨b, off + j * 4 + 1, none⟩ = some (.int .i64 z1) ∧ v.cell? ⟨b, off + j * 4 + 2, none⟩ = some (.int .i64 z2) ∧ v.cell? ⟨b, off + j * 4 + 3, none⟩ = some (.int .i64 z3) ∧ v.cell? ⟨b2, off2 + j * 9, none⟩ = some (.int .i64 x0) ∧ v.cell? ⟨b2, off2 + j * 9 + 1, none⟩ = some (.int .i64 x1) ∧ v.cell? ⟨b2, off2 + j * 9 + 2, none⟩ = some (.int .i64 x2) ∧ v.cell? ⟨b2, off2 + j * 9 + 3, none⟩ = some (.int .i64 x3) ∧ v.cell? ⟨b2, off2 + j * 9 + 4, none⟩ = some (.int .i64 x4) ∧ v.cell? ⟨b2, off2 + j * 9 + 5, none⟩ = some (.int .i64 x5) ∧ v.cell? ⟨b2, off2 + j * 9 + 6, none⟩ = some (.int .i64 x6) ∧ v.cell? ⟨b2, off2 + j * 9 + 7, none⟩ = some (.int .i64 x7) ∧ v.cell? ⟨b2, off2 + j * 9 + 8, none⟩ = some (.int .i64 x8)) 10 (by kernel_rfl) ?_
    replace S := S.keep ((Below.refl _ _).drew)
    replace c := c.drew
    generalize wr.drew = w3 at *
    have HF : w3.cell? ⟨w.heap.size, 18, none⟩ = some (.slice (some ⟨b, off, none⟩) n4 ca18) ∧ w3.cell? ⟨b, off + j * 4, none⟩ = some (.int .i64 z0) ∧ w3.cell? ⟨b, off + j * 4 + 1, none⟩ = some (.int .i64 z1) ∧ w3.cell? ⟨b, off + j * 4 + 2, none⟩ = some (.int .i64 z2) ∧ w3.cell? ⟨b, off + j * 4 + 3, none⟩ = some (.int .i64 z3) ∧ w3.cell? ⟨b2, off2 + j * 9, none⟩ = some (.int .i64 x0) ∧ w3.cell? ⟨b2, off2 + j * 9 + 1, none⟩ = some (.int .i64 x1) ∧ w3.cell? ⟨b2, off2 + j * 9 + 2, none⟩ = some (.int .i64 x2) ∧ w3.cell? ⟨b2, off2 + j * 9 + 3, none⟩ = some (.int .i64 x3) ∧ w3.cell? ⟨b2, off2 + j * 9 + 4, none⟩ = some (.int .i64 x4) ∧ w3.cell? ⟨b2, off2 + j * 9 + 5, none⟩ = some (.int .i64 x5) ∧ w3.cell? ⟨b2, off2 + j * 9 + 6, none⟩ = some (.int .i64 x6) ∧ w3.cell? ⟨b2, off2 + j * 9 + 7, none⟩ = some (.int .i64 x7) ∧ w3.cell? ⟨b2, off2 + j * 9 + 8, none⟩ = some (.int .i64 x8) := ⟨(c.cell (p := ⟨w.heap.size, 18, none⟩) (lc f4)).trans f4, cu c hc0 (show b < _ by omega), cu c hc1 (show b < _ by omega), cu c hc2 (show b < _ by omega), cu c hc3 (show b < _ by omega), cu c hd0 (show b2 < _ by omega), cu c hd1 (show b2 < _ by omega), cu c hd2 (show b2 < _ by omega), cu c hd3 (show b2 < _ by omega), cu c hd4 (show b2 < _ by omega), cu c hd5 (show b2 < _ by omega), cu c hd6 (show b2 < _ by omega), cu c hd7 (show b2 < _ by omega), cu c hd8 (show b2 < _ by omega)⟩
    refine wpAnyL_takeT [4, 3, 1] (i := 0) (v := ?_) rfl rfl (by kernel_rfl) (by kernel_rfl) (by kernel_rfl) (by kernel_rfl) (by kernel_rfl) (fun _ _ _ h => h) HF (Or.inl ⟨by rfl, ?_⟩) ?_
    rotate_left 1
    · (rintro v ⟨a0, a1, a2, a3, a4, a5, a6, a7, a8, a9, a10, a11, a12, a13⟩; go_simp; try with_reducible rfl)
    try simp only [Act.put]
    refine wpAnyL_takeT [4, 3] (i := 1) (v := ?_) rfl rfl (by kernel_rfl) (by kernel_rfl) (by kernel_rfl) (by kernel_rfl) (by kernel_rfl) (fun _ _ _ h => h) HF (Or.inl ⟨by rfl, ?_⟩) ?_
    rotate_left 1
    · (rintro v ⟨a0, a1, a2, a3, a4, a5, a6, a7, a8, a9, a10, a11, a12, a13⟩; go_simp; try with_reducible rfl)
    try simp only [Act.put]
    refine wpAnyL_takeT [4, 3] (i := 2) (v := ?_) rfl rfl (by kernel_rfl) (by kernel_rfl) (by kernel_rfl) (by kernel_rfl) (by kernel_rfl) (fun _ _ _ h => h) HF (Or.inl ⟨by rfl, ?_⟩) ?_
    rotate_left 1
    · (rintro v ⟨a0, a1, a2, a3, a4, a5, a6, a7, a8, a9, a10, a11, a12, a13⟩; go_simp; try with_reducible rfl)
    try simp only [Act.put]
    refine wpAnyL_takeT [4] (i := 3) (v := ?_) rfl rfl (by kernel_rfl) (by kernel_rfl) (by kernel_rfl) (by kernel_rfl) (by kernel_rfl) (fun _ _ _ h => h) HF (Or.inl ⟨by rfl, ?_⟩) ?_
    rotate_left 1
    · (rintro v ⟨a0, a1, a2, a3, a4, a5, a6, a7, a8, a9, a10, a11, a12, a13⟩; go_simp; try with_reducible rfl)
    try simp only [Act.put]
    refine wpAnyL_takeT [] (i := 4) (v := ?_) rfl rfl (by kernel_rfl) (by kernel_rfl) (by kernel_rfl) (by kernel_rfl) (by kernel_rfl) (fun _ _ _ h => h) HF (Or.inl ⟨by rfl, ?_⟩) ?_
    rotate_left 1
    · (rintro v ⟨a0, a1, a2, a3, a4, a5, a6, a7, a8, a9, a10, a11, a12, a13⟩; go_simp; try with_reducible rfl)
    try simp only [Act.put]
    refine wpAnyL_takeT [9, 8, 7] (i := 5) (v := ?_) rfl rfl (by kernel_rfl) (by kernel_rfl) (by kernel_rfl) (by kernel_rfl) (by kernel_rfl) (fun _ _ _ h => h) HF (Or.inl ⟨by rfl, ?_⟩) ?_
    rotate_left 1
    · (rintro v ⟨a0, a1, a2, a3, a4, a5, a6, a7, a8, a9, a10, a11, a12, a13⟩; go_simp; try with_reducible rfl)
    try simp only [Act.put]
    refine wpAnyL_takeT [9, 8, 7] (i := 6) (v := ?_) rfl rfl (by kernel_rfl) (by kernel_rfl) (by kernel_rfl) (by kernel_rfl) (by kernel_rfl) (fun _ _ _ h => h) HF (Or.inl ⟨by rfl, ?_⟩) ?_
    rotate_left 1
    · (rintro v ⟨a0, a1, a2, a3, a4, a5, a6, a7, a8, a9, a10, a11, a12, a13⟩; go_simp; try with_reducible rfl)
    try simp only [Act.put]
    refine wpAnyL_takeT [9, 8] (i := 7) (v := ?_) rfl rfl (by kernel_rfl) (by kernel_rfl) (by kernel_rfl) (by kernel_rfl) (by kernel_rfl) (fun _ _ _ h => h) HF (Or.inl ⟨by rfl, ?_⟩) ?_
    rotate_left 1
    · (rintro v ⟨a0, a1, a2, a3, a4, a5, a6, a7, a8, a9, a10, a11, a12, a13⟩; go_simp; try with_reducible rfl)
    try simp only [Act.put]
    refine wpAnyL_takeT [9] (i := 8) (v := ?_) rfl rfl (by kernel_rfl) (by kernel_rfl) (by kernel_rfl) (by kernel_rfl) (by kernel_rfl) (fun _ _ _ h => h) HF (Or.inl ⟨by rfl, ?_⟩) ?_
    rotate_left 1
    · (rintro v ⟨a0, a1, a2, a3, a4, a5, a6, a7, a8, a9, a10, a11, a12, a13⟩; go_simp; try with_reducible rfl)
    try simp only [Act.put]
    refine wpAnyL_step (i := 9) (by kernel_rfl) rfl rfl ?_
    intro K hK
    go_simp
    refine (HK.out _).mono ?_
    rintro e w4 ⟨rfl, b⟩
    replace c := c.trans (b.mono c.size)
    replace S := S.keep b
    clear b
    clear HF
    have HF : w4.cell? ⟨w.heap.size, 18, none⟩ = some (.slice (some ⟨b, off, none⟩) n4 ca18) ∧ w4.cell? ⟨b, off + j * 4, none⟩ = some (.int .i64 z0) ∧ w4.cell? ⟨b, off + j * 4 + 1, none⟩ = some (.int .i64 z1) ∧ w4.cell? ⟨b, off + j * 4 + 2, none⟩ = some (.int .i64 z2) ∧ w4.cell? ⟨b, off + j * 4 + 3, none⟩ = some (.int .i64 z3) ∧ w4.cell? ⟨b2, off2 + j * 9, none⟩ = some (.int .i64 x0) ∧ w4.cell? ⟨b2, off2 + j * 9 + 1, none⟩ = some (.int .i64 x1) ∧ w4.cell? ⟨b2, off2 + j * 9 + 2, none⟩ = some (.int .i64 x2) ∧ w4.cell? ⟨b2, off2 + j * 9 + 3, none⟩ = some (.int .i64 x3) ∧ w4.cell? ⟨b2, off2 + j * 9 + 4, none⟩ = some (.int .i64 x4) ∧ w4.cell? ⟨b2, off2 + j * 9 + 5, none⟩ = some (.int .i64 x5) ∧ w4.cell? ⟨b2, off2 + j * 9 + 6, none⟩ = some (.int .i64 x6) ∧ w4.cell? ⟨b2, off2 + j * 9 + 7, none⟩ = some (.int .i64 x7) ∧ w4.cell? ⟨b2, off2 + j * 9 + 8, none⟩ = some (.int .i64 x8) := ⟨(c.cell (p := ⟨w.heap.size, 18, none⟩) (lc f4)).trans f4, cu c hc0 (show b < _ by omega), cu c hc1 (show b < _ by omega), cu c hc2 (show b < _ by omega), cu c hc3 (show b < _ by omega), cu c hd0 (show b2 < _ by omega), cu c hd1 (show b2 < _ by omega), cu c hd2 (show b2 < _ by omega), cu c hd3 (show b2 < _ by omega), cu c hd4 (show b2 < _ by omega), cu c hd5 (show b2 < _ by omega), cu c hd6 (show b2 < _ by omega), cu c hd7 (show b2 < _ by omega), cu c hd8 (show b2 < _ by omega)⟩
    refine hK _ _ (fun _ => HF) ?_
    clear hK K
    try simp only [Act.put]
    refine wpAnyL_step (i := 10) (by kernel_rfl) rfl rfl ?_
    intro K hK
    go_simp
    refine hK _ _ (fun h => nomatch (show true = false from h)) ?_
    clear hK K
    try simp only [Act.put]
    refine wpAnyL_done (by kernel_rfl) ?_ _
    clear HF S
    have CC := jd c
    clear c c0
    go_wp2
    go_roundw
    case rel => exact ⟨j + 1, by omega, by go_num, HN.out, CC.out⟩
    case measure => simp [intOf]; omega
   case neg =>
    have HD := jd (show false = logW t by rw [HW.out]; exact (sameAs_step (j := j) (by rw [Bool.eq_false_iff]; intro h9; exact he (by have h8 := (sameA_iff _ _).1 h9; rwa [agetD hjl, agetD hjm] at h8))).symm)
    have hne : ¬ (z0 = y0 ∧ z1 = y1 ∧ z2 = y2 ∧ z3 = y3) := fun h9 => he (by rw [hm1, hm2]; obtain ⟨q0, q1, q2, q3⟩ := h9; rw [q0, q1, q2, q3])
    clear he hm1 hm2
    by_cases q0 : z0 = y0
    case neg =>
     have e5 : (z0 == y0) = false := by simpa using q0
     clear hne q0
     have S := Sep.nil wr wr.heap.size
     go_wp2_with fail
     refine wp_region_L (fun v => v.cell? ⟨w.heap.size, 18, none⟩ = some (.slice (some ⟨b, off, none⟩) n4 ca18) ∧ v.cell? ⟨b, off + j * 4, none⟩ = some (.int .i64 z0) ∧ v.cell? ⟨b, off + j * 4 + 1, none⟩ = some (.int .i64 z1) ∧ v.cell? ⟨b, off + j * 4 + 2, none⟩ = some (.int .i64 z2) ∧ v.cell? ⟨b, off + j * 4 + 3, none⟩ = some (.int .i64 z3) ∧ v.cell? ⟨b2, off2 + j * 9, none⟩ = some (.int .i64 x0) ∧ v.cell? ⟨b2, off2 + j * 9 + 1, none⟩ = some (.int .i64 x1) ∧ v.cell? ⟨b2, off2 + j * 9 + 2, none⟩ = some (.int .i64 x2) ∧ v.cell? ⟨b2, off2 + j * 9 + 3, none⟩ = some (.int .i64 x3) ∧ v.cell? ⟨b2, off2 + j * 9 + 4, none⟩ = some (.int .i64 x4) ∧ v.cell? ⟨b2, off2 + j * 9 + 5, none⟩ = some (.int .i64 x5) ∧ v.cell? ⟨b2, off2 + j * 9 + 6, none⟩ = some (.int .i64 x6) ∧ v.cell? ⟨b2, off2 + j * 9 + 7, none⟩ = some (.int .i64 x7) ∧ v.cell? ⟨b2, off2 + j * 9 + 8, none⟩ = some (.int .i64 x8)) 10 (by kernel_rfl) ?_
     replace S := S.keep ((Below.refl _ _).drew)
     replace c := c.drew
     generalize wr.drew = w3 at *
     have HF : w3.cell? ⟨w.heap.size, 18, none⟩ = some (.slice (some ⟨b, off, none⟩) n4 ca18) ∧ w3.cell? ⟨b, off + j * 4, none⟩ = some (.int .i64 z0) ∧ w3.cell? ⟨b, off + j * 4 + 1, none⟩ = some (.int .i64 z1) ∧ w3.cell? ⟨b, off + j * 4 + 2, none⟩ = some (.int .i64 z2) ∧ w3.cell? ⟨b, off + j * 4 + 3, none⟩ = some (.int .i64 z3) ∧ w3.cell? ⟨b2, off2 + j * 9, none⟩ = some (.int .i64 x0) ∧ w3.cell? ⟨b2, off2 + j * 9 + 1, none⟩ = some (.int .i64 x1) ∧ w3.cell? ⟨b2, off2 + j * 9 + 2, none⟩ = some (.int .i64 x2) ∧ w3.cell? ⟨b2, off2 + j * 9 + 3, none⟩ = some (.int .i64 x3) ∧ w3.cell? ⟨b2, off2 + j * 9 + 4, none⟩ = some (.int .i64 x4) ∧ w3.cell? ⟨b2, off2 + j * 9 + 5, none⟩ = some (.int .i64 x5) ∧ w3.cell? ⟨b2, off2 + j * 9 + 6, none⟩ = some (.int .i64 x6) ∧ w3.cell? ⟨b2, off2 + j * 9 + 7, none⟩ = some (.int .i64 x7) ∧ w3.cell? ⟨b2, off2 + j * 9 + 8, none⟩ = some (.int .i64 x8) := ⟨(c.cell (p := ⟨w.heap.size, 18, none⟩) (lc f4)).trans f4, cu c hc0 (show b < _ by omega), cu c hc1 (show b < _ by omega), cu c hc2 (show b < _ by omega), cu c hc3 (show b < _ by omega), cu c hd0 (show b2 < _ by omega), cu c hd1 (show b2 < _ by omega), cu c hd2 (show b2 < _ by omega), cu c hd3 (show b2 < _ by omega), cu c hd4 (show b2 < _ by omega), cu c hd5 (show b2 < _ by omega), cu c hd6 (show b2 < _ by omega), cu c hd7 (show b2 < _ by omega), cu c hd8 (show b2 < _ by omega)⟩
     refine wpAnyL_takeT [4, 3, 1] (i := 0) (v := ?_) rfl rfl (by kernel_rfl) (by kernel_rfl) (by kernel_rfl) (by kernel_rfl) (by kernel_rfl) (fun _ _ _ h => h) HF (Or.inl ⟨by rfl, ?_⟩) ?_
     rotate_left 1
     · (rintro v ⟨a0, a1, a2, a3, a4, a5, a6, a7, a8, a9, a10, a11, a12, a13⟩; go_simp; try with_reducible rfl)
     try simp only [Act.put]
     refine wpAnyL_takeT [4, 3] (i := 1) (v := ?_) rfl rfl (by kernel_rfl) (by kernel_rfl) (by kernel_rfl) (by kernel_rfl) (by kernel_rfl) (fun _ _ _ h => h) HF (Or.inl ⟨by rfl, ?_⟩) ?_
     rotate_left 1
     · (rintro v ⟨a0, a1, a2, a3, a4, a5, a6, a7, a8, a9, a10, a11, a12, a13⟩; go_simp; try with_reducible rfl)
     try simp only [Act.put]
     refine wpAnyL_takeT [4, 3] (i := 2) (v := ?_) rfl rfl (by kernel_rfl) (by kernel_rfl) (by kernel_rfl) (by kernel_rfl) (by kernel_rfl) (fun _ _ _ h => h) HF (Or.inl ⟨by rfl, ?_⟩) ?_
     rotate_left 1
     · (rintro v ⟨a0, a1, a2, a3, a4, a5, a6, a7, a8, a9, a10, a11, a12, a13⟩; go_simp; try with_reducible rfl)
     try simp only [Act.put]
     refine wpAnyL_takeT [4] (i := 3) (v := ?_) rfl rfl (by kernel_rfl) (by kernel_rfl) (by kernel_rfl) (by kernel_rfl) (by kernel_rfl) (fun _ _ _ h => h) HF (Or.inl ⟨by rfl, ?_⟩) ?_
     rotate_left 1
     · (rintro v ⟨a0, a1, a2, a3, a4, a5, a6, a7, a8, a9, a10, a11, a12, a13⟩; go_simp; try with_reducible rfl)
     try simp only [Act.put]
     refine wpAnyL_takeT [] (i := 4) (v := ?_) rfl rfl (by kernel_rfl) (by kernel_rfl) (by kernel_rfl) (by kernel_rfl) (by kernel_rfl) (fun _ _ _ h => h) HF (Or.inl ⟨by rfl, ?_⟩) ?_
     rotate_left 1
     · (rintro v ⟨a0, a1, a2, a3, a4, a5, a6, a7, a8, a9, a10, a11, a12, a13⟩; go_simp; try with_reducible rfl)
     try simp only [Act.put]
     refine wpAnyL_takeT [9, 8, 7] (i := 5) (v := ?_) rfl rfl (by kernel_rfl) (by kernel_rfl) (by kernel_rfl) (by kernel_rfl) (by kernel_rfl) (fun _ _ _ h => h) HF (Or.inl ⟨by rfl, ?_⟩) ?_
     rotate_left 1
     · (rintro v ⟨a0, a1, a2, a3, a4, a5, a6, a7, a8, a9, a10, a11, a12, a13⟩; go_simp; try with_reducible rfl)
     try simp only [Act.put]
     refine wpAnyL_takeT [9, 8, 7] (i := 6) (v := ?_) rfl rfl (by kernel_rfl) (by kernel_rfl) (by kernel_rfl) (by kernel_rfl) (by kernel_rfl) (fun _ _ _ h => h) HF (Or.inl ⟨by rfl, ?_⟩) ?_
     rotate_left 1
     · (rintro v ⟨a0, a1, a2, a3, a4, a5, a6, a7, a8, a9, a10, a11, a12, a13⟩; go_simp; try with_reducible rfl)
     try simp only [Act.put]
     refine wpAnyL_takeT [9, 8] (i := 7) (v := ?_) rfl rfl (by kernel_rfl) (by kernel_rfl) (by kernel_rfl) (by kernel_rfl) (by kernel_rfl) (fun _ _ _ h => h) HF (Or.inl ⟨by rfl, ?_⟩) ?_
     rotate_left 1
     · (rintro v ⟨a0, a1, a2, a3, a4, a5, a6, a7, a8, a9, a10, a11, a12, a13⟩; go_simp; try with_reducible rfl)
     try simp only [Act.put]
     refine wpAnyL_takeT [9] (i := 8) (v := ?_) rfl rfl (by kernel_rfl) (by kernel_rfl) (by kernel_rfl) (by kernel_rfl) (by kernel_rfl) (fun _ _ _ h => h) HF (Or.inl ⟨by rfl, ?_⟩) ?_
     rotate_left 1
     · (rintro v ⟨a0, a1, a2, a3, a4, a5, a6, a7, a8, a9, a10, a11, a12, a13⟩; go_simp; try with_reducible rfl)
     try simp only [Act.put]
     refine wpAnyL_step (i := 9) (by kernel_rfl) rfl rfl ?_
     intro K hK
     go_simp
     refine (HK.out _).mono ?_
     rintro e w4 ⟨rfl, b⟩
     replace c := c.trans (b.mono c.size)
     replace S := S.keep b
     clear b
     clear HF
     have HF : w4.cell? ⟨w.heap.size, 18, none⟩ = some (.slice (some ⟨b, off, none⟩) n4 ca18) ∧ w4.cell? ⟨b, off + j * 4, none⟩ = some (.int .i64 z0) ∧ w4.cell? ⟨b, off + j * 4 + 1, none⟩ = some (.int .i64 z1) ∧ w4.cell? ⟨b, off + j * 4 + 2, none⟩ = some (.int .i64 z2) ∧ w4.cell? ⟨b, off + j * 4 + 3, none⟩ = some (.int .i64 z3) ∧ w4.cell? ⟨b2, off2 + j * 9, none⟩ = some (.int .i64 x0) ∧ w4.cell? ⟨b2, off2 + j * 9 + 1, none⟩ = some (.int .i64 x1) ∧ w4.cell? ⟨b2, off2 + j * 9 + 2, none⟩ = some (.int .i64 x2) ∧ w4.cell? ⟨b2, off2 + j * 9 + 3, none⟩ = some (.int .i64 x3) ∧ w4.cell? ⟨b2, off2 + j * 9 + 4, none⟩ = some (.int .i64 x4) ∧ w4.cell? ⟨b2, off2 + j * 9 + 5, none⟩ = some (.int .i64 x5) ∧ w4.cell? ⟨b2, off2 + j * 9 + 6, none⟩ = some (.int .i64 x6) ∧ w4.cell? ⟨b2, off2 + j * 9 + 7, none⟩ = some (.int .i64 x7) ∧ w4.cell? ⟨b2, off2 + j * 9 + 8, none⟩ = some (.int .i64 x8) := ⟨(c.cell (p := ⟨w.heap.size, 18, none⟩) (lc f4)).trans f4, cu c hc0 (show b < _ by omega), cu c hc1 (show b < _ by omega), cu c hc2 (show b < _ by omega), cu c hc3 (show b < _ by omega), cu c hd0 (show b2 < _ by omega), cu c hd1 (show b2 < _ by omega), cu c hd2 (show b2 < _ by omega), cu c hd3 (show b2 < _ by omega), cu c hd4 (show b2 < _ by omega), cu c hd5 (show b2 < _ by omega), cu c hd6 (show b2 < _ by omega), cu c hd7 (show b2 < _ by omega), cu c hd8 (show b2 < _ by omega)⟩
     refine hK _ _ (fun _ => HF) ?_
     clear hK K
     try simp only [Act.put]
     refine wpAnyL_step (i := 10) (by kernel_rfl) rfl rfl ?_
     intro K hK
     go_simp
     refine hK _ _ (fun h => nomatch (show true = false from h)) ?_
     clear hK K
     try simp only [Act.put]
     refine wpAnyL_done (by kernel_rfl) ?_ _
     clear HF S
     have CC := jd (HC.out.trans (c.mono HC.out.size))
     clear c c0
     go_wp2
     go_ret
     exact ⟨ret_bool HD.out, CC.out⟩
    subst q0
    by_cases q1 : z1 = y1
    case neg =>
     have e6 : (z1 == y1) = false := by simpa using q1
     clear hne q1
     have S := Sep.nil wr wr.heap.size
     go_wp2_with fail
     refine wp_region_L (fun v => v.cell? ⟨w.heap.size, 18, none⟩ = some (.slice (some ⟨b, off, none⟩) n4 ca18) ∧ v.cell? ⟨b, off + j * 4, none⟩ = some (.int .i64 z0) ∧ v.cell? ⟨b, off + j * 4 + 1, none⟩ = some (.int .i64 z1) ∧ v.cell? ⟨b, off + j * 4 + 2, none⟩ = some (.int .i64 z2) ∧ v.cell? ⟨b, off + j * 4 + 3, none⟩ = some (.int .i64 z3) ∧ v.cell? ⟨b2, off2 + j * 9, none⟩ = some (.int .i64 x0) ∧ v.cell? ⟨b2, off2 + j * 9 + 1, none⟩ = some (.int .i64 x1) ∧ v.cell? ⟨b2, off2 + j * 9 + 2, none⟩ = some (.int .i64 x2) ∧ v.cell? ⟨b2, off2 + j * 9 + 3, none⟩ = some (.int .i64 x3) ∧ v.cell? ⟨b2, off2 + j * 9 + 4, none⟩ = some (.int .i64 x4) ∧ v.cell? ⟨b2, off2 + j * 9 + 5, none⟩ = some (.int .i64 x5) ∧ v.cell? ⟨b2, off2 + j * 9 + 6, none⟩ = some (.int .i64 x6) ∧ v.cell? ⟨b2, off2 + j * 9 + 7, none⟩ = some (.int .i64 x7) ∧ v.cell? ⟨b2, off2 + j * 9 + 8, none⟩ = some (.int .i64 x8)) 10 (by kernel_rfl) ?_
     replace S := S.keep ((Below.refl _ _).drew)
     replace c := c.drew
     generalize wr.drew = w3 at *
     have HF : w3.cell? ⟨w.heap.size, 18, none⟩ = some (.slice (some ⟨b, off, none⟩) n4 ca18) ∧ w3.cell? ⟨b, off + j * 4, none⟩ = some (.int .i64 z0) ∧ w3.cell? ⟨b, off + j * 4 + 1, none⟩ = some (.int .i64 z1) ∧ w3.cell? ⟨b, off + j * 4 + 2, none⟩ = some (.int .i64 z2) ∧ w3.cell? ⟨b, off + j * 4 + 3, none⟩ = some (.int .i64 z3) ∧ w3.cell? ⟨b2, off2 + j * 9, none⟩ = some (.int .i64 x0) ∧ w3.cell? ⟨b2, off2 + j * 9 + 1, none⟩ = some (.int .i64 x1) ∧ w3.cell? ⟨b2, off2 + j * 9 + 2, none⟩ = some (.int .i64 x2) ∧ w3.cell? ⟨b2, off2 + j * 9 + 3, none⟩ = some (.int .i64 x3) ∧ w3.cell? ⟨b2, off2 + j * 9 + 4, none⟩ = some (.int .i64 x4) ∧ w3.cell? ⟨b2, off2 + j * 9 + 5, none⟩ = some (.int .i64 x5) ∧ w3.cell? ⟨b2, off2 + j * 9 + 6, none⟩ = some (.int .i64 x6) ∧ w3.cell? ⟨b2, off2 + j * 9 + 7, none⟩ = some (.int .i64 x7) ∧ w3.cell? ⟨b2, off2 + j * 9 + 8, none⟩ = some (.int .i64 x8) := ⟨(c.cell (p := ⟨w.heap.size, 18, none⟩) (lc f4)).trans f4, cu c hc0 (show b < _ by omega), cu c hc1 (show b < _ by omega), cu c hc2 (show b < _ by omega), cu c hc3 (show b < _ by omega), cu c hd0 (show b2 < _ by omega), cu c hd1 (show b2 < _ by omega), cu c hd2 (show b2 < _ by omega), cu c hd3 (show b2 < _ by omega), cu c hd4 (show b2 < _ by omega), cu c hd5 (show b2 < _ by omega), cu c hd6 (show b2 < _ by omega), cu c hd7 (show b2 < _ by omega), cu c hd8 (show b2 < _ by omega)⟩
     refine wpAnyL_takeT [4, 3, 1] (i := 0) (v := ?_) rfl rfl (by kernel_rfl) (by kernel_rfl) (by kernel_rfl) (by kernel_rfl) (by kernel_rfl) (fun _ _ _ h => h) HF (Or.inl ⟨by rfl, ?_⟩) ?_
     rotate_left 1
     · (rintro v ⟨a0, a1, a2, a3, a4, a5, a6, a7, a8, a9, a10, a11, a12, a13⟩; go_simp; try with_reducible rfl)
     try simp only [Act.put]
     refine wpAnyL_takeT [4, 3] (i := 1) (v := ?_) rfl rfl (by kernel_rfl) (by kernel_rfl) (by kernel_rfl) (by kernel_rfl) (by kernel_rfl) (fun _ _ _ h => h) HF (Or.inl ⟨by rfl, ?_⟩) ?_
     rotate_left 1
     · (rintro v ⟨a0, a1, a2, a3, a4, a5, a6, a7, a8, a9, a10, a11, a12, a13⟩; go_simp; try with_reducible rfl)
     try simp only [Act.put]
     refine wpAnyL_takeT [4, 3] (i := 2) (v := ?_) rfl rfl (by kernel_rfl) (by kernel_rfl) (by kernel_rfl) (by kernel_rfl) (by kernel_rfl) (fun _ _ _ h => h) HF (Or.inl ⟨by rfl, ?_⟩) ?_
     rotate_left 1
     · (rintro v ⟨a0, a1, a2, a3, a4, a5, a6, a7, a8, a9, a10, a11, a12, a13⟩; go_simp; try with_reducible rfl)
     try simp only [Act.put]
     refine wpAnyL_takeT [4] (i := 3) (v := ?_) rfl rfl (by kernel_rfl) (by kernel_rfl) (by kernel_rfl) (by kernel_rfl) (by kernel_rfl) (fun _ _ _ h => h) HF (Or.inl ⟨by rfl, ?_⟩) ?_
     rotate_left 1
     · (rintro v ⟨a0, a1, a2, a3, a4, a5, a6, a7, a8, a9, a10, a11, a12, a13⟩; go_simp; try with_reducible rfl)
     try simp only [Act.put]
     refine wpAnyL_takeT [] (i := 4) (v := ?_) rfl rfl (by kernel_rfl) (by kernel_rfl) (by kernel_rfl) (by kernel_rfl) (by kernel_rfl) (fun _ _ _ h => h) HF (Or.inl ⟨by rfl, ?_⟩) ?_
     rotate_left 1
     · (rintro v ⟨a0, a1, a2, a3, a4, a5, a6, a7, a8, a9, a10, a11, a12, a13⟩; go_simp; try with_reducible rfl)
     try simp only [Act.put]
     refine wpAnyL_takeT [9, 8, 7] (i := 5) (v := ?_) rfl rfl (by kernel_rfl) (by kernel_rfl) (by kernel_rfl) (by kernel_rfl) (by kernel_rfl) (fun _ _ _ h => h) HF (Or.inl ⟨by rfl, ?_⟩) ?_
     rotate_left 1
     · (rintro v ⟨a0, a1, a2, a3, a4, a5, a6, a7, a8, a9, a10, a11, a12, a13⟩; go_simp; try with_reducible rfl)
     try simp only [Act.put]
     refine wpAnyL_takeT [9, 8, 7] (i := 6) (v := ?_) rfl rfl (by kernel_rfl) (by kernel_rfl) (by kernel_rfl) (by kernel_rfl) (by kernel_rfl) (fun _ _ _ h => h) HF (Or.inl ⟨by rfl, ?_⟩) ?_
     rotate_left 1
     · (rintro v ⟨a0, a1, a2, a3, a4, a5, a6, a7, a8, a9, a10, a11, a12, a13⟩; go_simp; try with_reducible rfl)
     try simp only [Act.put]
     refine wpAnyL_takeT [9, 8] (i := 7) (v := ?_) rfl rfl (by kernel_rfl) (by kernel_rfl) (by kernel_rfl) (by kernel_rfl) (by kernel_rfl) (fun _ _ _ h => h) HF (Or.inl ⟨by rfl, ?_⟩) ?_
     rotate_left 1
     · (rintro v ⟨a0, a1, a2, a3, a4, a5, a6, a7, a8, a9, a10, a11, a12, a13⟩; go_simp; try with_reducible rfl)
     try simp only [Act.put]
     refine wpAnyL_takeT [9] (i := 8) (v := ?_) rfl rfl (by kernel_rfl) (by kernel_rfl) (by kernel_rfl) (by kernel_rfl) (by kernel_rfl) (fun _ _ _ h => h) HF (Or.inl ⟨by rfl, ?_⟩) ?_
     rotate_left 1
     · (rintro v ⟨a0, a1, a2, a3, a4, a5, a6, a7, a8, a9, a10, a11, a12, a13⟩; go_simp; try with_reducible rfl)
     try simp only [Act.put]
     refine wpAnyL_step (i := 9) (by kernel_rfl) rfl rfl ?_
     intro K hK
     go_simp
     refine (HK.out _).mono ?_
     rintro e w4 ⟨rfl, b⟩
     replace c := c.trans (b.mono c.size)
     replace S := S.keep b
     clear b
     clear HF
     have HF : w4.cell? ⟨w.heap.size, 18, none⟩ = some (.slice (some ⟨b, off, none⟩) n4 ca18) ∧ w4.cell? ⟨b, off + j * 4, none⟩ = some (.int .i64 z0) ∧ w4.cell? ⟨b, off + j * 4 + 1, none⟩ = some (.int .i64 z1) ∧ w4.cell? ⟨b, off + j * 4 + 2, none⟩ = some (.int .i64 z2) ∧ w4.cell? ⟨b, off + j * 4 + 3, none⟩ = some (.int .i64 z3) ∧ w4.cell? ⟨b2, off2 + j * 9, none⟩ = some (.int .i64 x0) ∧ w4.cell? ⟨b2, off2 + j * 9 + 1, none⟩ = some (.int .i64 x1) ∧ w4.cell? ⟨b2, off2 + j * 9 + 2, none⟩ = some (.int .i64 x2) ∧ w4.cell? ⟨b2, off2 + j * 9 + 3, none⟩ = some (.int .i64 x3) ∧ w4.cell? ⟨b2, off2 + j * 9 + 4, none⟩ = some (.int .i64 x4) ∧ w4.cell? ⟨b2, off2 + j * 9 + 5, none⟩ = some (.int .i64 x5) ∧ w4.cell? ⟨b2, off2 + j * 9 + 6, none⟩ = some (.int .i64 x6) ∧ w4.cell? ⟨b2, off2 + j * 9 + 7, none⟩ = some (.int .i64 x7) ∧ w4.cell? ⟨b2, off2 + j * 9 + 8, none⟩ = some (.int .i64 x8) := ⟨(c.cell (p := ⟨w.heap.size, 18, none⟩) (lc f4)).trans f4, cu c hc0 (show b < _ by omega), cu c hc1 (show b < _ by omega), cu c hc2 (show b < _ by omega), cu c hc3 (show b < _ by omega), cu c hd0 (show b2 < _ by omega), cu c hd1 (show b2 < _ by omega), cu c hd2 (show b2 < _ by omega), cu c hd3 (show b2 < _ by omega), cu c hd4 (show b2 < _ by omega), cu c hd5 (show b2 < _ by omega), cu c hd6 (show b2 < _ by omega), cu c hd7 (show b2 < _ by omega), cu c hd8 (show b2 < _ by omega)⟩
     refine hK _ _ (fun _ => HF) ?_
     clear hK K
     try simp only [Act.put]
     refine wpAnyL_step (i := 10) (by kernel_rfl) rfl rfl ?_
     intro K hK
     go_simp
     refine hK _ _ (fun h => nomatch (show true = false from h)) ?_
     clear hK K
     try simp only [Act.put]
     refine wpAnyL_done (by kernel_rfl) ?_ _
     clear HF S
     have CC := jd (HC.out.trans (c.mono HC.out.size))
     clear c c0
     go_wp2
     go_ret
     exact ⟨ret_bool HD.out, CC.out⟩
    subst q1
    by_cases q2 : z2 = y2
    case neg =>
     have e7 : (z2 == y2) = false := by simpa using q2
     clear hne q2
     have S := Sep.nil wr wr.heap.size
     go_wp2_with fail
     refine wp_region_L (fun v => v.cell? ⟨w.heap.size, 18, none⟩ = some (.slice (some ⟨b, off, none⟩) n4 ca18) ∧ v.cell? ⟨b, off + j * 4, none⟩ = some (.int .i64 z0) ∧ v.cell? ⟨b, off + j * 4 + 1, none⟩ = some (.int .i64 z1) ∧ v.cell? ⟨b, off + j * 4 + 2, none⟩ = some (.int .i64 z2) ∧ v.cell? ⟨b, off + j * 4 + 3, none⟩ = some (.int .i64 z3) ∧ v.cell? ⟨b2, off2 + j * 9, none⟩ = some (.int .i64 x0) ∧ v.cell? ⟨b2, off2 + j * 9 + 1, none⟩ = some (.int .i64 x1) ∧ v.cell? ⟨b2, off2 + j * 9 + 2, none⟩ = some (.int .i64 x2) ∧ v.cell? ⟨b2, off2 + j * 9 + 3, none⟩ = some (.int .i64 x3) ∧ v.cell? ⟨b2, off2 + j * 9 + 4, none⟩ = some (.int .i64 x4) ∧ v.cell? ⟨b2, off2 + j * 9 + 5, none⟩ = some (.int .i64 x5) ∧ v.cell? ⟨b2, off2 + j * 9 + 6, none⟩ = some (.int .i64 x6) ∧ v.cell? ⟨b2, off2 + j * 9 + 7, none⟩ = some (.int .i64 x7) ∧ v.cell? ⟨b2, off2 + j * 9 + 8, none⟩ = some (.int .i64 x8)) 10 (by kernel_rfl) ?_
     replace S := S.keep ((Below.refl _ _).drew)
     replace c := c.drew
     generalize wr.drew = w3 at *
     have HF : w3.cell? ⟨w.heap.size, 18, none⟩ = some (.slice (some ⟨b, off, none⟩) n4 ca18) ∧ w3.cell? ⟨b, off + j * 4, none⟩ = some (.int .i64 z0) ∧ w3.cell? ⟨b, off + j * 4 + 1, none⟩ = some (.int .i64 z1) ∧ w3.cell? ⟨b, off + j * 4 + 2, none⟩ = some (.int .i64 z2) ∧ w3.cell? ⟨b, off + j * 4 + 3, none⟩ = some (.int .i64 z3) ∧ w3.cell? ⟨b2, off2 + j * 9, none⟩ = some (.int .i64 x0) ∧ w3.cell? ⟨b2, off2 + j * 9 + 1, none⟩ = some (.int .i64 x1) ∧ w3.cell? ⟨b2, off2 + j * 9 + 2, none⟩ = some (.int .i64 x2) ∧ w3.cell? ⟨b2, off2 + j * 9 + 3, none⟩ = some (.int .i64 x3) ∧ w3.cell? ⟨b2, off2 + j * 9 + 4, none⟩ = some (.int .i64 x4) ∧ w3.cell? ⟨b2, off2 + j * 9 + 5, none⟩ = some (.int .i64 x5) ∧ w3.cell? ⟨b2, off2 + j * 9 + 6, none⟩ = some (.int .i64 x6) ∧ w3.cell? ⟨b2, off2 + j * 9 + 7, none⟩ = some (.int .i64 x7) ∧ w3.cell? ⟨b2, off2 + j * 9 + 8, none⟩ = some (.int .i64 x8) := ⟨(c.cell (p := ⟨w.heap.size, 18, none⟩) (lc f4)).trans f4, cu c hc0 (show b < _ by omega), cu c hc1 (show b < _ by omega), cu c hc2 (show b < _ by omega), cu c hc3 (show b < _ by omega), cu c hd0 (show b2 < _ by omega), cu c hd1 (show b2 < _ by omega), cu c hd2 (show b2 < _ by omega), cu c hd3 (show b2 < _ by omega), cu c hd4 (show b2 < _ by omega), cu c hd5 (show b2 < _ by omega), cu c hd6 (show b2 < _ by omega), cu c hd7 (show b2 < _ by omega), cu c hd8 (show b2 < _ by omega)⟩
     refine wpAnyL_takeT [4, 3, 1] (i := 0) (v := ?_) rfl rfl (by kernel_rfl) (by kernel_rfl) (by kernel_rfl) (by kernel_rfl) (by kernel_rfl) (fun _ _ _ h => h) HF (Or.inl ⟨by rfl, ?_⟩) ?_
     rotate_left 1
     · (rintro v ⟨a0, a1, a2, a3, a4, a5, a6, a7, a8, a9, a10, a11, a12, a13⟩; go_simp; try with_reducible rfl)
     try simp only [Act.put]
     refine wpAnyL_takeT [4, 3] (i := 1) (v := ?_) rfl rfl (by kernel_rfl) (by kernel_rfl) (by kernel_rfl) (by kernel_rfl) (by kernel_rfl) (fun _ _ _ h => h) HF (Or.inl ⟨by rfl, ?_⟩) ?_
     rotate_left 1
     · (rintro v ⟨a0, a1, a2, a3, a4, a5, a6, a7, a8, a9, a10, a11, a12, a13⟩; go_simp; try with_reducible rfl)
     try simp only [Act.put]
     refine wpAnyL_takeT [4, 3] (i := 2) (v := ?_) rfl rfl (by kernel_rfl) (by kernel_rfl) (by kernel_rfl) (by kernel_rfl) (by kernel_rfl) (fun _ _ _ h => h) HF (Or.inl ⟨by rfl, ?_⟩) ?_
     rotate_left 1
     · (rintro v ⟨a0, a1, a2, a3, a4, a5, a6, a7, a8, a9, a10, a11, a12, a13⟩; go_simp; try with_reducible rfl)
     try simp only [Act.put]
     refine wpAnyL_takeT [4] (i := 3) (v := ?_) rfl rfl (by kernel_rfl) (by kernel_rfl) (by kernel_rfl) (by kernel_rfl) (by kernel_rfl) (fun _ _ _ h => h) HF (Or.inl ⟨by rfl, ?_⟩) ?_
     rotate_left 1
     · (rintro v ⟨a0, a1, a2, a3, a4, a5, a6, a7, a8, a9, a10, a11, a12, a13⟩; go_simp; try with_reducible rfl)
     try simp only [Act.put]
     refine wpAnyL_takeT [] (i := 4) (v := ?_) rfl rfl (by kernel_rfl) (by kernel_rfl) (by kernel_rfl) (by kernel_rfl) (by kernel_rfl) (fun _ _ _ h => h) HF (Or.inl ⟨by rfl, ?_⟩) ?_
     rotate_left 1
     · (rintro v ⟨a0, a1, a2, a3, a4, a5, a6, a7, a8, a9, a10, a11, a12, a13⟩; go_simp; try with_reducible rfl)
     try simp only [Act.put]
     refine wpAnyL_takeT [9, 8, 7] (i := 5) (v := ?_) rfl rfl (by kernel_rfl) (by kernel_rfl) (by kernel_rfl) (by kernel_rfl) (by kernel_rfl) (fun _ _ _ h => h) HF (Or.inl ⟨by rfl, ?_⟩) ?_
     rotate_left 1
     · (rintro v ⟨a0, a1, a2, a3, a4, a5, a6, a7, a8, a9, a10, a11, a12, a13⟩; go_simp; try with_reducible rfl)
     try simp only [Act.put]
     refine wpAnyL_takeT [9, 8, 7] (i := 6) (v := ?_) rfl rfl (by kernel_rfl) (by kernel_rfl) (by kernel_rfl) (by kernel_rfl) (by kernel_rfl) (fun _ _ _ h => h) HF (Or.inl ⟨by rfl, ?_⟩) ?_
     rotate_left 1
     · (rintro v ⟨a0, a1, a2, a3, a4, a5, a6, a7, a8, a9, a10, a11, a12, a13⟩; go_simp; try with_reducible rfl)
     try simp only [Act.put]
     refine wpAnyL_takeT [9, 8] (i := 7) (v := ?_) rfl rfl (by kernel_rfl) (by kernel_rfl) (by kernel_rfl) (by kernel_rfl) (by kernel_rfl) (fun _ _ _ h => h) HF (Or.inl ⟨by rfl, ?_⟩) ?_
     rotate_left 1
     · (rintro v ⟨a0, a1, a2, a3, a4, a5, a6, a7, a8, a9, a10, a11, a12, a13⟩; go_simp; try with_reducible rfl)
     try simp only [Act.put]
     refine wpAnyL_takeT [9] (i := 8) (v := ?_) rfl rfl (by kernel_rfl) (by kernel_rfl) (by kernel_rfl) (by kernel_rfl) (by kernel_rfl) (fun _ _ _ h => h) HF (Or.inl ⟨by rfl, ?_⟩) ?_
     rotate_left 1
     · (rintro v ⟨a0, a1, a2, a3, a4, a5, a6, a7, a8, a9, a10, a11, a12, a13⟩; go_simp; try with_reducible rfl)
     try simp only [Act.put]
     refine wpAnyL_step (i := 9) (by kernel_rfl) rfl rfl ?_
     intro K hK
     go_simp
     refine (HK.out _).mono ?_
     rintro e w4 ⟨rfl, b⟩
     replace c := c.trans (b.mono c.size)
     replace S := S.keep b
     clear b
     clear HF
     have HF : w4.cell? ⟨w.heap.size, 18, none⟩ = some (.slice (some ⟨b, off, none⟩) n4 ca18) ∧ w4.cell? ⟨b, off + j * 4, none⟩ = some (.int .i64 z0) ∧ w4.cell? ⟨b, off + j * 4 + 1, none⟩ = some (.int .i64 z1) ∧ w4.cell? ⟨b, off + j * 4 + 2, none⟩ = some (.int .i64 z2) ∧ w4.cell? ⟨b, off + j * 4 + 3, none⟩ = some (.int .i64 z3) ∧ w4.cell? ⟨b2, off2 + j * 9, none⟩ = some (.int .i64 x0) ∧ w4.cell? ⟨b2, off2 + j * 9 + 1, none⟩ = some (.int .i64 x1) ∧ w4.cell? ⟨b2, off2 + j * 9 + 2, none⟩ = some (.int .i64 x2) ∧ w4.cell? ⟨b2, off2 + j * 9 + 3, none⟩ = some (.int .i64 x3) ∧ w4.cell? ⟨b2, off2 + j * 9 + 4, none⟩ = some (.int .i64 x4) ∧ w4.cell? ⟨b2, off2 + j * 9 + 5, none⟩ = some (.int .i64 x5) ∧ w4.cell? ⟨b2, off2 + j * 9 + 6, none⟩ = some (.int .i64 x6) ∧ w4.cell? ⟨b2, off2 + j * 9 + 7, none⟩ = some (.int .i64 x7) ∧ w4.cell? ⟨b2, off2 + j * 9 + 8, none⟩ = some (.int .i64 x8) := ⟨(c.cell (p := ⟨w.heap.size, 18, none⟩) (lc f4)).trans f4, cu c hc0 (show b < _ by omega), cu c hc1 (show b < _ by omega), cu c hc2 (show b < _ by omega), cu c hc3 (show b < _ by omega), cu c hd0 (show b2 < _ by omega), cu c hd1 (show b2 < _ by omega), cu c hd2 (show b2 < _ by omega), cu c hd3 (show b2 < _ by omega), cu c hd4 (show b2 < _ by omega), cu c hd5 (show b2 < _ by omega), cu c hd6 (show b2 < _ by omega), cu c hd7 (show b2 < _ by omega), cu c hd8 (show b2 < _ by omega)⟩
     refine hK _ _ (fun _ => HF) ?_
     clear hK K
     try simp only [Act.put]
     refine wpAnyL_step (i := 10) (by kernel_rfl) rfl rfl ?_
     intro K hK
     go_simp
     refine hK _ _ (fun h => nomatch (show true = false from h)) ?_
     clear hK K
     try simp only [Act.put]
     refine wpAnyL_done (by kernel_rfl) ?_ _
     clear HF S
     have CC := jd (HC.out.trans (c.mono HC.out.size))
     clear c c0
     go_wp2
     go_ret
     exact ⟨ret_bool HD.out, CC.out⟩
    subst q2
    by_cases q3 : z3 = y3
    case neg =>
     have e8 : (z3 == y3) = false := by simpa using q3
     clear hne q3
     have S := Sep.nil wr wr.heap.size
     go_wp2_with fail
     refine wp_region_L (fun v => v.cell? ⟨w.heap.size, 18, none⟩ = some (.slice (some ⟨b, off, none⟩) n4 ca18) ∧ v.cell? ⟨b, off + j * 4, none⟩ = some (.int .i64 z0) ∧ v.cell? ⟨b, off + j * 4 + 1, none⟩ = some (.int .i64 z1) ∧ v.cell? ⟨b, off + j * 4 + 2, none⟩ = some (.int .i64 z2) ∧ v.cell? ⟨b, off + j * 4 + 3, none⟩ = some (.int .i64 z3) ∧ v.cell? ⟨b2, off2 + j * 9, none⟩ = some (.int .i64 x0) ∧ v.cell? ⟨b2, off2 + j * 9 + 1, none⟩ = some (.int .i64 x1) ∧ v.cell? ⟨b2, off2 + j * 9 + 2, none⟩ = some (.int .i64 x2) ∧ v.cell? ⟨b2, off2 + j * 9 + 3, none⟩ = some (.int .i64 x3) ∧ v.cell? ⟨b2, off2 + j * 9 + 4, none⟩ = some (.int .i64 x4) ∧ v.cell? ⟨b2, off2 + j * 9 + 5, none⟩ = some (.int .i64 x5) ∧ v.cell? ⟨b2, off2 + j * 9 + 6, none⟩ = some (.int .i64 x6) ∧ v.cell? ⟨b2, off2 + j * 9 + 7, none⟩ = some (.int .i64 x7) ∧ v.cell? ⟨b2, off2 + j * 9 + 8, none⟩ = some (.int .i64 x8)) 10 (by kernel_rfl) ?_
     replace S := S.keep ((Below.refl _ _).drew)
     replace c := c.drew
     generalize wr.drew = w3 at *
     have HF : w3.cell? ⟨w.heap.size, 18, none⟩ = some (.slice (some ⟨b, off, none⟩) n4 ca18) ∧ w3.cell? ⟨b, off + j * 4, none⟩ = some (.int .i64 z0) ∧ w3.cell? ⟨b, off + j * 4 + 1, none⟩ = some (.int .i64 z1) ∧ w3.cell? ⟨b, off + j * 4 + 2, none⟩ = some (.int .i64 z2) ∧ w3.cell? ⟨b, off + j * 4 + 3, none⟩ = some (.int .i64 z3) ∧ w3.cell? ⟨b2, off2 + j * 9, none⟩ = some (.int .i64 x0) ∧ w3.cell? ⟨b2, off2 + j * 9 + 1, none⟩ = some (.int .i64 x1) ∧ w3.cell? ⟨b2, off2 + j * 9 + 2, none⟩ = some (.int .i64 x2) ∧ w3.cell? ⟨b2, off2 + j * 9 + 3, none⟩ = some (.int .i64 x3) ∧ w3.cell? ⟨b2, off2 + j * 9 + 4, none⟩ = some (.int .i64 x4) ∧ w3.cell? ⟨b2, off2 + j * 9 + 5, none⟩ = some (.int .i64 x5) ∧ w3.cell? ⟨b2, off2 + j * 9 + 6, none⟩ = some (.int .i64 x6) ∧ w3.cell? ⟨b2, off2 + j * 9 + 7, none⟩ = some (.int .i64 x7) ∧ w3.cell? ⟨b2, off2 + j * 9 + 8, none⟩ = some (.int .i64 x8) := ⟨(c.cell (p := ⟨w.heap.size, 18, none⟩) (lc f4)).trans f4, cu c hc0 (show b < _ by omega), cu c hc1 (show b < _ by omega), cu c hc2 (show b < _ by omega), cu c hc3 (show b < _ by omega), cu c hd0 (show b2 < _ by omega), cu c hd1 (show b2 < _ by omega), cu c hd2 (show b2 < _ by omega), cu c hd3 (show b2 < _ by omega), cu c hd4 (show b2 < _ by omega), cu c hd5 (show b2 < _ by omega), cu c hd6 (show b2 < _ by omega), cu c hd7 (show b2 < _ by omega), cu c hd8 (show b2 < _ by omega)⟩
     refine wpAnyL_takeT [4, 3, 1] (i := 0) (v := ?_) rfl rfl (by kernel_rfl) (by kernel_rfl) (by kernel_rfl) (by kernel_rfl) (by kernel_rfl) (fun _ _ _ h => h) HF (Or.inl ⟨by rfl, ?_⟩) ?_
     rotate_left 1
     · (rintro v ⟨a0, a1, a2, a3, a4, a5, a6, a7, a8, a9, a10, a11, a12, a13⟩; go_simp; try with_reducible rfl)
     try simp only [Act.put]
     refine wpAnyL_takeT [4, 3] (i := 1) (v := ?_) rfl rfl (by kernel_rfl) (by kernel_rfl) (by kernel_rfl) (by kernel_rfl) (by kernel_rfl) (fun _ _ _ h => h) HF (Or.inl ⟨by rfl, ?_⟩) ?_
     rotate_left 1
     · (rintro v ⟨a0, a1, a2, a3, a4, a5, a6, a7, a8, a9, a10, a11, a12, a13⟩; go_simp; try with_reducible rfl)
     try simp only [Act.put]
     refine wpAnyL_takeT [4, 3] (i := 2) (v := ?_) rfl rfl (by kernel_rfl) (by kernel_rfl) (by kernel_rfl) (by kernel_rfl) (by kernel_rfl) (fun _ _ _ h => h) HF (Or.inl ⟨by rfl, ?_⟩) ?_
     rotate_left 1
     · (rintro v ⟨a0, a1, a2, a3, a4, a5, a6, a7, a8, a9, a10, a11, a12, a13⟩; go_simp; try with_reducible rfl)
     try simp only [Act.put]
     refine wpAnyL_takeT [4] (i := 3) (v := ?_) rfl rfl (by kernel_rfl) (by kernel_rfl) (by kernel_rfl) (by kernel_rfl) (by kernel_rfl) (fun _ _ _ h => h) HF (Or.inl ⟨by rfl, ?_⟩) ?_
     rotate_left 1
     · (rintro v ⟨a0, a1, a2, a3, a4, a5, a6, a7, a8, a9, a10, a11, a12, a13⟩; go_simp; try with_reducible rfl)
     try simp only [Act.put]
     refine wpAnyL_takeT [] (i := 4) (v := ?_) rfl rfl (by kernel_rfl) (by kernel_rfl) (by kernel_rfl) (by kernel_rfl) (by kernel_rfl) (fun _ _ _ h => h) HF (Or.inl ⟨by rfl, ?_⟩) ?_
     rotate_left 1
     · (rintro v ⟨a0, a1, a2, a3, a4, a5, a6, a7, a8, a9, a10, a11, a12, a13⟩; go_simp; try with_reducible rfl)
     try simp only [Act.put]
     refine wpAnyL_takeT [9, 8, 7] (i := 5) (v := ?_) rfl rfl (by kernel_rfl) (by kernel_rfl) (by kernel_rfl) (by kernel_rfl) (by kernel_rfl) (fun _ _ _ h => h) HF (Or.inl ⟨by rfl, ?_⟩) ?_
     rotate_left 1
     · (rintro v ⟨a0, a1, a2, a3, a4, a5, a6, a7, a8, a9, a10, a11, a12, a13⟩; go_simp; try with_reducible rfl)
     try simp only [Act.put]
     refine wpAnyL_takeT [9, 8, 7] (i := 6) (v := ?_) rfl rfl (by kernel_rfl) (by kernel_rfl) (by kernel_rfl) (by kernel_rfl) (by kernel_rfl) (fun _ _ _ h => h) HF (Or.inl ⟨by rfl, ?_⟩) ?_
     rotate_left 1
     · (rintro v ⟨a0, a1, a2, a3, a4, a5, a6, a7, a8, a9, a10, a11, a12, a13⟩; go_simp; try with_reducible rfl)
     try simp only [Act.put]
     refine wpAnyL_takeT [9, 8] (i := 7) (v := ?_) rfl rfl (by kernel_rfl) (by kernel_rfl) (by kernel_rfl) (by kernel_rfl) (by kernel_rfl) (fun _ _ _ h => h) HF (Or.inl ⟨by rfl, ?_⟩) ?_
     rotate_left 1
     · (rintro v ⟨a0, a1, a2, a3, a4, a5, a6, a7, a8, a9, a10, a11, a12, a13⟩; go_simp; try with_reducible rfl)
     try simp only [Act.put]
     refine wpAnyL_takeT [9] (i := 8) (v := ?_) rfl rfl (by kernel_rfl) (by kernel_rfl) (by kernel_rfl) (by kernel_rfl) (by kernel_rfl) (fun _ _ _ h => h) HF (Or.inl ⟨by rfl, ?_⟩) ?_
     rotate_left 1
     · (rintro v ⟨a0, a1, a2, a3, a4, a5, a6, a7, a8, a9, a10, a11, a12, a13⟩; go_simp; try with_reducible rfl)
     try simp only [Act.put]
     refine wpAnyL_step (i := 9) (by kernel_rfl) rfl rfl ?_
     intro K hK
     go_simp
     refine (HK.out _).mono ?_
     rintro e w4 ⟨rfl, b⟩
     replace c := c.trans (b.mono c.size)
     replace S := S.keep b
     clear b
     clear HF
     have HF : w4.cell? ⟨w.heap.size, 18, none⟩ = some (.slice (some ⟨b, off, none⟩) n4 ca18) ∧ w4.cell? ⟨b, off + j * 4, none⟩ = some (.int .i64 z0) ∧ w4.cell? ⟨b, off + j * 4 + 1, none⟩ = some (.int .i64 z1) ∧ w4.cell? ⟨b, off + j * 4 + 2, none⟩ = some (.int .i64 z2) ∧ w4.cell? ⟨b, off + j * 4 + 3, none⟩ = some (.int .i64 z3) ∧ w4.cell? ⟨b2, off2 + j * 9, none⟩ = some (.int .i64 x0) ∧ w4.cell? ⟨b2, off2 + j * 9 + 1, none⟩ = some (.int .i64 x1) ∧ w4.cell? ⟨b2, off2 + j * 9 + 2, none⟩ = some (.int .i64 x2) ∧ w4.cell? ⟨b2, off2 + j * 9 + 3, none⟩ = some (.int .i64 x3) ∧ w4.cell? ⟨b2, off2 + j * 9 + 4, none⟩ = some (.int .i64 x4) ∧ w4.cell? ⟨b2, off2 + j * 9 + 5, none⟩ = some (.int .i64 x5) ∧ w4.cell? ⟨b2, off2 + j * 9 + 6, none⟩ = some (.int .i64 x6) ∧ w4.cell? ⟨b2, off2 + j * 9 + 7, none⟩ = some (.int .i64 x7) ∧ w4.cell? ⟨b2, off2 + j * 9 + 8, none⟩ = some (.int .i64 x8) := ⟨(c.cell (p := ⟨w.heap.size, 18, none⟩) (lc f4)).trans f4, cu c hc0 (show b < _ by omega), cu c hc1 (show b < _ by omega), cu c hc2 (show b < _ by omega), cu c hc3 (show b < _ by omega), cu c hd0 (show b2 < _ by omega), cu c hd1 (show b2 < _ by omega), cu c hd2 (show b2 < _ by omega), cu c hd3 (show b2 < _ by omega), cu c hd4 (show b2 < _ by omega), cu c hd5 (show b2 < _ by omega), cu c hd6 (show b2 < _ by omega), cu c hd7 (show b2 < _ by omega), cu c hd8 (show b2 < _ by omega)⟩
     refine hK _ _ (fun _ => HF) ?_
     clear hK K
     try simp only [Act.put]
     refine wpAnyL_step (i := 10) (by kernel_rfl) rfl rfl ?_
     intro K hK
     go_simp
     refine hK _ _ (fun h => nomatch (show true = false from h)) ?_
     clear hK K
     try simp only [Act.put]
     refine wpAnyL_done (by kernel_rfl) ?_ _
     clear HF S
     have CC := jd (HC.out.trans (c.mono HC.out.size))
     clear c c0
     go_wp2
     go_ret
     exact ⟨ret_bool HD.out, CC.out⟩
    subst q3
    exact absurd ⟨rfl, rfl, rfl, rfl⟩ hne
end Go.Proofs.YthjjdelpdiipdaaGreatDoor
