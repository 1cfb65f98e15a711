/-
  The law FnSeenParts, over the contracts of the program's functions: it answers true at every slice of bytes, and writes nothing that was there (by program, wip/gen/genmarkp.py).
-/
import Derived.Test.YtpgbnkhanhfkeaaMarkC
import Derived.Test.YtpgbnkhanhfkeaaMarkV
import Derived.Test.YtpgbnkhanhfkeaaBookU
import Derived.Test.YtpgbnkhanhfkeaaCls
import Derived.RegionTactic
import Derived.BigQuiet
import Derived.Deep.DeepCutAuto
namespace Go.Proofs.Ytpgbnkhanhfkeaa
set_option maxRecDepth 100000
open Go.RowKit

set_option maxHeartbeats 12800000 in
theorem lawSeenParts (hV : CSeenOver 16) (hS : CSameSeen 17) (hK : CSeenOk 18) (hT : CLastSeen 19) (hM : CMarkOf 20)
    (A : Option Addr) (n c0 : Nat) (w : World) (h : BRow w w.heap.size A n) (hm : n ≤ maxLen) :
    Calls Try.prog 3 #[.slice A n c0] w fun e w' => e = .returned (.bool true) ∧ Below w.heap.size w w' := by
  have HV := Lib.hid hV
  have HS := Lib.hid hS
  have HK := Lib.hid hK
  have HT := Lib.hid hT
  have HM := Lib.hid hM
  clear hV hS hK hT hM
  unfold maxLen at hm
  by_cases hn : 4096 < n
  · clear h
    go_enter Try.func3, Try.ntmps3
    go_wp2_with fail
    refine (lbig_any A n c0 _).mono ?_
    rintro e w' ⟨rfl, rfl⟩
    rw [decide_eq_true hn]
    go_wp2
    go_ret
    exact ⟨rfl, Below.refl _ _⟩
  go_enter Try.func3, Try.ntmps3
  go_wp2_with fail
  refine (lbig_any A n c0 _).mono ?_
  rintro e w' ⟨rfl, rfl⟩
  rw [decide_eq_false hn]
  go_wp2_with fail
  refine (roll_any A n c0 _ h (by omega) _).mono ?_
  rintro e w1 ⟨rfl, cu, b1⟩
  have X := DrL.start cu
  have B1 := Lib.hid b1
  clear b1 cu h
  replace X := X.boxAt (w1.heap.size) rfl #[] 41
  go_wp2_with fail
  generalize w1.alloc (.cells #[] 41) = w2 at *
  refine (lbelow_any _ _ _ X.cur 12 (by decide)).mono ?_
  rintro e w3 ⟨z, hz, rfl, cu, gr⟩
  replace X := X.draw cu gr
  clear cu gr
  obtain ⟨m, rfl⟩ : ∃ m : Nat, z = (m : Int) := ⟨z.toNat, by omega⟩
  have hm : m ≤ 11 := by omega
  clear hz
  go_wp2_with fail
  refine (w9list_seq _ _ m (by omega) _ _ _ X.cur).mono ?_
  rintro e w4 ⟨l, A, n, c, hl, hrun, rfl, cu, gr, o⟩
  obtain ⟨fp_l, X'⟩ := X.drawHas cu gr o
  clear X; have X := X'; clear X' cu gr o
  replace X := X.with_ (X.sep.sub (.cons_cons _ (List.nil_sublist _)))
  obtain ⟨_, _, _, e, hln, hnc, hcm, _⟩ := ((X.sep.own_ 0 rfl).rd).ents
  injection e with e1 e2 e3
  subst e1 e2 e3
  obtain rfl : n = m := by omega
  have HL := Lib.hid hl
  have HR := Lib.hid hrun
  have hl20 : l.length ≤ 20 := by omega
  have hsz : entSz l ≤ 1048577 := by unfold entSz; omega
  clear hl hln hrun
  have hw1 : IntKind.i64.wrap ((n : Int) + 1) = (n : Int) + 1 := by rw [IntKind.wrap_i64]; omega
  go_wp2_with fail
  refine (lbelow_any _ _ _ X.cur ((n : Int) + 1) (by omega)).mono ?_
  rintro e w5 ⟨z, hz, rfl, cu, gr⟩
  replace X := X.draw cu gr
  clear cu gr
  obtain ⟨k, rfl⟩ : ∃ k : Nat, z = (k : Int) := ⟨z.toNat, by omega⟩
  have hk : k ≤ n := by omega
  clear hz
  have HG0 := Lib.hid (HR.out.over0 hl20)
  have HGK := Lib.hid ((HR.out.take k).over0 (by rw [List.length_take]; omega))
  have HGD := Lib.hid (HR.out.over hl20 k)
  have HSO := Lib.hid (show seenB (overM [] l) = true by have h9 := HR.out.seen hl20 (Nat.le_refl l.length); rwa [List.take_length] at h9)
  have hsx : mrkSz (overM [] l) ≤ 1048577 := Nat.le_trans (seen_len HSO.out) (by decide)
  have HSK := Lib.hid (HR.out.seen hl20 (show k ≤ l.length by have := HL.out; omega))
  have hsk : mrkSz (overM [] (l.take k)) ≤ 1048577 := Nat.le_trans (seen_len HSK.out) (by decide)
  replace X := X.boxAt (w5.heap.size) rfl #[] 37
  replace X := X.with_ (X.sep.blk0 (k := 3) (f := mrkC))
  go_wp2_with fail
  generalize w5.alloc (.cells #[] 37) = w6 at *
  refine (HV.out (some ⟨w5.heap.size, 0, none⟩) 0 0 [] A n c l _ ((X.sep.own_ 0 rfl).rd) (by decide) ((X.sep.own_ 1 rfl).rd) hsz).mono ?_
  rintro e w7 ⟨Ax, nx, cx, rfl, o, b1⟩
  rw [HG0.out] at o ⊢
  obtain ⟨fp_x, X'⟩ := X.has b1 o
  clear X; have X := X'; clear X' b1 o
  replace X := X.with_ (X.sep.sub (.cons_cons _ (.cons _ (.cons_cons _ (List.nil_sublist _)))))
  replace X := X.boxAt (w7.heap.size) rfl #[] 37
  replace X := X.with_ (X.sep.blk0 (k := 3) (f := mrkC))
  have hs1 := slice_front (l := l) (X.sep.own_ 2 rfl) hk
  go_wp2_with fail
  generalize w7.alloc (.cells #[] 37) = w8 at *
  clear hs1
  refine (HV.out (some ⟨w7.heap.size, 0, none⟩) 0 0 [] A k c (l.take k) _ ((X.sep.own_ 0 rfl).rd) (by decide) (Rd.front entC_len (by decide) ((X.sep.own_ 2 rfl).rd) hk (by omega) hcm) (by unfold entSz; rw [List.length_take]; omega)).mono ?_
  rintro e w9 ⟨Ay, ny, cy, rfl, o, b1⟩
  rw [HGK.out] at o ⊢
  obtain ⟨fp_y, X'⟩ := X.has b1 o
  clear X; have X := X'; clear X' b1 o
  replace X := X.with_ (X.sep.sub (.cons_cons _ (.cons _ (.cons_cons _ (.cons_cons _ (List.nil_sublist _))))))
  obtain ⟨A2, hs2, hb2⟩ := slice_back (l := l) (X.sep.own_ 2 rfl) hk
  go_wp2_with fail
  clear hs2
  refine (HV.out Ay ny cy (overM [] (l.take k)) A2 (n - k) (c - k) (l.drop k) _ ((X.sep.own_ 0 rfl).rd) hsk (hb2 ((X.sep.own_ 2 rfl).rd)) (by unfold entSz; rw [List.length_drop]; omega)).mono ?_
  rintro e w10 ⟨Az, nz, cz, rfl, o, b1⟩
  rw [HGD.out] at o ⊢
  obtain ⟨fp_z, X'⟩ := X.has b1 o
  clear X; have X := X'; clear X' b1 o
  clear hb2
  go_wp2_with fail
  refine (HS.out Ax nx cx (overM [] l) Az nz cz (overM [] l) _ ((X.sep.own_ 2 rfl).rd) hsx ((X.sep.own_ 0 rfl).rd) hsx).mono ?_
  rintro e w11 ⟨rfl, b1⟩
  rw [show sameMs (overM [] l) (overM [] l) = true from (sameMs_iff _ _).2 rfl]
  replace X := X.keep b1
  clear b1
  replace X := X.with_ (X.sep.sub (.cons _ (.cons _ (.cons_cons _ (.cons_cons _ (List.nil_sublist _))))))
  go_wp2_with fail
  refine (HK.out Ax nx cx (overM [] l) _ ((X.sep.own_ 0 rfl).rd) hsx).mono ?_
  rintro e w12 ⟨rfl, b1⟩
  rw [HSO.out]
  replace X := X.keep b1
  clear b1
  go_wp2_with fail
  refine (HT.out Ax nx cx (overM [] l) _ ((X.sep.own_ 0 rfl).rd) hsx).mono ?_
  rintro e w13 ⟨rfl, b1⟩
  rw [HR.out.last hl20, HL.out]
  replace X := X.keep b1
  clear b1
  have hnn : ((n : Int) != (n : Int)) = false := by simp
  have X0 := Lib.hid X
  clear X
  go_wp2_with fail
  go_loopw [11] (fun kv wr => ∃ (i : Nat), kv = .int .i64 ((i : Int) + 2) ∧ i ≤ 4 ∧ DrL w1 wr w.heap.size w.heap.size [.own [mrkD (overM [] l)] [.slice Ax nx cx] fp_x, .own [entD l] [.slice A n c] fp_l]) (fun kv _ => 8 - (intOf kv).toNat)
  case atStart => exact ⟨0, rfl, by omega, X0.out⟩
  case round =>
    obtain ⟨i, rfl, hi, X⟩ := hrel
    clear X0 hnn
    by_cases hlt : i < 4
    · obtain ⟨q, hq⟩ : ∃ q, q = (i : Int) + 2 := ⟨_, rfl⟩
      have q0 : 2 ≤ q ∧ q ≤ 5 := by omega
      have c1 : decide (q < 6) = true := decide_eq_true (by omega)
      have c2 : q < 6 := by omega
      have HQ := Lib.hid hq
      rw [← hq]
      clear hq hi hlt
      replace X := X.boxAt (wr.heap.size) rfl #[.int .i64 0, .int .i64 0, .int .i64 0] 37
      go_wp2_with fail
      generalize wr.alloc (.cells #[.int .i64 0, .int .i64 0, .int .i64 0] 37) = w14 at *
      generalize wr.heap.size = rw at *
      have X1 := Lib.hid X
      clear X
      go_loopw [13] (fun jv wr => ∃ (j : Nat) (y0 y1 y2 : Int), jv = .int .i64 (j : Int) ∧ j ≤ n ∧ lastC (l.take j) q = ⟨y0, y1, y2⟩ ∧ DrL w1 wr w.heap.size w.heap.size [.blk rw #[.int .i64 y0, .int .i64 y1, .int .i64 y2] 37, .own [mrkD (overM [] l)] [.slice Ax nx cx] fp_x, .own [entD l] [.slice A n c] fp_l]) (fun jv _ => n - (intOf jv).toNat)
      case atStart => exact ⟨0, 0, 0, 0, rfl, Nat.zero_le _, by rw [List.take_zero]; rfl, X1.out⟩
      case round =>
        obtain ⟨j, y0, y1, y2, rfl, hj, hla, X⟩ := hrel
        clear X1
        have HLA := Lib.hid hla
        clear hla
        by_cases hlt : j < n
        · have hjl : j < l.length := by have := HL.out; omega
          have hst := lastC_take hjl q
          rw [HLA.out] at hst
          obtain ⟨_, _, _, e, _, _, _, hel⟩ := ((X.sep.own_ 2 rfl).rd).ents
          injection e with e1 e2 e3
          subst e1 e2 e3
          obtain ⟨lb, lo, rfl, _, hc⟩ := hel (by omega)
          obtain ⟨hc0, hc1, hc2, hc3, hc4, hc5, hc6, hc7, hc8⟩ := hc j hjl
          obtain ⟨x0, hx0⟩ : ∃ p, p = l[j].idx := ⟨_, rfl⟩
          rw [← hx0] at hc0
          obtain ⟨x1, hx1⟩ : ∃ p, p = l[j].tm := ⟨_, rfl⟩
          rw [← hx1] at hc1
          obtain ⟨x2, hx2⟩ : ∃ p, p = l[j].cl := ⟨_, rfl⟩
          rw [← hx2] at hc2
          obtain ⟨x3, hx3⟩ : ∃ p, p = l[j].sq := ⟨_, rfl⟩
          rw [← hx3] at hc3
          obtain ⟨x4, hx4⟩ : ∃ p, p = l[j].kd := ⟨_, rfl⟩
          rw [← hx4] at hc4
          obtain ⟨x5, hx5⟩ : ∃ p, p = l[j].oa := ⟨_, rfl⟩
          rw [← hx5] at hc5
          obtain ⟨x6, hx6⟩ : ∃ p, p = l[j].ob := ⟨_, rfl⟩
          rw [← hx6] at hc6
          obtain ⟨x7, hx7⟩ : ∃ p, p = l[j].oc := ⟨_, rfl⟩
          rw [← hx7] at hc7
          obtain ⟨x8, hx8⟩ : ∃ p, p = l[j].od := ⟨_, rfl⟩
          rw [← hx8] at hc8
          have hmk : l[j] = ⟨x0, x1, x2, x3, x4, x5, x6, x7, x8⟩ := by rw [hx0, hx1, hx2, hx3, hx4, hx5, hx6, hx7, hx8]
          rw [hmk] at hst
          have HST := Lib.hid hst
          have j0 : (0 : Int) ≤ (j : Int) := by omega
          have j1 : (j : Int) < (n : Int) := by omega
          have c3 : decide ((j : Int) < (n : Int)) = true := decide_eq_true j1
          have HJ := Lib.hid hlt
          clear hst hmk hel hc hx0 hx1 hx2 hx3 hx4 hx5 hx6 hx7 hx8 hc1 hc4 hc5 hc6 hc7 hc8
          by_cases hxq : x2 = q
          · have e1 : (x2 == q) = true := by simpa using hxq
            have HN := Lib.hid (show lastC (l.take (j + 1)) q = ⟨q, x3, x0⟩ by rw [HST.out, if_pos hxq]; unfold mkM; rw [hxq])
            clear hxq
            go_wp2_with fail
            refine wp_region_L (fun v => v.cell? ⟨lb, lo + j * 9 + 2, none⟩ = some (.int .i64 x2) ∧ v.cell? ⟨lb, lo + j * 9 + 3, none⟩ = some (.int .i64 x3) ∧ v.cell? ⟨lb, lo + j * 9, none⟩ = some (.int .i64 x0)) 12 (by kernel_rfl) ?_
            replace X := X.drew
            have HF : wr.drew.cell? ⟨lb, lo + j * 9 + 2, none⟩ = some (.int .i64 x2) ∧ wr.drew.cell? ⟨lb, lo + j * 9 + 3, none⟩ = some (.int .i64 x3) ∧ wr.drew.cell? ⟨lb, lo + j * 9, none⟩ = some (.int .i64 x0) := ⟨hc2, hc3, hc0⟩
            generalize wr.drew = w15 at *
            refine wpAnyL_take (i := 0) (v := ?_) rfl rfl (by kernel_rfl) (by kernel_rfl) (by kernel_rfl) (by kernel_rfl) (by kernel_rfl) (fun _ _ _ h => h) HF (Or.inl ⟨by rfl, ?_⟩) ?_
            rotate_left 1
            · (rintro v ⟨a0, a1, a2⟩; go_simp; try with_reducible rfl)
            try simp only [Act.put]
            refine wpAnyL_take (i := 1) (v := ?_) rfl rfl (by kernel_rfl) (by kernel_rfl) (by kernel_rfl) (by kernel_rfl) (by kernel_rfl) (fun _ _ _ h => h) HF (Or.inl ⟨by rfl, ?_⟩) ?_
            rotate_left 1
            · (rintro v ⟨a0, a1, a2⟩; go_simp; try with_reducible rfl)
            try simp only [Act.put]
            refine wpAnyL_take (i := 2) (v := ?_) rfl rfl (by kernel_rfl) (by kernel_rfl) (by kernel_rfl) (by kernel_rfl) (by kernel_rfl) (fun _ _ _ h => h) HF (Or.inl ⟨by rfl, ?_⟩) ?_
            rotate_left 1
            · (rintro v ⟨a0, a1, a2⟩; go_simp; try with_reducible rfl)
            try simp only [Act.put]
            refine wpAnyL_take (i := 3) (v := ?_) rfl rfl (by kernel_rfl) (by kernel_rfl) (by kernel_rfl) (by kernel_rfl) (by kernel_rfl) (fun _ _ _ h => h) HF (Or.inl ⟨by rfl, ?_⟩) ?_
            rotate_left 1
            · (rintro v ⟨a0, a1, a2⟩; go_simp; try with_reducible rfl)
            try simp only [Act.put]
            refine wpAnyL_take (i := 4) (v := ?_) rfl rfl (by kernel_rfl) (by kernel_rfl) (by kernel_rfl) (by kernel_rfl) (by kernel_rfl) (fun _ _ _ h => h) HF (Or.inl ⟨by rfl, ?_⟩) ?_
            rotate_left 1
            · (rintro v ⟨a0, a1, a2⟩; go_simp; try with_reducible rfl)
            try simp only [Act.put]
            refine wpAnyL_take (i := 5) (v := ?_) rfl rfl (by kernel_rfl) (by kernel_rfl) (by kernel_rfl) (by kernel_rfl) (by kernel_rfl) (fun _ _ _ h => h) HF (Or.inl ⟨by rfl, ?_⟩) ?_
            rotate_left 1
            · (rintro v ⟨a0, a1, a2⟩; go_simp; try with_reducible rfl)
            try simp only [Act.put]
            refine wpAnyL_take (i := 6) (v := ?_) rfl rfl (by kernel_rfl) (by kernel_rfl) (by kernel_rfl) (by kernel_rfl) (by kernel_rfl) (fun _ _ _ h => h) HF (Or.inl ⟨by rfl, ?_⟩) ?_
            rotate_left 1
            · (rintro v ⟨a0, a1, a2⟩; go_simp; try with_reducible rfl)
            try simp only [Act.put]
            refine wpAnyL_take (i := 7) (v := ?_) rfl rfl (by kernel_rfl) (by kernel_rfl) (by kernel_rfl) (by kernel_rfl) (by kernel_rfl) (fun _ _ _ h => h) HF (Or.inl ⟨by rfl, ?_⟩) ?_
            rotate_left 1
            · (rintro v ⟨a0, a1, a2⟩; go_simp; try with_reducible rfl)
            try simp only [Act.put]
            refine wpAnyL_take (i := 8) (v := ?_) rfl rfl (by kernel_rfl) (by kernel_rfl) (by kernel_rfl) (by kernel_rfl) (by kernel_rfl) (fun _ _ _ h => h) HF (Or.inl ⟨by rfl, ?_⟩) ?_
            rotate_left 1
            · (rintro v ⟨a0, a1, a2⟩; go_simp; try with_reducible rfl)
            try simp only [Act.put]
            refine wpAnyL_take (i := 9) (v := ?_) rfl rfl (by kernel_rfl) (by kernel_rfl) (by kernel_rfl) (by kernel_rfl) (by kernel_rfl) (fun _ _ _ h => h) HF (Or.inl ⟨by rfl, ?_⟩) ?_
            rotate_left 1
            · (rintro v ⟨a0, a1, a2⟩; go_simp; try with_reducible rfl)
            try simp only [Act.put]
            refine wpAnyL_take (i := 10) (v := ?_) rfl rfl (by kernel_rfl) (by kernel_rfl) (by kernel_rfl) (by kernel_rfl) (by kernel_rfl) (fun _ _ _ h => h) HF (Or.inl ⟨by rfl, ?_⟩) ?_
            rotate_left 1
            · (rintro v ⟨a0, a1, a2⟩; go_simp; try with_reducible rfl)
            try simp only [Act.put]
            refine wpAnyL_pure (i := 11) (v := ?_) rfl rfl (by kernel_rfl) (by kernel_rfl) (by kernel_rfl) (fun _ _ _ h => h) HF (Or.inl ⟨by rfl, ?_⟩) ?_
            rotate_left 1
            · (intro v _; go_simp; try with_reducible rfl)
            try simp only [Act.put]
            have f0 : w15.cell? ⟨rw, 0, none⟩ = some (.int .i64 y0) := (X.sep.at_ 0 rfl).cell 0
            have f1 := (X.sep.at_ 0 rfl).free 0
            have f2 : w15.cell? ⟨rw, 1, none⟩ = some (.int .i64 y1) := (X.sep.at_ 0 rfl).cell 1
            have f3 := (X.sep.at_ 0 rfl).free 1
            have f4 : w15.cell? ⟨rw, 2, none⟩ = some (.int .i64 y2) := (X.sep.at_ 0 rfl).cell 2
            have f5 := (X.sep.at_ 0 rfl).free 2
            refine wpAnyL_step (i := 12) (by kernel_rfl) rfl rfl ?_
            intro K hK
            go_simp
            refine hK _ _ (fun h => nomatch (show true = false from h)) ?_
            clear hK K
            try simp only [Act.put]
            refine wpAnyL_done (by kernel_rfl) ?_ _
            replace X := X.put 0 rfl 0 (.int .i64 q)
            replace X := X.put 0 rfl 1 (.int .i64 x3)
            replace X := X.put 0 rfl 2 (.int .i64 x0)
            replace X : DrL w1 _ _ _ [.blk (rw) #[.int .i64 q, .int .i64 x3, .int .i64 x0] 37, _, _] := X
            generalize ((w15.setCell ⟨rw, 0, none⟩ (.int .i64 q)).setCell ⟨rw, 1, none⟩ (.int .i64 x3)).setCell ⟨rw, 2, none⟩ (.int .i64 x0) = w16 at *
            clear HF f0 f1 f2 f3 f4 f5 hc0 hc2 hc3
            have X1 := Lib.hid X
            clear X
            go_wp2
            go_roundw
            case rel => exact ⟨j + 1, q, x3, x0, by go_num, by have := HJ.out; omega, HN.out, X1.out⟩
            case measure => have := HJ.out; simp [intOf] <;> omega
          · have e1 : (x2 == q) = false := by simpa using hxq
            have HN := Lib.hid (show lastC (l.take (j + 1)) q = ⟨y0, y1, y2⟩ by rw [HST.out, if_neg hxq])
            have X1 := Lib.hid X
            clear X hxq
            go_wp2
            go_roundw
            case rel => exact ⟨j + 1, y0, y1, y2, by go_num, by have := HJ.out; omega, HN.out, X1.out⟩
            case measure => have := HJ.out; simp [intOf] <;> omega
        · obtain rfl : j = n := by omega
          have c3 : decide ((j : Int) < (j : Int)) = false := decide_eq_false (by omega)
          have HM9 := Lib.hid (show markOf (overM [] l) q = ⟨y0, y1, y2⟩ by rw [HR.out.mark hl20, ← HLA.out, List.take_of_length_le (by have := HL.out; omega)])
          have XH := Lib.hid X
          have f0 : wr.cell? ⟨rw, 0, none⟩ = some (.int .i64 y0) := (X.sep.at_ 0 rfl).cell 0
          have f1 : wr.cell? ⟨rw, 1, none⟩ = some (.int .i64 y1) := (X.sep.at_ 0 rfl).cell 1
          have f2 : wr.cell? ⟨rw, 2, none⟩ = some (.int .i64 y2) := (X.sep.at_ 0 rfl).cell 2
          have hrd := ((X.sep.own_ 1 rfl).rd)
          clear X hlt
          have n0 : (y0 != y0) = false := by simp
          have n1 : (y1 != y1) = false := by simp
          have n2 : (y2 != y2) = false := by simp
          go_wp2_with fail
          refine wp_region_cls (fun v => v.cell? ⟨rw, 0, none⟩ = some (.int .i64 y0) ∧ v.cell? ⟨rw, 1, none⟩ = some (.int .i64 y1) ∧ v.cell? ⟨rw, 2, none⟩ = some (.int .i64 y2) ∧ Rd v wr.heap.size [mrkD (overM [] l)] [.slice Ax nx cx] ∧ wr.heap.size ≤ v.heap.size) (by kernel_rfl) (by kernel_rfl) (fun v hv => ⟨(hv.cell (p := ⟨rw, 0, none⟩) (lt_of_cell f0)).trans f0, (hv.cell (p := ⟨rw, 1, none⟩) (lt_of_cell f1)).trans f1, (hv.cell (p := ⟨rw, 2, none⟩) (lt_of_cell f2)).trans f2, hrd.keep hv, hv.size⟩) ?_
          intro CL HF HC
          repeat
            (first
               | go_big_quiet_skip
               | (go_big_quiet_want
                  go_big_quiet_op
                  first
                    | go_big_quiet_on
                    | (apply Exists.intro
                       refine ⟨fun v hv => ?_, ?_⟩
                       · obtain ⟨a0, a1, a2, a3, a4⟩ := HF v hv
                         first
                           | (go_at_call 20; exact Calls.cls HC hv (HM.out Ax nx cx (overM [] l) q v (a3.up a4) hsx) (by rw [HM9.out]))
                           | exact rfl
                           | (go_simp; exact rfl)
                           | (go_simp; exact ⟨rfl, hv⟩)
                       go_big_quiet_on)))
          refine wpQuiet_nil ?_
          intro w9 b9
          have X := XH.out.keep b9
          clear XH b9 hrd f0 f1 f2
          replace X := X.with_ (X.sep.sub (.cons _ (.cons_cons _ (.cons_cons _ (List.nil_sublist _)))))
          have X1 := Lib.hid X
          clear X
          have hw6 : IntKind.i64.wrap (q + 1) = q + 1 := by rw [IntKind.wrap_i64]; omega
          have HC2 := Lib.hid c2
          go_wp2
          go_roundw
          case rel => exact ⟨i + 1, by have := HQ.out; first | (go_num; done) | (rw [this]; congr 1; omega), by have := HQ.out; have := HC2.out; omega, X1.out⟩
          case measure => have := HQ.out; have := HC2.out; simp [intOf] <;> omega
    · obtain rfl : i = 4 := by omega
      have C := Lib.hid (B1.out.trans (grown_below X.grown B1.out.size (fun k hk => by injection hk with hk; omega)))
      clear X
      go_wp2
      go_ret
      exact ⟨rfl, C.out⟩

end Go.Proofs.Ytpgbnkhanhfkeaa
