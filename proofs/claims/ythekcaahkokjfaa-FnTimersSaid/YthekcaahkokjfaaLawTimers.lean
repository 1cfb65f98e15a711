/-
  The law FnTimers answers true at every slice of bytes, and writes nothing that was there (by program, wip/gen/gentml.py).
-/
import Derived.Test.YthekcaahkokjfaaDrT
import Derived.Test.YthekcaahkokjfaaTimL
import Derived.RegionTactic
import Derived.BigQuiet
import Derived.Deep.DeepCutAuto
namespace Go.Proofs.Ythekcaahkokjfaa
set_option maxRecDepth 100000
open Go.RowKit

set_option maxHeartbeats 12800000 in
theorem lawTimers (A : Option Addr) (n c0 : Nat) (w : World) (h : BRow w w.heap.size A n) (hm : n ≤ maxLen) :
    Calls Try.prog 4 #[.slice A n c0] w fun e w' => e = .returned (.bool true) ∧ Below w.heap.size w w' := by
  unfold maxLen at hm
  by_cases hn : 4096 < n
  · clear h
    go_enter Try.func4, Try.ntmps4
    go_wp2_with fail
    refine (lbig_any A n c0 _).mono ?_
    rintro e w' ⟨rfl, rfl⟩
    rw [decide_eq_true hn]
    go_wp2
    go_ret
    exact ⟨rfl, Below.refl _ _⟩
  go_enter Try.func4, Try.ntmps4
  go_wp2_with fail
  refine (lbig_any A n c0 _).mono ?_
  rintro e w' ⟨rfl, rfl⟩
  rw [decide_eq_false hn]
  go_wp2_with fail
  refine (roll_any A n c0 _ h (by omega) _).mono ?_
  rintro e w1 ⟨rfl, cu, b1⟩
  have X := DrL.start cu
  have B1 := Lib.hid b1
  clear b1 cu h
  replace X := X.boxAt (w1.heap.size) rfl #[] 64
  replace X := X.with_ (X.sep.blk0 (k := 2) (f := timerC))
  obtain ⟨ds0, hds0⟩ : ∃ ds0, ds0 = List.replicate 10 (0 : Int) := ⟨_, rfl⟩
  have HD0 := Lib.hid (show ds0.length = 10 by rw [hds0, List.length_replicate])
  have hmk : ∀ w9 : World, (Instr.makeSlice 27 (.int .i64 10) (.int .i64 10)).run Try.prog w9 = .ok (.slice (some ⟨w9.heap.size, 0, none⟩) 10 10) (w9.alloc (.cells (iA ds0) 2)) := fun w9 => by
    have h := run_make_k (P := Try.prog) 27 2 (.int .i64 0) #[.int .i64 0] 1 8 Try.underlying27 info64 rfl .i64 .i64 10 (by omega) (by omega) w9
    rw [made_zeros, ← hds0] at h
    exact h
  clear hds0
  have XT := Lib.hid (X.boxAt (w1.heap.size + 1) (by simp) (iA ds0) 2)
  clear X
  go_upto_region 6 with fail
  have X := XT.out
  clear XT hmk
  generalize (w1.alloc (.cells #[] 64)).alloc (.cells (iA ds0) 2) = w2 at *
  obtain ⟨rt, hrt⟩ : ∃ rt, rt = w1.heap.size + 1 := ⟨_, rfl⟩
  rw [← hrt] at X ⊢
  clear hrt
  generalize (some (⟨w1.heap.size, 0, none⟩ : Addr)) = A0 at *
  generalize [w1.heap.size] = fp0 at *
  replace X := X.with_ X.sep.swap
  have X0 := Lib.hid X
  clear X
  go_wp2_with fail
  go_loopw [6] (fun kv wr => ∃ (k : Nat) (ds : List Int), kv = .int .i64 (k : Int) ∧ k ≤ 10 ∧ ds.length = 10 ∧ (∀ j, j < k → ds.getD j 0 = -1) ∧ DrL w1 wr w.heap.size w.heap.size [.own [timerD []] [.slice A0 0 0] fp0, .blk rt (iA ds) 2]) (fun kv _ => 10 - (intOf kv).toNat)
  case atStart => exact ⟨0, ds0, rfl, by omega, HD0.out, fun j hj => absurd hj (by omega), X0.out⟩
  case round =>
    obtain ⟨k, ds, rfl, hk, hdl, hds, X⟩ := hrel
    clear X0
    have HD := Lib.hid hds
    clear hds
    by_cases hlt : k < 10
    · have k0 : (0 : Int) ≤ (k : Int) := by omega
      have k1 : (k : Int) < (10 : Int) := by omega
      have k2 : ¬ 10 ≤ k := by omega
      have t0 : wr.cell? ⟨rt, k, none⟩ = some (.int .i64 (ds.getD k 0)) := ((X.sep.at_ 1 rfl).cell k).trans (iA_at (by omega))
      have t1 := (X.sep.at_ 1 rfl).free k
      replace X := X.put 1 rfl k (.int .i64 (-1))
      replace X : DrL w1 _ w.heap.size w.heap.size [.own [timerD []] [.slice A0 0 0] fp0, .blk rt ((iA ds).setIfInBounds k (.int .i64 (-1))) 2] := X
      rw [iA_set] at X
      have X1 := Lib.hid X
      have HL := Lib.hid hdl
      clear X hdl
      go_wp2
      go_roundw
      case rel => exact ⟨k + 1, ds.set k (-1), by go_num, by omega, by rw [List.length_set]; exact HL.out, fun j hj => by
        rcases Nat.lt_or_ge j k with h1 | h1
        · rw [getD_set_ne (by omega)]; exact HD.out j h1
        · obtain rfl : j = k := by omega
          exact getD_set_eq (by have := HL.out; omega), X1.out⟩
      case measure => simp [intOf]; omega
    · obtain rfl : k = 10 := by omega
      have T0 := Lib.hid (TabT.start ds hdl HD.out)
      clear HD hdl hk hlt
      have X0 := Lib.hid X
      clear X
      go_wp2_with fail
      go_loopw [4, 7] (fun lv kv wr => ∃ (k : Nat) (l : List TimerM) (ds : List Int) (A : Option Addr) (n c : Nat) (fp : List Nat), kv = .int .i64 (k : Int) ∧ lv = .slice A n c ∧ k ≤ 14 ∧ l.length ≤ k ∧ TabT l ds ∧ DrL w1 wr w.heap.size w.heap.size [.own [timerD l] [.slice A n c] fp, .blk rt (iA ds) 2]) (fun _ kv _ => 14 - (intOf kv).toNat)
      case atStart => exact ⟨0, [], ds, _, _, _, _, rfl, rfl, by omega, by simp, T0.out, X0.out⟩
      case round =>
        obtain ⟨k, l, ds, A, n, c, fp, rfl, rfl, hk, hlk, htab, X⟩ := hrel
        clear X0 T0
        have HT := Lib.hid htab
        clear htab
        by_cases hlt : k < 14
        · go_wp2_with fail
          generalize w1.alloc (.cells #[] 64) = w2 at *
          refine (lbelow_any _ _ _ X.cur 10 (by decide)).mono ?_
          rintro e w3 ⟨z, hz, rfl, cu, gr⟩
          replace X := X.draw cu gr
          clear cu gr
          obtain ⟨i, rfl⟩ : ∃ i : Nat, z = (i : Int) := ⟨z.toNat, by omega⟩
          have hi : i < 10 := by omega
          clear hz
          go_wp2_with fail
          refine (lbelow_any _ _ _ X.cur 4 (by decide)).mono ?_
          rintro e w4 ⟨q, hq, rfl, cu, gr⟩
          replace X := X.draw cu gr
          clear cu gr
          have i0 : (0 : Int) ≤ (i : Int) := by omega
          have i1 : (i : Int) < (10 : Int) := by omega
          have i2 : ¬ 10 ≤ i := by omega
          have i3 : i < 10 := hi
          have HK := Lib.hid hlt
          have HLK := Lib.hid hlk
          by_cases hq0 : q = 0
          · subst hq0
            have hq1 : decide ((0 : Int) = 0) = true := rfl
            obtain ⟨d, hd⟩ : ∃ d, d = ds.getD i 0 := ⟨_, rfl⟩
            have HDD := Lib.hid hd
            clear hq
            go_wp2_with fail
            refine (off_law A n c i l ds d _ ((X.sep.own_ 0 rfl).rd) HT.out (by omega) hi HDD.out.symm).mono ?_
            rintro e w5 ⟨A2, n2, c2, rfl, o, b1⟩
            obtain ⟨fp_l2, X'⟩ := X.has b1 o
            clear X; have X := X'; clear X' b1 o
            replace X := X.with_ (X.sep.sub (.cons_cons _ (.cons _ (.cons_cons _ (List.nil_sublist _)))))
            have t0 : w5.cell? ⟨rt, i, none⟩ = some (.int .i64 (ds.getD i 0)) := ((X.sep.at_ 1 rfl).cell i).trans (iA_at (by have := HT.out.len; omega))
            have t1 := (X.sep.at_ 1 rfl).free i
            rw [← hd] at t0
            clear hd
            have HT2 := Lib.hid (HT.out.off hi)
            have HL2 := Lib.hid (offM_len l (i : Int))
            by_cases hd0 : 0 ≤ d
            · have d0 : decide (0 ≤ d) = true := decide_eq_true hd0
              have d1 : decide (d ≥ 0) = true := decide_eq_true hd0
              rw [d0]
              replace X := X.put 1 rfl i (.int .i64 (-1))
              replace X : DrL w1 _ w.heap.size w.heap.size [_, .blk rt ((iA ds).setIfInBounds i (.int .i64 (-1))) 2] := X
              rw [iA_set] at X
              have X1 := Lib.hid X
              clear X HT hlk hlt
              skip
              go_wp2
              go_roundw
              case rel =>
                first
                  | exact ⟨k + 1, offM l (i : Int), ds.set i (-1), _, _, _, _, by go_num, rfl, by have := HK.out; omega, by have := HL2.out; have := HLK.out; omega, HT2.out, X1.out⟩
                  | (repeat apply Exists.intro
                     refine ⟨⟨k + 1, offM l (i : Int), ds.set i (-1), _, _, _, _, ?_, ?_, by have := HK.out; omega, by have := HL2.out; have := HLK.out; omega, HT2.out, X1.out⟩, ?_⟩
                     rotate_left 2
                     · first | rfl | (trace_state; done)
                     · go_num
                     · rfl)
              case measure => have := HK.out; simp [intOf]; omega
            · have d0 : decide (0 ≤ d) = false := decide_eq_false hd0
              have d1 : decide (d ≥ 0) = false := decide_eq_false hd0
              rw [d0]
              replace X := X.put 1 rfl i (.int .i64 (-1))
              replace X : DrL w1 _ w.heap.size w.heap.size [_, .blk rt ((iA ds).setIfInBounds i (.int .i64 (-1))) 2] := X
              rw [iA_set] at X
              have X1 := Lib.hid X
              clear X HT hlk hlt
              skip
              go_wp2
              go_roundw
              case rel =>
                first
                  | exact ⟨k + 1, offM l (i : Int), ds.set i (-1), _, _, _, _, by go_num, rfl, by have := HK.out; omega, by have := HL2.out; have := HLK.out; omega, HT2.out, X1.out⟩
                  | (repeat apply Exists.intro
                     refine ⟨⟨k + 1, offM l (i : Int), ds.set i (-1), _, _, _, _, ?_, ?_, by have := HK.out; omega, by have := HL2.out; have := HLK.out; omega, HT2.out, X1.out⟩, ?_⟩
                     rotate_left 2
                     · first | rfl | (trace_state; done)
                     · go_num
                     · rfl)
              case measure => have := HK.out; simp [intOf]; omega
          · have hq1 : decide (q = 0) = false := decide_eq_false hq0
            have hq2 : (q == 0) = false := by simpa using hq0
            clear hq
            go_wp2_with fail
            refine (lbelow_any _ _ _ X.cur 40 (by decide)).mono ?_
            rintro e w5 ⟨t, ht, rfl, cu, gr⟩
            replace X := X.draw cu gr
            clear cu gr
            go_wp2_with fail
            refine (set_law A n c i l ds t _ ((X.sep.own_ 0 rfl).rd) HT.out (by omega) hi ht).mono ?_
            rintro e w6 ⟨A2, n2, c2, rfl, o, b1⟩
            obtain ⟨fp_l2, X'⟩ := X.has b1 o
            clear X; have X := X'; clear X' b1 o
            replace X := X.with_ (X.sep.sub (.cons_cons _ (.cons _ (.cons_cons _ (List.nil_sublist _)))))
            have t0 : w6.cell? ⟨rt, i, none⟩ = some (.int .i64 (ds.getD i 0)) := ((X.sep.at_ 1 rfl).cell i).trans (iA_at (by have := HT.out.len; omega))
            have t1 := (X.sep.at_ 1 rfl).free i
            have HT2 := Lib.hid (HT.out.put hi ht)
            have HL2 := Lib.hid (offM_len l (i : Int))
            replace X := X.put 1 rfl i (.int .i64 (t))
            replace X : DrL w1 _ w.heap.size w.heap.size [_, .blk rt ((iA ds).setIfInBounds i (.int .i64 (t))) 2] := X
            rw [iA_set] at X
            have X1 := Lib.hid X
            clear X HT hlk hlt
            go_wp2
            go_roundw
            case rel =>
              first
                | exact ⟨k + 1, putT (offM l (i : Int)) ⟨(i : Int), t⟩, ds.set i t, _, _, _, _, by go_num, rfl, by have := HK.out; omega, by rw [putT_len]; have := HL2.out; have := HLK.out; omega, HT2.out, X1.out⟩
                | (repeat apply Exists.intro
                   refine ⟨⟨k + 1, putT (offM l (i : Int)) ⟨(i : Int), t⟩, ds.set i t, _, _, _, _, ?_, ?_, by have := HK.out; omega, by rw [putT_len]; have := HL2.out; have := HLK.out; omega, HT2.out, X1.out⟩, ?_⟩
                   rotate_left 2
                   · first | rfl | (trace_state; done)
                   · go_num
                   · rfl)
            case measure => have := HK.out; simp [intOf]; omega
        · obtain rfl : k = 14 := by omega
          have hl16 : l.length ≤ 16 := by omega
          clear hk hlk hlt
          go_wp2_with fail
          generalize w1.alloc (.cells #[] 64) = w2 at *
          refine (lbelow_any _ _ _ X.cur 45 (by decide)).mono ?_
          rintro e w3 ⟨now, hnow, rfl, cu, gr⟩
          replace X := X.draw cu gr
          clear cu gr
          go_wp2_with fail
          refine (due_law A n c l ds now _ ((X.sep.own_ 0 rfl).rd) HT.out hl16).mono ?_
          rintro e w4 ⟨At, nt, ct, rfl, o, b1⟩
          obtain ⟨fp_told, X'⟩ := X.has b1 o
          clear X; have X := X'; clear X' b1 o
          obtain rfl : nt = (dueL l now).length := by
            obtain ⟨_, _, _, e, hil, _⟩ := ((X.sep.own_ 0 rfl).rd).rowS
            injection e with e1 e2 e3
            have h9 := hil.1
            rw [List.length_map] at h9
            omega
          have X0 := Lib.hid X
          clear X
          have F0 := Lib.hid (FirstT.zero ds)
          have M0 := Lib.hid (show manyN ds now 0 = 0 from rfl)
          go_wp2_with fail
          go_loopw [14, 15, 16] (fun mv fv kv wr => ∃ (k : Nat) (f : Int), kv = .int .i64 (k : Int) ∧ k ≤ 10 ∧ mv = .int .i64 (manyN ds now k : Int) ∧ fv = .int .i64 f ∧ FirstT ds k f ∧ DrL w1 wr w.heap.size w.heap.size [.own (rowCells ((dueL l now).map fun x => x.tid)) [.slice At (dueL l now).length ct] fp_told, .own [timerD l] [.slice A n c] fp, .blk rt (iA ds) 2]) (fun _ _ kv _ => 10 - (intOf kv).toNat)
          case atStart => exact ⟨0, -1, rfl, by omega, by rw [M0.out]; rfl, rfl, F0.out, X0.out⟩
          case round =>
            obtain ⟨k, f, rfl, hk, rfl, rfl, hf, X⟩ := hrel
            clear X0 F0 M0
            have HF0 := Lib.hid hf
            clear hf
            by_cases hlt : k < 10
            · have k0 : (0 : Int) ≤ (k : Int) := by omega
              have k1 : (k : Int) < (10 : Int) := by omega
              have k2 : ¬ 10 ≤ k := by omega
              have t0 : wr.cell? ⟨rt, k, none⟩ = some (.int .i64 (ds.getD k 0)) := ((X.sep.at_ 2 rfl).cell k).trans (iA_at (by have := HT.out.len; omega))
              have t1 := (X.sep.at_ 2 rfl).free k
              have hml := manyN_le ds now k
              have hmw : IntKind.i64.wrap ((manyN ds now k : Int) + 1) = (manyN ds now k : Int) + 1 := by rw [IntKind.wrap_i64]; omega
              have HY := Lib.hid (fun h1 h2 => manyN_yes (ds := ds) (now := now) (k := k) h1 h2)
              have HN := Lib.hid (fun h1 => manyN_no (ds := ds) (now := now) (k := k) h1)
              have HTK := Lib.hid (fun h0 h1 => FirstT.take HF0.out h0 h1)
              have HSK := Lib.hid (fun h1 => FirstT.skip HF0.out h1)
              generalize manyN ds now k = M at *
              generalize ds.getD k 0 = d at *
              have HK := Lib.hid hlt
              clear hlt t1
              have X1 := Lib.hid X
              clear X
              by_cases h0 : 0 ≤ d
              · have d0 : decide (0 ≤ d) = true := decide_eq_true (by omega)
                have d1 : decide (d ≥ 0) = true := decide_eq_true (by omega)
                by_cases h1 : d ≤ now
                · have d2 : decide (d ≤ now) = true := decide_eq_true (by omega)
                  by_cases h2 : f < 0
                  · have d3 : decide (f < 0) = true := decide_eq_true (by omega)
                    have HM1 := Lib.hid (show manyN ds now (k + 1) = M + 1 from HY.out (by omega) (by omega))
                    have HF1 := Lib.hid (show FirstT ds (k + 1) d from HTK.out (by omega) (by omega))
                    clear HY HN HTK HSK
                    go_wp2
                    go_roundw
                    case rel => exact ⟨k + 1, d, by go_num, by have := HK.out; omega, by rw [HM1.out]; go_num, rfl, HF1.out, X1.out⟩
                    case measure => have := HK.out; simp [intOf]; omega
                  · have d3 : decide (f < 0) = false := decide_eq_false (by omega)
                    by_cases h3 : d < f
                    · have d4 : decide (d < f) = true := decide_eq_true (by omega)
                      have HM1 := Lib.hid (show manyN ds now (k + 1) = M + 1 from HY.out (by omega) (by omega))
                      have HF1 := Lib.hid (show FirstT ds (k + 1) d from HTK.out (by omega) (by omega))
                      clear HY HN HTK HSK
                      go_wp2
                      go_roundw
                      case rel => exact ⟨k + 1, d, by go_num, by have := HK.out; omega, by rw [HM1.out]; go_num, rfl, HF1.out, X1.out⟩
                      case measure => have := HK.out; simp [intOf]; omega
                    · have d4 : decide (d < f) = false := decide_eq_false (by omega)
                      have HM1 := Lib.hid (show manyN ds now (k + 1) = M + 1 from HY.out (by omega) (by omega))
                      have HF1 := Lib.hid (show FirstT ds (k + 1) f from HSK.out (fun _ => by omega))
                      clear HY HN HTK HSK
                      go_wp2
                      go_roundw
                      case rel => exact ⟨k + 1, f, by go_num, by have := HK.out; omega, by rw [HM1.out]; go_num, rfl, HF1.out, X1.out⟩
                      case measure => have := HK.out; simp [intOf]; omega
                · have d2 : decide (d ≤ now) = false := decide_eq_false (by omega)
                  by_cases h2 : f < 0
                  · have d3 : decide (f < 0) = true := decide_eq_true (by omega)
                    have HM1 := Lib.hid (show manyN ds now (k + 1) = M from HN.out (by omega))
                    have HF1 := Lib.hid (show FirstT ds (k + 1) d from HTK.out (by omega) (by omega))
                    clear HY HN HTK HSK
                    go_wp2
                    go_roundw
                    case rel => exact ⟨k + 1, d, by go_num, by have := HK.out; omega, by rw [HM1.out], rfl, HF1.out, X1.out⟩
                    case measure => have := HK.out; simp [intOf]; omega
                  · have d3 : decide (f < 0) = false := decide_eq_false (by omega)
                    by_cases h3 : d < f
                    · have d4 : decide (d < f) = true := decide_eq_true (by omega)
                      have HM1 := Lib.hid (show manyN ds now (k + 1) = M from HN.out (by omega))
                      have HF1 := Lib.hid (show FirstT ds (k + 1) d from HTK.out (by omega) (by omega))
                      clear HY HN HTK HSK
                      go_wp2
                      go_roundw
                      case rel => exact ⟨k + 1, d, by go_num, by have := HK.out; omega, by rw [HM1.out], rfl, HF1.out, X1.out⟩
                      case measure => have := HK.out; simp [intOf]; omega
                    · have d4 : decide (d < f) = false := decide_eq_false (by omega)
                      have HM1 := Lib.hid (show manyN ds now (k + 1) = M from HN.out (by omega))
                      have HF1 := Lib.hid (show FirstT ds (k + 1) f from HSK.out (fun _ => by omega))
                      clear HY HN HTK HSK
                      go_wp2
                      go_roundw
                      case rel => exact ⟨k + 1, f, by go_num, by have := HK.out; omega, by rw [HM1.out], rfl, HF1.out, X1.out⟩
                      case measure => have := HK.out; simp [intOf]; omega
              · have d0 : decide (0 ≤ d) = false := decide_eq_false (by omega)
                have d1 : decide (d ≥ 0) = false := decide_eq_false (by omega)
                have HM1 := Lib.hid (show manyN ds now (k + 1) = M from HN.out (by omega))
                have HF1 := Lib.hid (show FirstT ds (k + 1) f from HSK.out (fun _ => by omega))
                clear HY HN HTK HSK
                go_wp2
                go_roundw
                case rel => exact ⟨k + 1, f, by go_num, by have := HK.out; omega, by rw [HM1.out], rfl, HF1.out, X1.out⟩
                case measure => have := HK.out; simp [intOf]; omega
            · obtain rfl : k = 10 := by omega
              rw [← HT.out.many now]
              have HL0 := Lib.hid (lastT_zero (dueL l now))
              clear hk hlt
              have X0 := Lib.hid X
              clear X
              go_wp2_with fail
              go_loopw [13, 17] (fun lv kv wr => ∃ (i : Nat), kv = .int .i64 (i : Int) ∧ i ≤ (dueL l now).length ∧ lv = .int .i64 (lastT (dueL l now) i) ∧ DrL w1 wr w.heap.size w.heap.size [.own (rowCells ((dueL l now).map fun x => x.tid)) [.slice At (dueL l now).length ct] fp_told, .own [timerD l] [.slice A n c] fp, .blk rt (iA ds) 2]) (fun _ kv _ => (dueL l now).length - (intOf kv).toNat)
              case atStart => exact ⟨0, rfl, by omega, by rw [HL0.out], X0.out⟩
              case round =>
                obtain ⟨i, rfl, hi, rfl, X⟩ := hrel
                clear X0 HL0
                by_cases hlt : i < (dueL l now).length
                · have hat := dueL_at HT.out hlt
                  have HRI := Lib.hid (dueL_rise HT.out hlt)
                  have HLS := Lib.hid (lastT_succ hlt)
                  obtain ⟨x, hx⟩ : ∃ x, x = (dueL l now)[i] := ⟨_, rfl⟩
                  have HX := Lib.hid hx
                  rw [← hx] at hat HRI HLS
                  obtain ⟨a1, a2, a3, a4, a5, a6⟩ := hat
                  obtain ⟨_, _, _, e, hil, _⟩ := ((X.sep.own_ 0 rfl).rd).rowS
                  injection e with e1 e2 e3
                  subst e1 e2 e3
                  obtain ⟨lb, lo, rfl, _, hlc⟩ := hil.2 (by omega)
                  have l0 := (hlc i hlt).trans (by rw [show ((dueL l now).map fun x => x.tid).getD i 0 = x.tid by rw [List.getD_eq_getElem?_getD, List.getElem?_map, List.getElem?_eq_getElem hlt, ← HX.out]; rfl])
                  obtain ⟨j, hj⟩ : ∃ j : Nat, x.tid = (j : Int) := ⟨x.tid.toNat, by omega⟩
                  rw [hj, Int.toNat_natCast] at a6
                  rw [hj] at a1 a2 l0
                  have t0 : wr.cell? ⟨rt, j, none⟩ = some (.int .i64 x.due) := ((X.sep.at_ 2 rfl).cell j).trans ((iA_at (by have := HT.out.len; omega)).trans (by rw [a6]))
                  have HKY := Lib.hid (show keyT x = x.due * 100 + (j : Int) by unfold keyT; rw [hj])
                  obtain ⟨d, hd⟩ : ∃ d, d = x.due := ⟨_, rfl⟩
                  rw [← hd] at a3 a4 a5 t0
                  have HDD := Lib.hid hd
                  clear hd a6 hj hx hil hlc
                  obtain ⟨la, hla⟩ : ∃ la, la = lastT (dueL l now) i := ⟨_, rfl⟩
                  rw [← hla]
                  have hrise : la < d * 100 + (j : Int) := by have h1 := HRI.out; have h2 := HKY.out; have h3 := HDD.out; omega
                  clear hla
                  have x0 : ¬ ((j : Int) < 0) := by omega
                  have x1 : ¬ ((j : Int) ≥ 10) := by omega
                  have x2 : (0 : Int) ≤ (j : Int) := by omega
                  have x3 : (j : Int) < 10 := by omega
                  have x4 : ¬ 10 ≤ j := by omega
                  have x5 : decide ((j : Int) < 0) = false := decide_eq_false (by omega)
                  have x6 : decide ((j : Int) > 9) = false := decide_eq_false (by omega)
                  have x7 : decide (9 < (j : Int)) = false := decide_eq_false (by omega)
                  have x8 : decide (9 < j) = false := decide_eq_false (by omega)
                  have y0 : decide (d < 0) = false := decide_eq_false (by omega)
                  have y1 : decide (d > now) = false := decide_eq_false (by omega)
                  have y2 : decide (now < d) = false := decide_eq_false (by omega)
                  have y3 : IntKind.i64.wrap (d * 100) = d * 100 := by rw [IntKind.wrap_i64]; omega
                  have y4 : IntKind.i64.wrap (d * 100 + (j : Int)) = d * 100 + (j : Int) := by rw [IntKind.wrap_i64]; omega
                  have y5 : decide (d * 100 + (j : Int) ≤ la) = false := decide_eq_false (by omega)
                  have i0 : (0 : Int) ≤ (i : Int) := by omega
                  have i1 : (i : Int) < ((dueL l now).length : Int) := by omega
                  have HLT := Lib.hid hlt
                  clear a1 a2 a3 a4 a5 hrise
                  have SH := Lib.hid X
                  clear X
                  go_wp2_with fail
                  go_quiet (fail)
                  have l0' := (below_drewN (Below.refl wr.heap.size wr) nq).cell (p := ⟨lb, lo + i, none⟩) (lt_of_cell l0) |>.trans l0
                  have t0' := (below_drewN (Below.refl wr.heap.size wr) nq).cell (p := ⟨rt, j, none⟩) (lt_of_cell t0) |>.trans t0
                  have X := SH.out.keep (below_drewN (Below.refl wr.heap.size wr) nq)
                  generalize wr.drewN nq = w8 at *
                  clear l0 t0 SH
                  have l0 := l0'
                  have t0 := t0'
                  clear l0' t0'
                  have SH := Lib.hid X
                  clear X
                  go_wp2_with fail
                  go_quiet (fail)
                  have l0' := (below_drewN (Below.refl w8.heap.size w8) nq).cell (p := ⟨lb, lo + i, none⟩) (lt_of_cell l0) |>.trans l0
                  have t0' := (below_drewN (Below.refl w8.heap.size w8) nq).cell (p := ⟨rt, j, none⟩) (lt_of_cell t0) |>.trans t0
                  have X := SH.out.keep (below_drewN (Below.refl w8.heap.size w8) nq)
                  generalize w8.drewN nq = w9 at *
                  clear l0 t0 SH
                  have l0 := l0'
                  have t0 := t0'
                  clear l0' t0'
                  have SH := Lib.hid X
                  clear X
                  have hd16 : (dueL l now).length ≤ l.length := List.length_filter_le _ _
                  have hi16 : i ≤ 16 := by have := HLT.out; omega
                  have HLN := Lib.hid (show lastT (dueL l now) (i + 1) = d * 100 + (j : Int) by rw [HLS.out, HKY.out, HDD.out])
                  clear l0 t0
                  go_wp2
                  go_roundw
                  case rel =>
                    first
                      | exact ⟨i + 1, by go_num, by have := HLT.out; omega, by rw [HLN.out], SH.out⟩
                      | (repeat apply Exists.intro
                         refine ⟨⟨i + 1, ?_, by have := HLT.out; omega, ?_, SH.out⟩, ?_⟩
                         rotate_left 2
                         · first | rfl | (trace_state; done)
                         · go_num
                         · first | (rw [HLN.out]; done) | (rw [HLN.out]; rfl))
                  case measure => have := HLT.out; simp [intOf]; omega
                · have hnx := HT.out.first hl16 HF0.out
                  have hok := HT.out.good.yes hl16
                  go_wp2_with fail
                  refine (iNextDue_at A n c l _ ((X.sep.own_ 1 rfl).rd) (by unfold timerSz; omega)).mono ?_
                  rintro e w5 ⟨rfl, b1⟩
                  replace X := X.keep b1
                  clear b1
                  obtain ⟨hn1, hn2⟩ := hnx
                  rw [hn1] at hn2 ⊢
                  generalize (nextM l).1 = nx at *
                  clear hn1
                  have HOK := Lib.hid hok
                  clear hok
                  by_cases hf0 : 0 ≤ f
                  · have f0 : decide (0 ≤ f) = true := decide_eq_true (by omega)
                    have f1 : decide (f ≥ 0) = true := decide_eq_true (by omega)
                    rw [f0] at hn2 ⊢
                    have hn3 := hn2 rfl
                    subst hn3
                    clear hn2
                    clear hf0
                    have hzz : decide (nx = nx) = true := decide_eq_true rfl
                    go_wp2_with fail
                    refine (iTimersOk_at A n c l _ ((X.sep.own_ 1 rfl).rd) (by unfold timerSz; omega)).mono ?_
                    rintro e w6 ⟨rfl, b1⟩
                    rw [HOK.out]
                    replace X := X.keep b1
                    clear b1
                    have C := Lib.hid (B1.out.trans (grown_below X.grown B1.out.size (fun k hk => by injection hk with hk; omega)))
                    clear X
                    go_wp2
                    go_ret
                    exact ⟨rfl, C.out⟩
                  · have f0 : decide (0 ≤ f) = false := decide_eq_false (by omega)
                    have f1 : decide (f ≥ 0) = false := decide_eq_false (by omega)
                    rw [f0] at hn2 ⊢
                    clear hn2
                    clear hf0
                    have hzz : decide (nx = nx) = true := decide_eq_true rfl
                    go_wp2_with fail
                    refine (iTimersOk_at A n c l _ ((X.sep.own_ 1 rfl).rd) (by unfold timerSz; omega)).mono ?_
                    rintro e w6 ⟨rfl, b1⟩
                    rw [HOK.out]
                    replace X := X.keep b1
                    clear b1
                    have C := Lib.hid (B1.out.trans (grown_below X.grown B1.out.size (fun k hk => by injection hk with hk; omega)))
                    clear X
                    go_wp2
                    go_ret
                    exact ⟨rfl, C.out⟩

end Go.Proofs.Ythekcaahkokjfaa
