/-
  The law FnForWhom answers true at every slice of bytes, and writes nothing that was there (by program, wip/gen/gennetv.py).
-/
import Derived.Test.YtdcdcccdihhhcaaNetP0
import Derived.Test.YtdcdcccdihhhcaaNetK1
import Derived.Test.YtdcdcccdihhhcaaCls
import Derived.RegionTactic
import Derived.BigQuiet
import Derived.Deep.DeepCutAuto
namespace Go.Proofs.Ytdcdcccdihhhcaa
set_option maxRecDepth 100000
open Go.RowKit

set_option maxHeartbeats 12800000 in
theorem lawForWhom (A : Option Addr) (n c0 : Nat) (w : World) (h : BRow w w.heap.size A n) (hm : n ≤ maxLen) :
    Calls Try.prog 5 #[.slice A n c0] w fun e w' => e = .returned (.bool true) ∧ Below w.heap.size w w' := by
  unfold maxLen at hm
  by_cases hn : 4096 < n
  · clear h
    go_enter Try.func5, Try.ntmps5
    go_wp2_with fail
    refine (lbig_any A n c0 _).mono ?_
    rintro e w' ⟨rfl, rfl⟩
    rw [decide_eq_true hn]
    go_wp2
    go_ret
    exact ⟨rfl, Below.refl _ _⟩
  go_enter Try.func5, Try.ntmps5
  go_wp2_with fail
  refine (lbig_any A n c0 _).mono ?_
  rintro e w' ⟨rfl, rfl⟩
  rw [decide_eq_false hn]
  go_wp2_with fail
  refine (roll_any A n c0 _ h (by omega) _).mono ?_
  rintro e w1 ⟨rfl, cu, b1⟩
  have X := DrL.start cu
  have B1 := Lib.hid b1
  clear b1 cu h
  go_wp2_with fail
  refine (iNewNet_any _).mono ?_
  rintro e w2 ⟨rfl, b⟩
  replace X := X.keep b
  clear b
  replace X := X.with_ (X.sep.own0 (ow_zeroN _))
  replace X := X.boxAt (w2.heap.size) rfl #[.slice none 0 0, .slice none 0 0] 30
  go_wp2_with fail
  generalize w2.alloc (.cells #[.slice none 0 0, .slice none 0 0] 30) = w3 at *
  generalize w2.heap.size = rn at *
  refine (lbelow_any _ _ _ X.cur 9 (by decide)).mono ?_
  rintro e w4 ⟨z, hz, rfl, cu, gr⟩
  replace X := X.draw cu gr
  clear cu gr
  obtain ⟨K, rfl⟩ : ∃ K : Nat, z = (K : Int) := ⟨z.toNat, by omega⟩
  have hK : K ≤ 8 := by omega
  clear hz
  replace X := X.with_ (X.sep.pick 0 rfl)
  replace X := X.with_ (X.sep.pick 1 rfl)
  replace X : DrL w1 _ _ _ [_, .blk rn #[.slice none 0 0, .slice none 0 0] 30] := X
  have X0 := Lib.hid X
  clear X
  go_wp2_with fail
  go_loopw [5] (fun kv wr => ∃ (k : Nat) (l : List MsgM) (A0 : Option Addr) (nA0 cA0 : Nat) (A1 : Option Addr) (nA1 cA1 : Nat) (fp : List Nat), kv = .int .i64 (k : Int) ∧ l.length + k ≤ 8 ∧ l.all msgOk = true ∧ DrL w1 wr w.heap.size w.heap.size [.own (⟨l, []⟩ : NetM).cells [.slice A0 nA0 cA0, .slice A1 nA1 cA1] fp, .blk rn #[.slice A0 nA0 cA0, .slice A1 nA1 cA1] 30]) (fun kv _ => (intOf kv).toNat)
  case atStart => exact ⟨K, [], _, _, _, _, _, _, _, rfl, by simpa using hK, rfl, X0.out⟩
  case round =>
    obtain ⟨k, l, A0, nA0, cA0, A1, nA1, cA1, fp, rfl, hk, hall, X⟩ := hrel
    clear X0
    have hok : netOk (⟨l, []⟩ : NetM) = true := netOk_mk hall (by omega)
    have hsz : (⟨l, []⟩ : NetM).sz ≤ 1048577 := Nat.le_trans (netOk_sz hok) (by decide)
    have HA := Lib.hid hall
    have HOK := Lib.hid hok
    clear hall hok
    rcases k with _ | k
    · have hln : l.length = nA0 := (net_len (X.sep.own_ 0 rfl).rd).1
      have hl8 : l.length ≤ 8 := by omega
      subst hln
      clear hk
      have hmk : ∀ w9 : World, (Instr.makeSlice 38 (.int .i64 (l.length : Int)) (.int .i64 (l.length : Int))).run Try.prog w9 = .ok (.slice (some ⟨w9.heap.size, 0, none⟩) l.length l.length) (w9.alloc (.cells (iA (List.replicate l.length 0)) 2)) := fun w9 => by
        have h := run_make_k (P := Try.prog) 38 2 (.int .i64 0) #[.int .i64 0] 1 8 Try.underlying38 info64 rfl .i64 .i64 l.length (by omega) (by omega) w9
        rw [made_zeros] at h
        exact h
      have f0 : wr.cell? ⟨rn, 0, none⟩ = some (.slice A0 l.length cA0) := (X.sep.at_ 1 rfl).cell 0
      have f1 : wr.cell? ⟨rn, 1, none⟩ = some (.slice A1 nA1 cA1) := (X.sep.at_ 1 rfl).cell 1
      have XT := Lib.hid (X.boxAt (wr.heap.size) rfl (iA (List.replicate l.length 0)) 2)
      clear X
      go_upto_region 10 with fail
      have X := XT.out
      clear XT hmk f0 f1
      generalize wr.alloc (.cells (iA (List.replicate l.length 0)) 2) = w5 at *
      generalize wr.heap.size = rc at *
      replace X := X.with_ (X.sep.pick 2 rfl)
      replace X := X.with_ (X.sep.pick 2 rfl)
      replace X : DrL w1 _ _ _ [_, .blk rn #[.slice A0 l.length cA0, .slice A1 nA1 cA1] 30, .blk rc (iA (List.replicate l.length 0)) 2] := X
      have X0 := Lib.hid X
      clear X
      have M0 := Lib.hid (met_zero HA.out)
      go_wp2_with fail
      go_loopw [7] (fun kv wr => ∃ (nd : Nat) (ms : List Int), kv = .int .i64 (nd : Int) ∧ nd ≤ 6 ∧ MetOk l ms (nd : Int) [] ∧ DrL w1 wr w.heap.size w.heap.size [.own (⟨l, []⟩ : NetM).cells [.slice A0 l.length cA0, .slice A1 nA1 cA1] fp, .blk rn #[.slice A0 l.length cA0, .slice A1 nA1 cA1] 30, .blk rc (iA ms) 2]) (fun kv _ => 6 - (intOf kv).toNat)
      case atStart => exact ⟨0, _, rfl, by omega, M0.out, X0.out⟩
      case round =>
        obtain ⟨nd, ms, rfl, hnd, hmet, X⟩ := hrel
        clear X0 M0
        have HM := Lib.hid hmet
        clear hmet
        by_cases hlt : nd < 6
        · have f2 : wr.cell? ⟨rn, 0, none⟩ = some (.slice A0 l.length cA0) := (X.sep.at_ 1 rfl).cell 0
          have f3 : wr.cell? ⟨rn, 1, none⟩ = some (.slice A1 nA1 cA1) := (X.sep.at_ 1 rfl).cell 1
          go_wp2_with fail
          refine (iLetters_any _ _ (⟨l, []⟩ : NetM) (nd : Int) _ (X.sep.own_ 0 rfl).rd hsz).mono ?_
          rintro e w6 ⟨Al, nl, cl, rfl, o, b⟩
          rw [letters_mk HOK.out] at o
          obtain ⟨fp_tl, X'⟩ := X.has b o
          clear X; have X := X'; clear X' b o f2 f3
          have hnl : (ixTo l (nd : Int)).length = nl := by have h1 := (rdIx (X.sep.own_ 0 rfl).rd).1.1; rw [List.length_map] at h1; exact h1
          subst hnl
          replace X := X.with_ (X.sep.pick 3 rfl)
          replace X := X.with_ (X.sep.pick 3 rfl)
          replace X := X.with_ (X.sep.pick 3 rfl)
          replace X : DrL w1 _ _ _ [_, .blk rn #[.slice A0 l.length cA0, .slice A1 nA1 cA1] 30, .blk rc (iA ms) 2, _] := X
          have X0 := Lib.hid X
          clear X
          have M0 := Lib.hid (show MetOk l ms (nd : Int) ((ixTo l (nd : Int)).take 0) from HM.out)
          have HLT := Lib.hid hlt
          have hd6 := Lib.hid (show decide ((nd : Int) < 6) = true from decide_eq_true (by omega))
          clear HM hlt hnd
          go_wp2_with fail
          go_loopw [9] (fun kv wr => ∃ (i : Nat) (ms : List Int), kv = .int .i64 (i : Int) ∧ i ≤ (ixTo l (nd : Int)).length ∧ MetOk l ms (nd : Int) ((ixTo l (nd : Int)).take i) ∧ DrL w1 wr w.heap.size w.heap.size [.own (⟨l, []⟩ : NetM).cells [.slice A0 l.length cA0, .slice A1 nA1 cA1] fp, .blk rn #[.slice A0 l.length cA0, .slice A1 nA1 cA1] 30, .blk rc (iA ms) 2, .own (rowCells ((ixTo l (nd : Int)).map fun (i : Nat) => (i : Int))) [.slice Al (ixTo l (nd : Int)).length cl] fp_tl]) (fun kv _ => (ixTo l (nd : Int)).length - (intOf kv).toNat)
          case atStart => exact ⟨0, _, rfl, by omega, M0.out, X0.out⟩
          case round =>
            obtain ⟨i, ms, rfl, hi, hmet, X⟩ := hrel
            clear X0 M0
            have HM := Lib.hid hmet
            clear hmet
            by_cases hlt : i < (ixTo l (nd : Int)).length
            · obtain ⟨lb, lo, rfl, _, hlc⟩ := (rdIx (X.sep.own_ 3 rfl).rd).1.2 (by omega)
              have hgd : ∀ (j : Nat) (hj : j < (ixTo l (nd : Int)).length), ((ixTo l (nd : Int)).map fun (i : Nat) => (i : Int)).getD j 0 = ((ixTo l (nd : Int))[j] : Int) := fun j hj => by
                rw [List.getD_eq_getElem?_getD, List.getElem?_map, List.getElem?_eq_getElem hj]
                rfl
              obtain ⟨x, hx⟩ : ∃ x, x = (ixTo l (nd : Int))[i] := ⟨_, rfl⟩
              have hxm := ixTo_mem.1 (hx ▸ List.getElem_mem hlt)
              have l0 := (hlc i hlt).trans (by rw [hgd i hlt, ← hx])
              have HM0 := Lib.hid (by rw [hx]; exact met_at HM.out hlt : ms.getD x 0 = 0)
              have HM1 := Lib.hid (by rw [hx]; exact met_step HM.out hlt : MetOk l (ms.set x 1) (nd : Int) ((ixTo l (nd : Int)).take (i + 1)))
              have hxl := hxm.1
              have HXD := Lib.hid hxm.2
              clear hxm
              obtain ⟨_, _, _, _, _, _, e0, _, hr0, _⟩ := (X.sep.own_ 0 rfl).rd.netT
              injection e0 with e1 e2 e3
              subst e1 e2 e3
              obtain ⟨_, _, _, e, _, _, _, hel⟩ := hr0.msgs
              injection e with e1 e2 e3
              subst e1 e2 e3
              obtain ⟨fb, fo, rfl, _, hc⟩ := hel (by omega)
              obtain ⟨_, _, _, _, fc1, _, _, _⟩ := hc x hxl
              have hgx : l.getD x msg0 = l[x] := by simp [List.getD, List.getElem?_eq_getElem hxl]
              have hdx : l[x].dest = (nd : Int) := by rw [← hgx]; exact HXD.out
              have fc1' := fc1.trans (by rw [show (⟨l, []⟩ : NetM).flight[x].dest = (nd : Int) from hdx])
              clear hel hc hr0 hgx fc1
              have HLC := Lib.hid hlc
              clear hlc
              have x0 : ¬ ((x : Int) < 0) := by omega
              have x1 : ¬ ((x : Int) ≥ (l.length : Int)) := by omega
              have x4 : ¬ l.length ≤ x := by omega
              have x5 : decide (l.length ≤ x) = false := decide_eq_false (by omega)
              have x6 : decide ((0 : Int) ≤ (x : Int)) = true := decide_eq_true (by omega)
              have x7 : decide ((x : Int) < 0) = false := decide_eq_false (by omega)
              have x2 : (0 : Int) ≤ (x : Int) := by omega
              have x3 : (x : Int) < (l.length : Int) := by omega
              have i0 : (0 : Int) ≤ (i : Int) := by omega
              have i1 : (i : Int) < ((ixTo l (nd : Int)).length : Int) := by omega
              have n0 : wr.cell? ⟨rn, 0, none⟩ = some (.slice (some ⟨fb, fo, none⟩) l.length cA0) := (X.sep.at_ 1 rfl).cell 0
              have t0 : wr.cell? ⟨rc, x, none⟩ = some (.int .i64 0) := ((X.sep.at_ 2 rfl).cell x).trans ((iA_at (by have := HM.out.1; omega)).trans (by rw [HM0.out]))
              have HIL := Lib.hid hlt
              have hil := ixTo_len l (nd : Int)
              by_cases hi0 : (i : Int) > 0
              · obtain ⟨i', hi'⟩ : ∃ i', i = i' + 1 := ⟨i - 1, by omega⟩
                have hy := ixTo_lt (l := l) (node := (nd : Int)) hlt (show i' < i by omega)
                rw [← hx] at hy
                obtain ⟨y, hye⟩ : ∃ y, y = (ixTo l (nd : Int))[i']'(by omega) := ⟨_, rfl⟩
                rw [← hye] at hy
                have p0 := (HLC.out i' (by omega)).trans (by rw [hgd i' (by omega), ← hye])
                have y0 : ¬ ((y : Int) ≥ (x : Int)) := by omega
                have hm2 : IntKind.i64.wrap ((i : Int) - 1) = (i' : Int) := by rw [IntKind.wrap_i64]; omega
                have j0 : (0 : Int) ≤ (i' : Int) := by omega
                have j1 : (i' : Int) < ((ixTo l (nd : Int)).length : Int) := by omega
                have HI' := Lib.hid hi'
                clear hye hi' hy
                have hdg : decide (0 < i) = true := decide_eq_true (by omega)
                have hi8 : i ≤ 8 := by omega
                clear hil
                have HX := Lib.hid hx
                have HGD := Lib.hid hgd
                clear hx hgd hdx
                have hdy : decide (x ≤ y) = false := decide_eq_false (by omega)
                have hdy2 : decide ((x : Int) ≤ (y : Int)) = false := decide_eq_false (by omega)
                clear y0 hi0
                go_wp2_with fail
                go_quiet (fail)
                have b9 := below_drewN (Below.refl wr.heap.size wr) nq
                generalize wr.drewN nq = w7 at *
                have l9 := (b9.cell (p := ⟨lb, lo + i, none⟩) (lt_of_cell l0)).trans l0
                have t9 := (b9.cell (p := ⟨rc, x, none⟩) (lt_of_cell t0)).trans t0
                replace X := X.keep b9
                clear b9 l0 t0 n0 fc1'
                go_wp2_with fail
                refine wp_region_L (fun v => v.cell? ⟨lb, lo + i, none⟩ = some (.int .i64 (x : Int)) ∧ v.cell? ⟨rc, x, none⟩ = some (.int .i64 0)) 14 (by kernel_rfl) ?_
                replace X := X.drew
                have HF : w7.drew.cell? ⟨lb, lo + i, none⟩ = some (.int .i64 (x : Int)) ∧ w7.drew.cell? ⟨rc, x, none⟩ = some (.int .i64 0) := ⟨l9, t9⟩
                clear l9 t9
                generalize w7.drew = w8 at *
                refine wpAnyL_pure (i := 0) (v := ?_) rfl rfl (by kernel_rfl) (by kernel_rfl) (by kernel_rfl) (fun _ _ _ h => h) HF (Or.inl ⟨by rfl, ?_⟩) ?_
                rotate_left 1
                · (intro v _; go_simp; try with_reducible rfl)
                try simp only [Act.put]
                refine wpAnyL_pure (i := 1) (v := ?_) rfl rfl (by kernel_rfl) (by kernel_rfl) (by kernel_rfl) (fun _ _ _ h => h) HF (Or.inl ⟨by rfl, ?_⟩) ?_
                rotate_left 1
                · (intro v _; go_simp; try with_reducible rfl)
                try simp only [Act.put]
                refine wpAnyL_pure (i := 2) (v := ?_) rfl rfl (by kernel_rfl) (by kernel_rfl) (by kernel_rfl) (fun _ _ _ h => h) HF (Or.inl ⟨by rfl, ?_⟩) ?_
                rotate_left 1
                · (intro v _; go_simp; try with_reducible rfl)
                try simp only [Act.put]
                refine wpAnyL_pure (i := 3) (v := ?_) rfl rfl (by kernel_rfl) (by kernel_rfl) (by kernel_rfl) (fun _ _ _ h => h) HF (Or.inl ⟨by rfl, ?_⟩) ?_
                rotate_left 1
                · (intro v _; go_simp; try with_reducible rfl)
                try simp only [Act.put]
                refine wpAnyL_take (i := 4) (v := ?_) rfl rfl (by kernel_rfl) (by kernel_rfl) (by kernel_rfl) (by kernel_rfl) (by kernel_rfl) (fun _ _ _ h => h) HF (Or.inl ⟨by rfl, ?_⟩) ?_
                rotate_left 1
                · (rintro v ⟨a0, a1⟩; go_simp; try with_reducible rfl)
                try simp only [Act.put]
                refine wpAnyL_pure (i := 5) (v := ?_) rfl rfl (by kernel_rfl) (by kernel_rfl) (by kernel_rfl) (fun _ _ _ h => h) HF (Or.inl ⟨by rfl, ?_⟩) ?_
                rotate_left 1
                · (intro v _; go_simp; try with_reducible rfl)
                try simp only [Act.put]
                refine wpAnyL_pure (i := 6) (v := ?_) rfl rfl (by kernel_rfl) (by kernel_rfl) (by kernel_rfl) (fun _ _ _ h => h) HF (Or.inl ⟨by rfl, ?_⟩) ?_
                rotate_left 1
                · (intro v _; go_simp; try with_reducible rfl)
                try simp only [Act.put]
                refine wpAnyL_pure (i := 7) (v := ?_) rfl rfl (by kernel_rfl) (by kernel_rfl) (by kernel_rfl) (fun _ _ _ h => h) HF (Or.inl ⟨by rfl, ?_⟩) ?_
                rotate_left 1
                · (intro v _; go_simp; try with_reducible rfl)
                try simp only [Act.put]
                refine wpAnyL_pure (i := 8) (v := ?_) rfl rfl (by kernel_rfl) (by kernel_rfl) (by kernel_rfl) (fun _ _ _ h => h) HF (Or.inl ⟨by rfl, ?_⟩) ?_
                rotate_left 1
                · (intro v _; go_simp; try with_reducible rfl)
                try simp only [Act.put]
                refine wpAnyL_take (i := 9) (v := ?_) rfl rfl (by kernel_rfl) (by kernel_rfl) (by kernel_rfl) (by kernel_rfl) (by kernel_rfl) (fun _ _ _ h => h) HF (Or.inl ⟨by rfl, ?_⟩) ?_
                rotate_left 1
                · (rintro v ⟨a0, a1⟩; go_simp; try with_reducible rfl)
                try simp only [Act.put]
                refine wpAnyL_pure (i := 10) (v := ?_) rfl rfl (by kernel_rfl) (by kernel_rfl) (by kernel_rfl) (fun _ _ _ h => h) HF (Or.inl ⟨by rfl, ?_⟩) ?_
                rotate_left 1
                · (intro v _; go_simp; try with_reducible rfl)
                try simp only [Act.put]
                refine wpAnyL_take (i := 11) (v := ?_) rfl rfl (by kernel_rfl) (by kernel_rfl) (by kernel_rfl) (by kernel_rfl) (by kernel_rfl) (fun _ _ _ h => h) HF (Or.inl ⟨by rfl, ?_⟩) ?_
                rotate_left 1
                · (rintro v ⟨a0, a1⟩; go_simp; try with_reducible rfl)
                try simp only [Act.put]
                refine wpAnyL_pure (i := 12) (v := ?_) rfl rfl (by kernel_rfl) (by kernel_rfl) (by kernel_rfl) (fun _ _ _ h => h) HF (Or.inl ⟨by rfl, ?_⟩) ?_
                rotate_left 1
                · (intro v _; go_simp; try with_reducible rfl)
                try simp only [Act.put]
                obtain ⟨l9, t9⟩ := HF
                have HF : w8.cell? ⟨lb, lo + i, none⟩ = some (.int .i64 (x : Int)) ∧ w8.cell? ⟨rc, x, none⟩ = some (.int .i64 0) := ⟨l9, t9⟩
                have ff := (X.sep.at_ 2 rfl).free x
                refine wpAnyL_pure (i := 13) (v := ?_) rfl rfl (by kernel_rfl) (by kernel_rfl) (by kernel_rfl) (fun _ _ _ h => h) HF (Or.inl ⟨by rfl, ?_⟩) ?_
                rotate_left 1
                · (intro v _; go_simp; try with_reducible rfl)
                try simp only [Act.put]
                refine wpAnyL_step (i := 14) (by kernel_rfl) rfl rfl ?_
                intro K hK
                go_simp
                refine hK _ _ (fun h => nomatch (show true = false from h)) ?_
                clear hK K
                try simp only [Act.put]
                refine wpAnyL_done (by kernel_rfl) ?_ _
                replace X := X.put 2 rfl x (.int .i64 1)
                replace X : DrL w1 _ _ _ [_, .blk rn #[.slice (some ⟨fb, fo, none⟩) l.length cA0, .slice A1 nA1 cA1] 30, .blk rc ((iA ms).setIfInBounds x (.int .i64 1)) 2, _] := X
                rw [iA_set] at X
                have X1 := Lib.hid X
                clear X HF l9 t9 ff
                go_wp2
                go_roundw
                case rel => exact ⟨i + 1, ms.set x 1, by go_num, by have := HIL.out; omega, HM1.out, X1.out⟩
                case measure => have := HIL.out; simp [intOf]; omega
              · have hdg : decide (0 < i) = false := decide_eq_false (by omega)
                have hi8 : i ≤ 8 := by omega
                clear hil
                have HX := Lib.hid hx
                have HGD := Lib.hid hgd
                clear hx hgd hdx
                clear hi0
                go_wp2_with fail
                go_quiet (fail)
                have b9 := below_drewN (Below.refl wr.heap.size wr) nq
                generalize wr.drewN nq = w7 at *
                have l9 := (b9.cell (p := ⟨lb, lo + i, none⟩) (lt_of_cell l0)).trans l0
                have t9 := (b9.cell (p := ⟨rc, x, none⟩) (lt_of_cell t0)).trans t0
                replace X := X.keep b9
                clear b9 l0 t0 n0 fc1'
                go_wp2_with fail
                refine wp_region_L (fun v => v.cell? ⟨lb, lo + i, none⟩ = some (.int .i64 (x : Int)) ∧ v.cell? ⟨rc, x, none⟩ = some (.int .i64 0)) 14 (by kernel_rfl) ?_
                replace X := X.drew
                have HF : w7.drew.cell? ⟨lb, lo + i, none⟩ = some (.int .i64 (x : Int)) ∧ w7.drew.cell? ⟨rc, x, none⟩ = some (.int .i64 0) := ⟨l9, t9⟩
                clear l9 t9
                generalize w7.drew = w8 at *
                refine wpAnyL_pure (i := 0) (v := ?_) rfl rfl (by kernel_rfl) (by kernel_rfl) (by kernel_rfl) (fun _ _ _ h => h) HF (Or.inl ⟨by rfl, ?_⟩) ?_
                rotate_left 1
                · (intro v _; go_simp; try with_reducible rfl)
                try simp only [Act.put]
                refine wpAnyL_pure (i := 1) (v := ?_) rfl rfl (by kernel_rfl) (by kernel_rfl) (by kernel_rfl) (fun _ _ _ h => h) HF (Or.inl ⟨by rfl, ?_⟩) ?_
                rotate_left 1
                · (intro v _; go_simp; try with_reducible rfl)
                try simp only [Act.put]
                refine wpAnyL_pure (i := 2) (v := ?_) rfl rfl (by kernel_rfl) (by kernel_rfl) (by kernel_rfl) (fun _ _ _ h => h) HF (Or.inl ⟨by rfl, ?_⟩) ?_
                rotate_left 1
                · (intro v _; go_simp; try with_reducible rfl)
                try simp only [Act.put]
                refine wpAnyL_pure (i := 3) (v := ?_) rfl rfl (by kernel_rfl) (by kernel_rfl) (by kernel_rfl) (fun _ _ _ h => h) HF (Or.inl ⟨by rfl, ?_⟩) ?_
                rotate_left 1
                · (intro v _; go_simp; try with_reducible rfl)
                try simp only [Act.put]
                refine wpAnyL_take (i := 4) (v := ?_) rfl rfl (by kernel_rfl) (by kernel_rfl) (by kernel_rfl) (by kernel_rfl) (by kernel_rfl) (fun _ _ _ h => h) HF (Or.inl ⟨by rfl, ?_⟩) ?_
                rotate_left 1
                · (rintro v ⟨a0, a1⟩; go_simp; try with_reducible rfl)
                try simp only [Act.put]
                refine wpAnyL_pure (i := 5) (v := ?_) rfl rfl (by kernel_rfl) (by kernel_rfl) (by kernel_rfl) (fun _ _ _ h => h) HF (Or.inl ⟨by rfl, ?_⟩) ?_
                rotate_left 1
                · (intro v _; go_simp; try with_reducible rfl)
                try simp only [Act.put]
                refine wpAnyL_pure (i := 6) (v := ?_) rfl rfl (by kernel_rfl) (by kernel_rfl) (by kernel_rfl) (fun _ _ _ h => h) HF (Or.inl ⟨by rfl, ?_⟩) ?_
                rotate_left 1
                · (intro v _; go_simp; try with_reducible rfl)
                try simp only [Act.put]
                refine wpAnyL_pure (i := 7) (v := ?_) rfl rfl (by kernel_rfl) (by kernel_rfl) (by kernel_rfl) (fun _ _ _ h => h) HF (Or.inl ⟨by rfl, ?_⟩) ?_
                rotate_left 1
                · (intro v _; go_simp; try with_reducible rfl)
                try simp only [Act.put]
                refine wpAnyL_pure (i := 8) (v := ?_) rfl rfl (by kernel_rfl) (by kernel_rfl) (by kernel_rfl) (fun _ _ _ h => h) HF (Or.inl ⟨by rfl, ?_⟩) ?_
                rotate_left 1
                · (intro v _; go_simp; try with_reducible rfl)
                try simp only [Act.put]
                refine wpAnyL_take (i := 9) (v := ?_) rfl rfl (by kernel_rfl) (by kernel_rfl) (by kernel_rfl) (by kernel_rfl) (by kernel_rfl) (fun _ _ _ h => h) HF (Or.inl ⟨by rfl, ?_⟩) ?_
                rotate_left 1
                · (rintro v ⟨a0, a1⟩; go_simp; try with_reducible rfl)
                try simp only [Act.put]
                refine wpAnyL_pure (i := 10) (v := ?_) rfl rfl (by kernel_rfl) (by kernel_rfl) (by kernel_rfl) (fun _ _ _ h => h) HF (Or.inl ⟨by rfl, ?_⟩) ?_
                rotate_left 1
                · (intro v _; go_simp; try with_reducible rfl)
                try simp only [Act.put]
                refine wpAnyL_take (i := 11) (v := ?_) rfl rfl (by kernel_rfl) (by kernel_rfl) (by kernel_rfl) (by kernel_rfl) (by kernel_rfl) (fun _ _ _ h => h) HF (Or.inl ⟨by rfl, ?_⟩) ?_
                rotate_left 1
                · (rintro v ⟨a0, a1⟩; go_simp; try with_reducible rfl)
                try simp only [Act.put]
                refine wpAnyL_pure (i := 12) (v := ?_) rfl rfl (by kernel_rfl) (by kernel_rfl) (by kernel_rfl) (fun _ _ _ h => h) HF (Or.inl ⟨by rfl, ?_⟩) ?_
                rotate_left 1
                · (intro v _; go_simp; try with_reducible rfl)
                try simp only [Act.put]
                obtain ⟨l9, t9⟩ := HF
                have HF : w8.cell? ⟨lb, lo + i, none⟩ = some (.int .i64 (x : Int)) ∧ w8.cell? ⟨rc, x, none⟩ = some (.int .i64 0) := ⟨l9, t9⟩
                have ff := (X.sep.at_ 2 rfl).free x
                refine wpAnyL_pure (i := 13) (v := ?_) rfl rfl (by kernel_rfl) (by kernel_rfl) (by kernel_rfl) (fun _ _ _ h => h) HF (Or.inl ⟨by rfl, ?_⟩) ?_
                rotate_left 1
                · (intro v _; go_simp; try with_reducible rfl)
                try simp only [Act.put]
                refine wpAnyL_step (i := 14) (by kernel_rfl) rfl rfl ?_
                intro K hK
                go_simp
                refine hK _ _ (fun h => nomatch (show true = false from h)) ?_
                clear hK K
                try simp only [Act.put]
                refine wpAnyL_done (by kernel_rfl) ?_ _
                replace X := X.put 2 rfl x (.int .i64 1)
                replace X : DrL w1 _ _ _ [_, .blk rn #[.slice (some ⟨fb, fo, none⟩) l.length cA0, .slice A1 nA1 cA1] 30, .blk rc ((iA ms).setIfInBounds x (.int .i64 1)) 2, _] := X
                rw [iA_set] at X
                have X1 := Lib.hid X
                clear X HF l9 t9 ff
                go_wp2
                go_roundw
                case rel => exact ⟨i + 1, ms.set x 1, by go_num, by have := HIL.out; omega, HM1.out, X1.out⟩
                case measure => have := HIL.out; simp [intOf]; omega
            · have HM2 := Lib.hid (show MetOk l ms ((nd + 1 : Nat) : Int) [] from met_next (by have h9 := HM.out; rw [List.take_of_length_le (by omega)] at h9; exact h9))
              have hnd := HLT.out
              replace X := X.with_ (X.sep.sub (.cons_cons _ (.cons_cons _ (.cons_cons _ (List.nil_sublist _)))))
              have X1 := Lib.hid X
              clear X HM
              have HND := Lib.hid hnd
              clear hnd
              go_wp2
              go_roundw
              case rel =>
                first
                  | exact ⟨nd + 1, ms, by go_num, by have := HND.out; omega, HM2.out, X1.out⟩
                  | (repeat apply Exists.intro
                     refine ⟨⟨nd + 1, ms, ?_, by have := HND.out; omega, HM2.out, X1.out⟩, ?_⟩
                     rotate_left 1
                     · first | rfl | (rw [hd6.out]; done) | (rw [hd6.out]; rfl)
                     · go_num)
              case measure => have := HND.out; simp [intOf]; omega
        · obtain rfl : nd = 6 := by omega
          have hal := fun q (hq : q < l.length) => met_all HM.out HA.out hq
          have HAL := Lib.hid hal
          have HML := Lib.hid HM.out.1
          have X0 := Lib.hid X
          clear X hal HM
          go_wp2_with fail
          go_loopw [10] (fun kv wr => ∃ (j : Nat), kv = .int .i64 (j : Int) ∧ j ≤ l.length ∧ DrL w1 wr w.heap.size w.heap.size [.own (⟨l, []⟩ : NetM).cells [.slice A0 l.length cA0, .slice A1 nA1 cA1] fp, .blk rn #[.slice A0 l.length cA0, .slice A1 nA1 cA1] 30, .blk rc (iA ms) 2]) (fun kv _ => l.length - (intOf kv).toNat)
          case atStart => exact ⟨0, rfl, by omega, X0.out⟩
          case round =>
            obtain ⟨j, rfl, hj, X⟩ := hrel
            clear X0
            by_cases hjl : j < l.length
            · have t0 : wr.cell? ⟨rc, j, none⟩ = some (.int .i64 1) := ((X.sep.at_ 2 rfl).cell j).trans ((iA_at (by have := HML.out; omega)).trans (by rw [HAL.out j hjl]))
              have j0 : (0 : Int) ≤ (j : Int) := by omega
              have j1 : (j : Int) < (l.length : Int) := by omega
              have X1 := Lib.hid X
              clear X
              go_wp2
              go_roundw
              case rel => exact ⟨j + 1, by go_num, by omega, X1.out⟩
              case measure => simp [intOf]; omega
            · have f2 : wr.cell? ⟨rn, 0, none⟩ = some (.slice A0 l.length cA0) := (X.sep.at_ 1 rfl).cell 0
              have f3 : wr.cell? ⟨rn, 1, none⟩ = some (.slice A1 nA1 cA1) := (X.sep.at_ 1 rfl).cell 1
              go_wp2_with fail
              refine (iNetOk_any _ _ (⟨l, []⟩ : NetM) _ _ (X.sep.own_ 0 rfl).rd (Nat.le_refl _) hsz).mono ?_
              rintro e w6 ⟨rfl, b⟩
              rw [HOK.out]
              replace X := X.keep b
              clear b f2 f3
              have f4 : w6.cell? ⟨rn, 0, none⟩ = some (.slice A0 l.length cA0) := (X.sep.at_ 1 rfl).cell 0
              have f5 : w6.cell? ⟨rn, 1, none⟩ = some (.slice A1 nA1 cA1) := (X.sep.at_ 1 rfl).cell 1
              go_wp2_with fail
              refine (iLetters_any _ _ (⟨l, []⟩ : NetM) 6 _ (X.sep.own_ 0 rfl).rd hsz).mono ?_
              rintro e w7 ⟨Al, nl, cl, rfl, o, b⟩
              rw [letters_mk HOK.out, ixTo_six HA.out] at o
              obtain ⟨fp_tl, X'⟩ := X.has b o
              clear X; have X := X'; clear X' b o f4 f5
              have hz := (rdIx (X.sep.own_ 0 rfl).rd).1.1
              obtain rfl : nl = 0 := hz.symm
              have C := Lib.hid (B1.out.trans (grown_below X.grown B1.out.size (fun k hk => by injection hk with hk; omega)))
              clear X
              go_wp2
              go_ret
              exact ⟨rfl, C.out⟩
    · have hk0 : ((k : Int) + 1) > 0 := by omega
      have f0 : wr.cell? ⟨rn, 0, none⟩ = some (.slice A0 nA0 cA0) := (X.sep.at_ 1 rfl).cell 0
      have f1 : wr.cell? ⟨rn, 1, none⟩ = some (.slice A1 nA1 cA1) := (X.sep.at_ 1 rfl).cell 1
      go_wp2_with fail
      refine wp_region_L (fun v => v.cell? ⟨rn, 0, none⟩ = some (.slice A0 nA0 cA0) ∧ v.cell? ⟨rn, 1, none⟩ = some (.slice A1 nA1 cA1)) 7 (by kernel_rfl) ?_
      clear f0 f1
      replace X := X.drew
      generalize wr.drew = w5 at *
      have HF : w5.cell? ⟨rn, 0, none⟩ = some (.slice A0 nA0 cA0) ∧ w5.cell? ⟨rn, 1, none⟩ = some (.slice A1 nA1 cA1) := ⟨(X.sep.at_ 1 rfl).cell 0, (X.sep.at_ 1 rfl).cell 1⟩
      refine wpAnyL_take (i := 0) (v := ?_) rfl rfl (by kernel_rfl) (by kernel_rfl) (by kernel_rfl) (by kernel_rfl) (by kernel_rfl) (fun _ _ _ h => h) HF (Or.inl ⟨by rfl, ?_⟩) ?_
      rotate_left 1
      · (rintro v ⟨a0, a1⟩; go_simp; try with_reducible rfl)
      try simp only [Act.put]
      refine wpAnyL_pure (i := 1) (v := ?_) rfl rfl (by kernel_rfl) (by kernel_rfl) (by kernel_rfl) (fun _ _ _ h => h) HF (Or.inl ⟨by rfl, ?_⟩) ?_
      rotate_left 1
      · (intro v _; go_simp; try with_reducible rfl)
      try simp only [Act.put]
      refine wpAnyL_step (i := 2) (by kernel_rfl) rfl rfl ?_
      intro K hK
      go_simp
      refine (letter_any _ _ _ X.cur).mono ?_
      rintro e w6 ⟨x0, x1, xs, Am, nm, cm, hmo, rfl, cu, gr, o⟩
      obtain ⟨fp_tm, X'⟩ := X.drawHas cu gr o
      clear X; have X := X'; clear X' cu gr o
      clear HF
      have HF : w6.cell? ⟨rn, 0, none⟩ = some (.slice A0 nA0 cA0) ∧ w6.cell? ⟨rn, 1, none⟩ = some (.slice A1 nA1 cA1) := ⟨(X.sep.at_ 2 rfl).cell 0, (X.sep.at_ 2 rfl).cell 1⟩
      refine hK _ _ (fun _ => HF) ?_
      clear hK K
      try simp only [Act.put]
      have hln : xs.length = nm := (msg_open (d := ⟨x0, x1, xs⟩) (X.sep.own_ 0 rfl).rd).2.1
      have hnm : nm ≤ 1048577 := by have := msgOk_row hmo; simp only at this; omega
      clear hln
      have E := sent_more HA.out (by omega) hmo
      refine wpAnyL_step (i := 3) (by kernel_rfl) rfl rfl ?_
      intro K hK
      go_simp
      refine (iSent_any _ _ (⟨l, []⟩ : NetM) x0 x1 Am nm cm xs _ (X.sep.own_ 1 rfl).rd hsz (msg_open (d := ⟨x0, x1, xs⟩) (X.sep.own_ 0 rfl).rd).2 hnm).mono ?_
      rintro e w7 ⟨E0, nE0, cE0, E1, nE1, cE1, rfl, o, b⟩
      rw [show (sentM (⟨l, []⟩ : NetM) ⟨x0, x1, xs⟩).1 = ⟨l ++ [⟨x0, x1, xs⟩], []⟩ by rw [E]] at o
      clear E
      obtain ⟨fp_tx, X'⟩ := X.has b o
      clear X; have X := X'; clear X' b o
      clear HF
      have HF : w7.cell? ⟨rn, 0, none⟩ = some (.slice A0 nA0 cA0) ∧ w7.cell? ⟨rn, 1, none⟩ = some (.slice A1 nA1 cA1) := ⟨(X.sep.at_ 3 rfl).cell 0, (X.sep.at_ 3 rfl).cell 1⟩
      refine hK _ _ (fun _ => HF) ?_
      clear hK K
      try simp only [Act.put]
      refine wpAnyL_pure (i := 4) (v := ?_) rfl rfl (by kernel_rfl) (by kernel_rfl) (by kernel_rfl) (fun _ _ _ h => h) HF (Or.inl ⟨by rfl, ?_⟩) ?_
      rotate_left 1
      · (intro v _; go_simp; try with_reducible rfl)
      try simp only [Act.put]
      refine wpAnyL_pure (i := 5) (v := ?_) rfl rfl (by kernel_rfl) (by kernel_rfl) (by kernel_rfl) (fun _ _ _ h => h) HF (Or.inl ⟨by rfl, ?_⟩) ?_
      rotate_left 1
      · (intro v _; go_simp; try with_reducible rfl)
      try simp only [Act.put]
      refine wpAnyL_pure (i := 6) (v := ?_) rfl rfl (by kernel_rfl) (by kernel_rfl) (by kernel_rfl) (fun _ _ _ h => h) HF (Or.inl ⟨by rfl, ?_⟩) ?_
      rotate_left 1
      · (intro v _; go_simp; try with_reducible rfl)
      try simp only [Act.put]
      have f2 : w7.cell? ⟨rn, 0, none⟩ = some (.slice A0 nA0 cA0) := (X.sep.at_ 3 rfl).cell 0
      have f3 := (X.sep.at_ 3 rfl).free 0
      have f4 : w7.cell? ⟨rn, 1, none⟩ = some (.slice A1 nA1 cA1) := (X.sep.at_ 3 rfl).cell 1
      have f5 := (X.sep.at_ 3 rfl).free 1
      refine wpAnyL_step (i := 7) (by kernel_rfl) rfl rfl ?_
      intro K hK
      go_simp
      refine hK _ _ (fun h => nomatch (show true = false from h)) ?_
      clear hK K
      try simp only [Act.put]
      refine wpAnyL_done (by kernel_rfl) ?_ _
      replace X := X.put 3 rfl 0 (.slice E0 nE0 cE0)
      replace X := X.put 3 rfl 1 (.slice E1 nE1 cE1)
      replace X : DrL w1 _ _ _ [_, _, _, .blk (rn) #[.slice E0 nE0 cE0, .slice E1 nE1 cE1] 30] := X
      replace X := X.with_ (X.sep.pick 3 rfl)
      replace X := X.with_ (X.sep.pick 1 rfl)
      replace X := X.with_ (X.sep.sub (.cons_cons _ (.cons_cons _ (List.nil_sublist _))))
      have HA2 := Lib.hid (all_snoc HA.out hmo)
      have X1 := Lib.hid X
      clear X HF f2 f3 f4 f5
      go_wp2
      go_roundw
      case rel => exact ⟨k, l ++ [⟨x0, x1, xs⟩], _, _, _, _, _, _, _, by go_num, by simp; omega, HA2.out, X1.out⟩
      case measure => simp [intOf]

end Go.Proofs.Ytdcdcccdihhhcaa
