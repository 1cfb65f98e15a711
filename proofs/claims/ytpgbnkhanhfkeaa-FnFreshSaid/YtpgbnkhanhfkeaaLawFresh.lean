/-
  The law FnFresh, over the contracts of the program's functions: it answers true at every slice of bytes, and writes nothing that was there (by program, wip/gen/genmarkf.py).
-/
import Derived.Test.YtpgbnkhanhfkeaaMarkC
import Derived.Test.YtpgbnkhanhfkeaaMarkV
import Derived.Test.YtpgbnkhanhfkeaaBookU
import Derived.Test.YtpgbnkhanhfkeaaCls
import Derived.RegionTactic
import Derived.BigQuiet
import Derived.Deep.DeepCutAuto
namespace Go.Proofs.Ytpgbnkhanhfkeaa
set_option maxRecDepth 100000
open Go.RowKit

theorem ents_at {w : World} {B : Nat} {l : List EntM} {lb lo n c : Nat} (h : Rd w B [entD l] [.slice (some ⟨lb, lo, none⟩) n c]) {j : Nat} (hj : j < l.length) : w.cell? ⟨lb, lo + j * 9, none⟩ = some (.int .i64 l[j].idx) ∧ w.cell? ⟨lb, lo + j * 9 + 1, none⟩ = some (.int .i64 l[j].tm) ∧ w.cell? ⟨lb, lo + j * 9 + 2, none⟩ = some (.int .i64 l[j].cl) ∧ w.cell? ⟨lb, lo + j * 9 + 3, none⟩ = some (.int .i64 l[j].sq) ∧ w.cell? ⟨lb, lo + j * 9 + 4, none⟩ = some (.int .i64 l[j].kd) ∧ w.cell? ⟨lb, lo + j * 9 + 5, none⟩ = some (.int .i64 l[j].oa) ∧ w.cell? ⟨lb, lo + j * 9 + 6, none⟩ = some (.int .i64 l[j].ob) ∧ w.cell? ⟨lb, lo + j * 9 + 7, none⟩ = some (.int .i64 l[j].oc) ∧ w.cell? ⟨lb, lo + j * 9 + 8, none⟩ = some (.int .i64 l[j].od) := by
  obtain ⟨_, _, _, e, hl, _, _, hel⟩ := h.ents
  injection e with e1 e2 e3
  subst e1 e2 e3
  obtain ⟨b, off, e, _, hc⟩ := hel (by omega)
  injection e with e
  injection e with e4 e5
  subst e4 e5
  exact hc j hj
set_option maxHeartbeats 12800000 in
theorem lawFresh (hF9 : CFreshIn 21) (hM : CMarked 22) (hS : CSameSeen 17)
    (A : Option Addr) (n c0 : Nat) (w : World) (h : BRow w w.heap.size A n) (hm : n ≤ maxLen) :
    Calls Try.prog 4 #[.slice A n c0] w fun e w' => e = .returned (.bool true) ∧ Below w.heap.size w w' := by
  have HF9 := Lib.hid hF9
  have HM := Lib.hid hM
  have HS := Lib.hid hS
  clear hF9 hM hS
  unfold maxLen at hm
  by_cases hn : 4096 < n
  · clear h
    go_enter Try.func4, Try.ntmps4
    go_wp2_with fail
    refine (lbig_any A n c0 _).mono ?_
    rintro e w' ⟨rfl, rfl⟩
    rw [decide_eq_true hn]
    go_wp2
    go_ret
    exact ⟨rfl, Below.refl _ _⟩
  go_enter Try.func4, Try.ntmps4
  go_wp2_with fail
  refine (lbig_any A n c0 _).mono ?_
  rintro e w' ⟨rfl, rfl⟩
  rw [decide_eq_false hn]
  go_wp2_with fail
  refine (roll_any A n c0 _ h (by omega) _).mono ?_
  rintro e w1 ⟨rfl, cu, b1⟩
  have X := DrL.start cu
  have B1 := Lib.hid b1
  clear b1 cu h
  replace X := X.boxAt (w1.heap.size) rfl #[] 41
  go_wp2_with fail
  generalize w1.alloc (.cells #[] 41) = w2 at *
  refine (lbelow_any _ _ _ X.cur 9 (by decide)).mono ?_
  rintro e w3 ⟨z, hz, rfl, cu, gr⟩
  replace X := X.draw cu gr
  clear cu gr
  obtain ⟨m, hm9⟩ : ∃ m : Nat, 1 + z = (m : Int) := ⟨(1 + z).toNat, by omega⟩
  have hm : 1 ≤ m ∧ m ≤ 9 := by omega
  have hwz : IntKind.i64.wrap (1 + z) = (m : Int) := by rw [IntKind.wrap_i64]; omega
  clear hz hm9
  go_wp2_with fail
  refine (w9list_seq _ _ m (by omega) _ _ _ X.cur).mono ?_
  rintro e w4 ⟨l, A, n, c, hl, hrun, rfl, cu, gr, o⟩
  obtain ⟨fp_l, X'⟩ := X.drawHas cu gr o
  clear X; have X := X'; clear X' cu gr o
  replace X := X.with_ (X.sep.sub (.cons_cons _ (List.nil_sublist _)))
  clear hwz
  obtain ⟨_, _, _, e, hln, hnc, hcm, _⟩ := ((X.sep.own_ 0 rfl).rd).ents
  injection e with e1 e2 e3
  subst e1 e2 e3
  obtain rfl : n = m := by omega
  have HL := Lib.hid hl
  have HR := Lib.hid hrun
  have hl20 : l.length ≤ 20 := by omega
  have hsz : entSz l ≤ 1048577 := by unfold entSz; omega
  clear hl hln hrun
  obtain ⟨_, _, _, e, _, _, _, hel⟩ := ((X.sep.own_ 0 rfl).rd).ents
  injection e with e1 e2 e3
  subst e1 e2 e3
  obtain ⟨lb, lo, rfl, _, _⟩ := hel (by omega)
  clear hel
  replace X := X.boxAt (w4.heap.size) rfl #[] 37
  replace X := X.with_ (X.sep.blk0 (k := 3) (f := mrkC))
  go_wp2
  generalize w4.alloc (.cells #[] 37) = w5 at *
  have X0 := Lib.hid X
  clear X
  go_loopw [5, 6] (fun sv iv wr => ∃ (i : Nat) (G : Option Addr) (m gc : Nat) (fp : List Nat), sv = .slice G m gc ∧ iv = .int .i64 (i : Int) ∧ i ≤ n ∧ DrL w1 wr w.heap.size w.heap.size [.own [mrkD (overM [] (l.take i))] [.slice G m gc] fp, .own [entD l] [.slice (some ⟨lb, lo, none⟩) n c] fp_l]) (fun _ iv _ => n - (intOf iv).toNat)
  case atStart => exact ⟨0, _, _, _, _, rfl, rfl, Nat.zero_le _, X0.out⟩
  case round =>
    obtain ⟨i, G, m, gc, fp, rfl, rfl, hi, X⟩ := hrel
    clear X0
    by_cases hlt : i < n
    · have hil : i < l.length := by have := HL.out; omega
      have HIL := Lib.hid hil
      have HSI := Lib.hid (HR.out.seen hl20 (Nat.le_of_lt hil))
      have hs0 : mrkSz (overM [] (l.take i)) ≤ 1048577 := Nat.le_trans (seen_len HSI.out) (by decide)
      have HSN := Lib.hid (HR.out.seen hl20 (show i + 1 ≤ l.length from hil))
      have hs1 : mrkSz (overM [] (l.take (i + 1))) ≤ 1048577 := Nat.le_trans (seen_len HSN.out) (by decide)
      have hfr := HR.out.fresh hl20 hil
      have hmd := HR.out.marked hl20 hil
      have hlate := HR.out.later hl20 hil
      have hsqb := ((entB_iff _).1 (HR.out.1 i hil).1).2.2.2.1
      have hixb := ((entB_iff _).1 (HR.out.1 i hil).1).1
      obtain ⟨hc0, hc1, hc2, hc3, hc4, hc5, hc6, hc7, hc8⟩ := ents_at ((X.sep.own_ 1 rfl).rd) hil
      obtain ⟨x0, hx0⟩ : ∃ p, p = (l[i]'(hil)).idx := ⟨_, rfl⟩
      rw [← hx0] at hc0
      obtain ⟨x1, hx1⟩ : ∃ p, p = (l[i]'(hil)).tm := ⟨_, rfl⟩
      rw [← hx1] at hc1
      obtain ⟨x2, hx2⟩ : ∃ p, p = (l[i]'(hil)).cl := ⟨_, rfl⟩
      rw [← hx2] at hc2
      obtain ⟨x3, hx3⟩ : ∃ p, p = (l[i]'(hil)).sq := ⟨_, rfl⟩
      rw [← hx3] at hc3
      obtain ⟨x4, hx4⟩ : ∃ p, p = (l[i]'(hil)).kd := ⟨_, rfl⟩
      rw [← hx4] at hc4
      obtain ⟨x5, hx5⟩ : ∃ p, p = (l[i]'(hil)).oa := ⟨_, rfl⟩
      rw [← hx5] at hc5
      obtain ⟨x6, hx6⟩ : ∃ p, p = (l[i]'(hil)).ob := ⟨_, rfl⟩
      rw [← hx6] at hc6
      obtain ⟨x7, hx7⟩ : ∃ p, p = (l[i]'(hil)).oc := ⟨_, rfl⟩
      rw [← hx7] at hc7
      obtain ⟨x8, hx8⟩ : ∃ p, p = (l[i]'(hil)).od := ⟨_, rfl⟩
      rw [← hx8] at hc8
      have hmkx : l[i]'(hil) = ⟨x0, x1, x2, x3, x4, x5, x6, x7, x8⟩ := by rw [hx0, hx1, hx2, hx3, hx4, hx5, hx6, hx7, hx8]
      rw [hmkx] at hfr hmd hlate hsqb hixb
      have HFR := Lib.hid hfr
      have HMD := Lib.hid hmd
      have HLA := Lib.hid hlate
      have HXB := Lib.hid hsqb
      have HIB := Lib.hid hixb
      have HMX := Lib.hid (show ∀ h9 : i < l.length, l[i]'h9 = ⟨x0, x1, x2, x3, x4, x5, x6, x7, x8⟩ from fun _ => hmkx)
      clear hfr hmd hlate hsqb hixb hmkx hx0 hx1 hx2 hx3 hx4 hx5 hx6 hx7 hx8
      have j0 : (0 : Int) ≤ (i : Int) := by omega
      have j1 : (i : Int) < (n : Int) := by omega
      have c1 : decide ((i : Int) < (n : Int)) = true := decide_eq_true j1
      have HI := Lib.hid hlt
      clear hil hlt hi
      have XH := Lib.hid X
      have hrd := ((X.sep.own_ 0 rfl).rd)
      go_wp2_with fail
      clear X
      refine wp_region_cls (fun v => v.cell? ⟨lb, lo + i * 9 + 2, none⟩ = some (.int .i64 x2) ∧ v.cell? ⟨lb, lo + i * 9 + 3, none⟩ = some (.int .i64 x3) ∧ Rd v wr.heap.size [mrkD (overM [] (l.take i))] [.slice G m gc] ∧ wr.heap.size ≤ v.heap.size) (by kernel_rfl) (by kernel_rfl) (fun v hv => ⟨(hv.cell (p := ⟨lb, lo + i * 9 + 2, none⟩) (lt_of_cell hc2)).trans hc2, (hv.cell (p := ⟨lb, lo + i * 9 + 3, none⟩) (lt_of_cell hc3)).trans hc3, hrd.keep hv, hv.size⟩) ?_
      intro CL HF HC
      repeat
        (first
           | go_big_quiet_skip
           | (go_big_quiet_want
              go_big_quiet_op
              first
                | go_big_quiet_on
                | (apply Exists.intro
                   refine ⟨fun v hv => ?_, ?_⟩
                   · obtain ⟨a0, a1, a2, a3⟩ := HF v hv
                     first
                       | (go_at_call 21; exact Calls.cls HC hv (HF9.out G m gc (overM [] (l.take i)) x2 x3 v (a2.up a3) hs0) (congrArg Value.bool HFR.out))
                       | exact rfl
                       | (go_simp; exact rfl)
                       | (go_simp; exact ⟨rfl, hv⟩)
                   go_big_quiet_on)))
      refine wpQuiet_nil ?_
      intro w6 b9
      have X := XH.out.keep b9
      clear XH b9 hrd
      clear hc0 hc1 hc2 hc3 hc4 hc5 hc6 hc7 hc8
      obtain ⟨hc0, hc1, hc2, hc3, hc4, hc5, hc6, hc7, hc8⟩ := ents_at ((X.sep.own_ 1 rfl).rd) HIL.out
      rw [HMX.out HIL.out] at hc0 hc1 hc2 hc3 hc4 hc5 hc6 hc7 hc8
      go_wp2_with fail
      clear hc0 hc1 hc2 hc3 hc4 hc5 hc6 hc7 hc8
      refine (HM.out G m gc (overM [] (l.take i)) x0 x1 x2 x3 x4 x5 x6 x7 x8 _ ((X.sep.own_ 0 rfl).rd) hs0).mono ?_
      rintro e w7 ⟨Ax, nx, cx, rfl, o, b1⟩
      rw [HMD.out] at o ⊢
      obtain ⟨fp_x, X'⟩ := X.has b1 o
      clear X; have X := X'; clear X' b1 o
      replace X := X.with_ (X.sep.sub (.cons_cons _ (.cons _ (.cons_cons _ (List.nil_sublist _)))))
      have X1 := Lib.hid X
      clear X
      go_wp2_with fail
      go_loopw [9] (fun kv wr => ∃ (k : Nat), kv = .int .i64 (k : Int) ∧ k ≤ i + 1 ∧ DrL w1 wr w.heap.size w.heap.size [.own [mrkD (overM [] (l.take (i + 1)))] [.slice Ax nx cx] fp_x, .own [entD l] [.slice (some ⟨lb, lo, none⟩) n c] fp_l]) (fun kv _ => i + 1 - (intOf kv).toNat)
      case atStart => exact ⟨0, rfl, Nat.zero_le _, X1.out⟩
      case round =>
        obtain ⟨k, rfl, hk, X⟩ := hrel
        clear X1
        by_cases hki : k ≤ i
        · have hkl : k < l.length := by have := HIL.out; omega
          have hst := HR.out.stale HIL.out hki
          obtain ⟨hd0, hd1, hd2, hd3, hd4, hd5, hd6, hd7, hd8⟩ := ents_at ((X.sep.own_ 1 rfl).rd) hkl
          obtain ⟨y0, hy0⟩ : ∃ p, p = (l[k]'(hkl)).idx := ⟨_, rfl⟩
          rw [← hy0] at hd0
          obtain ⟨y1, hy1⟩ : ∃ p, p = (l[k]'(hkl)).tm := ⟨_, rfl⟩
          rw [← hy1] at hd1
          obtain ⟨y2, hy2⟩ : ∃ p, p = (l[k]'(hkl)).cl := ⟨_, rfl⟩
          rw [← hy2] at hd2
          obtain ⟨y3, hy3⟩ : ∃ p, p = (l[k]'(hkl)).sq := ⟨_, rfl⟩
          rw [← hy3] at hd3
          obtain ⟨y4, hy4⟩ : ∃ p, p = (l[k]'(hkl)).kd := ⟨_, rfl⟩
          rw [← hy4] at hd4
          obtain ⟨y5, hy5⟩ : ∃ p, p = (l[k]'(hkl)).oa := ⟨_, rfl⟩
          rw [← hy5] at hd5
          obtain ⟨y6, hy6⟩ : ∃ p, p = (l[k]'(hkl)).ob := ⟨_, rfl⟩
          rw [← hy6] at hd6
          obtain ⟨y7, hy7⟩ : ∃ p, p = (l[k]'(hkl)).oc := ⟨_, rfl⟩
          rw [← hy7] at hd7
          obtain ⟨y8, hy8⟩ : ∃ p, p = (l[k]'(hkl)).od := ⟨_, rfl⟩
          rw [← hy8] at hd8
          have hmky : l[k]'(hkl) = ⟨y0, y1, y2, y3, y4, y5, y6, y7, y8⟩ := by rw [hy0, hy1, hy2, hy3, hy4, hy5, hy6, hy7, hy8]
          rw [hmky] at hst
          have HST := Lib.hid hst
          have HMY := Lib.hid (show ∀ h9 : k < l.length, l[k]'h9 = ⟨y0, y1, y2, y3, y4, y5, y6, y7, y8⟩ from fun _ => hmky)
          have HKL := Lib.hid hkl
          clear hst hmky hkl hy0 hy1 hy2 hy3 hy4 hy5 hy6 hy7 hy8
          have k0 : (0 : Int) ≤ (k : Int) := by omega
          have k1 : (k : Int) < (n : Int) := by have := HI.out; omega
          have c2 : decide ((k : Int) ≤ (i : Int)) = true := decide_eq_true (by omega)
          have HKI := Lib.hid hki
          clear hki hk
          obtain ⟨hc0, hc1, hc2, hc3, hc4, hc5, hc6, hc7, hc8⟩ := ents_at ((X.sep.own_ 1 rfl).rd) HIL.out
          rw [HMX.out HIL.out] at hc0 hc1 hc2 hc3 hc4 hc5 hc6 hc7 hc8
          have ew : IntKind.i64.wrap (x0 + 1) = x0 + 1 := by have := HIB.out; rw [IntKind.wrap_i64]; omega
          go_wp2_with fail
          refine wp_region_L (fun v => v.cell? ⟨lb, lo + i * 9, none⟩ = some (.int .i64 x0) ∧ v.cell? ⟨lb, lo + k * 9 + 1, none⟩ = some (.int .i64 y1) ∧ v.cell? ⟨lb, lo + k * 9 + 2, none⟩ = some (.int .i64 y2) ∧ v.cell? ⟨lb, lo + k * 9 + 3, none⟩ = some (.int .i64 y3) ∧ v.cell? ⟨lb, lo + k * 9 + 4, none⟩ = some (.int .i64 y4) ∧ v.cell? ⟨lb, lo + k * 9 + 5, none⟩ = some (.int .i64 y5) ∧ v.cell? ⟨lb, lo + k * 9 + 6, none⟩ = some (.int .i64 y6) ∧ v.cell? ⟨lb, lo + k * 9 + 7, none⟩ = some (.int .i64 y7) ∧ v.cell? ⟨lb, lo + k * 9 + 8, none⟩ = some (.int .i64 y8)) 33 (by kernel_rfl) ?_
          replace X := X.drew
          have HF : wr.drew.cell? ⟨lb, lo + i * 9, none⟩ = some (.int .i64 x0) ∧ wr.drew.cell? ⟨lb, lo + k * 9 + 1, none⟩ = some (.int .i64 y1) ∧ wr.drew.cell? ⟨lb, lo + k * 9 + 2, none⟩ = some (.int .i64 y2) ∧ wr.drew.cell? ⟨lb, lo + k * 9 + 3, none⟩ = some (.int .i64 y3) ∧ wr.drew.cell? ⟨lb, lo + k * 9 + 4, none⟩ = some (.int .i64 y4) ∧ wr.drew.cell? ⟨lb, lo + k * 9 + 5, none⟩ = some (.int .i64 y5) ∧ wr.drew.cell? ⟨lb, lo + k * 9 + 6, none⟩ = some (.int .i64 y6) ∧ wr.drew.cell? ⟨lb, lo + k * 9 + 7, none⟩ = some (.int .i64 y7) ∧ wr.drew.cell? ⟨lb, lo + k * 9 + 8, none⟩ = some (.int .i64 y8) := ⟨hc0, hd1, hd2, hd3, hd4, hd5, hd6, hd7, hd8⟩
          generalize wr.drew = w8 at *
          refine wpAnyL_take (i := 0) (v := ?_) rfl rfl (by kernel_rfl) (by kernel_rfl) (by kernel_rfl) (by kernel_rfl) (by kernel_rfl) (fun _ _ _ h => h) HF (Or.inl ⟨by rfl, ?_⟩) ?_
          rotate_left 1
          · (rintro v ⟨a0, a1, a2, a3, a4, a5, a6, a7, a8⟩; go_simp; try with_reducible rfl)
          try simp only [Act.put]
          refine wpAnyL_take (i := 1) (v := ?_) rfl rfl (by kernel_rfl) (by kernel_rfl) (by kernel_rfl) (by kernel_rfl) (by kernel_rfl) (fun _ _ _ h => h) HF (Or.inl ⟨by rfl, ?_⟩) ?_
          rotate_left 1
          · (rintro v ⟨a0, a1, a2, a3, a4, a5, a6, a7, a8⟩; go_simp; try with_reducible rfl)
          try simp only [Act.put]
          refine wpAnyL_take (i := 2) (v := ?_) rfl rfl (by kernel_rfl) (by kernel_rfl) (by kernel_rfl) (by kernel_rfl) (by kernel_rfl) (fun _ _ _ h => h) HF (Or.inl ⟨by rfl, ?_⟩) ?_
          rotate_left 1
          · (rintro v ⟨a0, a1, a2, a3, a4, a5, a6, a7, a8⟩; go_simp; try with_reducible rfl)
          try simp only [Act.put]
          refine wpAnyL_take (i := 3) (v := ?_) rfl rfl (by kernel_rfl) (by kernel_rfl) (by kernel_rfl) (by kernel_rfl) (by kernel_rfl) (fun _ _ _ h => h) HF (Or.inl ⟨by rfl, ?_⟩) ?_
          rotate_left 1
          · (rintro v ⟨a0, a1, a2, a3, a4, a5, a6, a7, a8⟩; go_simp; try with_reducible rfl)
          try simp only [Act.put]
          refine wpAnyL_take (i := 4) (v := ?_) rfl rfl (by kernel_rfl) (by kernel_rfl) (by kernel_rfl) (by kernel_rfl) (by kernel_rfl) (fun _ _ _ h => h) HF (Or.inl ⟨by rfl, ?_⟩) ?_
          rotate_left 1
          · (rintro v ⟨a0, a1, a2, a3, a4, a5, a6, a7, a8⟩; go_simp; try with_reducible rfl)
          try simp only [Act.put]
          refine wpAnyL_take (i := 5) (v := ?_) rfl rfl (by kernel_rfl) (by kernel_rfl) (by kernel_rfl) (by kernel_rfl) (by kernel_rfl) (fun _ _ _ h => h) HF (Or.inl ⟨by rfl, ?_⟩) ?_
          rotate_left 1
          · (rintro v ⟨a0, a1, a2, a3, a4, a5, a6, a7, a8⟩; go_simp; try with_reducible rfl)
          try simp only [Act.put]
          refine wpAnyL_take (i := 6) (v := ?_) rfl rfl (by kernel_rfl) (by kernel_rfl) (by kernel_rfl) (by kernel_rfl) (by kernel_rfl) (fun _ _ _ h => h) HF (Or.inl ⟨by rfl, ?_⟩) ?_
          rotate_left 1
          · (rintro v ⟨a0, a1, a2, a3, a4, a5, a6, a7, a8⟩; go_simp; try with_reducible rfl)
          try simp only [Act.put]
          refine wpAnyL_take (i := 7) (v := ?_) rfl rfl (by kernel_rfl) (by kernel_rfl) (by kernel_rfl) (by kernel_rfl) (by kernel_rfl) (fun _ _ _ h => h) HF (Or.inl ⟨by rfl, ?_⟩) ?_
          rotate_left 1
          · (rintro v ⟨a0, a1, a2, a3, a4, a5, a6, a7, a8⟩; go_simp; try with_reducible rfl)
          try simp only [Act.put]
          refine wpAnyL_take (i := 8) (v := ?_) rfl rfl (by kernel_rfl) (by kernel_rfl) (by kernel_rfl) (by kernel_rfl) (by kernel_rfl) (fun _ _ _ h => h) HF (Or.inl ⟨by rfl, ?_⟩) ?_
          rotate_left 1
          · (rintro v ⟨a0, a1, a2, a3, a4, a5, a6, a7, a8⟩; go_simp; try with_reducible rfl)
          try simp only [Act.put]
          refine wpAnyL_take (i := 9) (v := ?_) rfl rfl (by kernel_rfl) (by kernel_rfl) (by kernel_rfl) (by kernel_rfl) (by kernel_rfl) (fun _ _ _ h => h) HF (Or.inl ⟨by rfl, ?_⟩) ?_
          rotate_left 1
          · (rintro v ⟨a0, a1, a2, a3, a4, a5, a6, a7, a8⟩; go_simp; try with_reducible rfl)
          try simp only [Act.put]
          refine wpAnyL_take (i := 10) (v := ?_) rfl rfl (by kernel_rfl) (by kernel_rfl) (by kernel_rfl) (by kernel_rfl) (by kernel_rfl) (fun _ _ _ h => h) HF (Or.inl ⟨by rfl, ?_⟩) ?_
          rotate_left 1
          · (rintro v ⟨a0, a1, a2, a3, a4, a5, a6, a7, a8⟩; go_simp; try with_reducible rfl)
          try simp only [Act.put]
          refine wpAnyL_take (i := 11) (v := ?_) rfl rfl (by kernel_rfl) (by kernel_rfl) (by kernel_rfl) (by kernel_rfl) (by kernel_rfl) (fun _ _ _ h => h) HF (Or.inl ⟨by rfl, ?_⟩) ?_
          rotate_left 1
          · (rintro v ⟨a0, a1, a2, a3, a4, a5, a6, a7, a8⟩; go_simp; try with_reducible rfl)
          try simp only [Act.put]
          refine wpAnyL_take (i := 12) (v := ?_) rfl rfl (by kernel_rfl) (by kernel_rfl) (by kernel_rfl) (by kernel_rfl) (by kernel_rfl) (fun _ _ _ h => h) HF (Or.inl ⟨by rfl, ?_⟩) ?_
          rotate_left 1
          · (rintro v ⟨a0, a1, a2, a3, a4, a5, a6, a7, a8⟩; go_simp; try with_reducible rfl)
          try simp only [Act.put]
          refine wpAnyL_take (i := 13) (v := ?_) rfl rfl (by kernel_rfl) (by kernel_rfl) (by kernel_rfl) (by kernel_rfl) (by kernel_rfl) (fun _ _ _ h => h) HF (Or.inl ⟨by rfl, ?_⟩) ?_
          rotate_left 1
          · (rintro v ⟨a0, a1, a2, a3, a4, a5, a6, a7, a8⟩; go_simp; try with_reducible rfl)
          try simp only [Act.put]
          refine wpAnyL_take (i := 14) (v := ?_) rfl rfl (by kernel_rfl) (by kernel_rfl) (by kernel_rfl) (by kernel_rfl) (by kernel_rfl) (fun _ _ _ h => h) HF (Or.inl ⟨by rfl, ?_⟩) ?_
          rotate_left 1
          · (rintro v ⟨a0, a1, a2, a3, a4, a5, a6, a7, a8⟩; go_simp; try with_reducible rfl)
          try simp only [Act.put]
          refine wpAnyL_take (i := 15) (v := ?_) rfl rfl (by kernel_rfl) (by kernel_rfl) (by kernel_rfl) (by kernel_rfl) (by kernel_rfl) (fun _ _ _ h => h) HF (Or.inl ⟨by rfl, ?_⟩) ?_
          rotate_left 1
          · (rintro v ⟨a0, a1, a2, a3, a4, a5, a6, a7, a8⟩; go_simp; try with_reducible rfl)
          try simp only [Act.put]
          refine wpAnyL_take (i := 16) (v := ?_) rfl rfl (by kernel_rfl) (by kernel_rfl) (by kernel_rfl) (by kernel_rfl) (by kernel_rfl) (fun _ _ _ h => h) HF (Or.inl ⟨by rfl, ?_⟩) ?_
          rotate_left 1
          · (rintro v ⟨a0, a1, a2, a3, a4, a5, a6, a7, a8⟩; go_simp; try with_reducible rfl)
          try simp only [Act.put]
          refine wpAnyL_take (i := 17) (v := ?_) rfl rfl (by kernel_rfl) (by kernel_rfl) (by kernel_rfl) (by kernel_rfl) (by kernel_rfl) (fun _ _ _ h => h) HF (Or.inl ⟨by rfl, ?_⟩) ?_
          rotate_left 1
          · (rintro v ⟨a0, a1, a2, a3, a4, a5, a6, a7, a8⟩; go_simp; try with_reducible rfl)
          try simp only [Act.put]
          refine wpAnyL_take (i := 18) (v := ?_) rfl rfl (by kernel_rfl) (by kernel_rfl) (by kernel_rfl) (by kernel_rfl) (by kernel_rfl) (fun _ _ _ h => h) HF (Or.inl ⟨by rfl, ?_⟩) ?_
          rotate_left 1
          · (rintro v ⟨a0, a1, a2, a3, a4, a5, a6, a7, a8⟩; go_simp; try with_reducible rfl)
          try simp only [Act.put]
          refine wpAnyL_take (i := 19) (v := ?_) rfl rfl (by kernel_rfl) (by kernel_rfl) (by kernel_rfl) (by kernel_rfl) (by kernel_rfl) (fun _ _ _ h => h) HF (Or.inl ⟨by rfl, ?_⟩) ?_
          rotate_left 1
          · (rintro v ⟨a0, a1, a2, a3, a4, a5, a6, a7, a8⟩; go_simp; try with_reducible rfl)
          try simp only [Act.put]
          refine wpAnyL_take (i := 20) (v := ?_) rfl rfl (by kernel_rfl) (by kernel_rfl) (by kernel_rfl) (by kernel_rfl) (by kernel_rfl) (fun _ _ _ h => h) HF (Or.inl ⟨by rfl, ?_⟩) ?_
          rotate_left 1
          · (rintro v ⟨a0, a1, a2, a3, a4, a5, a6, a7, a8⟩; go_simp; try with_reducible rfl)
          try simp only [Act.put]
          refine wpAnyL_take (i := 21) (v := ?_) rfl rfl (by kernel_rfl) (by kernel_rfl) (by kernel_rfl) (by kernel_rfl) (by kernel_rfl) (fun _ _ _ h => h) HF (Or.inl ⟨by rfl, ?_⟩) ?_
          rotate_left 1
          · (rintro v ⟨a0, a1, a2, a3, a4, a5, a6, a7, a8⟩; go_simp; try with_reducible rfl)
          try simp only [Act.put]
          refine wpAnyL_take (i := 22) (v := ?_) rfl rfl (by kernel_rfl) (by kernel_rfl) (by kernel_rfl) (by kernel_rfl) (by kernel_rfl) (fun _ _ _ h => h) HF (Or.inl ⟨by rfl, ?_⟩) ?_
          rotate_left 1
          · (rintro v ⟨a0, a1, a2, a3, a4, a5, a6, a7, a8⟩; go_simp; try with_reducible rfl)
          try simp only [Act.put]
          refine wpAnyL_take (i := 23) (v := ?_) rfl rfl (by kernel_rfl) (by kernel_rfl) (by kernel_rfl) (by kernel_rfl) (by kernel_rfl) (fun _ _ _ h => h) HF (Or.inl ⟨by rfl, ?_⟩) ?_
          rotate_left 1
          · (rintro v ⟨a0, a1, a2, a3, a4, a5, a6, a7, a8⟩; go_simp; try with_reducible rfl)
          try simp only [Act.put]
          refine wpAnyL_take (i := 24) (v := ?_) rfl rfl (by kernel_rfl) (by kernel_rfl) (by kernel_rfl) (by kernel_rfl) (by kernel_rfl) (fun _ _ _ h => h) HF (Or.inl ⟨by rfl, ?_⟩) ?_
          rotate_left 1
          · (rintro v ⟨a0, a1, a2, a3, a4, a5, a6, a7, a8⟩; go_simp; try with_reducible rfl)
          try simp only [Act.put]
          refine wpAnyL_take (i := 25) (v := ?_) rfl rfl (by kernel_rfl) (by kernel_rfl) (by kernel_rfl) (by kernel_rfl) (by kernel_rfl) (fun _ _ _ h => h) HF (Or.inl ⟨by rfl, ?_⟩) ?_
          rotate_left 1
          · (rintro v ⟨a0, a1, a2, a3, a4, a5, a6, a7, a8⟩; go_simp; try with_reducible rfl)
          try simp only [Act.put]
          refine wpAnyL_take (i := 26) (v := ?_) rfl rfl (by kernel_rfl) (by kernel_rfl) (by kernel_rfl) (by kernel_rfl) (by kernel_rfl) (fun _ _ _ h => h) HF (Or.inl ⟨by rfl, ?_⟩) ?_
          rotate_left 1
          · (rintro v ⟨a0, a1, a2, a3, a4, a5, a6, a7, a8⟩; go_simp; try with_reducible rfl)
          try simp only [Act.put]
          refine wpAnyL_pure (i := 27) (v := ?_) rfl rfl (by kernel_rfl) (by kernel_rfl) (by kernel_rfl) (fun _ _ _ h => h) HF (Or.inl ⟨by rfl, ?_⟩) ?_
          rotate_left 1
          · (intro v _; go_simp; try with_reducible rfl)
          try simp only [Act.put]
          clear hc0 hc1 hc2 hc3 hc4 hc5 hc6 hc7 hc8 hd0 hd1 hd2 hd3 hd4 hd5 hd6 hd7 hd8
          have HMS := Lib.hid (marked_stale (e := ⟨x0 + 1, y1, y2, y3, y4, y5, y6, y7, y8⟩) HSN.out HST.out)
          refine wpAnyL_step (i := 28) (by kernel_rfl) rfl rfl ?_
          intro K hK
          go_simp
          refine (HM.out Ax nx cx (overM [] (l.take (i + 1))) (x0 + 1) y1 y2 y3 y4 y5 y6 y7 y8 _ ((X.sep.own_ 0 rfl).rd) hs1).mono ?_
          rintro e w9 ⟨Ay, ny, cy, rfl, o, b1⟩
          rw [HMS.out] at o ⊢
          obtain ⟨fp_y, X'⟩ := X.has b1 o
          clear X; have X := X'; clear X' b1 o
          clear HF
          obtain ⟨hc0, hc1, hc2, hc3, hc4, hc5, hc6, hc7, hc8⟩ := ents_at ((X.sep.own_ 2 rfl).rd) HIL.out
          rw [HMX.out HIL.out] at hc0 hc1 hc2 hc3 hc4 hc5 hc6 hc7 hc8
          obtain ⟨hd0, hd1, hd2, hd3, hd4, hd5, hd6, hd7, hd8⟩ := ents_at ((X.sep.own_ 2 rfl).rd) HKL.out
          rw [HMY.out HKL.out] at hd0 hd1 hd2 hd3 hd4 hd5 hd6 hd7 hd8
          have HF : w9.cell? ⟨lb, lo + i * 9, none⟩ = some (.int .i64 x0) ∧ w9.cell? ⟨lb, lo + k * 9 + 1, none⟩ = some (.int .i64 y1) ∧ w9.cell? ⟨lb, lo + k * 9 + 2, none⟩ = some (.int .i64 y2) ∧ w9.cell? ⟨lb, lo + k * 9 + 3, none⟩ = some (.int .i64 y3) ∧ w9.cell? ⟨lb, lo + k * 9 + 4, none⟩ = some (.int .i64 y4) ∧ w9.cell? ⟨lb, lo + k * 9 + 5, none⟩ = some (.int .i64 y5) ∧ w9.cell? ⟨lb, lo + k * 9 + 6, none⟩ = some (.int .i64 y6) ∧ w9.cell? ⟨lb, lo + k * 9 + 7, none⟩ = some (.int .i64 y7) ∧ w9.cell? ⟨lb, lo + k * 9 + 8, none⟩ = some (.int .i64 y8) := ⟨hc0, hd1, hd2, hd3, hd4, hd5, hd6, hd7, hd8⟩
          refine hK _ _ (fun _ => HF) ?_
          clear hK K
          try simp only
          refine wpAnyL_pure (i := 29) (v := ?_) rfl rfl (by kernel_rfl) (by kernel_rfl) (by kernel_rfl) (fun _ _ _ h => h) HF (Or.inl ⟨by rfl, ?_⟩) ?_
          rotate_left 1
          · (intro v _; go_simp; try with_reducible rfl)
          try simp only [Act.put]
          refine wpAnyL_pure (i := 30) (v := ?_) rfl rfl (by kernel_rfl) (by kernel_rfl) (by kernel_rfl) (fun _ _ _ h => h) HF (Or.inl ⟨by rfl, ?_⟩) ?_
          rotate_left 1
          · (intro v _; go_simp; try with_reducible rfl)
          try simp only [Act.put]
          refine wpAnyL_pure (i := 31) (v := ?_) rfl rfl (by kernel_rfl) (by kernel_rfl) (by kernel_rfl) (fun _ _ _ h => h) HF (Or.inl ⟨by rfl, ?_⟩) ?_
          rotate_left 1
          · (intro v _; go_simp; try with_reducible rfl)
          try simp only [Act.put]
          refine wpAnyL_pure (i := 32) (v := ?_) rfl rfl (by kernel_rfl) (by kernel_rfl) (by kernel_rfl) (fun _ _ _ h => h) HF (Or.inl ⟨by rfl, ?_⟩) ?_
          rotate_left 1
          · (intro v _; go_simp; try with_reducible rfl)
          try simp only [Act.put]
          refine wpAnyL_step (i := 33) (by kernel_rfl) rfl rfl ?_
          intro K hK
          go_simp
          refine hK _ _ (fun h => nomatch (show true = false from h)) ?_
          clear hK K
          try simp only [Act.put]
          refine wpAnyL_done (by kernel_rfl) ?_ _
          clear HF hc0 hc1 hc2 hc3 hc4 hc5 hc6 hc7 hc8
          have hry := ((X.sep.own_ 0 rfl).rd)
          have XH := Lib.hid X
          have hrd := ((X.sep.own_ 1 rfl).rd)
          go_wp2_with fail
          clear X
          refine wp_region_cls (fun v => v.cell? ⟨lb, lo + k * 9 + 2, none⟩ = some (.int .i64 y2) ∧ v.cell? ⟨lb, lo + k * 9 + 3, none⟩ = some (.int .i64 y3) ∧ Rd v w9.heap.size [mrkD (overM [] (l.take (i + 1)))] [.slice Ax nx cx] ∧ w9.heap.size ≤ v.heap.size ∧ Rd v w9.heap.size [mrkD (overM [] (l.take (i + 1)))] [.slice Ay ny cy]) (by kernel_rfl) (by kernel_rfl) (fun v hv => ⟨(hv.cell (p := ⟨lb, lo + k * 9 + 2, none⟩) (lt_of_cell hd2)).trans hd2, (hv.cell (p := ⟨lb, lo + k * 9 + 3, none⟩) (lt_of_cell hd3)).trans hd3, hrd.keep hv, hv.size, hry.keep hv⟩) ?_
          intro CL HF HC
          repeat
            (first
               | go_big_quiet_skip
               | (go_big_quiet_want
                  go_big_quiet_op
                  first
                    | go_big_quiet_on
                    | (apply Exists.intro
                       refine ⟨fun v hv => ?_, ?_⟩
                       · obtain ⟨a0, a1, a2, a3, a4⟩ := HF v hv
                         first
                           | (go_at_call 21; exact Calls.cls HC hv (HF9.out Ax nx cx (overM [] (l.take (i + 1))) y2 y3 v (a2.up a3) hs1) (congrArg Value.bool HST.out))
                           | (go_at_call 17; exact Calls.cls HC hv (HS.out Ay ny cy (overM [] (l.take (i + 1))) Ax nx cx (overM [] (l.take (i + 1))) v (a4.up a3) hs1 (a2.up a3) hs1) (congrArg Value.bool (show sameMs (overM [] (l.take (i + 1))) (overM [] (l.take (i + 1))) = true from (sameMs_iff _ _).2 rfl)))
                           | exact rfl
                           | (go_simp; exact rfl)
                           | (go_simp; exact ⟨rfl, hv⟩)
                       go_big_quiet_on)))
          refine wpQuiet_nil ?_
          intro w10 b9
          have X := XH.out.keep b9
          clear XH b9 hrd
          clear hry hd0 hd1 hd2 hd3 hd4 hd5 hd6 hd7 hd8
          replace X := X.with_ (X.sep.sub (.cons _ (.cons_cons _ (.cons_cons _ (List.nil_sublist _)))))
          have X1 := Lib.hid X
          clear X
          go_wp2
          go_roundw
          case rel => exact ⟨k + 1, by go_num, by have := HKI.out; omega, X1.out⟩
          case measure => have := HKI.out; simp [intOf] <;> omega
        · obtain rfl : k = i + 1 := by omega
          have c2 : decide (((i + 1 : Nat) : Int) ≤ (i : Int)) = false := decide_eq_false (by omega)
          have c3 : ¬ (((i + 1 : Nat) : Int) ≤ (i : Int)) := by omega
          clear hki hk
          obtain ⟨hc0, hc1, hc2, hc3, hc4, hc5, hc6, hc7, hc8⟩ := ents_at ((X.sep.own_ 1 rfl).rd) HIL.out
          rw [HMX.out HIL.out] at hc0 hc1 hc2 hc3 hc4 hc5 hc6 hc7 hc8
          have ew : IntKind.i64.wrap (x3 + 1) = x3 + 1 := by have := HXB.out; rw [IntKind.wrap_i64]; omega
          have XH := Lib.hid X
          have hrd := ((X.sep.own_ 0 rfl).rd)
          go_wp2_with fail
          clear X
          refine wp_region_cls (fun v => v.cell? ⟨lb, lo + i * 9 + 2, none⟩ = some (.int .i64 x2) ∧ v.cell? ⟨lb, lo + i * 9 + 3, none⟩ = some (.int .i64 x3) ∧ Rd v wr.heap.size [mrkD (overM [] (l.take (i + 1)))] [.slice Ax nx cx] ∧ wr.heap.size ≤ v.heap.size) (by kernel_rfl) (by kernel_rfl) (fun v hv => ⟨(hv.cell (p := ⟨lb, lo + i * 9 + 2, none⟩) (lt_of_cell hc2)).trans hc2, (hv.cell (p := ⟨lb, lo + i * 9 + 3, none⟩) (lt_of_cell hc3)).trans hc3, hrd.keep hv, hv.size⟩) ?_
          intro CL HF HC
          repeat
            (first
               | go_big_quiet_skip
               | (go_big_quiet_want
                  go_big_quiet_op
                  first
                    | go_big_quiet_on
                    | (apply Exists.intro
                       refine ⟨fun v hv => ?_, ?_⟩
                       · obtain ⟨a0, a1, a2, a3⟩ := HF v hv
                         first
                           | (go_at_call 21; exact Calls.cls HC hv (HF9.out Ax nx cx (overM [] (l.take (i + 1))) x2 (x3 + 1) v (a2.up a3) hs1) (congrArg Value.bool HLA.out))
                           | exact rfl
                           | (go_simp; exact rfl)
                           | (go_simp; exact ⟨rfl, hv⟩)
                       go_big_quiet_on)))
          refine wpQuiet_nil ?_
          intro w8 b9
          have X := XH.out.keep b9
          clear XH b9 hrd
          clear c2 c3 hc0 hc1 hc2 hc3 hc4 hc5 hc6 hc7 hc8
          have X1 := Lib.hid X
          clear X
          go_wp2
          go_roundw
          case rel => exact ⟨i + 1, Ax, nx, cx, fp_x, rfl, by go_num, by have := HI.out; omega, X1.out⟩
          case measure => have := HI.out; simp [intOf] <;> omega
    · obtain rfl : i = n := by omega
      have C := Lib.hid (B1.out.trans (grown_below X.grown B1.out.size (fun k hk => by injection hk with hk; omega)))
      clear X
      go_wp2
      go_ret
      exact ⟨rfl, C.out⟩

end Go.Proofs.Ytpgbnkhanhfkeaa
