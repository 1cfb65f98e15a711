/-
  The law FnWho answers true at every slice of bytes, and writes nothing that was there (by program, wip/gen/genentx.py).
-/
import Derived.Test.YtnlbaejnpbkghaaEntX
import Derived.Test.YtnlbaejnpbkghaaEntI6
import Derived.RegionTactic
import Derived.BigQuiet
import Derived.Deep.DeepCutAuto
namespace Go.Proofs.Ytnlbaejnpbkghaa
set_option maxRecDepth 100000
open Go.RowKit

set_option maxHeartbeats 12800000 in
theorem lawWho (A : Option Addr) (n c0 : Nat) (w : World) (h : BRow w w.heap.size A n) (hm : n ≤ maxLen) :
    Calls Try.prog 4 #[.slice A n c0] w fun e w' => e = .returned (.bool true) ∧ Below w.heap.size w w' := by
  unfold maxLen at hm
  by_cases hn : 4096 < n
  · clear h
    go_enter Try.func4, Try.ntmps4
    go_wp2_with fail
    refine (lbig_any A n c0 _).mono ?_
    rintro e w' ⟨rfl, rfl⟩
    rw [decide_eq_true hn]
    go_wp2
    go_ret
    exact ⟨rfl, Below.refl _ _⟩
  go_enter Try.func4, Try.ntmps4
  go_wp2_with fail
  refine (lbig_any A n c0 _).mono ?_
  rintro e w' ⟨rfl, rfl⟩
  rw [decide_eq_false hn]
  go_wp2_with fail
  refine (roll_any A n c0 _ h (by omega) _).mono ?_
  rintro e w1 ⟨rfl, cu, b1⟩
  have X := DrL.start cu
  have B1 := Lib.hid b1
  clear b1 cu h
  replace X := X.boxAt (w1.heap.size) rfl #[] 30
  go_wp2_with fail
  generalize w1.alloc (.cells #[] 30) = w2 at *
  refine (lbelow_any _ _ _ X.cur 12 (by decide)).mono ?_
  rintro e w3 ⟨z, hz, rfl, cu, gr⟩
  replace X := X.draw cu gr
  clear cu gr
  obtain ⟨m, rfl⟩ : ∃ m : Nat, z = (m : Int) := ⟨z.toNat, by omega⟩
  have hm : m ≤ 11 := by omega
  clear hz
  go_wp2_with fail
  refine (w9list_any _ _ m (by omega) _ _ _ X.cur).mono ?_
  rintro e w4 ⟨l, A, n, c, hl, hrun, rfl, cu, gr, o⟩
  obtain ⟨fp_l, X'⟩ := X.drawHas cu gr o
  clear X; have X := X'; clear X' cu gr o
  replace X := X.with_ (X.sep.sub (.cons_cons _ (List.nil_sublist _)))
  obtain ⟨_, _, _, e, hln, _, _, _⟩ := ((X.sep.own_ 0 rfl).rd).ents
  injection e with e1 e2 e3
  subst e1 e2 e3
  obtain rfl : n = m := by omega
  have HL := Lib.hid hl
  have HR := Lib.hid hrun
  have HOK := Lib.hid (hrun.ok (by omega))
  have HZ := Lib.hid (cnt_zero hrun)
  clear hl hln hrun
  go_wp2_with fail
  refine (iEntries_any A n c _ l _ ((X.sep.own_ 0 rfl).rd) (Nat.le_refl _) (by unfold entSz; have := HL.out; omega)).mono ?_
  rintro e w5 ⟨rfl, b1⟩
  rw [HOK.out]
  replace X := X.keep b1
  clear b1
  have X0 := Lib.hid X
  clear X
  go_wp2_with fail
  go_loopw [5, 6] (fun mv kv wr => ∃ (nd : Nat) (fp : List Nat), kv = .int .i64 (nd : Int) ∧ nd ≤ 6 ∧ mv = .int .i64 ((cntB l nd : Nat) : Int) ∧ DrL w1 wr w.heap.size w.heap.size [.own [entD l] [.slice A n c] fp]) (fun _ kv _ => 6 - (intOf kv).toNat)
  case atStart => exact ⟨0, _, rfl, by omega, by rw [HZ.out]; rfl, X0.out⟩
  case round =>
    obtain ⟨nd, fp, rfl, hnd, rfl, X⟩ := hrel
    clear X0
    by_cases hlt : nd < 6
    · go_wp2_with fail
      refine (iOf_any A n c l (nd : Int) _ ((X.sep.own_ 0 rfl).rd) (by unfold entSz; have := HL.out; omega)).mono ?_
      rintro e w6 ⟨P, pn, pc, rfl, o, b1⟩
      rw [show ofM l (nd : Int) = ofN l (nd : Int) l.length by unfold ofM; rw [if_pos HOK.out]] at o
      obtain ⟨fp_p, X'⟩ := X.has b1 o
      clear X; have X := X'; clear X' b1 o
      obtain ⟨pl, hpl⟩ : ∃ pl, pl = ofN l (nd : Int) l.length := ⟨_, rfl⟩
      rw [← hpl] at X
      have HC := Lib.hid (show cntB l (nd + 1) = cntB l nd + pl.length by rw [hpl]; exact cnt_step l nd)
      have HCL := Lib.hid (cnt_le l (nd + 1))
      have HAT := Lib.hid (fun (i : Nat) (hi : i < pl.length) => show pl[i].cl = (nd : Int) ∧ ∃ (j : Nat) (hj : j < l.length), l[j] = pl[i] ∧ pl[i].idx = (j : Int) + 1 by subst hpl; exact who_at HR.out (nd : Int) hi)
      have HNX := Lib.hid (fun (i : Nat) (hi : i + 1 < pl.length) => show pl[i].idx < pl[i + 1].idx by subst hpl; exact who_next HR.out (nd : Int) hi)
      obtain ⟨_, _, _, e, hpn, _, _, _⟩ := ((X.sep.own_ 0 rfl).rd).ents
      injection e with e1 e2 e3
      subst e1 e2 e3
      have HPN := Lib.hid hpn
      have hpb : pn ≤ 11 := by have h1 := HC.out; have h2 := HCL.out; have h3 := HL.out; omega
      have T0 := Lib.hid (show ∀ h : 0 < pl.length, (0 : Int) < pl[0].idx from fun h => by
        obtain ⟨_, j, _, _, e⟩ := HAT.out 0 h
        rw [e]; omega)
      have HND := Lib.hid hlt
      have hd6 := Lib.hid (show decide ((nd : Int) < 6) = true from decide_eq_true (by omega))
      have X0 := Lib.hid X
      clear X hpl hpn hlt hnd
      go_wp2_with fail
      go_loopw [8, 9] (fun tv iv wr => ∃ (i : Nat) (t : Int), iv = .int .i64 (i : Int) ∧ i ≤ pn ∧ tv = .int .i64 t ∧ (∀ h : i < pl.length, t < pl[i].idx) ∧ DrL w1 wr w.heap.size w.heap.size [.own [entD pl] [.slice P pn pc] fp_p, .own [entD l] [.slice A n c] fp]) (fun _ iv _ => pn - (intOf iv).toNat)
      case atStart => exact ⟨0, 0, rfl, by omega, rfl, T0.out, X0.out⟩
      case round =>
        obtain ⟨i, t, rfl, hi, rfl, ht, X⟩ := hrel
        clear X0 T0
        by_cases hin : i < pn
        · have hipl : i < pl.length := by have := HPN.out; omega
          have ht2 := ht hipl
          obtain ⟨hcl, j, hj, hej, hix⟩ := HAT.out i hipl
          obtain ⟨_, _, _, e, _, _, _, hel⟩ := ((X.sep.own_ 0 rfl).rd).ents
          injection e with e1 e2 e3
          subst e1 e2 e3
          obtain ⟨pb, po, rfl, _, hc⟩ := hel (by omega)
          obtain ⟨pf0, pf1, pf2, pf3, pf4, pf5, pf6, pf7, pf8⟩ := hc i hipl
          clear hel hc
          have hjn : j < n := by have := HL.out; omega
          obtain ⟨_, _, _, e, _, _, _, hel⟩ := ((X.sep.own_ 1 rfl).rd).ents
          injection e with e1 e2 e3
          subst e1 e2 e3
          obtain ⟨lb, lo, rfl, _, hc⟩ := hel (by omega)
          obtain ⟨lf0, lf1, lf2, lf3, lf4, lf5, lf6, lf7, lf8⟩ := hc j hj
          clear hel hc
          rw [hej] at lf0 lf1 lf2 lf3 lf4 lf5 lf6 lf7 lf8
          obtain ⟨x1, hx1⟩ : ∃ q, q = pl[i].tm := ⟨_, rfl⟩
          rw [← hx1] at pf1 lf1
          obtain ⟨x3, hx3⟩ : ∃ q, q = pl[i].sq := ⟨_, rfl⟩
          rw [← hx3] at pf3 lf3
          obtain ⟨x4, hx4⟩ : ∃ q, q = pl[i].kd := ⟨_, rfl⟩
          rw [← hx4] at pf4 lf4
          obtain ⟨x5, hx5⟩ : ∃ q, q = pl[i].oa := ⟨_, rfl⟩
          rw [← hx5] at pf5 lf5
          obtain ⟨x6, hx6⟩ : ∃ q, q = pl[i].ob := ⟨_, rfl⟩
          rw [← hx6] at pf6 lf6
          obtain ⟨x7, hx7⟩ : ∃ q, q = pl[i].oc := ⟨_, rfl⟩
          rw [← hx7] at pf7 lf7
          obtain ⟨x8, hx8⟩ : ∃ q, q = pl[i].od := ⟨_, rfl⟩
          rw [← hx8] at pf8 lf8
          rw [hix] at pf0 lf0 ht2
          rw [hcl] at pf2 lf2
          have HTT := Lib.hid (show ∀ h : i + 1 < pl.length, (j : Int) + 1 < pl[i + 1].idx from fun h => by rw [← hix]; exact HNX.out i h)
          have e1 : decide ((j : Int) + 1 ≤ t) = false := decide_eq_false (by omega)
          have e2 : decide ((n : Int) < (j : Int) + 1) = false := decide_eq_false (by omega)
          have e3 : decide ((j : Int) + 1 > (n : Int)) = false := decide_eq_false (by omega)
          have e6 : ((nd : Int) != (nd : Int)) = false := by simp
          have ep : IntKind.i64.wrap (j : Int) = (j : Int) := by rw [IntKind.wrap_i64]; omega
          have j0 : (0 : Int) ≤ (j : Int) := by omega
          have j1 : (j : Int) < (n : Int) := by omega
          have i0 : (0 : Int) ≤ (i : Int) := by omega
          have i1 : (i : Int) < (pn : Int) := by omega
          have HIN := Lib.hid hin
          have X0 := Lib.hid X
          clear X hej hix hcl ht ht2 hipl hj hin hx1 hx3 hx4 hx5 hx6 hx7 hx8
          go_wp2_with fail
          go_quiet (fail)
          have X := X0.out.keep (below_drewN (Below.refl wr.heap.size wr) nq)
          clear X0 pf0 pf1 pf2 pf3 pf4 pf5 pf6 pf7 pf8 lf0 lf1 lf2 lf3 lf4 lf5 lf6 lf7 lf8
          generalize wr.drewN nq = w9 at *
          have X1 := Lib.hid X
          clear X
          go_wp2
          go_roundw
          case rel =>
            first
              | exact ⟨i + 1, (j : Int) + 1, by go_num, by have := HIN.out; omega, rfl, HTT.out, X1.out⟩
              | (repeat apply Exists.intro
                 refine ⟨⟨i + 1, (j : Int) + 1, ?_, by have := HIN.out; omega, rfl, HTT.out, X1.out⟩, ?_⟩
                 rotate_left 1
                 · first | rfl | (rw [hd6.out]; done) | (rw [hd6.out]; rfl)
                 · go_num)
          case measure => have := HIN.out; simp [intOf]; omega
        · obtain rfl : i = pn := by omega
          have hcn := HC.out
          have hcl := HCL.out
          have hpn := HPN.out
          have hln := HL.out
          have hw : IntKind.i64.wrap (((cntB l nd : Nat) : Int) + (i : Int)) = ((cntB l (nd + 1) : Nat) : Int) := by rw [IntKind.wrap_i64]; omega
          clear hcn hcl hpn hln ht hi hin
          replace X := X.with_ (X.sep.sub (.cons _ (.cons_cons _ (List.nil_sublist _))))
          have X1 := Lib.hid X
          clear X
          have hnd := HND.out
          go_wp2
          go_roundw
          case rel =>
            first
              | exact ⟨nd + 1, _, by go_num, by omega, by first | rfl | rw [hw], X1.out⟩
              | (repeat apply Exists.intro
                 refine ⟨⟨nd + 1, _, ?_, by omega, ?_, X1.out⟩, ?_⟩
                 rotate_left 2
                 · first | rfl | (rw [hd6.out]; done) | (rw [hd6.out]; rfl)
                 · go_num
                 · first | rfl | rw [hw])
          case measure => simp [intOf]; omega
    · obtain rfl : nd = 6 := by omega
      have hc6 := (cnt_six HR.out).trans HL.out
      rw [hc6]
      have hee : (((n : Nat) : Int) == (n : Int)) = true := by simp
      have C := Lib.hid (B1.out.trans (grown_below X.grown B1.out.size (fun k hk => by injection hk with hk; omega)))
      clear X
      go_wp2
      go_ret
      exact ⟨rfl, C.out⟩

end Go.Proofs.Ytnlbaejnpbkghaa
