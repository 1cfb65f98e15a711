/-
  The law FnClocks answers true at every slice of bytes, and writes nothing that was there (by program, wip/gen/genclk.py).
-/
import Derived.Test.YthekcaahkokjfaaDrT
import Derived.Test.YthekcaahkokjfaaClkM
import Derived.Test.YthekcaahkokjfaaCls
import Derived.Test.YthekcaahkokjfaaMove
import Derived.RegionTactic
import Derived.BigQuiet
import Derived.Deep.DeepCutAuto
namespace Go.Proofs.Ythekcaahkokjfaa
set_option maxRecDepth 100000
open Go.RowKit

theorem own_irow {w : World} {xs : List Int} {A : Option Addr} {n c : Nat} {fp : List Nat} (h : Ow w (rowCells xs) [.slice A n c] fp) : IRow w w.heap.size A n xs := by
  obtain ⟨_, _, _, e, hi, _⟩ := h.rd.rowS
  injection e with e1 e2 e3
  subst e1 e2 e3
  exact hi

set_option maxHeartbeats 12800000 in
theorem lawClocks (A : Option Addr) (n c0 : Nat) (w : World) (h : BRow w w.heap.size A n) (hm : n ≤ maxLen) :
    Calls Try.prog 3 #[.slice A n c0] w fun e w' => e = .returned (.bool true) ∧ Below w.heap.size w w' := by
  unfold maxLen at hm
  by_cases hn : 4096 < n
  · clear h
    go_enter Try.func3, Try.ntmps3
    go_wp2_with fail
    refine (lbig_any A n c0 _).mono ?_
    rintro e w' ⟨rfl, rfl⟩
    rw [decide_eq_true hn]
    go_wp2
    go_ret
    exact ⟨rfl, Below.refl _ _⟩
  go_enter Try.func3, Try.ntmps3
  go_wp2_with fail
  refine (lbig_any A n c0 _).mono ?_
  rintro e w' ⟨rfl, rfl⟩
  rw [decide_eq_false hn]
  go_wp2_with fail
  refine (roll_any A n c0 _ h (by omega) _).mono ?_
  rintro e w1 ⟨rfl, cu, b1⟩
  have X := DrL.start cu
  have B1 := Lib.hid b1
  clear b1 cu h
  replace X := X.boxAt (w1.heap.size) rfl #[] 2
  replace X := X.with_ (X.sep.blk0 (k := 1) (f := fun x => [Dat.int x]))
  have X0 := Lib.hid X
  clear X
  go_wp2_with fail
  go_loopw [4, 5] (fun lv kv wr => ∃ (k : Nat) (ns : List Int) (A : Option Addr) (n c : Nat) (fp : List Nat), kv = .int .i64 (k : Int) ∧ lv = .slice A n c ∧ n = k ∧ k ≤ 6 ∧ ns.length = n ∧ (∀ x ∈ ns, 0 ≤ x ∧ x < 200) ∧ DrL w1 wr w.heap.size w.heap.size [.own (rowCells ns) [.slice A n c] fp]) (fun _ kv _ => 6 - (intOf kv).toNat)
  case atStart => exact ⟨0, [], _, 0, _, _, rfl, rfl, rfl, by omega, rfl, fun x hx => absurd hx (by simp), X0.out⟩
  case round =>
    obtain ⟨k, ns, A, n, c, fp, rfl, rfl, rfl, hk, hl, hns, X⟩ := hrel
    clear X0
    have HN := Lib.hid hns
    clear hns
    by_cases hlt : n < 6
    · go_wp2_with fail
      generalize w1.alloc (.cells #[] 2) = w2 at *
      refine (lbelow_any _ _ _ X.cur 200 (by decide)).mono ?_
      rintro e w3 ⟨v, hv, rfl, cu, gr⟩
      replace X := X.draw cu gr
      clear cu gr
      replace X := X.boxAt (w3.heap.size) rfl #[.int .i64 v] 2
      have HC : ∀ i, i < 1 → (w3.alloc (.cells #[.int .i64 v] 2)).cell? ⟨w3.heap.size, i, none⟩ = [Value.int .i64 v][i]? := fun i hi => by
        have h1 := (X.sep.at_ 0 rfl).cell i
        have : i = 0 := by omega
        subst this
        exact h1
      replace X := X.with_ ((X.sep.tail).own0 (show Ow _ [Dat.int v] [.int .i64 v] [] from .int .nil))
      replace X := X.with_ X.sep.swap
      go_wp2_with (first
        | (at_builtin
           refine wpList_append_elem (l := ns) (y := v) (f := fun x => [Dat.int x]) (k := 1) rfl (.tmp 28) (.tmp 31) (by rfl) Try.underlying27 info64 (by rfl) (by decide) (fun _ => rfl) (by rfl) (X.sep.own_ 0 rfl) (X.sep.nodup_own 0 rfl) (by rfl) HC (X.sep.own_ 1 rfl) (X.sep.nodup_own 1 rfl) X.sep.apart (by omega) (by omega) ?_
           intro A3 c3 w4 fp3 o3 n3 s3 t3))
      replace X := X.grew t3 o3 n3 s3
      clear o3 n3 s3 t3 HC
      have X1 := Lib.hid X
      have HL := Lib.hid hl
      clear X hl
      go_wp2
      go_roundw
      case rel => exact ⟨n + 1, ns ++ [v], A3, n + 1, c3, fp3, by go_num, rfl, rfl, by omega, by rw [List.length_append, HL.out]; rfl, fun x hx => by
        rcases List.mem_append.1 hx with h | h
        · exact HN.out x h
        · obtain rfl := List.mem_singleton.1 h
          exact hv, X1.out⟩
      case measure => simp [intOf]; omega
    · obtain rfl : n = 6 := by omega
      have H2 := Lib.hid (fun x (hx : x ∈ ns) => show 0 ≤ x ∧ x ≤ 1000 by have := HN.out x hx; omega)
      have HL := Lib.hid hl
      clear hl hk hlt
      go_wp2_with fail
      generalize w1.alloc (.cells #[] 2) = w2 at *
      refine (lbelow_any _ _ _ X.cur 6 (by decide)).mono ?_
      rintro e w3 ⟨z, hz, rfl, cu, gr⟩
      replace X := X.draw cu gr
      clear cu gr
      obtain ⟨i, rfl⟩ : ∃ i : Nat, z = (i : Int) := ⟨z.toNat, by omega⟩
      have hi : i < 6 := by omega
      clear hz
      go_wp2_with fail
      refine (lbelow_any _ _ _ X.cur 50 (by decide)).mono ?_
      rintro e w4 ⟨a, ha, rfl, cu, gr⟩
      replace X := X.draw cu gr
      clear cu gr
      go_wp2_with fail
      refine (lbelow_any _ _ _ X.cur 50 (by decide)).mono ?_
      rintro e w5 ⟨b, hb, rfl, cu, gr⟩
      replace X := X.draw cu gr
      clear cu gr
      go_wp2_with fail
      obtain ⟨vi, hv⟩ : ∃ vi, vi = ns.getD i 0 := ⟨_, rfl⟩
      have hv2 : 0 ≤ vi ∧ vi < 200 := by
        have h1 := HN.out _ (List.getElem_mem (show i < ns.length by have := HL.out; omega))
        have h3 : ns.getD i 0 = ns[i]'(by have := HL.out; omega) := by simp [List.getD, List.getElem?_eq_getElem (show i < ns.length by have := HL.out; omega)]
        rw [hv, h3]
        exact h1
      have HV := Lib.hid hv
      clear hv
      have ha' : 0 ≤ a ∧ a ≤ 1000 := by omega
      have hb' : 0 ≤ b ∧ b ≤ 1000 := by omega
      refine (tick_law A 6 c i ns vi a _ ((X.sep.own_ 0 rfl).rd) HL.out H2.out hi HV.out.symm ha').mono ?_
      rintro e w6 ⟨Ax, nx, cx, rfl, o, b1⟩
      obtain ⟨fp_x, X'⟩ := X.has b1 o
      clear X; have X := X'; clear X' b1 o
      have hx2 := small_set (i := i) H2.out (show 0 ≤ vi + a ∧ vi + a ≤ 1000 by omega)
      have hxl : (ns.set i (vi + a)).length = 6 := by rw [List.length_set]; exact HL.out
      have hxi : (ns.set i (vi + a)).getD i 0 = vi + a := by simp [List.getD, HL.out, hi]
      go_wp2_with fail
      refine (tick_law Ax nx cx i (ns.set i (vi + a)) (vi + a) b _ ((X.sep.own_ 0 rfl).rd) hxl hx2 hi hxi hb').mono ?_
      rintro e w7 ⟨Ay, ny, cy, rfl, o, b1⟩
      rw [List.set_set] at o
      obtain ⟨fp_x2, X'⟩ := X.has b1 o
      clear X; have X := X'; clear X' b1 o
      have hab : IntKind.i64.wrap (a + b) = a + b := by rw [IntKind.wrap_i64]; omega
      clear hx2 hxl hxi
      go_wp2_with fail
      refine (tick_law A 6 c i ns vi (a + b) _ ((X.sep.own_ 2 rfl).rd) HL.out H2.out hi HV.out.symm (by omega)).mono ?_
      rintro e w8 ⟨Az, nz, cz, rfl, o, b1⟩
      rw [show vi + (a + b) = vi + a + b by omega] at o
      obtain ⟨fp_y, X'⟩ := X.has b1 o
      clear X; have X := X'; clear X' b1 o
      clear hab
      obtain ⟨s, hs⟩ : ∃ s, s = ns.set i (vi + a + b) := ⟨_, rfl⟩
      rw [← hs] at X
      have hsl : s.length = 6 := by rw [hs, List.length_set]; exact HL.out
      have hs2 : ∀ x ∈ s, 0 ≤ x ∧ x ≤ 1000 := by rw [hs]; exact small_set H2.out (by omega)
      have hsi : s.getD i 0 = vi + a + b := by rw [hs]; simp [List.getD, HL.out, hi]
      have hsk : ∀ k, k ≠ i → s.getD k 0 = ns.getD k 0 := fun k hk => by rw [hs]; simp [List.getD, Ne.symm hk]
      have hback : s.set i vi = ns := by
        rw [hs, List.set_set]
        have h3 := HV.out
        have h4 : i < ns.length := by have := HL.out; omega
        have h5 : ns.getD i 0 = ns[i] := by simp [List.getD, List.getElem?_eq_getElem h4]
        rw [h3, h5]
        exact List.set_getElem_self h4
      have HSL := Lib.hid hsl
      have HS2 := Lib.hid hs2
      have HSI := Lib.hid hsi
      have HSK := Lib.hid hsk
      have HB := Lib.hid hback
      clear hs hsl hs2 hsi hsk hback
      obtain ⟨_, _, _, e, hil, _⟩ := ((X.sep.own_ 3 rfl).rd).rowS
      injection e with e1 e2 e3
      subst e1 e2 e3
      obtain ⟨lb, lo, rfl, _, hlc⟩ := hil.2 (by omega)
      have l0 := (hlc i hi).trans (by rw [← HV.out])
      have i0 : (0 : Int) ≤ (i : Int) := by omega
      have i1 : (i : Int) < (6 : Int) := by omega
      clear hil hlc
      go_wp2_with fail
      refine (jump_law Az nz cz i s vi _ ((X.sep.own_ 0 rfl).rd) HSL.out HS2.out hi (by omega)).mono ?_
      rintro e w9 ⟨Au, nu, cu9, rfl, o, b1⟩
      rw [HB.out] at o
      clear l0
      obtain ⟨fp_z, X'⟩ := X.has b1 o
      clear X; have X := X'; clear X' b1 o
      obtain rfl : nu = 6 := by
        obtain ⟨_, _, _, e, hil, _⟩ := ((X.sep.own_ 0 rfl).rd).rowS
        injection e with e1 e2 e3
        have h9 := hil.1
        have h8 := HL.out
        omega
      obtain rfl : nz = 6 := by
        obtain ⟨_, _, _, e, hil, _⟩ := ((X.sep.own_ 1 rfl).rd).rowS
        injection e with e1 e2 e3
        have h9 := hil.1
        have h8 := HSL.out
        omega
      obtain rfl : ny = 6 := by
        obtain ⟨_, _, _, e, hil, _⟩ := ((X.sep.own_ 2 rfl).rd).rowS
        injection e with e1 e2 e3
        have h9 := hil.1
        have h8 := HSL.out
        omega
      go_wp2_with fail
      refine (like_yes Ay Az 6 cy cz _ _ s _ (own_irow (X.sep.own_ 2 rfl)) (own_irow (X.sep.own_ 1 rfl)) (by decide)).mono ?_
      rintro e w10 ⟨rfl, dr⟩
      have b1 := dr.below w9.heap.size
      replace X := X.keep b1
      clear b1
      clear dr
      go_wp2_with fail
      refine (like_yes Au (some ⟨lb, lo, none⟩) 6 cu9 c _ _ ns _ (own_irow (X.sep.own_ 0 rfl)) (own_irow (X.sep.own_ 4 rfl)) (by decide)).mono ?_
      rintro e w11 ⟨rfl, dr⟩
      have b1 := dr.below w10.heap.size
      replace X := X.keep b1
      clear b1
      clear dr
      replace X := X.with_ (X.sep.pick 4 rfl)
      replace X := X.with_ (X.sep.pick 2 rfl)
      replace X := X.with_ (X.sep.sub (.cons_cons _ (.cons_cons _ (List.nil_sublist _))))
      obtain ⟨_, _, _, e, hil, _⟩ := ((X.sep.own_ 0 rfl).rd).rowS
      injection e with e1 e2 e3
      subst e1 e2 e3
      obtain ⟨yb, yo, rfl, _, hlc⟩ := hil.2 (by omega)
      have l0 := hlc 0 (by omega)
      rw [Nat.add_zero] at l0
      obtain ⟨y0, hy0⟩ : ∃ y0, y0 = s.getD 0 0 := ⟨_, rfl⟩
      rw [← hy0] at l0
      have M0 := Lib.hid (hy0.trans (minN_zero s).symm)
      clear hil hlc hy0
      have X0 := Lib.hid X
      clear X
      go_wp2_with fail
      go_loopw [16, 17, 18] (fun mv lv kv wr => ∃ (k : Nat), kv = .int .i64 (k : Int) ∧ k ≤ 6 ∧ mv = .int .i64 (maxZ s k) ∧ lv = .int .i64 (minN s k) ∧ DrL w1 wr w.heap.size w.heap.size [.own (rowCells s) [.slice (some ⟨yb, yo, none⟩) 6 cz] fp_y, .own (rowCells ns) [.slice (some ⟨lb, lo, none⟩) 6 c] fp]) (fun _ _ kv _ => 6 - (intOf kv).toNat)
      case atStart => exact ⟨0, rfl, by omega, rfl, by rw [M0.out], X0.out⟩
      case round =>
        obtain ⟨k, rfl, hk, rfl, rfl, X⟩ := hrel
        clear X0 l0
        obtain ⟨_, _, _, e, hil, _⟩ := ((X.sep.own_ 0 rfl).rd).rowS
        injection e with e1 e2 e3
        subst e1 e2 e3
        obtain ⟨yb', yo', e, _, hyc⟩ := hil.2 (by omega)
        injection e with e
        injection e with e4 e5
        subst e4 e5
        obtain ⟨_, _, _, e, hil', _⟩ := ((X.sep.own_ 1 rfl).rd).rowS
        injection e with e1 e2 e3
        subst e1 e2 e3
        obtain ⟨lb', lo', e, _, hlc⟩ := hil'.2 (by omega)
        injection e with e
        injection e with e4 e5
        subst e4 e5
        clear hil hil'
        by_cases hk6 : k < 6
        · have yc := hyc k hk6
          have lc := hlc k hk6
          have hkl : k < s.length := by have := HSL.out; omega
          have hyk : s.getD k 0 = s[k] := by simp [List.getD, List.getElem?_eq_getElem hkl]
          obtain ⟨yk, hyk2⟩ : ∃ y, y = s[k] := ⟨_, rfl⟩
          rw [hyk, ← hyk2] at yc
          have HMX := Lib.hid (show maxZ s (k + 1) = max (maxZ s k) yk by rw [hyk2]; exact maxZ_step hkl)
          have HMN := Lib.hid (show minN s (k + 1) = min (minN s k) yk by rw [hyk2]; exact minN_step hkl)
          have hlk : ¬ k = i → ns.getD k 0 = yk := fun hne => by rw [← HSK.out k hne, hyk, ← hyk2]
          generalize maxZ s k = mx at *
          generalize minN s k = mn at *
          have k0 : (0 : Int) ≤ (k : Int) := by omega
          have k1 : (k : Int) < (6 : Int) := by omega
          have HKL := Lib.hid hk6
          clear hyk hyk2 hyc hlc hkl
          have SH := Lib.hid X
          clear X
          by_cases hki : k = i
          · subst hki
            clear hlk
            go_wp2_with fail
            go_quiet (fail)
            have yc := (below_drewN (Below.refl wr.heap.size wr) nq).cell (p := ⟨yb, yo + k, none⟩) (lt_of_cell yc) |>.trans yc
            have X := SH.out.keep (below_drewN (Below.refl wr.heap.size wr) nq)
            generalize wr.drewN nq = w9 at *
            clear SH lc
            have X1 := Lib.hid X
            clear X
            by_cases hm : mx < yk
            · have hm1 : decide (mx < yk) = true := decide_eq_true hm
              have hm2 : decide (yk > mx) = true := decide_eq_true hm
              by_cases hn : yk < mn
              · have hn1 : decide (yk < mn) = true := decide_eq_true hn
                have HMX2 := Lib.hid (show maxZ s (k + 1) = yk by rw [HMX.out]; omega)
                have HMN2 := Lib.hid (show minN s (k + 1) = yk by rw [HMN.out]; omega)
                clear HMX HMN
                go_wp2
                go_roundw
                case rel => exact ⟨k + 1, by go_num, by have := HKL.out; omega, by rw [HMX2.out], by rw [HMN2.out], X1.out⟩
                case measure => have := HKL.out; simp [intOf]; omega
              · have hn1 : decide (yk < mn) = false := decide_eq_false hn
                have HMX2 := Lib.hid (show maxZ s (k + 1) = yk by rw [HMX.out]; omega)
                have HMN2 := Lib.hid (show minN s (k + 1) = mn by rw [HMN.out]; omega)
                clear HMX HMN
                go_wp2
                go_roundw
                case rel => exact ⟨k + 1, by go_num, by have := HKL.out; omega, by rw [HMX2.out], by rw [HMN2.out], X1.out⟩
                case measure => have := HKL.out; simp [intOf]; omega
            · have hm1 : decide (mx < yk) = false := decide_eq_false hm
              have hm2 : decide (yk > mx) = false := decide_eq_false hm
              by_cases hn : yk < mn
              · have hn1 : decide (yk < mn) = true := decide_eq_true hn
                have HMX2 := Lib.hid (show maxZ s (k + 1) = mx by rw [HMX.out]; omega)
                have HMN2 := Lib.hid (show minN s (k + 1) = yk by rw [HMN.out]; omega)
                clear HMX HMN
                go_wp2
                go_roundw
                case rel => exact ⟨k + 1, by go_num, by have := HKL.out; omega, by rw [HMX2.out], by rw [HMN2.out], X1.out⟩
                case measure => have := HKL.out; simp [intOf]; omega
              · have hn1 : decide (yk < mn) = false := decide_eq_false hn
                have HMX2 := Lib.hid (show maxZ s (k + 1) = mx by rw [HMX.out]; omega)
                have HMN2 := Lib.hid (show minN s (k + 1) = mn by rw [HMN.out]; omega)
                clear HMX HMN
                go_wp2
                go_roundw
                case rel => exact ⟨k + 1, by go_num, by have := HKL.out; omega, by rw [HMX2.out], by rw [HMN2.out], X1.out⟩
                case measure => have := HKL.out; simp [intOf]; omega
          · have hlk2 := hlk hki
            rw [hlk2] at lc
            clear hlk hlk2
            have hki' : ¬ ((k : Int) = (i : Int)) := by omega
            have hki2 : ((k : Int) == (i : Int)) = false := by simp; omega
            have hki3 : ((k : Int) != (i : Int)) = true := by simp; omega
            go_wp2_with fail
            go_quiet (fail)
            have yc := (below_drewN (Below.refl wr.heap.size wr) nq).cell (p := ⟨yb, yo + k, none⟩) (lt_of_cell yc) |>.trans yc
            have X := SH.out.keep (below_drewN (Below.refl wr.heap.size wr) nq)
            generalize wr.drewN nq = w9 at *
            clear SH lc
            have X1 := Lib.hid X
            clear X
            by_cases hm : mx < yk
            · have hm1 : decide (mx < yk) = true := decide_eq_true hm
              have hm2 : decide (yk > mx) = true := decide_eq_true hm
              by_cases hn : yk < mn
              · have hn1 : decide (yk < mn) = true := decide_eq_true hn
                have HMX2 := Lib.hid (show maxZ s (k + 1) = yk by rw [HMX.out]; omega)
                have HMN2 := Lib.hid (show minN s (k + 1) = yk by rw [HMN.out]; omega)
                clear HMX HMN
                go_wp2
                go_roundw
                case rel => exact ⟨k + 1, by go_num, by have := HKL.out; omega, by rw [HMX2.out], by rw [HMN2.out], X1.out⟩
                case measure => have := HKL.out; simp [intOf]; omega
              · have hn1 : decide (yk < mn) = false := decide_eq_false hn
                have HMX2 := Lib.hid (show maxZ s (k + 1) = yk by rw [HMX.out]; omega)
                have HMN2 := Lib.hid (show minN s (k + 1) = mn by rw [HMN.out]; omega)
                clear HMX HMN
                go_wp2
                go_roundw
                case rel => exact ⟨k + 1, by go_num, by have := HKL.out; omega, by rw [HMX2.out], by rw [HMN2.out], X1.out⟩
                case measure => have := HKL.out; simp [intOf]; omega
            · have hm1 : decide (mx < yk) = false := decide_eq_false hm
              have hm2 : decide (yk > mx) = false := decide_eq_false hm
              by_cases hn : yk < mn
              · have hn1 : decide (yk < mn) = true := decide_eq_true hn
                have HMX2 := Lib.hid (show maxZ s (k + 1) = mx by rw [HMX.out]; omega)
                have HMN2 := Lib.hid (show minN s (k + 1) = yk by rw [HMN.out]; omega)
                clear HMX HMN
                go_wp2
                go_roundw
                case rel => exact ⟨k + 1, by go_num, by have := HKL.out; omega, by rw [HMX2.out], by rw [HMN2.out], X1.out⟩
                case measure => have := HKL.out; simp [intOf]; omega
              · have hn1 : decide (yk < mn) = false := decide_eq_false hn
                have HMX2 := Lib.hid (show maxZ s (k + 1) = mx by rw [HMX.out]; omega)
                have HMN2 := Lib.hid (show minN s (k + 1) = mn by rw [HMN.out]; omega)
                clear HMX HMN
                go_wp2
                go_roundw
                case rel => exact ⟨k + 1, by go_num, by have := HKL.out; omega, by rw [HMX2.out], by rw [HMN2.out], X1.out⟩
                case measure => have := HKL.out; simp [intOf]; omega
        · obtain rfl : k = 6 := by omega
          have yc := (hyc i hi).trans (by rw [HSI.out])
          have lc := (hlc i hi).trans (by rw [← HV.out])
          have hrd := (X.sep.own_ 0 rfl).rd
          have HLA := Lib.hid (latest_small HSL.out HS2.out)
          have HAP := Lib.hid (apart_small HSL.out HS2.out)
          have hmx := maxZ_range HS2.out 6 (by have := HSL.out; omega)
          have hmn := minN_small HSL.out HS2.out 6 (by omega)
          generalize maxZ s 6 = mx at *
          generalize minN s 6 = mn at *
          have hw1 : IntKind.i64.wrap (vi + a) = vi + a := by rw [IntKind.wrap_i64]; omega
          have hw2 : IntKind.i64.wrap (vi + a + b) = vi + a + b := by rw [IntKind.wrap_i64]; omega
          have hw3 : IntKind.i64.wrap (mx - mn) = mx - mn := by rw [IntKind.wrap_i64]; omega
          clear hyc hlc hk hk6
          have SH := Lib.hid X
          clear X
          go_wp2_with fail
          refine wp_region_cls (fun v => v.cell? ⟨yb, yo + i, none⟩ = some (.int .i64 (vi + a + b)) ∧ v.cell? ⟨lb, lo + i, none⟩ = some (.int .i64 vi) ∧ Rd v wr.heap.size (rowCells s) [.slice (some ⟨yb, yo, none⟩) 6 cz] ∧ wr.heap.size ≤ v.heap.size) (by kernel_rfl) (by kernel_rfl) (fun v hv => ⟨(hv.cell (p := ⟨yb, yo + i, none⟩) (lt_of_cell yc)).trans yc, (hv.cell (p := ⟨lb, lo + i, none⟩) (lt_of_cell lc)).trans lc, hrd.keep hv, hv.size⟩) ?_
          intro CL HF HC
          repeat
            (refine wpQuiet_step (fun K hK => ?_)
             go_simp
             first
               | (refine hK _ ?_; clear hK K)
               | (apply Exists.intro
                  refine ⟨fun v hv => ?_, hK _ ?_⟩
                  · obtain ⟨a0, a1, a2, a3⟩ := HF v hv
                    first
                      | (go_at_call 22; exact Calls.cls HC hv (iLatest_at _ 6 cz s v (a2.up a3) (by have := HSL.out; omega)) (congrArg (Value.int .i64) HLA.out))
                      | (go_at_call 23; exact Calls.cls HC hv (iApartIn_at _ 6 cz s v (a2.up a3) (by have := HSL.out; omega)) (congrArg (Value.int .i64) HAP.out))
                      | exact rfl
                      | (go_simp; exact rfl)
                      | (go_simp; exact ⟨rfl, hv⟩)
                  clear hK K))
          refine wpQuiet_nil ?_
          intro w9 b9
          have X := SH.out.keep b9
          clear SH b9 yc lc hrd
          have C := Lib.hid (B1.out.trans (grown_below X.grown B1.out.size (fun k hk => by injection hk with hk; omega)))
          clear X
          go_wp2
          go_ret
          exact ⟨rfl, C.out⟩

end Go.Proofs.Ythekcaahkokjfaa
