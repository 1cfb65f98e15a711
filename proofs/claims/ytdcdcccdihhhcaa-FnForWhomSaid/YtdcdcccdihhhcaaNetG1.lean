/-
  Chapter 5: CutOff, of the model (by program, wip/gen/gennetn.py).
-/
import Derived.Test.YtdcdcccdihhhcaaNetH3
import Derived.Test.YtdcdcccdihhhcaaParts
import Derived.Test.YtdcdcccdihhhcaaNetC2
import Derived.Test.YtdcdcccdihhhcaaNetC3
import Derived.Test.YtdcdcccdihhhcaaNetC4
import Derived.RegionTactic
import Derived.BigQuiet
namespace Go.Proofs.Ytdcdcccdihhhcaa
set_option maxRecDepth 100000
open Go.RowKit

def cutNet (t : NetM) (l : LinkM) : NetM := ⟨t.flight, t.cuts.take (lowN t.cuts l) ++ [l] ++ t.cuts.drop (lowN t.cuts l)⟩
def cutOffM (t : NetM) (x y : Int) : NetM × Bool :=
  if netOk t = true then (if twoB x y = true then (if isCut t.cuts (linkOf x y) = true then (t, false) else (cutNet t (linkOf x y), true)) else (t, false)) else (zeroN, false)
theorem lowN_le (c : List LinkM) (l : LinkM) : lowN c l ≤ c.length := firstNot_le _ c
theorem cutNet_sz (t : NetM) (l : LinkM) : (cutNet t l).sz ≤ t.sz + 1 := by
  have h := lowN_le t.cuts l
  unfold NetM.sz cutNet linkSz
  simp only [List.length_append, List.length_take, List.length_drop, List.length_singleton]
  omega
theorem cutOffM_sz (t : NetM) (x y : Int) (h : t.sz ≤ 1048576) : (cutOffM t x y).1.sz ≤ 1048577 := by
  unfold cutOffM
  split
  · split
    · split
      · simp only
        omega
      · have := cutNet_sz t (linkOf x y)
        simp only
        omega
    · simp only
      omega
  · decide

set_option maxHeartbeats 64000000 in
theorem sCutOff_any (v0 v1 : Value) (t : NetM) (x y : Int) (w : World) (h : Rd w w.heap.size t.cells [v0, v1]) (hs : t.sz ≤ 1048577) :
    Calls Try.prog 53 #[.agg #[v0, v1], .int .i64 x, .int .i64 y] w (MadeNB w (cutOffM t x y)) := by
  obtain ⟨A0, n0, c0, A1, n1, c1, rfl, rfl, hr0, hr1⟩ := h.netT
  have hz0 : msgSz t.flight ≤ 1048577 := by unfold NetM.sz at hs; omega
  have hz1 : linkSz t.cuts ≤ 1048577 := by unfold NetM.sz at hs; omega
  obtain ⟨hl0, hl1, _, _, _⟩ := net_len h
  have hn0 : n0 ≤ 1048577 := by unfold msgSz at hz0; omega
  have hn1 : n1 ≤ 1048577 := by unfold linkSz at hz1; omega
  have S := Sep.nil w w.heap.size
  have c := Below.refl w.heap.size w
  replace S := S.boxAt c.size (w.heap.size) rfl #[.slice A0 n0 c0, .slice A1 n1 c1] 30
  replace c := c.alloc c.size (.cells #[.slice A0 n0 c0, .slice A1 n1 c1] 30)
  replace S := S.boxAt c.size (w.heap.size + 1) (by simp) #[.slice none 0 0, .slice none 0 0] 30
  replace c := c.alloc c.size (.cells #[.slice none 0 0, .slice none 0 0] 30)
  go_enter Try.func53, Try.ntmps53
  go_wp2_with fail
  generalize (w.alloc (.cells #[.slice A0 n0 c0, .slice A1 n1 c1] 30)).alloc (.cells #[.slice none 0 0, .slice none 0 0] 30) = w1 at *
  refine (sNetOk_any _ _ t w.heap.size _ (h.keep c) c.size hs).mono ?_
  rintro e w2 ⟨rfl, b⟩
  replace c := c.trans (b.mono c.size)
  replace S := S.keep b
  clear b
  cases hok : netOk t
  case false =>
    have HD := Lib.hid (show cutOffM t x y = (zeroN, false) by unfold cutOffM; rw [hok]; rfl)
    have f0 : w2.cell? ⟨w.heap.size + 1, 0, none⟩ = some (.slice none 0 0) := (S.at_ 0 rfl).cell 0
    have f1 := (S.at_ 0 rfl).free 0
    have f2 : w2.cell? ⟨w.heap.size + 1, 1, none⟩ = some (.slice none 0 0) := (S.at_ 0 rfl).cell 1
    have f3 := (S.at_ 0 rfl).free 1
    replace S := S.put 0 rfl 0 (.slice none 0 0)
    replace c := c.setCell (p := ⟨w.heap.size + 1, 0, none⟩) (by show w.heap.size ≤ w.heap.size + 1; omega) (.slice none 0 0)
    replace S := S.put 0 rfl 1 (.slice none 0 0)
    replace c := c.setCell (p := ⟨w.heap.size + 1, 1, none⟩) (by show w.heap.size ≤ w.heap.size + 1; omega) (.slice none 0 0)
    have C := Lib.hid c
    have r0 := Lib.hid ((S.at_ 0 rfl).cell 0)
    have r1 := Lib.hid ((S.at_ 0 rfl).cell 1)
    clear S c h hr0 hr1 hl0 hl1 hok
    go_wp2
    exact bodyPost_ret (v := .tuple #[.agg #[.slice none 0 0, .slice none 0 0], .bool false]) (by simp [results, Try.results53, go_sem, r0.out, r1.out]) rfl ⟨_, _, _, _, _, _, by rw [HD.out], by rw [HD.out]; exact has_zeroN _ _, C.out⟩
  case true =>
    have HD0 := Lib.hid (show cutOffM t x y = if twoB x y = true then (if isCut t.cuts (linkOf x y) = true then (t, false) else (cutNet t (linkOf x y), true)) else (t, false) by unfold cutOffM; rw [if_pos hok])
    clear hok
    have f0 : w2.cell? ⟨w.heap.size, 0, none⟩ = some (.slice A0 n0 c0) := (S.at_ 1 rfl).cell 0
    have f1 : w2.cell? ⟨w.heap.size, 1, none⟩ = some (.slice A1 n1 c1) := (S.at_ 1 rfl).cell 1
    go_wp2_with fail
    refine (sCopyN_any _ _ t _ ((h.keep c).up c.size) hs).mono ?_
    rintro e w3 ⟨Au, nu, cu, Ax, nx, cx, rfl, o, b⟩
    obtain ⟨fp_u, S'⟩ := S.has b o c.size
    replace c := c.trans (b.mono c.size)
    clear S; have S := S'; clear S' o b f0 f1
    have hlt2 : w.heap.size + 1 < w3.heap.size := (S.at_ 1 rfl).lt
    have hne1 : ¬ (w3.heap.size = w.heap.size + 1) := by omega
    have hne2 : ¬ (w.heap.size + 1 = w3.heap.size) := by omega
    have f2 : w3.cell? ⟨w.heap.size, 0, none⟩ = some (.slice A0 n0 c0) := (S.at_ 2 rfl).cell 0
    have f3 : w3.cell? ⟨w.heap.size, 1, none⟩ = some (.slice A1 n1 c1) := (S.at_ 2 rfl).cell 1
    replace S := S.boxAt c.size (w3.heap.size) rfl #[.slice Au nu cu, .slice Ax nx cx] 30
    replace c := c.alloc c.size (.cells #[.slice Au nu cu, .slice Ax nx cx] 30)
    have f4 : (w3.alloc (.cells #[.slice Au nu cu, .slice Ax nx cx] 30)).cell? ⟨w.heap.size, 0, none⟩ = some (.slice A0 n0 c0) := (S.at_ 3 rfl).cell 0
    have f5 : (w3.alloc (.cells #[.slice Au nu cu, .slice Ax nx cx] 30)).cell? ⟨w.heap.size, 1, none⟩ = some (.slice A1 n1 c1) := (S.at_ 3 rfl).cell 1
    go_wp2_with fail
    generalize w3.alloc (.cells #[.slice Au nu cu, .slice Ax nx cx] 30) = w4 at *
    refine (sTwo_any x y _).mono ?_
    rintro e _ ⟨rfl, rfl⟩
    cases htw : twoB x y
    case false =>
      have HD := Lib.hid (show cutOffM t x y = (t, false) by rw [HD0.out, htw]; rfl)
      clear htw
      have f6 : w4.cell? ⟨w3.heap.size, 0, none⟩ = some (.slice Au nu cu) := (S.at_ 0 rfl).cell 0
      have f7 : w4.cell? ⟨w3.heap.size, 1, none⟩ = some (.slice Ax nx cx) := (S.at_ 0 rfl).cell 1
      have f8 : w4.cell? ⟨w.heap.size + 1, 0, none⟩ = some (.slice none 0 0) := (S.at_ 2 rfl).cell 0
      have f9 := (S.at_ 2 rfl).free 0
      have f10 : w4.cell? ⟨w.heap.size + 1, 1, none⟩ = some (.slice none 0 0) := (S.at_ 2 rfl).cell 1
      have f11 := (S.at_ 2 rfl).free 1
      replace S := S.put 2 rfl 0 (.slice Au nu cu)
      replace c := c.setCell (p := ⟨w.heap.size + 1, 0, none⟩) (by show w.heap.size ≤ w.heap.size + 1; omega) (.slice Au nu cu)
      replace S := S.put 2 rfl 1 (.slice Ax nx cx)
      replace c := c.setCell (p := ⟨w.heap.size + 1, 1, none⟩) (by show w.heap.size ≤ w.heap.size + 1; omega) (.slice Ax nx cx)
      replace S := S.pick 1 rfl
      have H := Lib.hid S.first
      have C := Lib.hid c
      have r0 := Lib.hid ((S.at_ 2 rfl).cell 0)
      have r1 := Lib.hid ((S.at_ 2 rfl).cell 1)
      clear S c h hr0 hr1 hl0 hl1 
      go_wp2
      exact bodyPost_ret (v := .tuple #[.agg #[.slice Au nu cu, .slice Ax nx cx], .bool false]) (by simp [results, Try.results53, go_sem, r0.out, r1.out]) rfl ⟨_, _, _, _, _, _, by rw [HD.out], by rw [HD.out]; exact H.out, C.out⟩
    case true =>
      have HD1 := Lib.hid (show cutOffM t x y = if isCut t.cuts (linkOf x y) = true then (t, false) else (cutNet t (linkOf x y), true) by rw [HD0.out, htw]; rfl)
      clear htw
      have f6 : w4.cell? ⟨w.heap.size, 0, none⟩ = some (.slice A0 n0 c0) := (S.at_ 3 rfl).cell 0
      have f7 : w4.cell? ⟨w.heap.size, 1, none⟩ = some (.slice A1 n1 c1) := (S.at_ 3 rfl).cell 1
      go_wp2_with fail
      refine (sCutAt_any _ _ t x y w.heap.size _ (h.keep c) c.size hs).mono ?_
      rintro e w5 ⟨rfl, b⟩
      replace c := c.trans (b.mono c.size)
      replace S := S.keep b
      clear b f2 f3 f4 f5 f6 f7
      by_cases hcut : eqIx t.cuts (linkOf x y) < t.cuts.length
      case pos =>
        have hsp : specAt t.cuts (linkOf x y) = (eqIx t.cuts (linkOf x y) : Int) := by unfold specAt; rw [if_pos hcut]
        have HD := Lib.hid (show cutOffM t x y = (t, false) by rw [HD1.out, if_pos (by unfold isCut; exact decide_eq_true hcut)])
        rw [hsp]
        clear hcut hsp
        have i0 : (0 : Int) ≤ (eqIx t.cuts (linkOf x y) : Int) := by omega
        have f8 : w5.cell? ⟨w3.heap.size, 0, none⟩ = some (.slice Au nu cu) := (S.at_ 0 rfl).cell 0
        have f9 : w5.cell? ⟨w3.heap.size, 1, none⟩ = some (.slice Ax nx cx) := (S.at_ 0 rfl).cell 1
        have f10 : w5.cell? ⟨w.heap.size + 1, 0, none⟩ = some (.slice none 0 0) := (S.at_ 2 rfl).cell 0
        have f11 := (S.at_ 2 rfl).free 0
        have f12 : w5.cell? ⟨w.heap.size + 1, 1, none⟩ = some (.slice none 0 0) := (S.at_ 2 rfl).cell 1
        have f13 := (S.at_ 2 rfl).free 1
        replace S := S.put 2 rfl 0 (.slice Au nu cu)
        replace c := c.setCell (p := ⟨w.heap.size + 1, 0, none⟩) (by show w.heap.size ≤ w.heap.size + 1; omega) (.slice Au nu cu)
        replace S := S.put 2 rfl 1 (.slice Ax nx cx)
        replace c := c.setCell (p := ⟨w.heap.size + 1, 1, none⟩) (by show w.heap.size ≤ w.heap.size + 1; omega) (.slice Ax nx cx)
        replace S := S.pick 1 rfl
        have H := Lib.hid S.first
        have C := Lib.hid c
        have r0 := Lib.hid ((S.at_ 2 rfl).cell 0)
        have r1 := Lib.hid ((S.at_ 2 rfl).cell 1)
        clear S c h hr0 hr1 hl0 hl1 
        go_wp2
        exact bodyPost_ret (v := .tuple #[.agg #[.slice Au nu cu, .slice Ax nx cx], .bool false]) (by simp [results, Try.results53, go_sem, r0.out, r1.out]) rfl ⟨_, _, _, _, _, _, by rw [HD.out], by rw [HD.out]; exact H.out, C.out⟩
      case neg =>
        have hsp : specAt t.cuts (linkOf x y) = -1 := by unfold specAt; rw [if_neg hcut]
        have HD := Lib.hid (show cutOffM t x y = (cutNet t (linkOf x y), true) by rw [HD1.out, if_neg (by unfold isCut; rw [decide_eq_false hcut]; decide)])
        rw [hsp]
        clear hcut hsp
        go_wp2_with fail
        refine (sLink_any x y _).mono ?_
        rintro e w6 ⟨rfl, b⟩
        replace c := c.trans (b.mono c.size)
        replace S := S.keep b
        clear b
        have hlt3 : w3.heap.size < w6.heap.size := (S.at_ 0 rfl).lt
        replace S := S.boxAt c.size (w6.heap.size) rfl #[.int .i64 (linkOf x y).a, .int .i64 (linkOf x y).b] 75
        replace c := c.alloc c.size (.cells #[.int .i64 (linkOf x y).a, .int .i64 (linkOf x y).b] 75)
        go_wp2_with fail
        generalize w6.alloc (.cells #[.int .i64 (linkOf x y).a, .int .i64 (linkOf x y).b] 75) = w7 at *
        have SH := Lib.hid S
        have CH := Lib.hid c
        have bz := c.size
        have HL := Lib.hid hl1
        have HH := Lib.hid hr1
        obtain ⟨la, hla⟩ : ∃ q, q = (linkOf x y).a := ⟨_, rfl⟩
        obtain ⟨lb, hlb⟩ : ∃ q, q = (linkOf x y).b := ⟨_, rfl⟩
        rw [← hla, ← hlb] at SH
        have HLK := Lib.hid (show linkOf x y = ⟨la, lb⟩ by rw [hla, hlb])
        rw [← hla, ← hlb]
        clear S c hla hlb h hr0 hr1 hl1
        go_loopw [10] (fun i wr => ∃ j : Nat, j ≤ n1 ∧ i = .int .i64 (j : Int) ∧ (∀ q (hq : q < t.cuts.length), q < j → linkLess t.cuts[q] ⟨la, lb⟩ = true) ∧ Below w7.heap.size w7 wr) (fun i _ => n1 - (intOf i).toNat)
        case atStart => exact ⟨0, Nat.zero_le _, rfl, fun q _ hq => absurd hq (by omega), Below.refl _ _⟩
        case round =>
          obtain ⟨j, hj, rfl, hall, bl⟩ := hrel
          have S := SH.out.keep bl
          have c := CH.out.trans (bl.mono CH.out.size)
          by_cases hlt : j < n1
          · obtain ⟨_, _, _, e, _, hnc, hcm, hel⟩ := HH.out.links
            injection e with e1 e2 e3
            subst e1 e2 e3
            obtain ⟨b, off, rfl, hb, hc⟩ := hel (by omega)
            have hjl : j < t.cuts.length := by have := HL.out; omega
            obtain ⟨hc0, hc1⟩ := hc j hjl
            have cs0 := (c.cell (p := ⟨b, off + j * 2, none⟩) (show b < _ by omega)).trans hc0
            have cs1 := (c.cell (p := ⟨b, off + j * 2 + 1, none⟩) (show b < _ by omega)).trans hc1
            obtain ⟨x0, hx0⟩ : ∃ q, q = t.cuts[j].a := ⟨_, rfl⟩
            obtain ⟨x1, hx1⟩ : ∃ q, q = t.cuts[j].b := ⟨_, rfl⟩
            rw [← hx0] at cs0
            rw [← hx1] at cs1
            have HM := Lib.hid (show t.cuts[j] = ⟨x0, x1⟩ by rw [hx0, hx1])
            have HA := Lib.hid hall
            have HN := Lib.hid hnc
            clear hx0 hx1 hc hc0 hc1 hel hall hnc
            have f8 : wr.cell? ⟨w.heap.size, 1, none⟩ = some (.slice (some ⟨b, off, none⟩) n1 c1) := (S.at_ 4 rfl).cell 1
            have f9 : wr.cell? ⟨w6.heap.size, 0, none⟩ = some (.int .i64 la) := (S.at_ 0 rfl).cell 0
            have f10 : wr.cell? ⟨w6.heap.size, 1, none⟩ = some (.int .i64 lb) := (S.at_ 0 rfl).cell 1
            go_wp2_with fail
            refine wp_region_cls (fun v => v.cell? ⟨w.heap.size, 1, none⟩ = some (.slice (some ⟨b, off, none⟩) n1 c1) ∧ v.cell? ⟨w6.heap.size, 0, none⟩ = some (.int .i64 la) ∧ v.cell? ⟨w6.heap.size, 1, none⟩ = some (.int .i64 lb) ∧ v.cell? ⟨b, off + j * 2, none⟩ = some (.int .i64 x0) ∧ v.cell? ⟨b, off + j * 2 + 1, none⟩ = some (.int .i64 x1)) (by kernel_rfl) (by kernel_rfl) (fun v hv => ⟨(hv.cell (p := ⟨w.heap.size, 1, none⟩) (lt_of_cell f8)).trans f8, (hv.cell (p := ⟨w6.heap.size, 0, none⟩) (lt_of_cell f9)).trans f9, (hv.cell (p := ⟨w6.heap.size, 1, none⟩) (lt_of_cell f10)).trans f10, (hv.cell (p := ⟨b, off + j * 2, none⟩) (lt_of_cell cs0)).trans cs0, (hv.cell (p := ⟨b, off + j * 2 + 1, none⟩) (lt_of_cell cs1)).trans cs1⟩) ?_
            intro C HF HC
            repeat
              (refine wpQuiet_step (fun K hK => ?_)
               go_simp
               first
                 | (refine hK _ ?_; clear hK K)
                 | (apply Exists.intro
                    refine ⟨fun v hv => ?_, hK _ ?_⟩
                    · obtain ⟨a0, a1, a2, a3, a4⟩ := HF v hv
                      first
                        | (go_at_call 80; exact Calls.cls HC hv (sLess_any x0 x1 la lb v) rfl)
                        | exact rfl
                        | (go_simp; exact rfl)
                        | (go_simp; exact ⟨rfl, hv⟩)
                    clear hK K))
            refine wpQuiet_nil ?_
            intro w8 b9
            replace c := c.trans (b9.mono c.size)
            replace S := S.keep b9
            replace bl := bl.trans (b9.mono bl.size)
            clear b9 cs0 cs1 f8 f9 f10
            cases hok : linkLess ⟨x0, x1⟩ ⟨la, lb⟩
            case true =>
              have HN2 := Lib.hid (show ∀ q (hq : q < t.cuts.length), q < j + 1 → linkLess t.cuts[q] ⟨la, lb⟩ = true from fun q hq hlt2 => by
                by_cases e : q = j
                · subst e
                  rw [HM.out]
                  exact hok
                · exact HA.out q hq (by omega))
              clear hok
              have BL := Lib.hid bl
              clear S c bl
              go_wp2
              go_roundw
              case rel => exact ⟨j + 1, by omega, by go_num, HN2.out, BL.out⟩
              case measure => simp [intOf]; omega
            case false =>
              have hlow : lowN t.cuts (linkOf x y) = j := by rw [HLK.out]; exact lowN_is (Nat.le_of_lt hjl) HA.out (fun _ => by rw [HM.out]; exact hok)
              clear hok bl
              have i0 : (0 : Int) ≤ (j : Int) := by omega
              have i1 : (j : Int) ≤ (c1 : Int) := by have := HN.out; omega
              have i4 : (j : Int) ≤ (n1 : Int) := by omega
              have hjc : j ≤ n1 := by omega
              have f11 : w8.cell? ⟨w.heap.size, 1, none⟩ = some (.slice (some ⟨b, off, none⟩) n1 c1) := (S.at_ 4 rfl).cell 1
              have f12 : w8.cell? ⟨w6.heap.size, 0, none⟩ = some (.int .i64 la) := (S.at_ 0 rfl).cell 0
              have f13 : w8.cell? ⟨w6.heap.size, 1, none⟩ = some (.int .i64 lb) := (S.at_ 0 rfl).cell 1
              go_wp2_with fail
              refine wp_region_L (fun v => v.cell? ⟨w.heap.size, 1, none⟩ = some (.slice (some ⟨b, off, none⟩) n1 c1) ∧ v.cell? ⟨w6.heap.size, 0, none⟩ = some (.int .i64 la) ∧ v.cell? ⟨w6.heap.size, 1, none⟩ = some (.int .i64 lb)) 9 (by kernel_rfl) ?_
              clear f11 f12 f13
              replace S := S.keep ((Below.refl _ _).drew)
              replace c := c.drew
              generalize w8.drew = w9 at *
              have HF : w9.cell? ⟨w.heap.size, 1, none⟩ = some (.slice (some ⟨b, off, none⟩) n1 c1) ∧ w9.cell? ⟨w6.heap.size, 0, none⟩ = some (.int .i64 la) ∧ w9.cell? ⟨w6.heap.size, 1, none⟩ = some (.int .i64 lb) := ⟨(S.at_ 4 rfl).cell 1, (S.at_ 0 rfl).cell 0, (S.at_ 0 rfl).cell 1⟩
              refine wpAnyL_take (i := 1) (v := ?_) rfl rfl (by kernel_rfl) (by kernel_rfl) (by kernel_rfl) (by kernel_rfl) (by kernel_rfl) (fun _ _ _ h => h) HF (Or.inl ⟨by rfl, ?_⟩) ?_
              rotate_left 1
              · (rintro v ⟨a0, a1, a2⟩; go_simp; try with_reducible rfl)
              try simp only [Act.put]
              refine wpAnyL_take (i := 2) (v := ?_) rfl rfl (by kernel_rfl) (by kernel_rfl) (by kernel_rfl) (by kernel_rfl) (by kernel_rfl) (fun _ _ _ h => h) HF (Or.inl ⟨by rfl, ?_⟩) ?_
              rotate_left 1
              · (rintro v ⟨a0, a1, a2⟩; go_simp; try with_reducible rfl)
              try simp only [Act.put]
              refine wpAnyL_pure (i := 3) (v := ?_) rfl rfl (by kernel_rfl) (by kernel_rfl) (by kernel_rfl) (fun _ _ _ h => h) HF (Or.inl ⟨by rfl, ?_⟩) ?_
              rotate_left 1
              · (intro v _; go_simp; try with_reducible rfl)
              try simp only [Act.put]
              refine wpAnyL_pure (i := 4) (v := ?_) rfl rfl (by kernel_rfl) (by kernel_rfl) (by kernel_rfl) (fun _ _ _ h => h) HF (Or.inl ⟨by rfl, ?_⟩) ?_
              rotate_left 1
              · (intro v _; go_simp; try with_reducible rfl)
              try simp only [Act.put]
              refine wpAnyL_take (i := 6) (v := ?_) rfl rfl (by kernel_rfl) (by kernel_rfl) (by kernel_rfl) (by kernel_rfl) (by kernel_rfl) (fun _ _ _ h => h) HF (Or.inl ⟨by rfl, ?_⟩) ?_
              rotate_left 1
              · (rintro v ⟨a0, a1, a2⟩; go_simp; try with_reducible rfl)
              try simp only [Act.put]
              refine wpAnyL_two (i := 0) (k := 7) (by kernel_rfl) rfl rfl rfl rfl ?_ ?_
              · intro K hK
                go_simp
                replace S := S.boxAt c.size (w9.heap.size) rfl #[] 75
                replace c := c.alloc c.size (.cells #[] 75)
                clear HF
                have HF : (w9.alloc (.cells #[] 75)).cell? ⟨w.heap.size, 1, none⟩ = some (.slice (some ⟨b, off, none⟩) n1 c1) ∧ (w9.alloc (.cells #[] 75)).cell? ⟨w6.heap.size, 0, none⟩ = some (.int .i64 la) ∧ (w9.alloc (.cells #[] 75)).cell? ⟨w6.heap.size, 1, none⟩ = some (.int .i64 lb) := ⟨(S.at_ 5 rfl).cell 1, (S.at_ 1 rfl).cell 0, (S.at_ 1 rfl).cell 1⟩
                refine hK _ _ (fun _ => HF) ?_
                clear hK K
                try simp only [Act.put]
                generalize hw : w9.alloc (.cells #[] 75) = w10 at *
                have HWw10 := Lib.hid hw
                clear hw
                refine wpAnyL_two (i := 5) (k := 7) (by kernel_rfl) rfl rfl rfl rfl ?_ ?_
                · intro K hK
                  replace S := S.pick 0 rfl
                  replace S := S.blk0 (k := 2) (f := linkC)
                  replace S := S.pick 0 rfl
                  replace S := (S.flat link_flat (t.cuts.take j)).swap
                  have hsr := (Rd.front linkC_len (by decide) (HH.out.keep c) hjc (show j ≤ c1 by have := HN.out; omega) hcm).src link_flat linkC_len (by decide)
                  refine wp_append_fresh (l2 := t.cuts.take j) _ _ (by rfl) Try.underlying28 infoLink (by rfl) (by decide) linkC_len (by rfl) (S.own_ 0 rfl) (S.nodup_own 0 rfl) (by rfl) hsr.1 (S.own_ 1 rfl) hsr.2 (S.nodup_own 1 rfl) S.apart (by omega) (by omega) ?_
                  intro A3 c3 w11 fp3 o3 n3 s3 t3
                  have S' := S.merge t3 o3 n3 s3 c.size
                  replace c := c.trans (S.below 0 rfl t3 c.size)
                  clear S; have S := S'; clear S' o3 n3 s3 t3 hsr
                  clear HF
                  have HF : w11.cell? ⟨w.heap.size, 1, none⟩ = some (.slice (some ⟨b, off, none⟩) n1 c1) ∧ w11.cell? ⟨w6.heap.size, 0, none⟩ = some (.int .i64 la) ∧ w11.cell? ⟨w6.heap.size, 1, none⟩ = some (.int .i64 lb) := ⟨(S.at_ 5 rfl).cell 1, (S.at_ 1 rfl).cell 0, (S.at_ 1 rfl).cell 1⟩
                  refine hK _ _ (fun _ => HF) ?_
                  clear hK K
                  try simp only [Act.put]
                  refine wpAnyL_step (i := 7) (by kernel_rfl) rfl rfl ?_
                  intro K hK
                  go_simp
                  replace S := S.boxAt c.size (w11.heap.size) rfl #[.int .i64 la, .int .i64 lb] 75
                  replace c := c.alloc c.size (.cells #[.int .i64 la, .int .i64 lb] 75)
                  clear HF
                  have HF : (w11.alloc (.cells #[.int .i64 la, .int .i64 lb] 75)).cell? ⟨w.heap.size, 1, none⟩ = some (.slice (some ⟨b, off, none⟩) n1 c1) ∧ (w11.alloc (.cells #[.int .i64 la, .int .i64 lb] 75)).cell? ⟨w6.heap.size, 0, none⟩ = some (.int .i64 la) ∧ (w11.alloc (.cells #[.int .i64 la, .int .i64 lb] 75)).cell? ⟨w6.heap.size, 1, none⟩ = some (.int .i64 lb) := ⟨(S.at_ 6 rfl).cell 1, (S.at_ 2 rfl).cell 0, (S.at_ 2 rfl).cell 1⟩
                  refine hK _ _ (fun _ => HF) ?_
                  clear hK K
                  try simp only [Act.put]
                  generalize hw : w11.alloc (.cells #[.int .i64 la, .int .i64 lb] 75) = w12 at *
                  have HWw12 := Lib.hid hw
                  clear hw
                  replace S := S.pick 1 rfl
                  replace S := (S.flat link_flat ([(⟨la, lb⟩ : LinkM)])).swap
                  have hsr : Src w12 (some ⟨w11.heap.size, 0, none⟩) 1 2 (ivals ([(⟨la, lb⟩ : LinkM)].flatMap fun x => [x.a, x.b])) ∧ [(⟨la, lb⟩ : LinkM)].length = 1 := ⟨Src.of_blk (S.at_ 2 rfl) (fun i hi => by
                    rcases (show i = 0 ∨ i = 1 by omega) with rfl | rfl <;> rfl), rfl⟩
                  refine wpAnyL_step (i := 8) (by kernel_rfl) rfl rfl ?_
                  intro K hK
                  refine wp_append_many (l := t.cuts.take j) (l2 := [(⟨la, lb⟩ : LinkM)]) _ _ (by rfl) Try.underlying28 infoLink (by rfl) (by decide) linkC_len (by rfl) (S.own_ 0 rfl) (S.nodup_own 0 rfl) (by rfl) hsr.1 (S.own_ 1 rfl) hsr.2 (S.nodup_own 1 rfl) S.apart (by omega) (by omega) ?_
                  intro A4 c4 w13 fp4 o3 n3 s3 t3
                  have S' := S.merge t3 o3 n3 s3 c.size
                  replace c := c.trans (S.below 0 rfl t3 c.size)
                  clear S; have S := S'; clear S' o3 n3 s3 t3 hsr
                  clear HF
                  have HF : w13.cell? ⟨w.heap.size, 1, none⟩ = some (.slice (some ⟨b, off, none⟩) n1 c1) ∧ w13.cell? ⟨w6.heap.size, 0, none⟩ = some (.int .i64 la) ∧ w13.cell? ⟨w6.heap.size, 1, none⟩ = some (.int .i64 lb) := ⟨(S.at_ 6 rfl).cell 1, (S.at_ 2 rfl).cell 0, (S.at_ 2 rfl).cell 1⟩
                  refine hK _ _ (fun _ => HF) ?_
                  clear hK K
                  try simp only [Act.put]
                  refine wpAnyL_step (i := 9) (by kernel_rfl) rfl rfl ?_
                  intro K hK
                  go_simp
                  refine hK _ _ (fun h => nomatch (show true = false from h)) ?_
                  clear hK K
                  try simp only [Act.put]
                  refine wpAnyL_done (by kernel_rfl) ?_ _
                  try simp only [Act.put]
                  have hsr := (Rd.back (A2 := (if c1 = j then some ⟨b, off, none⟩ else some ⟨b, off + j * 2, none⟩)) (c' := c1 - j) linkC_len (by decide) (HH.out.keep c) hjc (fun b' off' e hl => by
                    have hc1 := HN.out
                    injection e with e
                    injection e with e1 e2
                    rw [if_neg (by omega), e1, e2]) (by have := HN.out; omega) (by omega)).src link_flat linkC_len (by decide)
                  have HE := Lib.hid (show t.cuts.take j ++ [(⟨la, lb⟩ : LinkM)] ++ t.cuts.drop j = (cutNet t (linkOf x y)).cuts by unfold cutNet; rw [hlow, HLK.out])
                  replace S := S.pick 0 rfl
                  replace S := (S.flat link_flat (t.cuts.drop j)).swap
                  have f14 : w13.cell? ⟨w.heap.size, 1, none⟩ = some (.slice (some ⟨b, off, none⟩) n1 c1) := (S.at_ 7 rfl).cell 1
                  go_wp2_with (first
                    | (at_builtin
                       refine wpList_append_many (l := t.cuts.take j ++ [(⟨la, lb⟩ : LinkM)]) (l2 := t.cuts.drop j) rfl (.tmp 58) (.tmp 62) (by rfl) Try.underlying28 infoLink (by rfl) (by decide) linkC_len (by rfl) (S.own_ 0 rfl) (S.nodup_own 0 rfl) (by rfl) hsr.1 (S.own_ 1 rfl) hsr.2 (S.nodup_own 1 rfl) S.apart (by omega) (by omega) ?_
                       intro A5 c5 w20 fp5 o5 n5 s5 t5
                       rw [HE.out] at o5
                       have S1 := S.merge t5 o5 n5 s5 c.size
                       have C1 := c.trans (S.below 0 rfl t5 c.size)
                       have eo0 : w20.cell? ⟨w3.heap.size, 0, none⟩ = some (.slice Au nu cu) := (S1.at_ 3 rfl).cell 0
                       have eo1 : w20.cell? ⟨w3.heap.size, 1, none⟩ = some (.slice Ax nx cx) := (S1.at_ 3 rfl).cell 1
                       have fo1 := (S1.at_ 3 rfl).free 1
                       have er0 : w20.cell? ⟨w.heap.size + 1, 0, none⟩ = some (.slice none 0 0) := (S1.at_ 5 rfl).cell 0
                       have er1 : w20.cell? ⟨w.heap.size + 1, 1, none⟩ = some (.slice none 0 0) := (S1.at_ 5 rfl).cell 1
                       have fr0 := (S1.at_ 5 rfl).free 0
                       have fr1 := (S1.at_ 5 rfl).free 1
                       have zo : w.heap.size ≤ w3.heap.size := S1.base_le 3 rfl
                       have S2 := ((S1.put 3 rfl 1 (.slice A5 (j + 1 + (n1 - j)) c5)).put 5 rfl 0 (.slice Au nu cu)).put 5 rfl 1 (.slice A5 (j + 1 + (n1 - j)) c5)
                       have C2 := Lib.hid (((C1.setCell (p := ⟨w3.heap.size, 1, none⟩) zo (.slice A5 (j + 1 + (n1 - j)) c5)).setCell (p := ⟨w.heap.size + 1, 0, none⟩) (by simp) (.slice Au nu cu)).setCell (p := ⟨w.heap.size + 1, 1, none⟩) (by simp) (.slice A5 (j + 1 + (n1 - j)) c5))
                       have r0 := Lib.hid ((S2.at_ 5 rfl).cell 0)
                       have r1 := Lib.hid ((S2.at_ 5 rfl).cell 1)
                       obtain ⟨fx, fy, S3⟩ := (S2.pick 4 rfl).cut (ds := [msgD t.flight]) (ds' := [linkD t.cuts]) (vs := [.slice Au nu cu]) (vs' := [.slice Ax nx cx]) rfl
                       have H := Lib.hid (show Has _ w.heap.size ([msgD t.flight] ++ [linkD (cutNet t (linkOf x y)).cuts]) ([.slice Au nu cu] ++ [.slice A5 (j + 1 + (n1 - j)) c5]) from ((S3.pick 1 rfl).pick 2 rfl).pair)
                       clear S c o5 n5 s5 t5 S1 C1 S2 S3 hsr HF HH hl0))
                  all_goals exact bodyPost_ret (v := .tuple #[.agg #[.slice Au nu cu, .slice A5 (j + 1 + (n1 - j)) c5], .bool true]) (by simp [results, Try.results53, go_sem, r0.out, r1.out]) rfl ⟨_, _, _, _, _, _, by rw [HD.out], by rw [HD.out]; exact H.out, C2.out⟩
                · intro K hK
                  go_simp
                  replace S := S.boxAt c.size (w10.heap.size) rfl #[.int .i64 la, .int .i64 lb] 75
                  replace c := c.alloc c.size (.cells #[.int .i64 la, .int .i64 lb] 75)
                  clear HF
                  have HF : (w10.alloc (.cells #[.int .i64 la, .int .i64 lb] 75)).cell? ⟨w.heap.size, 1, none⟩ = some (.slice (some ⟨b, off, none⟩) n1 c1) ∧ (w10.alloc (.cells #[.int .i64 la, .int .i64 lb] 75)).cell? ⟨w6.heap.size, 0, none⟩ = some (.int .i64 la) ∧ (w10.alloc (.cells #[.int .i64 la, .int .i64 lb] 75)).cell? ⟨w6.heap.size, 1, none⟩ = some (.int .i64 lb) := ⟨(S.at_ 6 rfl).cell 1, (S.at_ 2 rfl).cell 0, (S.at_ 2 rfl).cell 1⟩
                  refine hK _ _ (fun _ => HF) ?_
                  clear hK K
                  try simp only [Act.put]
                  generalize hw : w10.alloc (.cells #[.int .i64 la, .int .i64 lb] 75) = w11 at *
                  have HWw11 := Lib.hid hw
                  clear hw
                  refine wpAnyL_step (i := 5) (by kernel_rfl) rfl rfl ?_
                  intro K hK
                  replace S := S.pick 1 rfl
                  replace S := S.blk0 (k := 2) (f := linkC)
                  replace S := S.pick 0 rfl
                  replace S := (S.flat link_flat (t.cuts.take j)).swap
                  have hsr := (Rd.front linkC_len (by decide) (HH.out.keep c) hjc (show j ≤ c1 by have := HN.out; omega) hcm).src link_flat linkC_len (by decide)
                  refine wp_append_fresh (l2 := t.cuts.take j) _ _ (by rfl) Try.underlying28 infoLink (by rfl) (by decide) linkC_len (by rfl) (S.own_ 0 rfl) (S.nodup_own 0 rfl) (by rfl) hsr.1 (S.own_ 1 rfl) hsr.2 (S.nodup_own 1 rfl) S.apart (by omega) (by omega) ?_
                  intro A3 c3 w12 fp3 o3 n3 s3 t3
                  have S' := S.merge t3 o3 n3 s3 c.size
                  replace c := c.trans (S.below 0 rfl t3 c.size)
                  clear S; have S := S'; clear S' o3 n3 s3 t3 hsr
                  clear HF
                  have HF : w12.cell? ⟨w.heap.size, 1, none⟩ = some (.slice (some ⟨b, off, none⟩) n1 c1) ∧ w12.cell? ⟨w6.heap.size, 0, none⟩ = some (.int .i64 la) ∧ w12.cell? ⟨w6.heap.size, 1, none⟩ = some (.int .i64 lb) := ⟨(S.at_ 6 rfl).cell 1, (S.at_ 2 rfl).cell 0, (S.at_ 2 rfl).cell 1⟩
                  refine hK _ _ (fun _ => HF) ?_
                  clear hK K
                  try simp only [Act.put]
                  replace S := S.pick 0 rfl
                  replace S := (S.flat link_flat ([(⟨la, lb⟩ : LinkM)])).swap
                  have hsr : Src w12 (some ⟨w10.heap.size, 0, none⟩) 1 2 (ivals ([(⟨la, lb⟩ : LinkM)].flatMap fun x => [x.a, x.b])) ∧ [(⟨la, lb⟩ : LinkM)].length = 1 := ⟨Src.of_blk (S.at_ 2 rfl) (fun i hi => by
                    rcases (show i = 0 ∨ i = 1 by omega) with rfl | rfl <;> rfl), rfl⟩
                  refine wpAnyL_step (i := 8) (by kernel_rfl) rfl rfl ?_
                  intro K hK
                  refine wp_append_many (l := t.cuts.take j) (l2 := [(⟨la, lb⟩ : LinkM)]) _ _ (by rfl) Try.underlying28 infoLink (by rfl) (by decide) linkC_len (by rfl) (S.own_ 0 rfl) (S.nodup_own 0 rfl) (by rfl) hsr.1 (S.own_ 1 rfl) hsr.2 (S.nodup_own 1 rfl) S.apart (by omega) (by omega) ?_
                  intro A4 c4 w13 fp4 o3 n3 s3 t3
                  have S' := S.merge t3 o3 n3 s3 c.size
                  replace c := c.trans (S.below 0 rfl t3 c.size)
                  clear S; have S := S'; clear S' o3 n3 s3 t3 hsr
                  clear HF
                  have HF : w13.cell? ⟨w.heap.size, 1, none⟩ = some (.slice (some ⟨b, off, none⟩) n1 c1) ∧ w13.cell? ⟨w6.heap.size, 0, none⟩ = some (.int .i64 la) ∧ w13.cell? ⟨w6.heap.size, 1, none⟩ = some (.int .i64 lb) := ⟨(S.at_ 6 rfl).cell 1, (S.at_ 2 rfl).cell 0, (S.at_ 2 rfl).cell 1⟩
                  refine hK _ _ (fun _ => HF) ?_
                  clear hK K
                  try simp only [Act.put]
                  refine wpAnyL_step (i := 9) (by kernel_rfl) rfl rfl ?_
                  intro K hK
                  go_simp
                  refine hK _ _ (fun h => nomatch (show true = false from h)) ?_
                  clear hK K
                  try simp only [Act.put]
                  refine wpAnyL_done (by kernel_rfl) ?_ _
                  try simp only [Act.put]
                  have hsr := (Rd.back (A2 := (if c1 = j then some ⟨b, off, none⟩ else some ⟨b, off + j * 2, none⟩)) (c' := c1 - j) linkC_len (by decide) (HH.out.keep c) hjc (fun b' off' e hl => by
                    have hc1 := HN.out
                    injection e with e
                    injection e with e1 e2
                    rw [if_neg (by omega), e1, e2]) (by have := HN.out; omega) (by omega)).src link_flat linkC_len (by decide)
                  have HE := Lib.hid (show t.cuts.take j ++ [(⟨la, lb⟩ : LinkM)] ++ t.cuts.drop j = (cutNet t (linkOf x y)).cuts by unfold cutNet; rw [hlow, HLK.out])
                  replace S := S.pick 0 rfl
                  replace S := (S.flat link_flat (t.cuts.drop j)).swap
                  have f14 : w13.cell? ⟨w.heap.size, 1, none⟩ = some (.slice (some ⟨b, off, none⟩) n1 c1) := (S.at_ 7 rfl).cell 1
                  go_wp2_with (first
                    | (at_builtin
                       refine wpList_append_many (l := t.cuts.take j ++ [(⟨la, lb⟩ : LinkM)]) (l2 := t.cuts.drop j) rfl (.tmp 58) (.tmp 62) (by rfl) Try.underlying28 infoLink (by rfl) (by decide) linkC_len (by rfl) (S.own_ 0 rfl) (S.nodup_own 0 rfl) (by rfl) hsr.1 (S.own_ 1 rfl) hsr.2 (S.nodup_own 1 rfl) S.apart (by omega) (by omega) ?_
                       intro A5 c5 w20 fp5 o5 n5 s5 t5
                       rw [HE.out] at o5
                       have S1 := S.merge t5 o5 n5 s5 c.size
                       have C1 := c.trans (S.below 0 rfl t5 c.size)
                       have eo0 : w20.cell? ⟨w3.heap.size, 0, none⟩ = some (.slice Au nu cu) := (S1.at_ 3 rfl).cell 0
                       have eo1 : w20.cell? ⟨w3.heap.size, 1, none⟩ = some (.slice Ax nx cx) := (S1.at_ 3 rfl).cell 1
                       have fo1 := (S1.at_ 3 rfl).free 1
                       have er0 : w20.cell? ⟨w.heap.size + 1, 0, none⟩ = some (.slice none 0 0) := (S1.at_ 5 rfl).cell 0
                       have er1 : w20.cell? ⟨w.heap.size + 1, 1, none⟩ = some (.slice none 0 0) := (S1.at_ 5 rfl).cell 1
                       have fr0 := (S1.at_ 5 rfl).free 0
                       have fr1 := (S1.at_ 5 rfl).free 1
                       have zo : w.heap.size ≤ w3.heap.size := S1.base_le 3 rfl
                       have S2 := ((S1.put 3 rfl 1 (.slice A5 (j + 1 + (n1 - j)) c5)).put 5 rfl 0 (.slice Au nu cu)).put 5 rfl 1 (.slice A5 (j + 1 + (n1 - j)) c5)
                       have C2 := Lib.hid (((C1.setCell (p := ⟨w3.heap.size, 1, none⟩) zo (.slice A5 (j + 1 + (n1 - j)) c5)).setCell (p := ⟨w.heap.size + 1, 0, none⟩) (by simp) (.slice Au nu cu)).setCell (p := ⟨w.heap.size + 1, 1, none⟩) (by simp) (.slice A5 (j + 1 + (n1 - j)) c5))
                       have r0 := Lib.hid ((S2.at_ 5 rfl).cell 0)
                       have r1 := Lib.hid ((S2.at_ 5 rfl).cell 1)
                       obtain ⟨fx, fy, S3⟩ := (S2.pick 4 rfl).cut (ds := [msgD t.flight]) (ds' := [linkD t.cuts]) (vs := [.slice Au nu cu]) (vs' := [.slice Ax nx cx]) rfl
                       have H := Lib.hid (show Has _ w.heap.size ([msgD t.flight] ++ [linkD (cutNet t (linkOf x y)).cuts]) ([.slice Au nu cu] ++ [.slice A5 (j + 1 + (n1 - j)) c5]) from ((S3.pick 1 rfl).pick 2 rfl).pair)
                       clear S c o5 n5 s5 t5 S1 C1 S2 S3 hsr HF HH hl0))
                  all_goals exact bodyPost_ret (v := .tuple #[.agg #[.slice Au nu cu, .slice A5 (j + 1 + (n1 - j)) c5], .bool true]) (by simp [results, Try.results53, go_sem, r0.out, r1.out]) rfl ⟨_, _, _, _, _, _, by rw [HD.out], by rw [HD.out]; exact H.out, C2.out⟩
              · intro K hK
                go_simp
                replace S := S.boxAt c.size (w9.heap.size) rfl #[.int .i64 la, .int .i64 lb] 75
                replace c := c.alloc c.size (.cells #[.int .i64 la, .int .i64 lb] 75)
                clear HF
                have HF : (w9.alloc (.cells #[.int .i64 la, .int .i64 lb] 75)).cell? ⟨w.heap.size, 1, none⟩ = some (.slice (some ⟨b, off, none⟩) n1 c1) ∧ (w9.alloc (.cells #[.int .i64 la, .int .i64 lb] 75)).cell? ⟨w6.heap.size, 0, none⟩ = some (.int .i64 la) ∧ (w9.alloc (.cells #[.int .i64 la, .int .i64 lb] 75)).cell? ⟨w6.heap.size, 1, none⟩ = some (.int .i64 lb) := ⟨(S.at_ 5 rfl).cell 1, (S.at_ 1 rfl).cell 0, (S.at_ 1 rfl).cell 1⟩
                refine hK _ _ (fun _ => HF) ?_
                clear hK K
                try simp only [Act.put]
                generalize hw : w9.alloc (.cells #[.int .i64 la, .int .i64 lb] 75) = w10 at *
                have HWw10 := Lib.hid hw
                clear hw
                refine wpAnyL_step (i := 0) (by kernel_rfl) rfl rfl ?_
                intro K hK
                go_simp
                replace S := S.boxAt c.size (w10.heap.size) rfl #[] 75
                replace c := c.alloc c.size (.cells #[] 75)
                clear HF
                have HF : (w10.alloc (.cells #[] 75)).cell? ⟨w.heap.size, 1, none⟩ = some (.slice (some ⟨b, off, none⟩) n1 c1) ∧ (w10.alloc (.cells #[] 75)).cell? ⟨w6.heap.size, 0, none⟩ = some (.int .i64 la) ∧ (w10.alloc (.cells #[] 75)).cell? ⟨w6.heap.size, 1, none⟩ = some (.int .i64 lb) := ⟨(S.at_ 6 rfl).cell 1, (S.at_ 2 rfl).cell 0, (S.at_ 2 rfl).cell 1⟩
                refine hK _ _ (fun _ => HF) ?_
                clear hK K
                try simp only [Act.put]
                generalize hw : w10.alloc (.cells #[] 75) = w11 at *
                have HWw11 := Lib.hid hw
                clear hw
                refine wpAnyL_step (i := 5) (by kernel_rfl) rfl rfl ?_
                intro K hK
                replace S := S.pick 0 rfl
                replace S := S.blk0 (k := 2) (f := linkC)
                replace S := S.pick 0 rfl
                replace S := (S.flat link_flat (t.cuts.take j)).swap
                have hsr := (Rd.front linkC_len (by decide) (HH.out.keep c) hjc (show j ≤ c1 by have := HN.out; omega) hcm).src link_flat linkC_len (by decide)
                refine wp_append_fresh (l2 := t.cuts.take j) _ _ (by rfl) Try.underlying28 infoLink (by rfl) (by decide) linkC_len (by rfl) (S.own_ 0 rfl) (S.nodup_own 0 rfl) (by rfl) hsr.1 (S.own_ 1 rfl) hsr.2 (S.nodup_own 1 rfl) S.apart (by omega) (by omega) ?_
                intro A3 c3 w12 fp3 o3 n3 s3 t3
                have S' := S.merge t3 o3 n3 s3 c.size
                replace c := c.trans (S.below 0 rfl t3 c.size)
                clear S; have S := S'; clear S' o3 n3 s3 t3 hsr
                clear HF
                have HF : w12.cell? ⟨w.heap.size, 1, none⟩ = some (.slice (some ⟨b, off, none⟩) n1 c1) ∧ w12.cell? ⟨w6.heap.size, 0, none⟩ = some (.int .i64 la) ∧ w12.cell? ⟨w6.heap.size, 1, none⟩ = some (.int .i64 lb) := ⟨(S.at_ 6 rfl).cell 1, (S.at_ 2 rfl).cell 0, (S.at_ 2 rfl).cell 1⟩
                refine hK _ _ (fun _ => HF) ?_
                clear hK K
                try simp only [Act.put]
                replace S := S.pick 0 rfl
                replace S := (S.flat link_flat ([(⟨la, lb⟩ : LinkM)])).swap
                have hsr : Src w12 (some ⟨w9.heap.size, 0, none⟩) 1 2 (ivals ([(⟨la, lb⟩ : LinkM)].flatMap fun x => [x.a, x.b])) ∧ [(⟨la, lb⟩ : LinkM)].length = 1 := ⟨Src.of_blk (S.at_ 2 rfl) (fun i hi => by
                  rcases (show i = 0 ∨ i = 1 by omega) with rfl | rfl <;> rfl), rfl⟩
                refine wpAnyL_step (i := 8) (by kernel_rfl) rfl rfl ?_
                intro K hK
                refine wp_append_many (l := t.cuts.take j) (l2 := [(⟨la, lb⟩ : LinkM)]) _ _ (by rfl) Try.underlying28 infoLink (by rfl) (by decide) linkC_len (by rfl) (S.own_ 0 rfl) (S.nodup_own 0 rfl) (by rfl) hsr.1 (S.own_ 1 rfl) hsr.2 (S.nodup_own 1 rfl) S.apart (by omega) (by omega) ?_
                intro A4 c4 w13 fp4 o3 n3 s3 t3
                have S' := S.merge t3 o3 n3 s3 c.size
                replace c := c.trans (S.below 0 rfl t3 c.size)
                clear S; have S := S'; clear S' o3 n3 s3 t3 hsr
                clear HF
                have HF : w13.cell? ⟨w.heap.size, 1, none⟩ = some (.slice (some ⟨b, off, none⟩) n1 c1) ∧ w13.cell? ⟨w6.heap.size, 0, none⟩ = some (.int .i64 la) ∧ w13.cell? ⟨w6.heap.size, 1, none⟩ = some (.int .i64 lb) := ⟨(S.at_ 6 rfl).cell 1, (S.at_ 2 rfl).cell 0, (S.at_ 2 rfl).cell 1⟩
                refine hK _ _ (fun _ => HF) ?_
                clear hK K
                try simp only [Act.put]
                refine wpAnyL_step (i := 9) (by kernel_rfl) rfl rfl ?_
                intro K hK
                go_simp
                refine hK _ _ (fun h => nomatch (show true = false from h)) ?_
                clear hK K
                try simp only [Act.put]
                refine wpAnyL_done (by kernel_rfl) ?_ _
                try simp only [Act.put]
                have hsr := (Rd.back (A2 := (if c1 = j then some ⟨b, off, none⟩ else some ⟨b, off + j * 2, none⟩)) (c' := c1 - j) linkC_len (by decide) (HH.out.keep c) hjc (fun b' off' e hl => by
                  have hc1 := HN.out
                  injection e with e
                  injection e with e1 e2
                  rw [if_neg (by omega), e1, e2]) (by have := HN.out; omega) (by omega)).src link_flat linkC_len (by decide)
                have HE := Lib.hid (show t.cuts.take j ++ [(⟨la, lb⟩ : LinkM)] ++ t.cuts.drop j = (cutNet t (linkOf x y)).cuts by unfold cutNet; rw [hlow, HLK.out])
                replace S := S.pick 0 rfl
                replace S := (S.flat link_flat (t.cuts.drop j)).swap
                have f14 : w13.cell? ⟨w.heap.size, 1, none⟩ = some (.slice (some ⟨b, off, none⟩) n1 c1) := (S.at_ 7 rfl).cell 1
                go_wp2_with (first
                  | (at_builtin
                     refine wpList_append_many (l := t.cuts.take j ++ [(⟨la, lb⟩ : LinkM)]) (l2 := t.cuts.drop j) rfl (.tmp 58) (.tmp 62) (by rfl) Try.underlying28 infoLink (by rfl) (by decide) linkC_len (by rfl) (S.own_ 0 rfl) (S.nodup_own 0 rfl) (by rfl) hsr.1 (S.own_ 1 rfl) hsr.2 (S.nodup_own 1 rfl) S.apart (by omega) (by omega) ?_
                     intro A5 c5 w20 fp5 o5 n5 s5 t5
                     rw [HE.out] at o5
                     have S1 := S.merge t5 o5 n5 s5 c.size
                     have C1 := c.trans (S.below 0 rfl t5 c.size)
                     have eo0 : w20.cell? ⟨w3.heap.size, 0, none⟩ = some (.slice Au nu cu) := (S1.at_ 3 rfl).cell 0
                     have eo1 : w20.cell? ⟨w3.heap.size, 1, none⟩ = some (.slice Ax nx cx) := (S1.at_ 3 rfl).cell 1
                     have fo1 := (S1.at_ 3 rfl).free 1
                     have er0 : w20.cell? ⟨w.heap.size + 1, 0, none⟩ = some (.slice none 0 0) := (S1.at_ 5 rfl).cell 0
                     have er1 : w20.cell? ⟨w.heap.size + 1, 1, none⟩ = some (.slice none 0 0) := (S1.at_ 5 rfl).cell 1
                     have fr0 := (S1.at_ 5 rfl).free 0
                     have fr1 := (S1.at_ 5 rfl).free 1
                     have zo : w.heap.size ≤ w3.heap.size := S1.base_le 3 rfl
                     have S2 := ((S1.put 3 rfl 1 (.slice A5 (j + 1 + (n1 - j)) c5)).put 5 rfl 0 (.slice Au nu cu)).put 5 rfl 1 (.slice A5 (j + 1 + (n1 - j)) c5)
                     have C2 := Lib.hid (((C1.setCell (p := ⟨w3.heap.size, 1, none⟩) zo (.slice A5 (j + 1 + (n1 - j)) c5)).setCell (p := ⟨w.heap.size + 1, 0, none⟩) (by simp) (.slice Au nu cu)).setCell (p := ⟨w.heap.size + 1, 1, none⟩) (by simp) (.slice A5 (j + 1 + (n1 - j)) c5))
                     have r0 := Lib.hid ((S2.at_ 5 rfl).cell 0)
                     have r1 := Lib.hid ((S2.at_ 5 rfl).cell 1)
                     obtain ⟨fx, fy, S3⟩ := (S2.pick 4 rfl).cut (ds := [msgD t.flight]) (ds' := [linkD t.cuts]) (vs := [.slice Au nu cu]) (vs' := [.slice Ax nx cx]) rfl
                     have H := Lib.hid (show Has _ w.heap.size ([msgD t.flight] ++ [linkD (cutNet t (linkOf x y)).cuts]) ([.slice Au nu cu] ++ [.slice A5 (j + 1 + (n1 - j)) c5]) from ((S3.pick 1 rfl).pick 2 rfl).pair)
                     clear S c o5 n5 s5 t5 S1 C1 S2 S3 hsr HF HH hl0))
                all_goals exact bodyPost_ret (v := .tuple #[.agg #[.slice Au nu cu, .slice A5 (j + 1 + (n1 - j)) c5], .bool true]) (by simp [results, Try.results53, go_sem, r0.out, r1.out]) rfl ⟨_, _, _, _, _, _, by rw [HD.out], by rw [HD.out]; exact H.out, C2.out⟩
          · have hlow : lowN t.cuts (linkOf x y) = n1 := by rw [HLK.out]; exact lowN_is (by have := HL.out; omega) (fun q hq _ => hall q hq (by have := HL.out; omega)) (fun h => absurd h (by have := HL.out; omega))
            have hlow2 : lowN t.cuts (linkOf x y) = j := by omega
            clear hlow
            have hlow := hlow2
            clear hlow2
            obtain ⟨_, _, _, e, _, hnc, hcm, hel⟩ := HH.out.links
            injection e with e1 e2 e3
            subst e1 e2 e3
            have HN := Lib.hid hnc
            clear hall bl hnc
            rcases Nat.eq_zero_or_pos n1 with hz | hz
            · clear hel
              have HZ := Lib.hid hz
              clear hz
              rcases A1 with _ | ⟨b, off, path⟩
              · have f8 : wr.cell? ⟨w.heap.size, 1, none⟩ = some (.slice none n1 c1) := (S.at_ 4 rfl).cell 1
                go_wp2_with fail
                refine wp_region_cls (fun v => v.cell? ⟨w.heap.size, 1, none⟩ = some (.slice none n1 c1)) (by kernel_rfl) (by kernel_rfl) (fun v hv => (hv.cell (p := ⟨w.heap.size, 1, none⟩) (lt_of_cell f8)).trans f8) ?_
                intro C HF HC
                repeat
                  (refine wpQuiet_step (fun K hK => ?_)
                   go_simp
                   first
                     | (refine hK _ ?_; clear hK K)
                     | (apply Exists.intro
                        refine ⟨fun v hv => ?_, hK _ ?_⟩
                        · have a0 := HF v hv
                          first
                            | (go_at_call 80; fail)
                            | exact rfl
                            | (go_simp; exact rfl)
                            | (go_simp; exact ⟨rfl, hv⟩)
                        clear hK K))
                refine wpQuiet_nil ?_
                intro w8 b9
                replace c := c.trans (b9.mono c.size)
                replace S := S.keep b9
                clear b9 f8
                have HQ := Lib.hid hlt
                clear hlt
                have i0 : (0 : Int) ≤ (j : Int) := by omega
                have i1 : (j : Int) ≤ (c1 : Int) := by have := HN.out; omega
                have i4 : (j : Int) ≤ (n1 : Int) := by omega
                have hjc : j ≤ n1 := by omega
                have f9 : w8.cell? ⟨w.heap.size, 1, none⟩ = some (.slice none n1 c1) := (S.at_ 4 rfl).cell 1
                have f10 : w8.cell? ⟨w6.heap.size, 0, none⟩ = some (.int .i64 la) := (S.at_ 0 rfl).cell 0
                have f11 : w8.cell? ⟨w6.heap.size, 1, none⟩ = some (.int .i64 lb) := (S.at_ 0 rfl).cell 1
                go_wp2_with fail
                refine wp_region_L (fun v => v.cell? ⟨w.heap.size, 1, none⟩ = some (.slice none n1 c1) ∧ v.cell? ⟨w6.heap.size, 0, none⟩ = some (.int .i64 la) ∧ v.cell? ⟨w6.heap.size, 1, none⟩ = some (.int .i64 lb)) 9 (by kernel_rfl) ?_
                clear f9 f10 f11
                replace S := S.keep ((Below.refl _ _).drew)
                replace c := c.drew
                generalize w8.drew = w9 at *
                have HF : w9.cell? ⟨w.heap.size, 1, none⟩ = some (.slice none n1 c1) ∧ w9.cell? ⟨w6.heap.size, 0, none⟩ = some (.int .i64 la) ∧ w9.cell? ⟨w6.heap.size, 1, none⟩ = some (.int .i64 lb) := ⟨(S.at_ 4 rfl).cell 1, (S.at_ 0 rfl).cell 0, (S.at_ 0 rfl).cell 1⟩
                refine wpAnyL_take (i := 1) (v := ?_) rfl rfl (by kernel_rfl) (by kernel_rfl) (by kernel_rfl) (by kernel_rfl) (by kernel_rfl) (fun _ _ _ h => h) HF (Or.inl ⟨by rfl, ?_⟩) ?_
                rotate_left 1
                · (rintro v ⟨a0, a1, a2⟩; go_simp; try with_reducible rfl)
                try simp only [Act.put]
                refine wpAnyL_take (i := 2) (v := ?_) rfl rfl (by kernel_rfl) (by kernel_rfl) (by kernel_rfl) (by kernel_rfl) (by kernel_rfl) (fun _ _ _ h => h) HF (Or.inl ⟨by rfl, ?_⟩) ?_
                rotate_left 1
                · (rintro v ⟨a0, a1, a2⟩; go_simp; try with_reducible rfl)
                try simp only [Act.put]
                refine wpAnyL_pure (i := 3) (v := ?_) rfl rfl (by kernel_rfl) (by kernel_rfl) (by kernel_rfl) (fun _ _ _ h => h) HF (Or.inl ⟨by rfl, ?_⟩) ?_
                rotate_left 1
                · (intro v _; go_simp; try with_reducible rfl)
                try simp only [Act.put]
                refine wpAnyL_pure (i := 4) (v := ?_) rfl rfl (by kernel_rfl) (by kernel_rfl) (by kernel_rfl) (fun _ _ _ h => h) HF (Or.inl ⟨by rfl, ?_⟩) ?_
                rotate_left 1
                · (intro v _; go_simp; try with_reducible rfl)
                try simp only [Act.put]
                refine wpAnyL_take (i := 6) (v := ?_) rfl rfl (by kernel_rfl) (by kernel_rfl) (by kernel_rfl) (by kernel_rfl) (by kernel_rfl) (fun _ _ _ h => h) HF (Or.inl ⟨by rfl, ?_⟩) ?_
                rotate_left 1
                · (rintro v ⟨a0, a1, a2⟩; go_simp; try with_reducible rfl)
                try simp only [Act.put]
                refine wpAnyL_two (i := 0) (k := 7) (by kernel_rfl) rfl rfl rfl rfl ?_ ?_
                · intro K hK
                  go_simp
                  replace S := S.boxAt c.size (w9.heap.size) rfl #[] 75
                  replace c := c.alloc c.size (.cells #[] 75)
                  clear HF
                  have HF : (w9.alloc (.cells #[] 75)).cell? ⟨w.heap.size, 1, none⟩ = some (.slice none n1 c1) ∧ (w9.alloc (.cells #[] 75)).cell? ⟨w6.heap.size, 0, none⟩ = some (.int .i64 la) ∧ (w9.alloc (.cells #[] 75)).cell? ⟨w6.heap.size, 1, none⟩ = some (.int .i64 lb) := ⟨(S.at_ 5 rfl).cell 1, (S.at_ 1 rfl).cell 0, (S.at_ 1 rfl).cell 1⟩
                  refine hK _ _ (fun _ => HF) ?_
                  clear hK K
                  try simp only [Act.put]
                  generalize hw : w9.alloc (.cells #[] 75) = w10 at *
                  have HWw10 := Lib.hid hw
                  clear hw
                  refine wpAnyL_two (i := 5) (k := 7) (by kernel_rfl) rfl rfl rfl rfl ?_ ?_
                  · intro K hK
                    replace S := S.pick 0 rfl
                    replace S := S.blk0 (k := 2) (f := linkC)
                    replace S := S.pick 0 rfl
                    replace S := (S.flat link_flat (t.cuts.take j)).swap
                    have hsr := (Rd.front linkC_len (by decide) (HH.out.keep c) hjc (show j ≤ c1 by have := HN.out; omega) hcm).src link_flat linkC_len (by decide)
                    refine wp_append_fresh (l2 := t.cuts.take j) _ _ (by rfl) Try.underlying28 infoLink (by rfl) (by decide) linkC_len (by rfl) (S.own_ 0 rfl) (S.nodup_own 0 rfl) (by rfl) hsr.1 (S.own_ 1 rfl) hsr.2 (S.nodup_own 1 rfl) S.apart (by omega) (by omega) ?_
                    intro A3 c3 w11 fp3 o3 n3 s3 t3
                    have S' := S.merge t3 o3 n3 s3 c.size
                    replace c := c.trans (S.below 0 rfl t3 c.size)
                    clear S; have S := S'; clear S' o3 n3 s3 t3 hsr
                    clear HF
                    have HF : w11.cell? ⟨w.heap.size, 1, none⟩ = some (.slice none n1 c1) ∧ w11.cell? ⟨w6.heap.size, 0, none⟩ = some (.int .i64 la) ∧ w11.cell? ⟨w6.heap.size, 1, none⟩ = some (.int .i64 lb) := ⟨(S.at_ 5 rfl).cell 1, (S.at_ 1 rfl).cell 0, (S.at_ 1 rfl).cell 1⟩
                    refine hK _ _ (fun _ => HF) ?_
                    clear hK K
                    try simp only [Act.put]
                    refine wpAnyL_step (i := 7) (by kernel_rfl) rfl rfl ?_
                    intro K hK
                    go_simp
                    replace S := S.boxAt c.size (w11.heap.size) rfl #[.int .i64 la, .int .i64 lb] 75
                    replace c := c.alloc c.size (.cells #[.int .i64 la, .int .i64 lb] 75)
                    clear HF
                    have HF : (w11.alloc (.cells #[.int .i64 la, .int .i64 lb] 75)).cell? ⟨w.heap.size, 1, none⟩ = some (.slice none n1 c1) ∧ (w11.alloc (.cells #[.int .i64 la, .int .i64 lb] 75)).cell? ⟨w6.heap.size, 0, none⟩ = some (.int .i64 la) ∧ (w11.alloc (.cells #[.int .i64 la, .int .i64 lb] 75)).cell? ⟨w6.heap.size, 1, none⟩ = some (.int .i64 lb) := ⟨(S.at_ 6 rfl).cell 1, (S.at_ 2 rfl).cell 0, (S.at_ 2 rfl).cell 1⟩
                    refine hK _ _ (fun _ => HF) ?_
                    clear hK K
                    try simp only [Act.put]
                    generalize hw : w11.alloc (.cells #[.int .i64 la, .int .i64 lb] 75) = w12 at *
                    have HWw12 := Lib.hid hw
                    clear hw
                    replace S := S.pick 1 rfl
                    replace S := (S.flat link_flat ([(⟨la, lb⟩ : LinkM)])).swap
                    have hsr : Src w12 (some ⟨w11.heap.size, 0, none⟩) 1 2 (ivals ([(⟨la, lb⟩ : LinkM)].flatMap fun x => [x.a, x.b])) ∧ [(⟨la, lb⟩ : LinkM)].length = 1 := ⟨Src.of_blk (S.at_ 2 rfl) (fun i hi => by
                      rcases (show i = 0 ∨ i = 1 by omega) with rfl | rfl <;> rfl), rfl⟩
                    refine wpAnyL_step (i := 8) (by kernel_rfl) rfl rfl ?_
                    intro K hK
                    refine wp_append_many (l := t.cuts.take j) (l2 := [(⟨la, lb⟩ : LinkM)]) _ _ (by rfl) Try.underlying28 infoLink (by rfl) (by decide) linkC_len (by rfl) (S.own_ 0 rfl) (S.nodup_own 0 rfl) (by rfl) hsr.1 (S.own_ 1 rfl) hsr.2 (S.nodup_own 1 rfl) S.apart (by omega) (by omega) ?_
                    intro A4 c4 w13 fp4 o3 n3 s3 t3
                    have S' := S.merge t3 o3 n3 s3 c.size
                    replace c := c.trans (S.below 0 rfl t3 c.size)
                    clear S; have S := S'; clear S' o3 n3 s3 t3 hsr
                    clear HF
                    have HF : w13.cell? ⟨w.heap.size, 1, none⟩ = some (.slice none n1 c1) ∧ w13.cell? ⟨w6.heap.size, 0, none⟩ = some (.int .i64 la) ∧ w13.cell? ⟨w6.heap.size, 1, none⟩ = some (.int .i64 lb) := ⟨(S.at_ 6 rfl).cell 1, (S.at_ 2 rfl).cell 0, (S.at_ 2 rfl).cell 1⟩
                    refine hK _ _ (fun _ => HF) ?_
                    clear hK K
                    try simp only [Act.put]
                    refine wpAnyL_step (i := 9) (by kernel_rfl) rfl rfl ?_
                    intro K hK
                    go_simp
                    refine hK _ _ (fun h => nomatch (show true = false from h)) ?_
                    clear hK K
                    try simp only [Act.put]
                    refine wpAnyL_done (by kernel_rfl) ?_ _
                    try simp only [Act.put]
                    have hsr1 : ∀ A9 : Option Addr, Src w13 A9 (n1 - j) 2 (ivals ((t.cuts.drop j).flatMap fun x => [x.a, x.b])) := fun A9 h9 => absurd h9 (by have := HZ.out; omega)
                    have hsr2 : (t.cuts.drop j).length = n1 - j := by have := HL.out; rw [List.length_drop]; omega
                    have HE := Lib.hid (show t.cuts.take j ++ [(⟨la, lb⟩ : LinkM)] ++ t.cuts.drop j = (cutNet t (linkOf x y)).cuts by unfold cutNet; rw [hlow, HLK.out])
                    replace S := S.pick 0 rfl
                    replace S := (S.flat link_flat (t.cuts.drop j)).swap
                    have f12 : w13.cell? ⟨w.heap.size, 1, none⟩ = some (.slice none n1 c1) := (S.at_ 7 rfl).cell 1
                    go_wp2_with (first
                      | (at_builtin
                         refine wpList_append_many (l := t.cuts.take j ++ [(⟨la, lb⟩ : LinkM)]) (l2 := t.cuts.drop j) rfl (.tmp 58) (.tmp 62) (by rfl) Try.underlying28 infoLink (by rfl) (by decide) linkC_len (by rfl) (S.own_ 0 rfl) (S.nodup_own 0 rfl) (by rfl) (hsr1 _) (S.own_ 1 rfl) hsr2 (S.nodup_own 1 rfl) S.apart (by omega) (by omega) ?_
                         intro A5 c5 w20 fp5 o5 n5 s5 t5
                         rw [HE.out] at o5
                         have S1 := S.merge t5 o5 n5 s5 c.size
                         have C1 := c.trans (S.below 0 rfl t5 c.size)
                         have eo0 : w20.cell? ⟨w3.heap.size, 0, none⟩ = some (.slice Au nu cu) := (S1.at_ 3 rfl).cell 0
                         have eo1 : w20.cell? ⟨w3.heap.size, 1, none⟩ = some (.slice Ax nx cx) := (S1.at_ 3 rfl).cell 1
                         have fo1 := (S1.at_ 3 rfl).free 1
                         have er0 : w20.cell? ⟨w.heap.size + 1, 0, none⟩ = some (.slice none 0 0) := (S1.at_ 5 rfl).cell 0
                         have er1 : w20.cell? ⟨w.heap.size + 1, 1, none⟩ = some (.slice none 0 0) := (S1.at_ 5 rfl).cell 1
                         have fr0 := (S1.at_ 5 rfl).free 0
                         have fr1 := (S1.at_ 5 rfl).free 1
                         have zo : w.heap.size ≤ w3.heap.size := S1.base_le 3 rfl
                         have S2 := ((S1.put 3 rfl 1 (.slice A5 (j + 1 + (n1 - j)) c5)).put 5 rfl 0 (.slice Au nu cu)).put 5 rfl 1 (.slice A5 (j + 1 + (n1 - j)) c5)
                         have C2 := Lib.hid (((C1.setCell (p := ⟨w3.heap.size, 1, none⟩) zo (.slice A5 (j + 1 + (n1 - j)) c5)).setCell (p := ⟨w.heap.size + 1, 0, none⟩) (by simp) (.slice Au nu cu)).setCell (p := ⟨w.heap.size + 1, 1, none⟩) (by simp) (.slice A5 (j + 1 + (n1 - j)) c5))
                         have r0 := Lib.hid ((S2.at_ 5 rfl).cell 0)
                         have r1 := Lib.hid ((S2.at_ 5 rfl).cell 1)
                         obtain ⟨fx, fy, S3⟩ := (S2.pick 4 rfl).cut (ds := [msgD t.flight]) (ds' := [linkD t.cuts]) (vs := [.slice Au nu cu]) (vs' := [.slice Ax nx cx]) rfl
                         have H := Lib.hid (show Has _ w.heap.size ([msgD t.flight] ++ [linkD (cutNet t (linkOf x y)).cuts]) ([.slice Au nu cu] ++ [.slice A5 (j + 1 + (n1 - j)) c5]) from ((S3.pick 1 rfl).pick 2 rfl).pair)
                         clear S c o5 n5 s5 t5 S1 C1 S2 S3 hsr1 hsr2 HF HH hl0))
                    all_goals exact bodyPost_ret (v := .tuple #[.agg #[.slice Au nu cu, .slice A5 (j + 1 + (n1 - j)) c5], .bool true]) (by simp [results, Try.results53, go_sem, r0.out, r1.out]) rfl ⟨_, _, _, _, _, _, by rw [HD.out], by rw [HD.out]; exact H.out, C2.out⟩
                  · intro K hK
                    go_simp
                    replace S := S.boxAt c.size (w10.heap.size) rfl #[.int .i64 la, .int .i64 lb] 75
                    replace c := c.alloc c.size (.cells #[.int .i64 la, .int .i64 lb] 75)
                    clear HF
                    have HF : (w10.alloc (.cells #[.int .i64 la, .int .i64 lb] 75)).cell? ⟨w.heap.size, 1, none⟩ = some (.slice none n1 c1) ∧ (w10.alloc (.cells #[.int .i64 la, .int .i64 lb] 75)).cell? ⟨w6.heap.size, 0, none⟩ = some (.int .i64 la) ∧ (w10.alloc (.cells #[.int .i64 la, .int .i64 lb] 75)).cell? ⟨w6.heap.size, 1, none⟩ = some (.int .i64 lb) := ⟨(S.at_ 6 rfl).cell 1, (S.at_ 2 rfl).cell 0, (S.at_ 2 rfl).cell 1⟩
                    refine hK _ _ (fun _ => HF) ?_
                    clear hK K
                    try simp only [Act.put]
                    generalize hw : w10.alloc (.cells #[.int .i64 la, .int .i64 lb] 75) = w11 at *
                    have HWw11 := Lib.hid hw
                    clear hw
                    refine wpAnyL_step (i := 5) (by kernel_rfl) rfl rfl ?_
                    intro K hK
                    replace S := S.pick 1 rfl
                    replace S := S.blk0 (k := 2) (f := linkC)
                    replace S := S.pick 0 rfl
                    replace S := (S.flat link_flat (t.cuts.take j)).swap
                    have hsr := (Rd.front linkC_len (by decide) (HH.out.keep c) hjc (show j ≤ c1 by have := HN.out; omega) hcm).src link_flat linkC_len (by decide)
                    refine wp_append_fresh (l2 := t.cuts.take j) _ _ (by rfl) Try.underlying28 infoLink (by rfl) (by decide) linkC_len (by rfl) (S.own_ 0 rfl) (S.nodup_own 0 rfl) (by rfl) hsr.1 (S.own_ 1 rfl) hsr.2 (S.nodup_own 1 rfl) S.apart (by omega) (by omega) ?_
                    intro A3 c3 w12 fp3 o3 n3 s3 t3
                    have S' := S.merge t3 o3 n3 s3 c.size
                    replace c := c.trans (S.below 0 rfl t3 c.size)
                    clear S; have S := S'; clear S' o3 n3 s3 t3 hsr
                    clear HF
                    have HF : w12.cell? ⟨w.heap.size, 1, none⟩ = some (.slice none n1 c1) ∧ w12.cell? ⟨w6.heap.size, 0, none⟩ = some (.int .i64 la) ∧ w12.cell? ⟨w6.heap.size, 1, none⟩ = some (.int .i64 lb) := ⟨(S.at_ 6 rfl).cell 1, (S.at_ 2 rfl).cell 0, (S.at_ 2 rfl).cell 1⟩
                    refine hK _ _ (fun _ => HF) ?_
                    clear hK K
                    try simp only [Act.put]
                    replace S := S.pick 0 rfl
                    replace S := (S.flat link_flat ([(⟨la, lb⟩ : LinkM)])).swap
                    have hsr : Src w12 (some ⟨w10.heap.size, 0, none⟩) 1 2 (ivals ([(⟨la, lb⟩ : LinkM)].flatMap fun x => [x.a, x.b])) ∧ [(⟨la, lb⟩ : LinkM)].length = 1 := ⟨Src.of_blk (S.at_ 2 rfl) (fun i hi => by
                      rcases (show i = 0 ∨ i = 1 by omega) with rfl | rfl <;> rfl), rfl⟩
                    refine wpAnyL_step (i := 8) (by kernel_rfl) rfl rfl ?_
                    intro K hK
                    refine wp_append_many (l := t.cuts.take j) (l2 := [(⟨la, lb⟩ : LinkM)]) _ _ (by rfl) Try.underlying28 infoLink (by rfl) (by decide) linkC_len (by rfl) (S.own_ 0 rfl) (S.nodup_own 0 rfl) (by rfl) hsr.1 (S.own_ 1 rfl) hsr.2 (S.nodup_own 1 rfl) S.apart (by omega) (by omega) ?_
                    intro A4 c4 w13 fp4 o3 n3 s3 t3
                    have S' := S.merge t3 o3 n3 s3 c.size
                    replace c := c.trans (S.below 0 rfl t3 c.size)
                    clear S; have S := S'; clear S' o3 n3 s3 t3 hsr
                    clear HF
                    have HF : w13.cell? ⟨w.heap.size, 1, none⟩ = some (.slice none n1 c1) ∧ w13.cell? ⟨w6.heap.size, 0, none⟩ = some (.int .i64 la) ∧ w13.cell? ⟨w6.heap.size, 1, none⟩ = some (.int .i64 lb) := ⟨(S.at_ 6 rfl).cell 1, (S.at_ 2 rfl).cell 0, (S.at_ 2 rfl).cell 1⟩
                    refine hK _ _ (fun _ => HF) ?_
                    clear hK K
                    try simp only [Act.put]
                    refine wpAnyL_step (i := 9) (by kernel_rfl) rfl rfl ?_
                    intro K hK
                    go_simp
                    refine hK _ _ (fun h => nomatch (show true = false from h)) ?_
                    clear hK K
                    try simp only [Act.put]
                    refine wpAnyL_done (by kernel_rfl) ?_ _
                    try simp only [Act.put]
                    have hsr1 : ∀ A9 : Option Addr, Src w13 A9 (n1 - j) 2 (ivals ((t.cuts.drop j).flatMap fun x => [x.a, x.b])) := fun A9 h9 => absurd h9 (by have := HZ.out; omega)
                    have hsr2 : (t.cuts.drop j).length = n1 - j := by have := HL.out; rw [List.length_drop]; omega
                    have HE := Lib.hid (show t.cuts.take j ++ [(⟨la, lb⟩ : LinkM)] ++ t.cuts.drop j = (cutNet t (linkOf x y)).cuts by unfold cutNet; rw [hlow, HLK.out])
                    replace S := S.pick 0 rfl
                    replace S := (S.flat link_flat (t.cuts.drop j)).swap
                    have f12 : w13.cell? ⟨w.heap.size, 1, none⟩ = some (.slice none n1 c1) := (S.at_ 7 rfl).cell 1
                    go_wp2_with (first
                      | (at_builtin
                         refine wpList_append_many (l := t.cuts.take j ++ [(⟨la, lb⟩ : LinkM)]) (l2 := t.cuts.drop j) rfl (.tmp 58) (.tmp 62) (by rfl) Try.underlying28 infoLink (by rfl) (by decide) linkC_len (by rfl) (S.own_ 0 rfl) (S.nodup_own 0 rfl) (by rfl) (hsr1 _) (S.own_ 1 rfl) hsr2 (S.nodup_own 1 rfl) S.apart (by omega) (by omega) ?_
                         intro A5 c5 w20 fp5 o5 n5 s5 t5
                         rw [HE.out] at o5
                         have S1 := S.merge t5 o5 n5 s5 c.size
                         have C1 := c.trans (S.below 0 rfl t5 c.size)
                         have eo0 : w20.cell? ⟨w3.heap.size, 0, none⟩ = some (.slice Au nu cu) := (S1.at_ 3 rfl).cell 0
                         have eo1 : w20.cell? ⟨w3.heap.size, 1, none⟩ = some (.slice Ax nx cx) := (S1.at_ 3 rfl).cell 1
                         have fo1 := (S1.at_ 3 rfl).free 1
                         have er0 : w20.cell? ⟨w.heap.size + 1, 0, none⟩ = some (.slice none 0 0) := (S1.at_ 5 rfl).cell 0
                         have er1 : w20.cell? ⟨w.heap.size + 1, 1, none⟩ = some (.slice none 0 0) := (S1.at_ 5 rfl).cell 1
                         have fr0 := (S1.at_ 5 rfl).free 0
                         have fr1 := (S1.at_ 5 rfl).free 1
                         have zo : w.heap.size ≤ w3.heap.size := S1.base_le 3 rfl
                         have S2 := ((S1.put 3 rfl 1 (.slice A5 (j + 1 + (n1 - j)) c5)).put 5 rfl 0 (.slice Au nu cu)).put 5 rfl 1 (.slice A5 (j + 1 + (n1 - j)) c5)
                         have C2 := Lib.hid (((C1.setCell (p := ⟨w3.heap.size, 1, none⟩) zo (.slice A5 (j + 1 + (n1 - j)) c5)).setCell (p := ⟨w.heap.size + 1, 0, none⟩) (by simp) (.slice Au nu cu)).setCell (p := ⟨w.heap.size + 1, 1, none⟩) (by simp) (.slice A5 (j + 1 + (n1 - j)) c5))
                         have r0 := Lib.hid ((S2.at_ 5 rfl).cell 0)
                         have r1 := Lib.hid ((S2.at_ 5 rfl).cell 1)
                         obtain ⟨fx, fy, S3⟩ := (S2.pick 4 rfl).cut (ds := [msgD t.flight]) (ds' := [linkD t.cuts]) (vs := [.slice Au nu cu]) (vs' := [.slice Ax nx cx]) rfl
                         have H := Lib.hid (show Has _ w.heap.size ([msgD t.flight] ++ [linkD (cutNet t (linkOf x y)).cuts]) ([.slice Au nu cu] ++ [.slice A5 (j + 1 + (n1 - j)) c5]) from ((S3.pick 1 rfl).pick 2 rfl).pair)
                         clear S c o5 n5 s5 t5 S1 C1 S2 S3 hsr1 hsr2 HF HH hl0))
                    all_goals exact bodyPost_ret (v := .tuple #[.agg #[.slice Au nu cu, .slice A5 (j + 1 + (n1 - j)) c5], .bool true]) (by simp [results, Try.results53, go_sem, r0.out, r1.out]) rfl ⟨_, _, _, _, _, _, by rw [HD.out], by rw [HD.out]; exact H.out, C2.out⟩
                · intro K hK
                  go_simp
                  replace S := S.boxAt c.size (w9.heap.size) rfl #[.int .i64 la, .int .i64 lb] 75
                  replace c := c.alloc c.size (.cells #[.int .i64 la, .int .i64 lb] 75)
                  clear HF
                  have HF : (w9.alloc (.cells #[.int .i64 la, .int .i64 lb] 75)).cell? ⟨w.heap.size, 1, none⟩ = some (.slice none n1 c1) ∧ (w9.alloc (.cells #[.int .i64 la, .int .i64 lb] 75)).cell? ⟨w6.heap.size, 0, none⟩ = some (.int .i64 la) ∧ (w9.alloc (.cells #[.int .i64 la, .int .i64 lb] 75)).cell? ⟨w6.heap.size, 1, none⟩ = some (.int .i64 lb) := ⟨(S.at_ 5 rfl).cell 1, (S.at_ 1 rfl).cell 0, (S.at_ 1 rfl).cell 1⟩
                  refine hK _ _ (fun _ => HF) ?_
                  clear hK K
                  try simp only [Act.put]
                  generalize hw : w9.alloc (.cells #[.int .i64 la, .int .i64 lb] 75) = w10 at *
                  have HWw10 := Lib.hid hw
                  clear hw
                  refine wpAnyL_step (i := 0) (by kernel_rfl) rfl rfl ?_
                  intro K hK
                  go_simp
                  replace S := S.boxAt c.size (w10.heap.size) rfl #[] 75
                  replace c := c.alloc c.size (.cells #[] 75)
                  clear HF
                  have HF : (w10.alloc (.cells #[] 75)).cell? ⟨w.heap.size, 1, none⟩ = some (.slice none n1 c1) ∧ (w10.alloc (.cells #[] 75)).cell? ⟨w6.heap.size, 0, none⟩ = some (.int .i64 la) ∧ (w10.alloc (.cells #[] 75)).cell? ⟨w6.heap.size, 1, none⟩ = some (.int .i64 lb) := ⟨(S.at_ 6 rfl).cell 1, (S.at_ 2 rfl).cell 0, (S.at_ 2 rfl).cell 1⟩
                  refine hK _ _ (fun _ => HF) ?_
                  clear hK K
                  try simp only [Act.put]
                  generalize hw : w10.alloc (.cells #[] 75) = w11 at *
                  have HWw11 := Lib.hid hw
                  clear hw
                  refine wpAnyL_step (i := 5) (by kernel_rfl) rfl rfl ?_
                  intro K hK
                  replace S := S.pick 0 rfl
                  replace S := S.blk0 (k := 2) (f := linkC)
                  replace S := S.pick 0 rfl
                  replace S := (S.flat link_flat (t.cuts.take j)).swap
                  have hsr := (Rd.front linkC_len (by decide) (HH.out.keep c) hjc (show j ≤ c1 by have := HN.out; omega) hcm).src link_flat linkC_len (by decide)
                  refine wp_append_fresh (l2 := t.cuts.take j) _ _ (by rfl) Try.underlying28 infoLink (by rfl) (by decide) linkC_len (by rfl) (S.own_ 0 rfl) (S.nodup_own 0 rfl) (by rfl) hsr.1 (S.own_ 1 rfl) hsr.2 (S.nodup_own 1 rfl) S.apart (by omega) (by omega) ?_
                  intro A3 c3 w12 fp3 o3 n3 s3 t3
                  have S' := S.merge t3 o3 n3 s3 c.size
                  replace c := c.trans (S.below 0 rfl t3 c.size)
                  clear S; have S := S'; clear S' o3 n3 s3 t3 hsr
                  clear HF
                  have HF : w12.cell? ⟨w.heap.size, 1, none⟩ = some (.slice none n1 c1) ∧ w12.cell? ⟨w6.heap.size, 0, none⟩ = some (.int .i64 la) ∧ w12.cell? ⟨w6.heap.size, 1, none⟩ = some (.int .i64 lb) := ⟨(S.at_ 6 rfl).cell 1, (S.at_ 2 rfl).cell 0, (S.at_ 2 rfl).cell 1⟩
                  refine hK _ _ (fun _ => HF) ?_
                  clear hK K
                  try simp only [Act.put]
                  replace S := S.pick 0 rfl
                  replace S := (S.flat link_flat ([(⟨la, lb⟩ : LinkM)])).swap
                  have hsr : Src w12 (some ⟨w9.heap.size, 0, none⟩) 1 2 (ivals ([(⟨la, lb⟩ : LinkM)].flatMap fun x => [x.a, x.b])) ∧ [(⟨la, lb⟩ : LinkM)].length = 1 := ⟨Src.of_blk (S.at_ 2 rfl) (fun i hi => by
                    rcases (show i = 0 ∨ i = 1 by omega) with rfl | rfl <;> rfl), rfl⟩
                  refine wpAnyL_step (i := 8) (by kernel_rfl) rfl rfl ?_
                  intro K hK
                  refine wp_append_many (l := t.cuts.take j) (l2 := [(⟨la, lb⟩ : LinkM)]) _ _ (by rfl) Try.underlying28 infoLink (by rfl) (by decide) linkC_len (by rfl) (S.own_ 0 rfl) (S.nodup_own 0 rfl) (by rfl) hsr.1 (S.own_ 1 rfl) hsr.2 (S.nodup_own 1 rfl) S.apart (by omega) (by omega) ?_
                  intro A4 c4 w13 fp4 o3 n3 s3 t3
                  have S' := S.merge t3 o3 n3 s3 c.size
                  replace c := c.trans (S.below 0 rfl t3 c.size)
                  clear S; have S := S'; clear S' o3 n3 s3 t3 hsr
                  clear HF
                  have HF : w13.cell? ⟨w.heap.size, 1, none⟩ = some (.slice none n1 c1) ∧ w13.cell? ⟨w6.heap.size, 0, none⟩ = some (.int .i64 la) ∧ w13.cell? ⟨w6.heap.size, 1, none⟩ = some (.int .i64 lb) := ⟨(S.at_ 6 rfl).cell 1, (S.at_ 2 rfl).cell 0, (S.at_ 2 rfl).cell 1⟩
                  refine hK _ _ (fun _ => HF) ?_
                  clear hK K
                  try simp only [Act.put]
                  refine wpAnyL_step (i := 9) (by kernel_rfl) rfl rfl ?_
                  intro K hK
                  go_simp
                  refine hK _ _ (fun h => nomatch (show true = false from h)) ?_
                  clear hK K
                  try simp only [Act.put]
                  refine wpAnyL_done (by kernel_rfl) ?_ _
                  try simp only [Act.put]
                  have hsr1 : ∀ A9 : Option Addr, Src w13 A9 (n1 - j) 2 (ivals ((t.cuts.drop j).flatMap fun x => [x.a, x.b])) := fun A9 h9 => absurd h9 (by have := HZ.out; omega)
                  have hsr2 : (t.cuts.drop j).length = n1 - j := by have := HL.out; rw [List.length_drop]; omega
                  have HE := Lib.hid (show t.cuts.take j ++ [(⟨la, lb⟩ : LinkM)] ++ t.cuts.drop j = (cutNet t (linkOf x y)).cuts by unfold cutNet; rw [hlow, HLK.out])
                  replace S := S.pick 0 rfl
                  replace S := (S.flat link_flat (t.cuts.drop j)).swap
                  have f12 : w13.cell? ⟨w.heap.size, 1, none⟩ = some (.slice none n1 c1) := (S.at_ 7 rfl).cell 1
                  go_wp2_with (first
                    | (at_builtin
                       refine wpList_append_many (l := t.cuts.take j ++ [(⟨la, lb⟩ : LinkM)]) (l2 := t.cuts.drop j) rfl (.tmp 58) (.tmp 62) (by rfl) Try.underlying28 infoLink (by rfl) (by decide) linkC_len (by rfl) (S.own_ 0 rfl) (S.nodup_own 0 rfl) (by rfl) (hsr1 _) (S.own_ 1 rfl) hsr2 (S.nodup_own 1 rfl) S.apart (by omega) (by omega) ?_
                       intro A5 c5 w20 fp5 o5 n5 s5 t5
                       rw [HE.out] at o5
                       have S1 := S.merge t5 o5 n5 s5 c.size
                       have C1 := c.trans (S.below 0 rfl t5 c.size)
                       have eo0 : w20.cell? ⟨w3.heap.size, 0, none⟩ = some (.slice Au nu cu) := (S1.at_ 3 rfl).cell 0
                       have eo1 : w20.cell? ⟨w3.heap.size, 1, none⟩ = some (.slice Ax nx cx) := (S1.at_ 3 rfl).cell 1
                       have fo1 := (S1.at_ 3 rfl).free 1
                       have er0 : w20.cell? ⟨w.heap.size + 1, 0, none⟩ = some (.slice none 0 0) := (S1.at_ 5 rfl).cell 0
                       have er1 : w20.cell? ⟨w.heap.size + 1, 1, none⟩ = some (.slice none 0 0) := (S1.at_ 5 rfl).cell 1
                       have fr0 := (S1.at_ 5 rfl).free 0
                       have fr1 := (S1.at_ 5 rfl).free 1
                       have zo : w.heap.size ≤ w3.heap.size := S1.base_le 3 rfl
                       have S2 := ((S1.put 3 rfl 1 (.slice A5 (j + 1 + (n1 - j)) c5)).put 5 rfl 0 (.slice Au nu cu)).put 5 rfl 1 (.slice A5 (j + 1 + (n1 - j)) c5)
                       have C2 := Lib.hid (((C1.setCell (p := ⟨w3.heap.size, 1, none⟩) zo (.slice A5 (j + 1 + (n1 - j)) c5)).setCell (p := ⟨w.heap.size + 1, 0, none⟩) (by simp) (.slice Au nu cu)).setCell (p := ⟨w.heap.size + 1, 1, none⟩) (by simp) (.slice A5 (j + 1 + (n1 - j)) c5))
                       have r0 := Lib.hid ((S2.at_ 5 rfl).cell 0)
                       have r1 := Lib.hid ((S2.at_ 5 rfl).cell 1)
                       obtain ⟨fx, fy, S3⟩ := (S2.pick 4 rfl).cut (ds := [msgD t.flight]) (ds' := [linkD t.cuts]) (vs := [.slice Au nu cu]) (vs' := [.slice Ax nx cx]) rfl
                       have H := Lib.hid (show Has _ w.heap.size ([msgD t.flight] ++ [linkD (cutNet t (linkOf x y)).cuts]) ([.slice Au nu cu] ++ [.slice A5 (j + 1 + (n1 - j)) c5]) from ((S3.pick 1 rfl).pick 2 rfl).pair)
                       clear S c o5 n5 s5 t5 S1 C1 S2 S3 hsr1 hsr2 HF HH hl0))
                  all_goals exact bodyPost_ret (v := .tuple #[.agg #[.slice Au nu cu, .slice A5 (j + 1 + (n1 - j)) c5], .bool true]) (by simp [results, Try.results53, go_sem, r0.out, r1.out]) rfl ⟨_, _, _, _, _, _, by rw [HD.out], by rw [HD.out]; exact H.out, C2.out⟩
              · have f8 : wr.cell? ⟨w.heap.size, 1, none⟩ = some (.slice (some ⟨b, off, path⟩) n1 c1) := (S.at_ 4 rfl).cell 1
                go_wp2_with fail
                refine wp_region_cls (fun v => v.cell? ⟨w.heap.size, 1, none⟩ = some (.slice (some ⟨b, off, path⟩) n1 c1)) (by kernel_rfl) (by kernel_rfl) (fun v hv => (hv.cell (p := ⟨w.heap.size, 1, none⟩) (lt_of_cell f8)).trans f8) ?_
                intro C HF HC
                repeat
                  (refine wpQuiet_step (fun K hK => ?_)
                   go_simp
                   first
                     | (refine hK _ ?_; clear hK K)
                     | (apply Exists.intro
                        refine ⟨fun v hv => ?_, hK _ ?_⟩
                        · have a0 := HF v hv
                          first
                            | (go_at_call 80; fail)
                            | exact rfl
                            | (go_simp; exact rfl)
                            | (go_simp; exact ⟨rfl, hv⟩)
                        clear hK K))
                refine wpQuiet_nil ?_
                intro w8 b9
                replace c := c.trans (b9.mono c.size)
                replace S := S.keep b9
                clear b9 f8
                have HQ := Lib.hid hlt
                clear hlt
                have i0 : (0 : Int) ≤ (j : Int) := by omega
                have i1 : (j : Int) ≤ (c1 : Int) := by have := HN.out; omega
                have i4 : (j : Int) ≤ (n1 : Int) := by omega
                have hjc : j ≤ n1 := by omega
                have f9 : w8.cell? ⟨w.heap.size, 1, none⟩ = some (.slice (some ⟨b, off, path⟩) n1 c1) := (S.at_ 4 rfl).cell 1
                have f10 : w8.cell? ⟨w6.heap.size, 0, none⟩ = some (.int .i64 la) := (S.at_ 0 rfl).cell 0
                have f11 : w8.cell? ⟨w6.heap.size, 1, none⟩ = some (.int .i64 lb) := (S.at_ 0 rfl).cell 1
                go_wp2_with fail
                refine wp_region_L (fun v => v.cell? ⟨w.heap.size, 1, none⟩ = some (.slice (some ⟨b, off, path⟩) n1 c1) ∧ v.cell? ⟨w6.heap.size, 0, none⟩ = some (.int .i64 la) ∧ v.cell? ⟨w6.heap.size, 1, none⟩ = some (.int .i64 lb)) 9 (by kernel_rfl) ?_
                clear f9 f10 f11
                replace S := S.keep ((Below.refl _ _).drew)
                replace c := c.drew
                generalize w8.drew = w9 at *
                have HF : w9.cell? ⟨w.heap.size, 1, none⟩ = some (.slice (some ⟨b, off, path⟩) n1 c1) ∧ w9.cell? ⟨w6.heap.size, 0, none⟩ = some (.int .i64 la) ∧ w9.cell? ⟨w6.heap.size, 1, none⟩ = some (.int .i64 lb) := ⟨(S.at_ 4 rfl).cell 1, (S.at_ 0 rfl).cell 0, (S.at_ 0 rfl).cell 1⟩
                refine wpAnyL_take (i := 1) (v := ?_) rfl rfl (by kernel_rfl) (by kernel_rfl) (by kernel_rfl) (by kernel_rfl) (by kernel_rfl) (fun _ _ _ h => h) HF (Or.inl ⟨by rfl, ?_⟩) ?_
                rotate_left 1
                · (rintro v ⟨a0, a1, a2⟩; go_simp; try with_reducible rfl)
                try simp only [Act.put]
                refine wpAnyL_take (i := 2) (v := ?_) rfl rfl (by kernel_rfl) (by kernel_rfl) (by kernel_rfl) (by kernel_rfl) (by kernel_rfl) (fun _ _ _ h => h) HF (Or.inl ⟨by rfl, ?_⟩) ?_
                rotate_left 1
                · (rintro v ⟨a0, a1, a2⟩; go_simp; try with_reducible rfl)
                try simp only [Act.put]
                refine wpAnyL_pure (i := 3) (v := ?_) rfl rfl (by kernel_rfl) (by kernel_rfl) (by kernel_rfl) (fun _ _ _ h => h) HF (Or.inl ⟨by rfl, ?_⟩) ?_
                rotate_left 1
                · (intro v _; go_simp; try with_reducible rfl)
                try simp only [Act.put]
                refine wpAnyL_pure (i := 4) (v := ?_) rfl rfl (by kernel_rfl) (by kernel_rfl) (by kernel_rfl) (fun _ _ _ h => h) HF (Or.inl ⟨by rfl, ?_⟩) ?_
                rotate_left 1
                · (intro v _; go_simp; try with_reducible rfl)
                try simp only [Act.put]
                refine wpAnyL_take (i := 6) (v := ?_) rfl rfl (by kernel_rfl) (by kernel_rfl) (by kernel_rfl) (by kernel_rfl) (by kernel_rfl) (fun _ _ _ h => h) HF (Or.inl ⟨by rfl, ?_⟩) ?_
                rotate_left 1
                · (rintro v ⟨a0, a1, a2⟩; go_simp; try with_reducible rfl)
                try simp only [Act.put]
                refine wpAnyL_two (i := 0) (k := 7) (by kernel_rfl) rfl rfl rfl rfl ?_ ?_
                · intro K hK
                  go_simp
                  replace S := S.boxAt c.size (w9.heap.size) rfl #[] 75
                  replace c := c.alloc c.size (.cells #[] 75)
                  clear HF
                  have HF : (w9.alloc (.cells #[] 75)).cell? ⟨w.heap.size, 1, none⟩ = some (.slice (some ⟨b, off, path⟩) n1 c1) ∧ (w9.alloc (.cells #[] 75)).cell? ⟨w6.heap.size, 0, none⟩ = some (.int .i64 la) ∧ (w9.alloc (.cells #[] 75)).cell? ⟨w6.heap.size, 1, none⟩ = some (.int .i64 lb) := ⟨(S.at_ 5 rfl).cell 1, (S.at_ 1 rfl).cell 0, (S.at_ 1 rfl).cell 1⟩
                  refine hK _ _ (fun _ => HF) ?_
                  clear hK K
                  try simp only [Act.put]
                  generalize hw : w9.alloc (.cells #[] 75) = w10 at *
                  have HWw10 := Lib.hid hw
                  clear hw
                  refine wpAnyL_two (i := 5) (k := 7) (by kernel_rfl) rfl rfl rfl rfl ?_ ?_
                  · intro K hK
                    replace S := S.pick 0 rfl
                    replace S := S.blk0 (k := 2) (f := linkC)
                    replace S := S.pick 0 rfl
                    replace S := (S.flat link_flat (t.cuts.take j)).swap
                    have hsr := (Rd.front linkC_len (by decide) (HH.out.keep c) hjc (show j ≤ c1 by have := HN.out; omega) hcm).src link_flat linkC_len (by decide)
                    refine wp_append_fresh (l2 := t.cuts.take j) _ _ (by rfl) Try.underlying28 infoLink (by rfl) (by decide) linkC_len (by rfl) (S.own_ 0 rfl) (S.nodup_own 0 rfl) (by rfl) hsr.1 (S.own_ 1 rfl) hsr.2 (S.nodup_own 1 rfl) S.apart (by omega) (by omega) ?_
                    intro A3 c3 w11 fp3 o3 n3 s3 t3
                    have S' := S.merge t3 o3 n3 s3 c.size
                    replace c := c.trans (S.below 0 rfl t3 c.size)
                    clear S; have S := S'; clear S' o3 n3 s3 t3 hsr
                    clear HF
                    have HF : w11.cell? ⟨w.heap.size, 1, none⟩ = some (.slice (some ⟨b, off, path⟩) n1 c1) ∧ w11.cell? ⟨w6.heap.size, 0, none⟩ = some (.int .i64 la) ∧ w11.cell? ⟨w6.heap.size, 1, none⟩ = some (.int .i64 lb) := ⟨(S.at_ 5 rfl).cell 1, (S.at_ 1 rfl).cell 0, (S.at_ 1 rfl).cell 1⟩
                    refine hK _ _ (fun _ => HF) ?_
                    clear hK K
                    try simp only [Act.put]
                    refine wpAnyL_step (i := 7) (by kernel_rfl) rfl rfl ?_
                    intro K hK
                    go_simp
                    replace S := S.boxAt c.size (w11.heap.size) rfl #[.int .i64 la, .int .i64 lb] 75
                    replace c := c.alloc c.size (.cells #[.int .i64 la, .int .i64 lb] 75)
                    clear HF
                    have HF : (w11.alloc (.cells #[.int .i64 la, .int .i64 lb] 75)).cell? ⟨w.heap.size, 1, none⟩ = some (.slice (some ⟨b, off, path⟩) n1 c1) ∧ (w11.alloc (.cells #[.int .i64 la, .int .i64 lb] 75)).cell? ⟨w6.heap.size, 0, none⟩ = some (.int .i64 la) ∧ (w11.alloc (.cells #[.int .i64 la, .int .i64 lb] 75)).cell? ⟨w6.heap.size, 1, none⟩ = some (.int .i64 lb) := ⟨(S.at_ 6 rfl).cell 1, (S.at_ 2 rfl).cell 0, (S.at_ 2 rfl).cell 1⟩
                    refine hK _ _ (fun _ => HF) ?_
                    clear hK K
                    try simp only [Act.put]
                    generalize hw : w11.alloc (.cells #[.int .i64 la, .int .i64 lb] 75) = w12 at *
                    have HWw12 := Lib.hid hw
                    clear hw
                    replace S := S.pick 1 rfl
                    replace S := (S.flat link_flat ([(⟨la, lb⟩ : LinkM)])).swap
                    have hsr : Src w12 (some ⟨w11.heap.size, 0, none⟩) 1 2 (ivals ([(⟨la, lb⟩ : LinkM)].flatMap fun x => [x.a, x.b])) ∧ [(⟨la, lb⟩ : LinkM)].length = 1 := ⟨Src.of_blk (S.at_ 2 rfl) (fun i hi => by
                      rcases (show i = 0 ∨ i = 1 by omega) with rfl | rfl <;> rfl), rfl⟩
                    refine wpAnyL_step (i := 8) (by kernel_rfl) rfl rfl ?_
                    intro K hK
                    refine wp_append_many (l := t.cuts.take j) (l2 := [(⟨la, lb⟩ : LinkM)]) _ _ (by rfl) Try.underlying28 infoLink (by rfl) (by decide) linkC_len (by rfl) (S.own_ 0 rfl) (S.nodup_own 0 rfl) (by rfl) hsr.1 (S.own_ 1 rfl) hsr.2 (S.nodup_own 1 rfl) S.apart (by omega) (by omega) ?_
                    intro A4 c4 w13 fp4 o3 n3 s3 t3
                    have S' := S.merge t3 o3 n3 s3 c.size
                    replace c := c.trans (S.below 0 rfl t3 c.size)
                    clear S; have S := S'; clear S' o3 n3 s3 t3 hsr
                    clear HF
                    have HF : w13.cell? ⟨w.heap.size, 1, none⟩ = some (.slice (some ⟨b, off, path⟩) n1 c1) ∧ w13.cell? ⟨w6.heap.size, 0, none⟩ = some (.int .i64 la) ∧ w13.cell? ⟨w6.heap.size, 1, none⟩ = some (.int .i64 lb) := ⟨(S.at_ 6 rfl).cell 1, (S.at_ 2 rfl).cell 0, (S.at_ 2 rfl).cell 1⟩
                    refine hK _ _ (fun _ => HF) ?_
                    clear hK K
                    try simp only [Act.put]
                    refine wpAnyL_step (i := 9) (by kernel_rfl) rfl rfl ?_
                    intro K hK
                    go_simp
                    refine hK _ _ (fun h => nomatch (show true = false from h)) ?_
                    clear hK K
                    try simp only [Act.put]
                    refine wpAnyL_done (by kernel_rfl) ?_ _
                    try simp only [Act.put]
                    have hsr1 : ∀ A9 : Option Addr, Src w13 A9 (n1 - j) 2 (ivals ((t.cuts.drop j).flatMap fun x => [x.a, x.b])) := fun A9 h9 => absurd h9 (by have := HZ.out; omega)
                    have hsr2 : (t.cuts.drop j).length = n1 - j := by have := HL.out; rw [List.length_drop]; omega
                    have HE := Lib.hid (show t.cuts.take j ++ [(⟨la, lb⟩ : LinkM)] ++ t.cuts.drop j = (cutNet t (linkOf x y)).cuts by unfold cutNet; rw [hlow, HLK.out])
                    replace S := S.pick 0 rfl
                    replace S := (S.flat link_flat (t.cuts.drop j)).swap
                    have f12 : w13.cell? ⟨w.heap.size, 1, none⟩ = some (.slice (some ⟨b, off, path⟩) n1 c1) := (S.at_ 7 rfl).cell 1
                    go_wp2_with (first
                      | (at_builtin
                         refine wpList_append_many (l := t.cuts.take j ++ [(⟨la, lb⟩ : LinkM)]) (l2 := t.cuts.drop j) rfl (.tmp 58) (.tmp 62) (by rfl) Try.underlying28 infoLink (by rfl) (by decide) linkC_len (by rfl) (S.own_ 0 rfl) (S.nodup_own 0 rfl) (by rfl) (hsr1 _) (S.own_ 1 rfl) hsr2 (S.nodup_own 1 rfl) S.apart (by omega) (by omega) ?_
                         intro A5 c5 w20 fp5 o5 n5 s5 t5
                         rw [HE.out] at o5
                         have S1 := S.merge t5 o5 n5 s5 c.size
                         have C1 := c.trans (S.below 0 rfl t5 c.size)
                         have eo0 : w20.cell? ⟨w3.heap.size, 0, none⟩ = some (.slice Au nu cu) := (S1.at_ 3 rfl).cell 0
                         have eo1 : w20.cell? ⟨w3.heap.size, 1, none⟩ = some (.slice Ax nx cx) := (S1.at_ 3 rfl).cell 1
                         have fo1 := (S1.at_ 3 rfl).free 1
                         have er0 : w20.cell? ⟨w.heap.size + 1, 0, none⟩ = some (.slice none 0 0) := (S1.at_ 5 rfl).cell 0
                         have er1 : w20.cell? ⟨w.heap.size + 1, 1, none⟩ = some (.slice none 0 0) := (S1.at_ 5 rfl).cell 1
                         have fr0 := (S1.at_ 5 rfl).free 0
                         have fr1 := (S1.at_ 5 rfl).free 1
                         have zo : w.heap.size ≤ w3.heap.size := S1.base_le 3 rfl
                         have S2 := ((S1.put 3 rfl 1 (.slice A5 (j + 1 + (n1 - j)) c5)).put 5 rfl 0 (.slice Au nu cu)).put 5 rfl 1 (.slice A5 (j + 1 + (n1 - j)) c5)
                         have C2 := Lib.hid (((C1.setCell (p := ⟨w3.heap.size, 1, none⟩) zo (.slice A5 (j + 1 + (n1 - j)) c5)).setCell (p := ⟨w.heap.size + 1, 0, none⟩) (by simp) (.slice Au nu cu)).setCell (p := ⟨w.heap.size + 1, 1, none⟩) (by simp) (.slice A5 (j + 1 + (n1 - j)) c5))
                         have r0 := Lib.hid ((S2.at_ 5 rfl).cell 0)
                         have r1 := Lib.hid ((S2.at_ 5 rfl).cell 1)
                         obtain ⟨fx, fy, S3⟩ := (S2.pick 4 rfl).cut (ds := [msgD t.flight]) (ds' := [linkD t.cuts]) (vs := [.slice Au nu cu]) (vs' := [.slice Ax nx cx]) rfl
                         have H := Lib.hid (show Has _ w.heap.size ([msgD t.flight] ++ [linkD (cutNet t (linkOf x y)).cuts]) ([.slice Au nu cu] ++ [.slice A5 (j + 1 + (n1 - j)) c5]) from ((S3.pick 1 rfl).pick 2 rfl).pair)
                         clear S c o5 n5 s5 t5 S1 C1 S2 S3 hsr1 hsr2 HF HH hl0))
                    all_goals exact bodyPost_ret (v := .tuple #[.agg #[.slice Au nu cu, .slice A5 (j + 1 + (n1 - j)) c5], .bool true]) (by simp [results, Try.results53, go_sem, r0.out, r1.out]) rfl ⟨_, _, _, _, _, _, by rw [HD.out], by rw [HD.out]; exact H.out, C2.out⟩
                  · intro K hK
                    go_simp
                    replace S := S.boxAt c.size (w10.heap.size) rfl #[.int .i64 la, .int .i64 lb] 75
                    replace c := c.alloc c.size (.cells #[.int .i64 la, .int .i64 lb] 75)
                    clear HF
                    have HF : (w10.alloc (.cells #[.int .i64 la, .int .i64 lb] 75)).cell? ⟨w.heap.size, 1, none⟩ = some (.slice (some ⟨b, off, path⟩) n1 c1) ∧ (w10.alloc (.cells #[.int .i64 la, .int .i64 lb] 75)).cell? ⟨w6.heap.size, 0, none⟩ = some (.int .i64 la) ∧ (w10.alloc (.cells #[.int .i64 la, .int .i64 lb] 75)).cell? ⟨w6.heap.size, 1, none⟩ = some (.int .i64 lb) := ⟨(S.at_ 6 rfl).cell 1, (S.at_ 2 rfl).cell 0, (S.at_ 2 rfl).cell 1⟩
                    refine hK _ _ (fun _ => HF) ?_
                    clear hK K
                    try simp only [Act.put]
                    generalize hw : w10.alloc (.cells #[.int .i64 la, .int .i64 lb] 75) = w11 at *
                    have HWw11 := Lib.hid hw
                    clear hw
                    refine wpAnyL_step (i := 5) (by kernel_rfl) rfl rfl ?_
                    intro K hK
                    replace S := S.pick 1 rfl
                    replace S := S.blk0 (k := 2) (f := linkC)
                    replace S := S.pick 0 rfl
                    replace S := (S.flat link_flat (t.cuts.take j)).swap
                    have hsr := (Rd.front linkC_len (by decide) (HH.out.keep c) hjc (show j ≤ c1 by have := HN.out; omega) hcm).src link_flat linkC_len (by decide)
                    refine wp_append_fresh (l2 := t.cuts.take j) _ _ (by rfl) Try.underlying28 infoLink (by rfl) (by decide) linkC_len (by rfl) (S.own_ 0 rfl) (S.nodup_own 0 rfl) (by rfl) hsr.1 (S.own_ 1 rfl) hsr.2 (S.nodup_own 1 rfl) S.apart (by omega) (by omega) ?_
                    intro A3 c3 w12 fp3 o3 n3 s3 t3
                    have S' := S.merge t3 o3 n3 s3 c.size
                    replace c := c.trans (S.below 0 rfl t3 c.size)
                    clear S; have S := S'; clear S' o3 n3 s3 t3 hsr
                    clear HF
                    have HF : w12.cell? ⟨w.heap.size, 1, none⟩ = some (.slice (some ⟨b, off, path⟩) n1 c1) ∧ w12.cell? ⟨w6.heap.size, 0, none⟩ = some (.int .i64 la) ∧ w12.cell? ⟨w6.heap.size, 1, none⟩ = some (.int .i64 lb) := ⟨(S.at_ 6 rfl).cell 1, (S.at_ 2 rfl).cell 0, (S.at_ 2 rfl).cell 1⟩
                    refine hK _ _ (fun _ => HF) ?_
                    clear hK K
                    try simp only [Act.put]
                    replace S := S.pick 0 rfl
                    replace S := (S.flat link_flat ([(⟨la, lb⟩ : LinkM)])).swap
                    have hsr : Src w12 (some ⟨w10.heap.size, 0, none⟩) 1 2 (ivals ([(⟨la, lb⟩ : LinkM)].flatMap fun x => [x.a, x.b])) ∧ [(⟨la, lb⟩ : LinkM)].length = 1 := ⟨Src.of_blk (S.at_ 2 rfl) (fun i hi => by
                      rcases (show i = 0 ∨ i = 1 by omega) with rfl | rfl <;> rfl), rfl⟩
                    refine wpAnyL_step (i := 8) (by kernel_rfl) rfl rfl ?_
                    intro K hK
                    refine wp_append_many (l := t.cuts.take j) (l2 := [(⟨la, lb⟩ : LinkM)]) _ _ (by rfl) Try.underlying28 infoLink (by rfl) (by decide) linkC_len (by rfl) (S.own_ 0 rfl) (S.nodup_own 0 rfl) (by rfl) hsr.1 (S.own_ 1 rfl) hsr.2 (S.nodup_own 1 rfl) S.apart (by omega) (by omega) ?_
                    intro A4 c4 w13 fp4 o3 n3 s3 t3
                    have S' := S.merge t3 o3 n3 s3 c.size
                    replace c := c.trans (S.below 0 rfl t3 c.size)
                    clear S; have S := S'; clear S' o3 n3 s3 t3 hsr
                    clear HF
                    have HF : w13.cell? ⟨w.heap.size, 1, none⟩ = some (.slice (some ⟨b, off, path⟩) n1 c1) ∧ w13.cell? ⟨w6.heap.size, 0, none⟩ = some (.int .i64 la) ∧ w13.cell? ⟨w6.heap.size, 1, none⟩ = some (.int .i64 lb) := ⟨(S.at_ 6 rfl).cell 1, (S.at_ 2 rfl).cell 0, (S.at_ 2 rfl).cell 1⟩
                    refine hK _ _ (fun _ => HF) ?_
                    clear hK K
                    try simp only [Act.put]
                    refine wpAnyL_step (i := 9) (by kernel_rfl) rfl rfl ?_
                    intro K hK
                    go_simp
                    refine hK _ _ (fun h => nomatch (show true = false from h)) ?_
                    clear hK K
                    try simp only [Act.put]
                    refine wpAnyL_done (by kernel_rfl) ?_ _
                    try simp only [Act.put]
                    have hsr1 : ∀ A9 : Option Addr, Src w13 A9 (n1 - j) 2 (ivals ((t.cuts.drop j).flatMap fun x => [x.a, x.b])) := fun A9 h9 => absurd h9 (by have := HZ.out; omega)
                    have hsr2 : (t.cuts.drop j).length = n1 - j := by have := HL.out; rw [List.length_drop]; omega
                    have HE := Lib.hid (show t.cuts.take j ++ [(⟨la, lb⟩ : LinkM)] ++ t.cuts.drop j = (cutNet t (linkOf x y)).cuts by unfold cutNet; rw [hlow, HLK.out])
                    replace S := S.pick 0 rfl
                    replace S := (S.flat link_flat (t.cuts.drop j)).swap
                    have f12 : w13.cell? ⟨w.heap.size, 1, none⟩ = some (.slice (some ⟨b, off, path⟩) n1 c1) := (S.at_ 7 rfl).cell 1
                    go_wp2_with (first
                      | (at_builtin
                         refine wpList_append_many (l := t.cuts.take j ++ [(⟨la, lb⟩ : LinkM)]) (l2 := t.cuts.drop j) rfl (.tmp 58) (.tmp 62) (by rfl) Try.underlying28 infoLink (by rfl) (by decide) linkC_len (by rfl) (S.own_ 0 rfl) (S.nodup_own 0 rfl) (by rfl) (hsr1 _) (S.own_ 1 rfl) hsr2 (S.nodup_own 1 rfl) S.apart (by omega) (by omega) ?_
                         intro A5 c5 w20 fp5 o5 n5 s5 t5
                         rw [HE.out] at o5
                         have S1 := S.merge t5 o5 n5 s5 c.size
                         have C1 := c.trans (S.below 0 rfl t5 c.size)
                         have eo0 : w20.cell? ⟨w3.heap.size, 0, none⟩ = some (.slice Au nu cu) := (S1.at_ 3 rfl).cell 0
                         have eo1 : w20.cell? ⟨w3.heap.size, 1, none⟩ = some (.slice Ax nx cx) := (S1.at_ 3 rfl).cell 1
                         have fo1 := (S1.at_ 3 rfl).free 1
                         have er0 : w20.cell? ⟨w.heap.size + 1, 0, none⟩ = some (.slice none 0 0) := (S1.at_ 5 rfl).cell 0
                         have er1 : w20.cell? ⟨w.heap.size + 1, 1, none⟩ = some (.slice none 0 0) := (S1.at_ 5 rfl).cell 1
                         have fr0 := (S1.at_ 5 rfl).free 0
                         have fr1 := (S1.at_ 5 rfl).free 1
                         have zo : w.heap.size ≤ w3.heap.size := S1.base_le 3 rfl
                         have S2 := ((S1.put 3 rfl 1 (.slice A5 (j + 1 + (n1 - j)) c5)).put 5 rfl 0 (.slice Au nu cu)).put 5 rfl 1 (.slice A5 (j + 1 + (n1 - j)) c5)
                         have C2 := Lib.hid (((C1.setCell (p := ⟨w3.heap.size, 1, none⟩) zo (.slice A5 (j + 1 + (n1 - j)) c5)).setCell (p := ⟨w.heap.size + 1, 0, none⟩) (by simp) (.slice Au nu cu)).setCell (p := ⟨w.heap.size + 1, 1, none⟩) (by simp) (.slice A5 (j + 1 + (n1 - j)) c5))
                         have r0 := Lib.hid ((S2.at_ 5 rfl).cell 0)
                         have r1 := Lib.hid ((S2.at_ 5 rfl).cell 1)
                         obtain ⟨fx, fy, S3⟩ := (S2.pick 4 rfl).cut (ds := [msgD t.flight]) (ds' := [linkD t.cuts]) (vs := [.slice Au nu cu]) (vs' := [.slice Ax nx cx]) rfl
                         have H := Lib.hid (show Has _ w.heap.size ([msgD t.flight] ++ [linkD (cutNet t (linkOf x y)).cuts]) ([.slice Au nu cu] ++ [.slice A5 (j + 1 + (n1 - j)) c5]) from ((S3.pick 1 rfl).pick 2 rfl).pair)
                         clear S c o5 n5 s5 t5 S1 C1 S2 S3 hsr1 hsr2 HF HH hl0))
                    all_goals exact bodyPost_ret (v := .tuple #[.agg #[.slice Au nu cu, .slice A5 (j + 1 + (n1 - j)) c5], .bool true]) (by simp [results, Try.results53, go_sem, r0.out, r1.out]) rfl ⟨_, _, _, _, _, _, by rw [HD.out], by rw [HD.out]; exact H.out, C2.out⟩
                · intro K hK
                  go_simp
                  replace S := S.boxAt c.size (w9.heap.size) rfl #[.int .i64 la, .int .i64 lb] 75
                  replace c := c.alloc c.size (.cells #[.int .i64 la, .int .i64 lb] 75)
                  clear HF
                  have HF : (w9.alloc (.cells #[.int .i64 la, .int .i64 lb] 75)).cell? ⟨w.heap.size, 1, none⟩ = some (.slice (some ⟨b, off, path⟩) n1 c1) ∧ (w9.alloc (.cells #[.int .i64 la, .int .i64 lb] 75)).cell? ⟨w6.heap.size, 0, none⟩ = some (.int .i64 la) ∧ (w9.alloc (.cells #[.int .i64 la, .int .i64 lb] 75)).cell? ⟨w6.heap.size, 1, none⟩ = some (.int .i64 lb) := ⟨(S.at_ 5 rfl).cell 1, (S.at_ 1 rfl).cell 0, (S.at_ 1 rfl).cell 1⟩
                  refine hK _ _ (fun _ => HF) ?_
                  clear hK K
                  try simp only [Act.put]
                  generalize hw : w9.alloc (.cells #[.int .i64 la, .int .i64 lb] 75) = w10 at *
                  have HWw10 := Lib.hid hw
                  clear hw
                  refine wpAnyL_step (i := 0) (by kernel_rfl) rfl rfl ?_
                  intro K hK
                  go_simp
                  replace S := S.boxAt c.size (w10.heap.size) rfl #[] 75
                  replace c := c.alloc c.size (.cells #[] 75)
                  clear HF
                  have HF : (w10.alloc (.cells #[] 75)).cell? ⟨w.heap.size, 1, none⟩ = some (.slice (some ⟨b, off, path⟩) n1 c1) ∧ (w10.alloc (.cells #[] 75)).cell? ⟨w6.heap.size, 0, none⟩ = some (.int .i64 la) ∧ (w10.alloc (.cells #[] 75)).cell? ⟨w6.heap.size, 1, none⟩ = some (.int .i64 lb) := ⟨(S.at_ 6 rfl).cell 1, (S.at_ 2 rfl).cell 0, (S.at_ 2 rfl).cell 1⟩
                  refine hK _ _ (fun _ => HF) ?_
                  clear hK K
                  try simp only [Act.put]
                  generalize hw : w10.alloc (.cells #[] 75) = w11 at *
                  have HWw11 := Lib.hid hw
                  clear hw
                  refine wpAnyL_step (i := 5) (by kernel_rfl) rfl rfl ?_
                  intro K hK
                  replace S := S.pick 0 rfl
                  replace S := S.blk0 (k := 2) (f := linkC)
                  replace S := S.pick 0 rfl
                  replace S := (S.flat link_flat (t.cuts.take j)).swap
                  have hsr := (Rd.front linkC_len (by decide) (HH.out.keep c) hjc (show j ≤ c1 by have := HN.out; omega) hcm).src link_flat linkC_len (by decide)
                  refine wp_append_fresh (l2 := t.cuts.take j) _ _ (by rfl) Try.underlying28 infoLink (by rfl) (by decide) linkC_len (by rfl) (S.own_ 0 rfl) (S.nodup_own 0 rfl) (by rfl) hsr.1 (S.own_ 1 rfl) hsr.2 (S.nodup_own 1 rfl) S.apart (by omega) (by omega) ?_
                  intro A3 c3 w12 fp3 o3 n3 s3 t3
                  have S' := S.merge t3 o3 n3 s3 c.size
                  replace c := c.trans (S.below 0 rfl t3 c.size)
                  clear S; have S := S'; clear S' o3 n3 s3 t3 hsr
                  clear HF
                  have HF : w12.cell? ⟨w.heap.size, 1, none⟩ = some (.slice (some ⟨b, off, path⟩) n1 c1) ∧ w12.cell? ⟨w6.heap.size, 0, none⟩ = some (.int .i64 la) ∧ w12.cell? ⟨w6.heap.size, 1, none⟩ = some (.int .i64 lb) := ⟨(S.at_ 6 rfl).cell 1, (S.at_ 2 rfl).cell 0, (S.at_ 2 rfl).cell 1⟩
                  refine hK _ _ (fun _ => HF) ?_
                  clear hK K
                  try simp only [Act.put]
                  replace S := S.pick 0 rfl
                  replace S := (S.flat link_flat ([(⟨la, lb⟩ : LinkM)])).swap
                  have hsr : Src w12 (some ⟨w9.heap.size, 0, none⟩) 1 2 (ivals ([(⟨la, lb⟩ : LinkM)].flatMap fun x => [x.a, x.b])) ∧ [(⟨la, lb⟩ : LinkM)].length = 1 := ⟨Src.of_blk (S.at_ 2 rfl) (fun i hi => by
                    rcases (show i = 0 ∨ i = 1 by omega) with rfl | rfl <;> rfl), rfl⟩
                  refine wpAnyL_step (i := 8) (by kernel_rfl) rfl rfl ?_
                  intro K hK
                  refine wp_append_many (l := t.cuts.take j) (l2 := [(⟨la, lb⟩ : LinkM)]) _ _ (by rfl) Try.underlying28 infoLink (by rfl) (by decide) linkC_len (by rfl) (S.own_ 0 rfl) (S.nodup_own 0 rfl) (by rfl) hsr.1 (S.own_ 1 rfl) hsr.2 (S.nodup_own 1 rfl) S.apart (by omega) (by omega) ?_
                  intro A4 c4 w13 fp4 o3 n3 s3 t3
                  have S' := S.merge t3 o3 n3 s3 c.size
                  replace c := c.trans (S.below 0 rfl t3 c.size)
                  clear S; have S := S'; clear S' o3 n3 s3 t3 hsr
                  clear HF
                  have HF : w13.cell? ⟨w.heap.size, 1, none⟩ = some (.slice (some ⟨b, off, path⟩) n1 c1) ∧ w13.cell? ⟨w6.heap.size, 0, none⟩ = some (.int .i64 la) ∧ w13.cell? ⟨w6.heap.size, 1, none⟩ = some (.int .i64 lb) := ⟨(S.at_ 6 rfl).cell 1, (S.at_ 2 rfl).cell 0, (S.at_ 2 rfl).cell 1⟩
                  refine hK _ _ (fun _ => HF) ?_
                  clear hK K
                  try simp only [Act.put]
                  refine wpAnyL_step (i := 9) (by kernel_rfl) rfl rfl ?_
                  intro K hK
                  go_simp
                  refine hK _ _ (fun h => nomatch (show true = false from h)) ?_
                  clear hK K
                  try simp only [Act.put]
                  refine wpAnyL_done (by kernel_rfl) ?_ _
                  try simp only [Act.put]
                  have hsr1 : ∀ A9 : Option Addr, Src w13 A9 (n1 - j) 2 (ivals ((t.cuts.drop j).flatMap fun x => [x.a, x.b])) := fun A9 h9 => absurd h9 (by have := HZ.out; omega)
                  have hsr2 : (t.cuts.drop j).length = n1 - j := by have := HL.out; rw [List.length_drop]; omega
                  have HE := Lib.hid (show t.cuts.take j ++ [(⟨la, lb⟩ : LinkM)] ++ t.cuts.drop j = (cutNet t (linkOf x y)).cuts by unfold cutNet; rw [hlow, HLK.out])
                  replace S := S.pick 0 rfl
                  replace S := (S.flat link_flat (t.cuts.drop j)).swap
                  have f12 : w13.cell? ⟨w.heap.size, 1, none⟩ = some (.slice (some ⟨b, off, path⟩) n1 c1) := (S.at_ 7 rfl).cell 1
                  go_wp2_with (first
                    | (at_builtin
                       refine wpList_append_many (l := t.cuts.take j ++ [(⟨la, lb⟩ : LinkM)]) (l2 := t.cuts.drop j) rfl (.tmp 58) (.tmp 62) (by rfl) Try.underlying28 infoLink (by rfl) (by decide) linkC_len (by rfl) (S.own_ 0 rfl) (S.nodup_own 0 rfl) (by rfl) (hsr1 _) (S.own_ 1 rfl) hsr2 (S.nodup_own 1 rfl) S.apart (by omega) (by omega) ?_
                       intro A5 c5 w20 fp5 o5 n5 s5 t5
                       rw [HE.out] at o5
                       have S1 := S.merge t5 o5 n5 s5 c.size
                       have C1 := c.trans (S.below 0 rfl t5 c.size)
                       have eo0 : w20.cell? ⟨w3.heap.size, 0, none⟩ = some (.slice Au nu cu) := (S1.at_ 3 rfl).cell 0
                       have eo1 : w20.cell? ⟨w3.heap.size, 1, none⟩ = some (.slice Ax nx cx) := (S1.at_ 3 rfl).cell 1
                       have fo1 := (S1.at_ 3 rfl).free 1
                       have er0 : w20.cell? ⟨w.heap.size + 1, 0, none⟩ = some (.slice none 0 0) := (S1.at_ 5 rfl).cell 0
                       have er1 : w20.cell? ⟨w.heap.size + 1, 1, none⟩ = some (.slice none 0 0) := (S1.at_ 5 rfl).cell 1
                       have fr0 := (S1.at_ 5 rfl).free 0
                       have fr1 := (S1.at_ 5 rfl).free 1
                       have zo : w.heap.size ≤ w3.heap.size := S1.base_le 3 rfl
                       have S2 := ((S1.put 3 rfl 1 (.slice A5 (j + 1 + (n1 - j)) c5)).put 5 rfl 0 (.slice Au nu cu)).put 5 rfl 1 (.slice A5 (j + 1 + (n1 - j)) c5)
                       have C2 := Lib.hid (((C1.setCell (p := ⟨w3.heap.size, 1, none⟩) zo (.slice A5 (j + 1 + (n1 - j)) c5)).setCell (p := ⟨w.heap.size + 1, 0, none⟩) (by simp) (.slice Au nu cu)).setCell (p := ⟨w.heap.size + 1, 1, none⟩) (by simp) (.slice A5 (j + 1 + (n1 - j)) c5))
                       have r0 := Lib.hid ((S2.at_ 5 rfl).cell 0)
                       have r1 := Lib.hid ((S2.at_ 5 rfl).cell 1)
                       obtain ⟨fx, fy, S3⟩ := (S2.pick 4 rfl).cut (ds := [msgD t.flight]) (ds' := [linkD t.cuts]) (vs := [.slice Au nu cu]) (vs' := [.slice Ax nx cx]) rfl
                       have H := Lib.hid (show Has _ w.heap.size ([msgD t.flight] ++ [linkD (cutNet t (linkOf x y)).cuts]) ([.slice Au nu cu] ++ [.slice A5 (j + 1 + (n1 - j)) c5]) from ((S3.pick 1 rfl).pick 2 rfl).pair)
                       clear S c o5 n5 s5 t5 S1 C1 S2 S3 hsr1 hsr2 HF HH hl0))
                  all_goals exact bodyPost_ret (v := .tuple #[.agg #[.slice Au nu cu, .slice A5 (j + 1 + (n1 - j)) c5], .bool true]) (by simp [results, Try.results53, go_sem, r0.out, r1.out]) rfl ⟨_, _, _, _, _, _, by rw [HD.out], by rw [HD.out]; exact H.out, C2.out⟩
            · obtain ⟨b, off, rfl, hb, _⟩ := hel hz
              clear hel
              have f8 : wr.cell? ⟨w.heap.size, 1, none⟩ = some (.slice (some ⟨b, off, none⟩) n1 c1) := (S.at_ 4 rfl).cell 1
              go_wp2_with fail
              refine wp_region_cls (fun v => v.cell? ⟨w.heap.size, 1, none⟩ = some (.slice (some ⟨b, off, none⟩) n1 c1)) (by kernel_rfl) (by kernel_rfl) (fun v hv => (hv.cell (p := ⟨w.heap.size, 1, none⟩) (lt_of_cell f8)).trans f8) ?_
              intro C HF HC
              repeat
                (refine wpQuiet_step (fun K hK => ?_)
                 go_simp
                 first
                   | (refine hK _ ?_; clear hK K)
                   | (apply Exists.intro
                      refine ⟨fun v hv => ?_, hK _ ?_⟩
                      · have a0 := HF v hv
                        first
                          | (go_at_call 80; fail)
                          | exact rfl
                          | (go_simp; exact rfl)
                          | (go_simp; exact ⟨rfl, hv⟩)
                      clear hK K))
              refine wpQuiet_nil ?_
              intro w8 b9
              replace c := c.trans (b9.mono c.size)
              replace S := S.keep b9
              clear b9 f8
              have HQ := Lib.hid hlt
              clear hlt
              have i0 : (0 : Int) ≤ (j : Int) := by omega
              have i1 : (j : Int) ≤ (c1 : Int) := by have := HN.out; omega
              have i4 : (j : Int) ≤ (n1 : Int) := by omega
              have hjc : j ≤ n1 := by omega
              have f9 : w8.cell? ⟨w.heap.size, 1, none⟩ = some (.slice (some ⟨b, off, none⟩) n1 c1) := (S.at_ 4 rfl).cell 1
              have f10 : w8.cell? ⟨w6.heap.size, 0, none⟩ = some (.int .i64 la) := (S.at_ 0 rfl).cell 0
              have f11 : w8.cell? ⟨w6.heap.size, 1, none⟩ = some (.int .i64 lb) := (S.at_ 0 rfl).cell 1
              go_wp2_with fail
              refine wp_region_L (fun v => v.cell? ⟨w.heap.size, 1, none⟩ = some (.slice (some ⟨b, off, none⟩) n1 c1) ∧ v.cell? ⟨w6.heap.size, 0, none⟩ = some (.int .i64 la) ∧ v.cell? ⟨w6.heap.size, 1, none⟩ = some (.int .i64 lb)) 9 (by kernel_rfl) ?_
              clear f9 f10 f11
              replace S := S.keep ((Below.refl _ _).drew)
              replace c := c.drew
              generalize w8.drew = w9 at *
              have HF : w9.cell? ⟨w.heap.size, 1, none⟩ = some (.slice (some ⟨b, off, none⟩) n1 c1) ∧ w9.cell? ⟨w6.heap.size, 0, none⟩ = some (.int .i64 la) ∧ w9.cell? ⟨w6.heap.size, 1, none⟩ = some (.int .i64 lb) := ⟨(S.at_ 4 rfl).cell 1, (S.at_ 0 rfl).cell 0, (S.at_ 0 rfl).cell 1⟩
              refine wpAnyL_take (i := 1) (v := ?_) rfl rfl (by kernel_rfl) (by kernel_rfl) (by kernel_rfl) (by kernel_rfl) (by kernel_rfl) (fun _ _ _ h => h) HF (Or.inl ⟨by rfl, ?_⟩) ?_
              rotate_left 1
              · (rintro v ⟨a0, a1, a2⟩; go_simp; try with_reducible rfl)
              try simp only [Act.put]
              refine wpAnyL_take (i := 2) (v := ?_) rfl rfl (by kernel_rfl) (by kernel_rfl) (by kernel_rfl) (by kernel_rfl) (by kernel_rfl) (fun _ _ _ h => h) HF (Or.inl ⟨by rfl, ?_⟩) ?_
              rotate_left 1
              · (rintro v ⟨a0, a1, a2⟩; go_simp; try with_reducible rfl)
              try simp only [Act.put]
              refine wpAnyL_pure (i := 3) (v := ?_) rfl rfl (by kernel_rfl) (by kernel_rfl) (by kernel_rfl) (fun _ _ _ h => h) HF (Or.inl ⟨by rfl, ?_⟩) ?_
              rotate_left 1
              · (intro v _; go_simp; try with_reducible rfl)
              try simp only [Act.put]
              refine wpAnyL_pure (i := 4) (v := ?_) rfl rfl (by kernel_rfl) (by kernel_rfl) (by kernel_rfl) (fun _ _ _ h => h) HF (Or.inl ⟨by rfl, ?_⟩) ?_
              rotate_left 1
              · (intro v _; go_simp; try with_reducible rfl)
              try simp only [Act.put]
              refine wpAnyL_take (i := 6) (v := ?_) rfl rfl (by kernel_rfl) (by kernel_rfl) (by kernel_rfl) (by kernel_rfl) (by kernel_rfl) (fun _ _ _ h => h) HF (Or.inl ⟨by rfl, ?_⟩) ?_
              rotate_left 1
              · (rintro v ⟨a0, a1, a2⟩; go_simp; try with_reducible rfl)
              try simp only [Act.put]
              refine wpAnyL_two (i := 0) (k := 7) (by kernel_rfl) rfl rfl rfl rfl ?_ ?_
              · intro K hK
                go_simp
                replace S := S.boxAt c.size (w9.heap.size) rfl #[] 75
                replace c := c.alloc c.size (.cells #[] 75)
                clear HF
                have HF : (w9.alloc (.cells #[] 75)).cell? ⟨w.heap.size, 1, none⟩ = some (.slice (some ⟨b, off, none⟩) n1 c1) ∧ (w9.alloc (.cells #[] 75)).cell? ⟨w6.heap.size, 0, none⟩ = some (.int .i64 la) ∧ (w9.alloc (.cells #[] 75)).cell? ⟨w6.heap.size, 1, none⟩ = some (.int .i64 lb) := ⟨(S.at_ 5 rfl).cell 1, (S.at_ 1 rfl).cell 0, (S.at_ 1 rfl).cell 1⟩
                refine hK _ _ (fun _ => HF) ?_
                clear hK K
                try simp only [Act.put]
                generalize hw : w9.alloc (.cells #[] 75) = w10 at *
                have HWw10 := Lib.hid hw
                clear hw
                refine wpAnyL_two (i := 5) (k := 7) (by kernel_rfl) rfl rfl rfl rfl ?_ ?_
                · intro K hK
                  replace S := S.pick 0 rfl
                  replace S := S.blk0 (k := 2) (f := linkC)
                  replace S := S.pick 0 rfl
                  replace S := (S.flat link_flat (t.cuts.take j)).swap
                  have hsr := (Rd.front linkC_len (by decide) (HH.out.keep c) hjc (show j ≤ c1 by have := HN.out; omega) hcm).src link_flat linkC_len (by decide)
                  refine wp_append_fresh (l2 := t.cuts.take j) _ _ (by rfl) Try.underlying28 infoLink (by rfl) (by decide) linkC_len (by rfl) (S.own_ 0 rfl) (S.nodup_own 0 rfl) (by rfl) hsr.1 (S.own_ 1 rfl) hsr.2 (S.nodup_own 1 rfl) S.apart (by omega) (by omega) ?_
                  intro A3 c3 w11 fp3 o3 n3 s3 t3
                  have S' := S.merge t3 o3 n3 s3 c.size
                  replace c := c.trans (S.below 0 rfl t3 c.size)
                  clear S; have S := S'; clear S' o3 n3 s3 t3 hsr
                  clear HF
                  have HF : w11.cell? ⟨w.heap.size, 1, none⟩ = some (.slice (some ⟨b, off, none⟩) n1 c1) ∧ w11.cell? ⟨w6.heap.size, 0, none⟩ = some (.int .i64 la) ∧ w11.cell? ⟨w6.heap.size, 1, none⟩ = some (.int .i64 lb) := ⟨(S.at_ 5 rfl).cell 1, (S.at_ 1 rfl).cell 0, (S.at_ 1 rfl).cell 1⟩
                  refine hK _ _ (fun _ => HF) ?_
                  clear hK K
                  try simp only [Act.put]
                  refine wpAnyL_step (i := 7) (by kernel_rfl) rfl rfl ?_
                  intro K hK
                  go_simp
                  replace S := S.boxAt c.size (w11.heap.size) rfl #[.int .i64 la, .int .i64 lb] 75
                  replace c := c.alloc c.size (.cells #[.int .i64 la, .int .i64 lb] 75)
                  clear HF
                  have HF : (w11.alloc (.cells #[.int .i64 la, .int .i64 lb] 75)).cell? ⟨w.heap.size, 1, none⟩ = some (.slice (some ⟨b, off, none⟩) n1 c1) ∧ (w11.alloc (.cells #[.int .i64 la, .int .i64 lb] 75)).cell? ⟨w6.heap.size, 0, none⟩ = some (.int .i64 la) ∧ (w11.alloc (.cells #[.int .i64 la, .int .i64 lb] 75)).cell? ⟨w6.heap.size, 1, none⟩ = some (.int .i64 lb) := ⟨(S.at_ 6 rfl).cell 1, (S.at_ 2 rfl).cell 0, (S.at_ 2 rfl).cell 1⟩
                  refine hK _ _ (fun _ => HF) ?_
                  clear hK K
                  try simp only [Act.put]
                  generalize hw : w11.alloc (.cells #[.int .i64 la, .int .i64 lb] 75) = w12 at *
                  have HWw12 := Lib.hid hw
                  clear hw
                  replace S := S.pick 1 rfl
                  replace S := (S.flat link_flat ([(⟨la, lb⟩ : LinkM)])).swap
                  have hsr : Src w12 (some ⟨w11.heap.size, 0, none⟩) 1 2 (ivals ([(⟨la, lb⟩ : LinkM)].flatMap fun x => [x.a, x.b])) ∧ [(⟨la, lb⟩ : LinkM)].length = 1 := ⟨Src.of_blk (S.at_ 2 rfl) (fun i hi => by
                    rcases (show i = 0 ∨ i = 1 by omega) with rfl | rfl <;> rfl), rfl⟩
                  refine wpAnyL_step (i := 8) (by kernel_rfl) rfl rfl ?_
                  intro K hK
                  refine wp_append_many (l := t.cuts.take j) (l2 := [(⟨la, lb⟩ : LinkM)]) _ _ (by rfl) Try.underlying28 infoLink (by rfl) (by decide) linkC_len (by rfl) (S.own_ 0 rfl) (S.nodup_own 0 rfl) (by rfl) hsr.1 (S.own_ 1 rfl) hsr.2 (S.nodup_own 1 rfl) S.apart (by omega) (by omega) ?_
                  intro A4 c4 w13 fp4 o3 n3 s3 t3
                  have S' := S.merge t3 o3 n3 s3 c.size
                  replace c := c.trans (S.below 0 rfl t3 c.size)
                  clear S; have S := S'; clear S' o3 n3 s3 t3 hsr
                  clear HF
                  have HF : w13.cell? ⟨w.heap.size, 1, none⟩ = some (.slice (some ⟨b, off, none⟩) n1 c1) ∧ w13.cell? ⟨w6.heap.size, 0, none⟩ = some (.int .i64 la) ∧ w13.cell? ⟨w6.heap.size, 1, none⟩ = some (.int .i64 lb) := ⟨(S.at_ 6 rfl).cell 1, (S.at_ 2 rfl).cell 0, (S.at_ 2 rfl).cell 1⟩
                  refine hK _ _ (fun _ => HF) ?_
                  clear hK K
                  try simp only [Act.put]
                  refine wpAnyL_step (i := 9) (by kernel_rfl) rfl rfl ?_
                  intro K hK
                  go_simp
                  refine hK _ _ (fun h => nomatch (show true = false from h)) ?_
                  clear hK K
                  try simp only [Act.put]
                  refine wpAnyL_done (by kernel_rfl) ?_ _
                  try simp only [Act.put]
                  have hsr := (Rd.back (A2 := (if c1 = j then some ⟨b, off, none⟩ else some ⟨b, off + j * 2, none⟩)) (c' := c1 - j) linkC_len (by decide) (HH.out.keep c) hjc (fun b' off' e hl => by
                    have hc1 := HN.out
                    injection e with e
                    injection e with e1 e2
                    rw [if_neg (by omega), e1, e2]) (by have := HN.out; omega) (by omega)).src link_flat linkC_len (by decide)
                  have HE := Lib.hid (show t.cuts.take j ++ [(⟨la, lb⟩ : LinkM)] ++ t.cuts.drop j = (cutNet t (linkOf x y)).cuts by unfold cutNet; rw [hlow, HLK.out])
                  replace S := S.pick 0 rfl
                  replace S := (S.flat link_flat (t.cuts.drop j)).swap
                  have f12 : w13.cell? ⟨w.heap.size, 1, none⟩ = some (.slice (some ⟨b, off, none⟩) n1 c1) := (S.at_ 7 rfl).cell 1
                  go_wp2_with (first
                    | (at_builtin
                       refine wpList_append_many (l := t.cuts.take j ++ [(⟨la, lb⟩ : LinkM)]) (l2 := t.cuts.drop j) rfl (.tmp 58) (.tmp 62) (by rfl) Try.underlying28 infoLink (by rfl) (by decide) linkC_len (by rfl) (S.own_ 0 rfl) (S.nodup_own 0 rfl) (by rfl) hsr.1 (S.own_ 1 rfl) hsr.2 (S.nodup_own 1 rfl) S.apart (by omega) (by omega) ?_
                       intro A5 c5 w20 fp5 o5 n5 s5 t5
                       rw [HE.out] at o5
                       have S1 := S.merge t5 o5 n5 s5 c.size
                       have C1 := c.trans (S.below 0 rfl t5 c.size)
                       have eo0 : w20.cell? ⟨w3.heap.size, 0, none⟩ = some (.slice Au nu cu) := (S1.at_ 3 rfl).cell 0
                       have eo1 : w20.cell? ⟨w3.heap.size, 1, none⟩ = some (.slice Ax nx cx) := (S1.at_ 3 rfl).cell 1
                       have fo1 := (S1.at_ 3 rfl).free 1
                       have er0 : w20.cell? ⟨w.heap.size + 1, 0, none⟩ = some (.slice none 0 0) := (S1.at_ 5 rfl).cell 0
                       have er1 : w20.cell? ⟨w.heap.size + 1, 1, none⟩ = some (.slice none 0 0) := (S1.at_ 5 rfl).cell 1
                       have fr0 := (S1.at_ 5 rfl).free 0
                       have fr1 := (S1.at_ 5 rfl).free 1
                       have zo : w.heap.size ≤ w3.heap.size := S1.base_le 3 rfl
                       have S2 := ((S1.put 3 rfl 1 (.slice A5 (j + 1 + (n1 - j)) c5)).put 5 rfl 0 (.slice Au nu cu)).put 5 rfl 1 (.slice A5 (j + 1 + (n1 - j)) c5)
                       have C2 := Lib.hid (((C1.setCell (p := ⟨w3.heap.size, 1, none⟩) zo (.slice A5 (j + 1 + (n1 - j)) c5)).setCell (p := ⟨w.heap.size + 1, 0, none⟩) (by simp) (.slice Au nu cu)).setCell (p := ⟨w.heap.size + 1, 1, none⟩) (by simp) (.slice A5 (j + 1 + (n1 - j)) c5))
                       have r0 := Lib.hid ((S2.at_ 5 rfl).cell 0)
                       have r1 := Lib.hid ((S2.at_ 5 rfl).cell 1)
                       obtain ⟨fx, fy, S3⟩ := (S2.pick 4 rfl).cut (ds := [msgD t.flight]) (ds' := [linkD t.cuts]) (vs := [.slice Au nu cu]) (vs' := [.slice Ax nx cx]) rfl
                       have H := Lib.hid (show Has _ w.heap.size ([msgD t.flight] ++ [linkD (cutNet t (linkOf x y)).cuts]) ([.slice Au nu cu] ++ [.slice A5 (j + 1 + (n1 - j)) c5]) from ((S3.pick 1 rfl).pick 2 rfl).pair)
                       clear S c o5 n5 s5 t5 S1 C1 S2 S3 hsr HF HH hl0))
                  all_goals exact bodyPost_ret (v := .tuple #[.agg #[.slice Au nu cu, .slice A5 (j + 1 + (n1 - j)) c5], .bool true]) (by simp [results, Try.results53, go_sem, r0.out, r1.out]) rfl ⟨_, _, _, _, _, _, by rw [HD.out], by rw [HD.out]; exact H.out, C2.out⟩
                · intro K hK
                  go_simp
                  replace S := S.boxAt c.size (w10.heap.size) rfl #[.int .i64 la, .int .i64 lb] 75
                  replace c := c.alloc c.size (.cells #[.int .i64 la, .int .i64 lb] 75)
                  clear HF
                  have HF : (w10.alloc (.cells #[.int .i64 la, .int .i64 lb] 75)).cell? ⟨w.heap.size, 1, none⟩ = some (.slice (some ⟨b, off, none⟩) n1 c1) ∧ (w10.alloc (.cells #[.int .i64 la, .int .i64 lb] 75)).cell? ⟨w6.heap.size, 0, none⟩ = some (.int .i64 la) ∧ (w10.alloc (.cells #[.int .i64 la, .int .i64 lb] 75)).cell? ⟨w6.heap.size, 1, none⟩ = some (.int .i64 lb) := ⟨(S.at_ 6 rfl).cell 1, (S.at_ 2 rfl).cell 0, (S.at_ 2 rfl).cell 1⟩
                  refine hK _ _ (fun _ => HF) ?_
                  clear hK K
                  try simp only [Act.put]
                  generalize hw : w10.alloc (.cells #[.int .i64 la, .int .i64 lb] 75) = w11 at *
                  have HWw11 := Lib.hid hw
                  clear hw
                  refine wpAnyL_step (i := 5) (by kernel_rfl) rfl rfl ?_
                  intro K hK
                  replace S := S.pick 1 rfl
                  replace S := S.blk0 (k := 2) (f := linkC)
                  replace S := S.pick 0 rfl
                  replace S := (S.flat link_flat (t.cuts.take j)).swap
                  have hsr := (Rd.front linkC_len (by decide) (HH.out.keep c) hjc (show j ≤ c1 by have := HN.out; omega) hcm).src link_flat linkC_len (by decide)
                  refine wp_append_fresh (l2 := t.cuts.take j) _ _ (by rfl) Try.underlying28 infoLink (by rfl) (by decide) linkC_len (by rfl) (S.own_ 0 rfl) (S.nodup_own 0 rfl) (by rfl) hsr.1 (S.own_ 1 rfl) hsr.2 (S.nodup_own 1 rfl) S.apart (by omega) (by omega) ?_
                  intro A3 c3 w12 fp3 o3 n3 s3 t3
                  have S' := S.merge t3 o3 n3 s3 c.size
                  replace c := c.trans (S.below 0 rfl t3 c.size)
                  clear S; have S := S'; clear S' o3 n3 s3 t3 hsr
                  clear HF
                  have HF : w12.cell? ⟨w.heap.size, 1, none⟩ = some (.slice (some ⟨b, off, none⟩) n1 c1) ∧ w12.cell? ⟨w6.heap.size, 0, none⟩ = some (.int .i64 la) ∧ w12.cell? ⟨w6.heap.size, 1, none⟩ = some (.int .i64 lb) := ⟨(S.at_ 6 rfl).cell 1, (S.at_ 2 rfl).cell 0, (S.at_ 2 rfl).cell 1⟩
                  refine hK _ _ (fun _ => HF) ?_
                  clear hK K
                  try simp only [Act.put]
                  replace S := S.pick 0 rfl
                  replace S := (S.flat link_flat ([(⟨la, lb⟩ : LinkM)])).swap
                  have hsr : Src w12 (some ⟨w10.heap.size, 0, none⟩) 1 2 (ivals ([(⟨la, lb⟩ : LinkM)].flatMap fun x => [x.a, x.b])) ∧ [(⟨la, lb⟩ : LinkM)].length = 1 := ⟨Src.of_blk (S.at_ 2 rfl) (fun i hi => by
                    rcases (show i = 0 ∨ i = 1 by omega) with rfl | rfl <;> rfl), rfl⟩
                  refine wpAnyL_step (i := 8) (by kernel_rfl) rfl rfl ?_
                  intro K hK
                  refine wp_append_many (l := t.cuts.take j) (l2 := [(⟨la, lb⟩ : LinkM)]) _ _ (by rfl) Try.underlying28 infoLink (by rfl) (by decide) linkC_len (by rfl) (S.own_ 0 rfl) (S.nodup_own 0 rfl) (by rfl) hsr.1 (S.own_ 1 rfl) hsr.2 (S.nodup_own 1 rfl) S.apart (by omega) (by omega) ?_
                  intro A4 c4 w13 fp4 o3 n3 s3 t3
                  have S' := S.merge t3 o3 n3 s3 c.size
                  replace c := c.trans (S.below 0 rfl t3 c.size)
                  clear S; have S := S'; clear S' o3 n3 s3 t3 hsr
                  clear HF
                  have HF : w13.cell? ⟨w.heap.size, 1, none⟩ = some (.slice (some ⟨b, off, none⟩) n1 c1) ∧ w13.cell? ⟨w6.heap.size, 0, none⟩ = some (.int .i64 la) ∧ w13.cell? ⟨w6.heap.size, 1, none⟩ = some (.int .i64 lb) := ⟨(S.at_ 6 rfl).cell 1, (S.at_ 2 rfl).cell 0, (S.at_ 2 rfl).cell 1⟩
                  refine hK _ _ (fun _ => HF) ?_
                  clear hK K
                  try simp only [Act.put]
                  refine wpAnyL_step (i := 9) (by kernel_rfl) rfl rfl ?_
                  intro K hK
                  go_simp
                  refine hK _ _ (fun h => nomatch (show true = false from h)) ?_
                  clear hK K
                  try simp only [Act.put]
                  refine wpAnyL_done (by kernel_rfl) ?_ _
                  try simp only [Act.put]
                  have hsr := (Rd.back (A2 := (if c1 = j then some ⟨b, off, none⟩ else some ⟨b, off + j * 2, none⟩)) (c' := c1 - j) linkC_len (by decide) (HH.out.keep c) hjc (fun b' off' e hl => by
                    have hc1 := HN.out
                    injection e with e
                    injection e with e1 e2
                    rw [if_neg (by omega), e1, e2]) (by have := HN.out; omega) (by omega)).src link_flat linkC_len (by decide)
                  have HE := Lib.hid (show t.cuts.take j ++ [(⟨la, lb⟩ : LinkM)] ++ t.cuts.drop j = (cutNet t (linkOf x y)).cuts by unfold cutNet; rw [hlow, HLK.out])
                  replace S := S.pick 0 rfl
                  replace S := (S.flat link_flat (t.cuts.drop j)).swap
                  have f12 : w13.cell? ⟨w.heap.size, 1, none⟩ = some (.slice (some ⟨b, off, none⟩) n1 c1) := (S.at_ 7 rfl).cell 1
                  go_wp2_with (first
                    | (at_builtin
                       refine wpList_append_many (l := t.cuts.take j ++ [(⟨la, lb⟩ : LinkM)]) (l2 := t.cuts.drop j) rfl (.tmp 58) (.tmp 62) (by rfl) Try.underlying28 infoLink (by rfl) (by decide) linkC_len (by rfl) (S.own_ 0 rfl) (S.nodup_own 0 rfl) (by rfl) hsr.1 (S.own_ 1 rfl) hsr.2 (S.nodup_own 1 rfl) S.apart (by omega) (by omega) ?_
                       intro A5 c5 w20 fp5 o5 n5 s5 t5
                       rw [HE.out] at o5
                       have S1 := S.merge t5 o5 n5 s5 c.size
                       have C1 := c.trans (S.below 0 rfl t5 c.size)
                       have eo0 : w20.cell? ⟨w3.heap.size, 0, none⟩ = some (.slice Au nu cu) := (S1.at_ 3 rfl).cell 0
                       have eo1 : w20.cell? ⟨w3.heap.size, 1, none⟩ = some (.slice Ax nx cx) := (S1.at_ 3 rfl).cell 1
                       have fo1 := (S1.at_ 3 rfl).free 1
                       have er0 : w20.cell? ⟨w.heap.size + 1, 0, none⟩ = some (.slice none 0 0) := (S1.at_ 5 rfl).cell 0
                       have er1 : w20.cell? ⟨w.heap.size + 1, 1, none⟩ = some (.slice none 0 0) := (S1.at_ 5 rfl).cell 1
                       have fr0 := (S1.at_ 5 rfl).free 0
                       have fr1 := (S1.at_ 5 rfl).free 1
                       have zo : w.heap.size ≤ w3.heap.size := S1.base_le 3 rfl
                       have S2 := ((S1.put 3 rfl 1 (.slice A5 (j + 1 + (n1 - j)) c5)).put 5 rfl 0 (.slice Au nu cu)).put 5 rfl 1 (.slice A5 (j + 1 + (n1 - j)) c5)
                       have C2 := Lib.hid (((C1.setCell (p := ⟨w3.heap.size, 1, none⟩) zo (.slice A5 (j + 1 + (n1 - j)) c5)).setCell (p := ⟨w.heap.size + 1, 0, none⟩) (by simp) (.slice Au nu cu)).setCell (p := ⟨w.heap.size + 1, 1, none⟩) (by simp) (.slice A5 (j + 1 + (n1 - j)) c5))
                       have r0 := Lib.hid ((S2.at_ 5 rfl).cell 0)
                       have r1 := Lib.hid ((S2.at_ 5 rfl).cell 1)
                       obtain ⟨fx, fy, S3⟩ := (S2.pick 4 rfl).cut (ds := [msgD t.flight]) (ds' := [linkD t.cuts]) (vs := [.slice Au nu cu]) (vs' := [.slice Ax nx cx]) rfl
                       have H := Lib.hid (show Has _ w.heap.size ([msgD t.flight] ++ [linkD (cutNet t (linkOf x y)).cuts]) ([.slice Au nu cu] ++ [.slice A5 (j + 1 + (n1 - j)) c5]) from ((S3.pick 1 rfl).pick 2 rfl).pair)
                       clear S c o5 n5 s5 t5 S1 C1 S2 S3 hsr HF HH hl0))
                  all_goals exact bodyPost_ret (v := .tuple #[.agg #[.slice Au nu cu, .slice A5 (j + 1 + (n1 - j)) c5], .bool true]) (by simp [results, Try.results53, go_sem, r0.out, r1.out]) rfl ⟨_, _, _, _, _, _, by rw [HD.out], by rw [HD.out]; exact H.out, C2.out⟩
              · intro K hK
                go_simp
                replace S := S.boxAt c.size (w9.heap.size) rfl #[.int .i64 la, .int .i64 lb] 75
                replace c := c.alloc c.size (.cells #[.int .i64 la, .int .i64 lb] 75)
                clear HF
                have HF : (w9.alloc (.cells #[.int .i64 la, .int .i64 lb] 75)).cell? ⟨w.heap.size, 1, none⟩ = some (.slice (some ⟨b, off, none⟩) n1 c1) ∧ (w9.alloc (.cells #[.int .i64 la, .int .i64 lb] 75)).cell? ⟨w6.heap.size, 0, none⟩ = some (.int .i64 la) ∧ (w9.alloc (.cells #[.int .i64 la, .int .i64 lb] 75)).cell? ⟨w6.heap.size, 1, none⟩ = some (.int .i64 lb) := ⟨(S.at_ 5 rfl).cell 1, (S.at_ 1 rfl).cell 0, (S.at_ 1 rfl).cell 1⟩
                refine hK _ _ (fun _ => HF) ?_
                clear hK K
                try simp only [Act.put]
                generalize hw : w9.alloc (.cells #[.int .i64 la, .int .i64 lb] 75) = w10 at *
                have HWw10 := Lib.hid hw
                clear hw
                refine wpAnyL_step (i := 0) (by kernel_rfl) rfl rfl ?_
                intro K hK
                go_simp
                replace S := S.boxAt c.size (w10.heap.size) rfl #[] 75
                replace c := c.alloc c.size (.cells #[] 75)
                clear HF
                have HF : (w10.alloc (.cells #[] 75)).cell? ⟨w.heap.size, 1, none⟩ = some (.slice (some ⟨b, off, none⟩) n1 c1) ∧ (w10.alloc (.cells #[] 75)).cell? ⟨w6.heap.size, 0, none⟩ = some (.int .i64 la) ∧ (w10.alloc (.cells #[] 75)).cell? ⟨w6.heap.size, 1, none⟩ = some (.int .i64 lb) := ⟨(S.at_ 6 rfl).cell 1, (S.at_ 2 rfl).cell 0, (S.at_ 2 rfl).cell 1⟩
                refine hK _ _ (fun _ => HF) ?_
                clear hK K
                try simp only [Act.put]
                generalize hw : w10.alloc (.cells #[] 75) = w11 at *
                have HWw11 := Lib.hid hw
                clear hw
                refine wpAnyL_step (i := 5) (by kernel_rfl) rfl rfl ?_
                intro K hK
                replace S := S.pick 0 rfl
                replace S := S.blk0 (k := 2) (f := linkC)
                replace S := S.pick 0 rfl
                replace S := (S.flat link_flat (t.cuts.take j)).swap
                have hsr := (Rd.front linkC_len (by decide) (HH.out.keep c) hjc (show j ≤ c1 by have := HN.out; omega) hcm).src link_flat linkC_len (by decide)
                refine wp_append_fresh (l2 := t.cuts.take j) _ _ (by rfl) Try.underlying28 infoLink (by rfl) (by decide) linkC_len (by rfl) (S.own_ 0 rfl) (S.nodup_own 0 rfl) (by rfl) hsr.1 (S.own_ 1 rfl) hsr.2 (S.nodup_own 1 rfl) S.apart (by omega) (by omega) ?_
                intro A3 c3 w12 fp3 o3 n3 s3 t3
                have S' := S.merge t3 o3 n3 s3 c.size
                replace c := c.trans (S.below 0 rfl t3 c.size)
                clear S; have S := S'; clear S' o3 n3 s3 t3 hsr
                clear HF
                have HF : w12.cell? ⟨w.heap.size, 1, none⟩ = some (.slice (some ⟨b, off, none⟩) n1 c1) ∧ w12.cell? ⟨w6.heap.size, 0, none⟩ = some (.int .i64 la) ∧ w12.cell? ⟨w6.heap.size, 1, none⟩ = some (.int .i64 lb) := ⟨(S.at_ 6 rfl).cell 1, (S.at_ 2 rfl).cell 0, (S.at_ 2 rfl).cell 1⟩
                refine hK _ _ (fun _ => HF) ?_
                clear hK K
                try simp only [Act.put]
                replace S := S.pick 0 rfl
                replace S := (S.flat link_flat ([(⟨la, lb⟩ : LinkM)])).swap
                have hsr : Src w12 (some ⟨w9.heap.size, 0, none⟩) 1 2 (ivals ([(⟨la, lb⟩ : LinkM)].flatMap fun x => [x.a, x.b])) ∧ [(⟨la, lb⟩ : LinkM)].length = 1 := ⟨Src.of_blk (S.at_ 2 rfl) (fun i hi => by
                  rcases (show i = 0 ∨ i = 1 by omega) with rfl | rfl <;> rfl), rfl⟩
                refine wpAnyL_step (i := 8) (by kernel_rfl) rfl rfl ?_
                intro K hK
                refine wp_append_many (l := t.cuts.take j) (l2 := [(⟨la, lb⟩ : LinkM)]) _ _ (by rfl) Try.underlying28 infoLink (by rfl) (by decide) linkC_len (by rfl) (S.own_ 0 rfl) (S.nodup_own 0 rfl) (by rfl) hsr.1 (S.own_ 1 rfl) hsr.2 (S.nodup_own 1 rfl) S.apart (by omega) (by omega) ?_
                intro A4 c4 w13 fp4 o3 n3 s3 t3
                have S' := S.merge t3 o3 n3 s3 c.size
                replace c := c.trans (S.below 0 rfl t3 c.size)
                clear S; have S := S'; clear S' o3 n3 s3 t3 hsr
                clear HF
                have HF : w13.cell? ⟨w.heap.size, 1, none⟩ = some (.slice (some ⟨b, off, none⟩) n1 c1) ∧ w13.cell? ⟨w6.heap.size, 0, none⟩ = some (.int .i64 la) ∧ w13.cell? ⟨w6.heap.size, 1, none⟩ = some (.int .i64 lb) := ⟨(S.at_ 6 rfl).cell 1, (S.at_ 2 rfl).cell 0, (S.at_ 2 rfl).cell 1⟩
                refine hK _ _ (fun _ => HF) ?_
                clear hK K
                try simp only [Act.put]
                refine wpAnyL_step (i := 9) (by kernel_rfl) rfl rfl ?_
                intro K hK
                go_simp
                refine hK _ _ (fun h => nomatch (show true = false from h)) ?_
                clear hK K
                try simp only [Act.put]
                refine wpAnyL_done (by kernel_rfl) ?_ _
                try simp only [Act.put]
                have hsr := (Rd.back (A2 := (if c1 = j then some ⟨b, off, none⟩ else some ⟨b, off + j * 2, none⟩)) (c' := c1 - j) linkC_len (by decide) (HH.out.keep c) hjc (fun b' off' e hl => by
                  have hc1 := HN.out
                  injection e with e
                  injection e with e1 e2
                  rw [if_neg (by omega), e1, e2]) (by have := HN.out; omega) (by omega)).src link_flat linkC_len (by decide)
                have HE := Lib.hid (show t.cuts.take j ++ [(⟨la, lb⟩ : LinkM)] ++ t.cuts.drop j = (cutNet t (linkOf x y)).cuts by unfold cutNet; rw [hlow, HLK.out])
                replace S := S.pick 0 rfl
                replace S := (S.flat link_flat (t.cuts.drop j)).swap
                have f12 : w13.cell? ⟨w.heap.size, 1, none⟩ = some (.slice (some ⟨b, off, none⟩) n1 c1) := (S.at_ 7 rfl).cell 1
                go_wp2_with (first
                  | (at_builtin
                     refine wpList_append_many (l := t.cuts.take j ++ [(⟨la, lb⟩ : LinkM)]) (l2 := t.cuts.drop j) rfl (.tmp 58) (.tmp 62) (by rfl) Try.underlying28 infoLink (by rfl) (by decide) linkC_len (by rfl) (S.own_ 0 rfl) (S.nodup_own 0 rfl) (by rfl) hsr.1 (S.own_ 1 rfl) hsr.2 (S.nodup_own 1 rfl) S.apart (by omega) (by omega) ?_
                     intro A5 c5 w20 fp5 o5 n5 s5 t5
                     rw [HE.out] at o5
                     have S1 := S.merge t5 o5 n5 s5 c.size
                     have C1 := c.trans (S.below 0 rfl t5 c.size)
                     have eo0 : w20.cell? ⟨w3.heap.size, 0, none⟩ = some (.slice Au nu cu) := (S1.at_ 3 rfl).cell 0
                     have eo1 : w20.cell? ⟨w3.heap.size, 1, none⟩ = some (.slice Ax nx cx) := (S1.at_ 3 rfl).cell 1
                     have fo1 := (S1.at_ 3 rfl).free 1
                     have er0 : w20.cell? ⟨w.heap.size + 1, 0, none⟩ = some (.slice none 0 0) := (S1.at_ 5 rfl).cell 0
                     have er1 : w20.cell? ⟨w.heap.size + 1, 1, none⟩ = some (.slice none 0 0) := (S1.at_ 5 rfl).cell 1
                     have fr0 := (S1.at_ 5 rfl).free 0
                     have fr1 := (S1.at_ 5 rfl).free 1
                     have zo : w.heap.size ≤ w3.heap.size := S1.base_le 3 rfl
                     have S2 := ((S1.put 3 rfl 1 (.slice A5 (j + 1 + (n1 - j)) c5)).put 5 rfl 0 (.slice Au nu cu)).put 5 rfl 1 (.slice A5 (j + 1 + (n1 - j)) c5)
                     have C2 := Lib.hid (((C1.setCell (p := ⟨w3.heap.size, 1, none⟩) zo (.slice A5 (j + 1 + (n1 - j)) c5)).setCell (p := ⟨w.heap.size + 1, 0, none⟩) (by simp) (.slice Au nu cu)).setCell (p := ⟨w.heap.size + 1, 1, none⟩) (by simp) (.slice A5 (j + 1 + (n1 - j)) c5))
                     have r0 := Lib.hid ((S2.at_ 5 rfl).cell 0)
                     have r1 := Lib.hid ((S2.at_ 5 rfl).cell 1)
                     obtain ⟨fx, fy, S3⟩ := (S2.pick 4 rfl).cut (ds := [msgD t.flight]) (ds' := [linkD t.cuts]) (vs := [.slice Au nu cu]) (vs' := [.slice Ax nx cx]) rfl
                     have H := Lib.hid (show Has _ w.heap.size ([msgD t.flight] ++ [linkD (cutNet t (linkOf x y)).cuts]) ([.slice Au nu cu] ++ [.slice A5 (j + 1 + (n1 - j)) c5]) from ((S3.pick 1 rfl).pick 2 rfl).pair)
                     clear S c o5 n5 s5 t5 S1 C1 S2 S3 hsr HF HH hl0))
                all_goals exact bodyPost_ret (v := .tuple #[.agg #[.slice Au nu cu, .slice A5 (j + 1 + (n1 - j)) c5], .bool true]) (by simp [results, Try.results53, go_sem, r0.out, r1.out]) rfl ⟨_, _, _, _, _, _, by rw [HD.out], by rw [HD.out]; exact H.out, C2.out⟩

end Go.Proofs.Ytdcdcccdihhhcaa
