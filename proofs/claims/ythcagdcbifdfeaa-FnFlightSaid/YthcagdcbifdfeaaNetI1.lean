/-
  Chapter 5: networks copied, in the program (by program, wip/gen/gennetg.py).
-/
import Derived.Test.YthcagdcbifdfeaaNetE1
import Derived.RegionTactic
import Derived.BigQuiet
namespace Go.Proofs.Ythcagdcbifdfeaa
set_option maxRecDepth 100000
open Go.RowKit

theorem size_link : (Try.prog.info? 76).map (·.size) = some 2 := by kernel_rfl

set_option maxHeartbeats 6400000 in
theorem iCopyN_any (v0 v1 : Value) (t : NetM) (w : World) (h : Rd w w.heap.size t.cells [v0, v1]) (hs : t.sz ≤ 1048577) :
    Calls Try.prog 62 #[.agg #[v0, v1]] w (MadeNet w t) := by
  obtain ⟨A0, n0, c0, A1, n1, c1, rfl, rfl, hr0, hr1⟩ := h.netT
  have hz0 : msgSz t.flight ≤ 1048577 := by unfold NetM.sz at hs; omega
  have hz1 : linkSz t.cuts ≤ 1048577 := by unfold NetM.sz at hs; omega
  obtain ⟨hl0, hl1, _, _, _⟩ := net_len h
  have hn0 : n0 ≤ 1048577 := by unfold msgSz at hz0; omega
  have hn1 : n1 ≤ 1048577 := by unfold linkSz at hz1; omega
  obtain ⟨_, _, _, e, _, _, _, hel⟩ := hr0.msgs
  injection e with e1 e2 e3
  subst e1 e2 e3
  have HS := Lib.hid hz0
  have HL := Lib.hid hl0
  have S := Sep.nil w w.heap.size
  have c := Below.refl w.heap.size w
  replace S := S.boxAt c.size (w.heap.size) rfl #[.slice A0 n0 c0, .slice A1 n1 c1] 30
  replace c := c.alloc c.size (.cells #[.slice A0 n0 c0, .slice A1 n1 c1] 30)
  replace S := S.boxAt c.size (w.heap.size + 1) (by simp) #[.slice none 0 0, .slice none 0 0] 30
  replace c := c.alloc c.size (.cells #[.slice none 0 0, .slice none 0 0] 30)
  have hmk := run_make_k (P := Try.prog) 27 37 (.agg #[.int .i64 0, .int .i64 0, .slice none 0 0]) #[.int .i64 0, .int .i64 0, .slice none 0 0] 3 40 Try.underlying27 infoMsg rfl .i64 .i64 n0 (by omega) (by omega)
  have S0 := Lib.hid (S.made (e := 37) (f := msgC) (x0 := (⟨0, 0, []⟩ : MsgM)) (zc := #[.int .i64 0, .int .i64 0, .slice none 0 0]) (k := 3) c.size rfl (by decide) n0 (by simp only [maxLen]; omega) ow_zero_msg (p := w.heap.size + 1 + 1) (by simp))
  have B0 := Lib.hid (c.alloc c.size (.cells (madeCells #[.int .i64 0, .int .i64 0, .slice none 0 0] (n0 * 3)) 37))
  have P0 := Lib.hid (S0.out.at_ 2 rfl)
  clear S c
  have k0 : (((w.alloc (.cells #[.slice A0 n0 c0, .slice A1 n1 c1] 30)).alloc (.cells #[.slice none 0 0, .slice none 0 0] 30)).alloc (.cells (madeCells #[.int .i64 0, .int .i64 0, .slice none 0 0] (n0 * 3)) 37)).cell? ⟨w.heap.size, 0, none⟩ = some (.slice A0 n0 c0) := P0.out.cell 0
  have k1 : (((w.alloc (.cells #[.slice A0 n0 c0, .slice A1 n1 c1] 30)).alloc (.cells #[.slice none 0 0, .slice none 0 0] 30)).alloc (.cells (madeCells #[.int .i64 0, .int .i64 0, .slice none 0 0] (n0 * 3)) 37)).cell? ⟨w.heap.size, 1, none⟩ = some (.slice A1 n1 c1) := P0.out.cell 1
  go_enter Try.func62, Try.ntmps62
  go_wp2
  go_loopw [14] (fun i wr => ∃ (j : Nat) (fp : List Nat), j ≤ n0 ∧ i = .int .i64 (j : Int) ∧ Sep wr w.heap.size [.own [msgD (t.flight.take j ++ List.replicate (n0 - j) (⟨0, 0, []⟩ : MsgM))] [.slice (some ⟨w.heap.size + 1 + 1, 0, none⟩) n0 n0] fp, .blk (w.heap.size + 1) #[.slice none 0 0, .slice none 0 0] 30, .blk w.heap.size #[.slice A0 n0 c0, .slice A1 n1 c1] 30] ∧ Below w.heap.size w wr) (fun i _ => n0 - (intOf i).toNat)
  case atStart => exact ⟨0, _, Nat.zero_le _, rfl, S0.out, B0.out⟩
  case round =>
    obtain ⟨j, fp, hj, rfl, S, c⟩ := hrel
    clear S0 B0 P0 k0 k1 hmk
    by_cases hlt : j < n0
    · obtain ⟨b, off, rfl, hb, hc⟩ := hel (by omega)
      have hjl : j < t.flight.length := by have := HL.out; omega
      obtain ⟨F1, m1, d1, hc0, hc1, hc2, hrow, _⟩ := hc j hjl
      have cs0 := (c.cell (p := ⟨b, off + j * 3, none⟩) hb).trans hc0
      have cs1 := (c.cell (p := ⟨b, off + j * 3 + 1, none⟩) hb).trans hc1
      have cs2 := (c.cell (p := ⟨b, off + j * 3 + 2, none⟩) hb).trans hc2
      have hm1 : m1 ≤ 1048577 := by
        have h1 := pre_at (g := msgRowSz) hjl
        have h2 := HS.out
        have h3 := hrow.1
        have h4 : msgRowSz t.flight[j] = t.flight[j].row.length := rfl
        unfold msgSz at h2
        omega
      obtain ⟨x0, hx0⟩ : ∃ q, q = t.flight[j].frm := ⟨_, rfl⟩
      obtain ⟨x1, hx1⟩ : ∃ q, q = t.flight[j].dest := ⟨_, rfl⟩
      obtain ⟨xr, hxr⟩ : ∃ q, q = t.flight[j].row := ⟨_, rfl⟩
      rw [← hx0] at cs0
      rw [← hx1] at cs1
      rw [← hxr] at hrow
      have hmk : t.flight[j] = ⟨x0, x1, xr⟩ := by rw [hx0, hx1, hxr]
      have HX := Lib.hid hmk
      have i0 : (0 : Int) ≤ (j : Int) := by omega
      have i1 : (j : Int) < (n0 : Int) := by omega
      clear hx0 hx1 hxr hmk hc hc0 hc1 hc2 hel
      replace S := S.boxAt c.size (wr.heap.size) rfl #[.int .i64 x0, .int .i64 x1, .slice F1 m1 d1] 37
      replace c := c.alloc c.size (.cells #[.int .i64 x0, .int .i64 x1, .slice F1 m1 d1] 37)
      have hr := (hrow.below c).up c.size
      clear hrow
      go_wp2_with fail
      generalize wr.alloc (.cells #[.int .i64 x0, .int .i64 x1, .slice F1 m1 d1] 37) = w1 at *
      refine (iMsg_any x0 x1 F1 m1 d1 xr _ hr hm1).mono ?_
      rintro e w2 ⟨A2, n2, c2, rfl, o, b⟩
      obtain ⟨fp_u, S'⟩ := S.has b o c.size
      replace c := c.trans (b.mono c.size)
      clear S; have S := S'; clear S' o b
      replace S := S.pick 0 rfl
      replace S := S.pick 2 rfl
      have hl2 : (t.flight.take j ++ List.replicate (n0 - j) (⟨0, 0, []⟩ : MsgM)).length = n0 := by simp; have := HL.out; omega
      obtain ⟨es, he, hcell, hfr⟩ := S.slot (k := 3) msgC_len (by decide) (j := j) (by omega)
      have ck0 := hcell 0 (by decide)
      have ck1 := hcell 1 (by decide)
      have ck2 := hcell 2 (by decide)
      rw [Nat.add_zero] at ck0
      match es, he with
      | [y0, y1, y2], _ =>
      have ck0' : w2.cell? ⟨w.heap.size + 1 + 1, j * 3, none⟩ = some y0 := ck0
      have ck1' : w2.cell? ⟨w.heap.size + 1 + 1, j * 3 + 1, none⟩ = some y1 := ck1
      have ck2' : w2.cell? ⟨w.heap.size + 1 + 1, j * 3 + 2, none⟩ = some y2 := ck2
      have fk0 := hfr (j * 3)
      have fk1 := hfr (j * 3 + 1)
      have fk2 := hfr (j * 3 + 2)
      obtain ⟨fp', S', ht⟩ := S.store (k := 3) msgC_len (by decide) (j := j) (x := ⟨x0, x1, xr⟩) (by omega) c.size
      have R3 := Lib.hid (show Below w.heap.size w (puts w2 (w.heap.size + 1 + 1) (j * 3) [.int .i64 x0, .int .i64 x1, .slice A2 n2 c2]) from c.trans (S.below 0 rfl ht c.size))
      have R1 := Lib.hid (show Sep (puts w2 (w.heap.size + 1 + 1) (j * 3) [.int .i64 x0, .int .i64 x1, .slice A2 n2 c2]) w.heap.size [.own [msgD (t.flight.take (j + 1) ++ List.replicate (n0 - (j + 1)) (⟨0, 0, []⟩ : MsgM))] [.slice (some ⟨w.heap.size + 1 + 1, 0, none⟩) n0 n0] fp', .blk (w.heap.size + 1) #[.slice none 0 0, .slice none 0 0] 30, .blk w.heap.size #[.slice (some ⟨b, off, none⟩) n0 c0, .slice A1 n1 c1] 30] by
        have h1 := fill_step (x0 := (⟨0, 0, []⟩ : MsgM)) HL.out hjl
        rw [HX.out] at h1
        rw [← h1]
        exact S'.sub (.cons_cons _ (.cons _ (List.Sublist.refl _))))
      clear S S' ht c hr hcell hfr ck0 ck1 ck2 hl2 
      go_wp2
      go_roundw
      case rel => exact ⟨j + 1, fp', by omega, by go_num, R1.out, R3.out⟩
      case measure => simp [intOf]; omega
    · have e : n0 - j = 0 := by omega
      rw [e, List.replicate_zero, List.append_nil, List.take_of_length_le (by have := HL.out; omega)] at S
      have hmk := run_make_k (P := Try.prog) 28 76 (.agg #[.int .i64 0, .int .i64 0]) #[.int .i64 0, .int .i64 0] 2 16 Try.underlying28 infoLink rfl .i64 .i64 n1 (by omega) (by omega)
      have f0 : wr.cell? ⟨w.heap.size, 1, none⟩ = some (.slice A1 n1 c1) := (S.at_ 2 rfl).cell 1
      replace S := S.made (e := 76) (f := linkC) (x0 := (⟨0, 0⟩ : LinkM)) (zc := #[.int .i64 0, .int .i64 0]) (k := 2) c.size rfl (by decide) n1 (by simp only [maxLen]; omega) ow_zero_link (p := wr.heap.size) rfl
      replace c := c.alloc c.size (.cells (madeCells #[.int .i64 0, .int .i64 0] (n1 * 2)) 76)
      have hsr := (hr1.keep c).src link_flat linkC_len (by decide)
      have f1 : (wr.alloc (.cells (madeCells #[.int .i64 0, .int .i64 0] (n1 * 2)) 76)).cell? ⟨w.heap.size, 1, none⟩ = some (.slice A1 n1 c1) := (S.at_ 3 rfl).cell 1
      clear e hel
      go_wp2_with (first
        | (refine wpList_copy_flat (k := 2) (l2 := t.cuts) rfl (.tmp 29) (.tmp 31) (by rfl) Try.underlying28 size_link (by decide) linkC_len link_flat (by rfl) (S.own_ 0 rfl) (by rfl) hsr.1 hsr.2 ?_
           intro w6 o6 t6
           have S1 := S.mark 0 rfl t6 o6
           have C1 := c.trans (S.below 0 rfl t6 c.size)
           have er0 : w6.cell? ⟨w.heap.size + 1, 0, none⟩ = some (.slice none 0 0) := (S1.at_ 2 rfl).cell 0
           have er1 : w6.cell? ⟨w.heap.size + 1, 1, none⟩ = some (.slice none 0 0) := (S1.at_ 2 rfl).cell 1
           have fr0 := (S1.at_ 2 rfl).free 0
           have fr1 := (S1.at_ 2 rfl).free 1
           have S2 := (S1.put 2 rfl 0 (.slice (some ⟨w.heap.size + 1 + 1, 0, none⟩) n0 n0)).put 2 rfl 1 (.slice (some ⟨wr.heap.size, 0, none⟩) n1 n1)
           have C2 := Lib.hid ((C1.setCell (p := ⟨w.heap.size + 1, 0, none⟩) (by simp) (.slice (some ⟨w.heap.size + 1 + 1, 0, none⟩) n0 n0)).setCell (p := ⟨w.heap.size + 1, 1, none⟩) (by simp) (.slice (some ⟨wr.heap.size, 0, none⟩) n1 n1))
           have r0 := Lib.hid ((S2.at_ 2 rfl).cell 0)
           have r1 := Lib.hid ((S2.at_ 2 rfl).cell 1)
           have H := Lib.hid S2.pair
           clear S c o6 t6 S1 C1 S2 hsr hr0 hr1 h hmk f0 f1))
      all_goals exact bodyPost_ret (v := .agg #[.slice (some ⟨w.heap.size + 1 + 1, 0, none⟩) n0 n0, .slice (some ⟨wr.heap.size, 0, none⟩) n1 n1]) (by simp [results, Try.results62, go_sem, r0.out, r1.out]) rfl ⟨_, _, _, _, _, _, rfl, H.out, C2.out⟩

end Go.Proofs.Ythcagdcbifdfeaa
