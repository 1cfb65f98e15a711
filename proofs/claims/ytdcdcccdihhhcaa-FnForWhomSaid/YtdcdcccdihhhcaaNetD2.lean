/-
  Chapter 5: slices of messages and networks copied, in the model (by program, wip/gen/gennetf.py).
-/
import Derived.Test.YtdcdcccdihhhcaaNetD1
import Derived.RegionTactic
import Derived.BigQuiet
namespace Go.Proofs.Ytdcdcccdihhhcaa
set_option maxRecDepth 100000
open Go.RowKit

set_option maxHeartbeats 6400000 in
theorem sMsgs_any (A : Option Addr) (n cc : Nat) (l : List MsgM) (w : World) (h : Rd w w.heap.size [msgD l] [.slice A n cc]) (hs : msgSz l ≤ 1048577) :
    Calls Try.prog 105 #[.slice A n cc] w (MadeMsgS w l) := by
  obtain ⟨_, _, _, e, hl, _, _, hel⟩ := h.msgs
  injection e with e1 e2 e3
  subst e1 e2 e3
  have hn : n ≤ 1048577 := by unfold msgSz at hs; omega
  have HS := Lib.hid hs
  have HL := Lib.hid hl
  clear h hs hl
  have S0 := Lib.hid ((Sep.nil (w.alloc (.cells #[] 40)) w.heap.size).addAt (ow_empty (e := 40) (k := 3) (f := msgC) w) (by simp [foots]) (by simp))
  have B0 := Lib.hid ((Below.refl w.heap.size w).alloc (Nat.le_refl _) (.cells #[] 40))
  go_enter Try.func105, Try.ntmps105
  go_wp2
  go_loopw [3, 4] (fun u i wr => ∃ (j : Nat) (G : Option Addr) (gc : Nat) (fp : List Nat), j ≤ n ∧ i = .int .i64 (j : Int) ∧ u = .slice G j gc ∧ Sep wr w.heap.size [.own [msgD (l.take j)] [.slice G j gc] fp] ∧ Below w.heap.size w wr) (fun _ i _ => n - (intOf i).toNat)
  case atStart => exact ⟨0, _, _, _, Nat.zero_le _, rfl, rfl, S0.out, B0.out⟩
  case round =>
    obtain ⟨j, G, gc, fp, hj, rfl, rfl, S, c⟩ := hrel
    clear S0 B0
    by_cases hlt : j < n
    · obtain ⟨b, off, rfl, hb, hc⟩ := hel (by omega)
      have hjl : j < l.length := by have := HL.out; omega
      obtain ⟨A1, m1, d1, hc0, hc1, hc2, hrow, _⟩ := hc j hjl
      have cs0 := (c.cell (p := ⟨b, off + j * 3, none⟩) hb).trans hc0
      have cs1 := (c.cell (p := ⟨b, off + j * 3 + 1, none⟩) hb).trans hc1
      have cs2 := (c.cell (p := ⟨b, off + j * 3 + 2, none⟩) hb).trans hc2
      have hm1 : m1 ≤ 1048577 := by
        have h1 := pre_at (g := msgRowSz) hjl
        have h2 := HS.out
        have h3 := hrow.1
        have h4 : msgRowSz l[j] = l[j].row.length := rfl
        unfold msgSz at h2
        omega
      obtain ⟨x0, hx0⟩ : ∃ q, q = l[j].frm := ⟨_, rfl⟩
      obtain ⟨x1, hx1⟩ : ∃ q, q = l[j].dest := ⟨_, rfl⟩
      obtain ⟨xr, hxr⟩ : ∃ q, q = l[j].row := ⟨_, rfl⟩
      rw [← hx0] at cs0
      rw [← hx1] at cs1
      rw [← hxr] at hrow
      have hmk : l[j] = ⟨x0, x1, xr⟩ := by rw [hx0, hx1, hxr]
      have HX := Lib.hid (show l.take (j + 1) = l.take j ++ [⟨x0, x1, xr⟩] by rw [List.take_succ_eq_append_getElem hjl, hmk])
      have hr := (hrow.below c).up c.size
      have i0 : (0 : Int) ≤ (j : Int) := by omega
      have i1 : (j : Int) < (n : Int) := by omega
      clear hx0 hx1 hxr hmk hc hc0 hc1 hc2 hrow hel
      go_wp2_with fail
      refine (sMsg_any x0 x1 A1 m1 d1 xr _ hr hm1).mono ?_
      rintro e w1 ⟨A2, n2, c2, rfl, o, b⟩
      obtain ⟨fp_u, S'⟩ := S.has b o c.size
      replace c := c.trans (b.mono c.size)
      clear S; have S := S'; clear S' o b
      replace S := S.boxAt c.size (w1.heap.size) rfl #[.int .i64 x0, .int .i64 x1, .slice A2 n2 c2] 40
      replace c := c.alloc c.size (.cells #[.int .i64 x0, .int .i64 x1, .slice A2 n2 c2] 40)
      have HC : ∀ i, i < 3 → (w1.alloc (.cells #[.int .i64 x0, .int .i64 x1, .slice A2 n2 c2] 40)).cell? ⟨w1.heap.size, i, none⟩ = [Value.int .i64 x0, Value.int .i64 x1, Value.slice A2 n2 c2][i]? := fun i hi => by
        have h1 := (S.at_ 0 rfl).cell i
        rw [h1]
        simp
      replace S := S.pick 1 rfl
      replace S := S.pick 2 rfl
      have hgc := Lib.hid c
      go_wp2_with (first
        | (at_builtin
           refine wpList_append_elem (l := l.take j) (y := (⟨x0, x1, xr⟩ : MsgM)) rfl (.tmp 12) (.tmp 18) (by rfl) Try.underlying27 infoMsg (by rfl) (by decide) msgC_len (by rfl) (S.own_ 0 rfl) (S.nodup_own 0 rfl) (by rfl) HC (S.own_ 1 rfl) (S.nodup_own 1 rfl) S.apart (by omega) (by omega) ?_
           intro A3 c3 w3 fp3 o3 n3 s3 t3))
      have S3 := Lib.hid ((S.merge t3 o3 n3 s3 hgc.out.size).sub (.cons_cons _ (List.nil_sublist _)))
      have C3 := Lib.hid (hgc.out.trans (S.below 0 rfl t3 hgc.out.size))
      clear S c o3 n3 s3 t3 HC hgc hr
      go_roundw
      case rel => exact ⟨j + 1, A3, c3, fp3, by omega, by go_num, rfl, by rw [HX.out]; exact S3.out, C3.out⟩
      case measure => simp [intOf]; omega
    · have e : l.take j = l := List.take_of_length_le (by have := HL.out; omega)
      rw [e] at S
      have H := Lib.hid S.first
      have C := Lib.hid c
      clear hel S c e
      go_wp2
      go_ret
      exact ⟨_, _, _, rfl, H.out, C.out⟩

end Go.Proofs.Ytdcdcccdihhhcaa
