/-
  Chapter 7: the entries of one client, of the model (by program, wip/gen/genent5.py).
-/
import Derived.Test.YtjgoaaabfhjijaaEntS4
import Derived.Test.YtjgoaaabfhjijaaMove
import Derived.RegionTactic
import Derived.BigQuiet
import Derived.Laws.EntriesVeiled
namespace Go.Proofs.Ytjgoaaabfhjijaa
set_option maxRecDepth 100000
open Go.RowKit

set_option maxHeartbeats 12800000 in
theorem sOf_any (A : Option Addr) (n cc : Nat) (l : List EntM) (x : Int) (w : World) (h : Rd w w.heap.size [entD l] [.slice A n cc]) (hs : entSz l ≤ 1048577) :
    Calls Try.prog 42 #[.slice A n cc, .int .i64 x] w (MadeEntryS w (ofM l x)) := by
  have HH := Lib.hid h
  obtain ⟨_, _, _, e, hl, _, hcm, hel⟩ := h.ents
  injection e with e1 e2 e3
  subst e1 e2 e3
  have HL := Lib.hid hl
  have hn : n ≤ 1048577 := by unfold entSz at hs; omega
  clear h hl hcm
  have S := (Sep.nil (w.alloc (.cells #[] 43)) w.heap.size).addAt (ow_empty (e := 43) (k := 9) (f := entC) w) (by simp [foots]) (by simp)
  have c := (Below.refl w.heap.size w).alloc (Nat.le_refl _) (.cells #[] 43)
  go_enter Try.func42, Try.ntmps42
  go_wp2_with fail
  refine (sEntries_any A n cc w.heap.size l _ (HH.out.keep c) c.size hs).mono ?_
  rintro e w1 ⟨rfl, b⟩
  replace c := c.trans (b.mono c.size)
  replace S := S.keep b
  clear b
  have S0 := Lib.hid S
  have B0 := Lib.hid c
  clear S c
  cases hok : entsB l
  case false =>
    have HD := Lib.hid (show ofM l x = [] by unfold ofM; rw [hok]; rfl)
    have H := Lib.hid S0.out.first
    clear hok hel
    go_wp2
    go_ret
    exact ⟨_, _, _, rfl, by rw [HD.out]; exact H.out, B0.out⟩
  case true =>
    have HD := Lib.hid (show ofM l x = ofN l x l.length by unfold ofM; rw [if_pos hok])
    clear hok
    go_wp2
    go_loopw [5, 6] (fun u i wr => ∃ (j : Nat) (G : Option Addr) (m gc : Nat) (fp : List Nat), j ≤ n ∧ i = .int .i64 (j : Int) ∧ u = .slice G m gc ∧ m ≤ j ∧ Sep wr w.heap.size [.own [entD (ofN l x j)] [.slice G m gc] fp] ∧ Below w.heap.size w wr) (fun _ i _ => n - (intOf i).toNat)
    case atStart => exact ⟨0, _, _, _, _, Nat.zero_le _, rfl, rfl, Nat.le_refl _, S0.out, B0.out⟩
    case round =>
      obtain ⟨j, G, m, gc, fp, hj, rfl, rfl, hm, S, c⟩ := hrel
      clear S0 B0
      by_cases hlt : j < n
      · obtain ⟨b, off, rfl, hb, hc⟩ := hel (by omega)
        have hjl : j < l.length := by have := HL.out; omega
        obtain ⟨hc0, hc1, hc2, hc3, hc4, hc5, hc6, hc7, hc8⟩ := hc j hjl
        have cs0 := (c.cell (p := ⟨b, off + j * 9, none⟩) (show b < _ by omega)).trans hc0
        have cs1 := (c.cell (p := ⟨b, off + j * 9 + 1, none⟩) (show b < _ by omega)).trans hc1
        have cs2 := (c.cell (p := ⟨b, off + j * 9 + 2, none⟩) (show b < _ by omega)).trans hc2
        have cs3 := (c.cell (p := ⟨b, off + j * 9 + 3, none⟩) (show b < _ by omega)).trans hc3
        have cs4 := (c.cell (p := ⟨b, off + j * 9 + 4, none⟩) (show b < _ by omega)).trans hc4
        have cs5 := (c.cell (p := ⟨b, off + j * 9 + 5, none⟩) (show b < _ by omega)).trans hc5
        have cs6 := (c.cell (p := ⟨b, off + j * 9 + 6, none⟩) (show b < _ by omega)).trans hc6
        have cs7 := (c.cell (p := ⟨b, off + j * 9 + 7, none⟩) (show b < _ by omega)).trans hc7
        have cs8 := (c.cell (p := ⟨b, off + j * 9 + 8, none⟩) (show b < _ by omega)).trans hc8
        obtain ⟨x0, hx0⟩ : ∃ q, q = l[j].idx := ⟨_, rfl⟩
        rw [← hx0] at cs0
        obtain ⟨x1, hx1⟩ : ∃ q, q = l[j].tm := ⟨_, rfl⟩
        rw [← hx1] at cs1
        obtain ⟨x2, hx2⟩ : ∃ q, q = l[j].cl := ⟨_, rfl⟩
        rw [← hx2] at cs2
        obtain ⟨x3, hx3⟩ : ∃ q, q = l[j].sq := ⟨_, rfl⟩
        rw [← hx3] at cs3
        obtain ⟨x4, hx4⟩ : ∃ q, q = l[j].kd := ⟨_, rfl⟩
        rw [← hx4] at cs4
        obtain ⟨x5, hx5⟩ : ∃ q, q = l[j].oa := ⟨_, rfl⟩
        rw [← hx5] at cs5
        obtain ⟨x6, hx6⟩ : ∃ q, q = l[j].ob := ⟨_, rfl⟩
        rw [← hx6] at cs6
        obtain ⟨x7, hx7⟩ : ∃ q, q = l[j].oc := ⟨_, rfl⟩
        rw [← hx7] at cs7
        obtain ⟨x8, hx8⟩ : ∃ q, q = l[j].od := ⟨_, rfl⟩
        rw [← hx8] at cs8
        have hmk : l[j] = ⟨x0, x1, x2, x3, x4, x5, x6, x7, x8⟩ := by rw [hx0, hx1, hx2, hx3, hx4, hx5, hx6, hx7, hx8]
        have HM := Lib.hid hmk
        have HA := Lib.hid (fun h : x2 = x => ofN_yes (c := x) hjl (by rw [hmk]; exact h))
        have HB := Lib.hid (fun h : ¬ x2 = x => ofN_no (c := x) hjl (by rw [hmk]; exact h))
        have zb := c.size
        clear hmk hc hel hx0 hx1 hx2 hx3 hx4 hx5 hx6 hx7 hx8 hc0 hc1 hc2 hc3 hc4 hc5 hc6 hc7 hc8
        by_cases hd : x2 = x
        case neg =>
          have HN := Lib.hid (HB.out hd)
          have e1 : (x2 == x) = false := by simpa using hd
          have SS := Lib.hid S
          have CC := Lib.hid c
          clear S c
          go_wp2
          go_roundw
          case rel => exact ⟨j + 1, G, m, gc, fp, by omega, by go_num, rfl, by omega, by rw [HN.out]; exact SS.out, CC.out⟩
          case measure => simp [intOf]; omega
        case pos =>
          have HN := Lib.hid (show ofN l x (j + 1) = ofN l x j ++ [⟨x0, x1, x2, x3, x4, x5, x6, x7, x8⟩] by rw [HA.out hd, HM.out])
          subst hd
          replace S := S.boxAt c.size (wr.heap.size) rfl #[.int .i64 x0, .int .i64 x1, .int .i64 x2, .int .i64 x3, .int .i64 x4, .int .i64 x5, .int .i64 x6, .int .i64 x7, .int .i64 x8] 43
          replace c := c.alloc c.size (.cells #[.int .i64 x0, .int .i64 x1, .int .i64 x2, .int .i64 x3, .int .i64 x4, .int .i64 x5, .int .i64 x6, .int .i64 x7, .int .i64 x8] 43)
          have HC : ∀ i, i < 9 → (wr.alloc (.cells #[.int .i64 x0, .int .i64 x1, .int .i64 x2, .int .i64 x3, .int .i64 x4, .int .i64 x5, .int .i64 x6, .int .i64 x7, .int .i64 x8] 43)).cell? ⟨wr.heap.size, i, none⟩ = [Value.int .i64 x0, Value.int .i64 x1, Value.int .i64 x2, Value.int .i64 x3, Value.int .i64 x4, Value.int .i64 x5, Value.int .i64 x6, Value.int .i64 x7, Value.int .i64 x8][i]? := fun i hi => by
            have h1 := (S.at_ 0 rfl).cell i
            rw [h1]
            simp
          replace S := (S.tail).own0 (ds := entC ⟨x0, x1, x2, x3, x4, x5, x6, x7, x8⟩) (vs := [.int .i64 x0, .int .i64 x1, .int .i64 x2, .int .i64 x3, .int .i64 x4, .int .i64 x5, .int .i64 x6, .int .i64 x7, .int .i64 x8]) (.int (.int (.int (.int (.int (.int (.int (.int (.int (.nil))))))))))
          replace S := S.swap
          have hgc := Lib.hid c
          go_wp2_with (first
            | (at_builtin
               refine wpList_append_elem (l := ofN l x2 j) (y := (⟨x0, x1, x2, x3, x4, x5, x6, x7, x8⟩ : EntM)) rfl (.tmp 25) (.tmp 30) (by rfl) Try.underlying53 infoEntry (by rfl) (by decide) entC_len (by rfl) (S.own_ 0 rfl) (S.nodup_own 0 rfl) (by rfl) HC (S.own_ 1 rfl) (S.nodup_own 1 rfl) S.apart (by omega) (by omega) ?_
               intro A3 c3 w3 fp3 o3 n3 s3 t3))
          have S3 := Lib.hid (S.merge t3 o3 n3 s3 hgc.out.size)
          have C3 := Lib.hid (hgc.out.trans (S.below 0 rfl t3 hgc.out.size))
          clear S c o3 n3 s3 t3 HC hgc
          go_roundw
          case rel => exact ⟨j + 1, A3, m + 1, c3, fp3, by omega, by go_num, rfl, by omega, by rw [HN.out]; exact S3.out, C3.out⟩
          case measure => simp [intOf]; omega
      · have e : ofN l x j = ofM l x := by
          have : j = l.length := by have := HL.out; omega
          rw [this, HD.out]
        rw [e] at S
        have H := Lib.hid S.first
        have C := Lib.hid c
        clear hel S c e
        go_wp2
        go_ret
        exact ⟨_, _, _, rfl, H.out, C.out⟩

end Go.Proofs.Ytjgoaaabfhjijaa
