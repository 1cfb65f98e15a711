/-
  Messages and slices of them as plain data, and the laws' helpers for them (by program, wip/gen/typegen.py).
-/
import Derived.Test.YtdcdcccdihhhcaaKA
import Derived.RegionTactic
import Derived.BigQuiet
namespace Go.Proofs.Ytdcdcccdihhhcaa
set_option maxRecDepth 100000
open Go.RowKit

structure MsgM where
  frm : Int
  dest : Int
  row : List Int
def msgC (x : MsgM) : List Dat := [.int x.frm, .int x.dest, rowD x.row]
theorem msgC_len (x : MsgM) : (msgC x).length = 3 := rfl
def msgD (l : List MsgM) : Dat := lst 40 3 msgC l
def msgRowSz (x : MsgM) : Nat := x.row.length
def msgSz (l : List MsgM) : Nat := l.length + (l.map msgRowSz).sum
def msgNs (x : MsgM) : List Int := x.frm :: x.dest :: x.row
def msgN (l : List MsgM) : Nat := nums msgNs l l.length
def MarkedMsgS (l : List MsgM) (k : Int) : Prop := l.flatMap msgNs = upFrom k (l.flatMap msgNs).length
def MadeMsgS (w : World) (l : List MsgM) (e : Ending) (w' : World) : Prop :=
  ∃ A n c, e = .returned (.slice A n c) ∧ Has w' w.heap.size [msgD l] [.slice A n c] ∧ Below w.heap.size w w'
theorem infoMsg : (Try.prog.info? 40).map (fun i => (i.zero, i.size, i.bytes)) = some (some (.agg #[.int .i64 0, .int .i64 0, .slice none 0 0]), 3, 40) := by kernel_rfl
theorem ow_zero_msg (w : World) : Ow w (msgC (⟨0, 0, []⟩ : MsgM)) [.int .i64 0, .int .i64 0, .slice none 0 0] [] := .int (.int (ow_nil_row w))
theorem Rd.msgs {w : World} {B : Nat} {v0 : Value} {l : List MsgM} (h : Rd w B [msgD l] [v0]) : ∃ A n c, v0 = .slice A n c ∧ l.length = n ∧ n ≤ c ∧ c ≤ maxLen ∧
    (0 < n → ∃ b off, A = some ⟨b, off, none⟩ ∧ b < B ∧ ∀ j (hj : j < l.length), ∃ A' m c', w.cell? ⟨b, off + j * 3, none⟩ = some (.int .i64 l[j].frm) ∧ w.cell? ⟨b, off + j * 3 + 1, none⟩ = some (.int .i64 l[j].dest) ∧ w.cell? ⟨b, off + j * 3 + 2, none⟩ = some (.slice A' m c') ∧ IRow w B A' m l[j].row ∧ m ≤ c' ∧ c' ≤ maxLen) := by
  obtain ⟨A, n, c, rfl, hl, h1, h2, h3⟩ := Rd.lst (k := 3) msgC_len (by decide) h
  refine ⟨A, n, c, rfl, hl, h1, h2, fun hn => ?_⟩
  obtain ⟨b, off, rfl, hb, hc⟩ := h3 hn
  refine ⟨b, off, rfl, hb, fun j hj => ?_⟩
  obtain ⟨es, he, hr, hcell⟩ := hc j hj
  match es, he with
  | [u0, u1, u2], _ =>
    have h0' := hcell 0 (by omega)
    have h1' := hcell 1 (by omega)
    have h2' := hcell 2 (by omega)
    simp only [Nat.add_zero] at h0'
    have g0 : Rd w B (msgC l[j]) [u0, u1, u2] := hr
    obtain ⟨e0, g1⟩ := Rd.int_cons g0
    obtain ⟨e1, g2⟩ := Rd.int_cons g1
    obtain ⟨A', m, c', er, hi, hm⟩ := Rd.irow g2
    subst e0
    subst e1
    subst er
    exact ⟨A', m, c', h0', h1', h2', hi, hm⟩
theorem Ow.msg {w : World} {x : MsgM} {y0 y1 y2 : Value} {f2 : List Nat} (h : Ow w (msgC x) [y0, y1, y2] f2) : y0 = .int .i64 x.frm ∧ y1 = .int .i64 x.dest ∧ ∃ A m c, y2 = .slice A m c ∧ Own w 0 A m c x.row ∧ f2 = (Value.slice A m c).ownBlock.toList := by
  have g0 : Ow w (msgC x) [y0, y1, y2] f2 := h
  obtain ⟨e0, g1⟩ := Ow.int_cons g0
  obtain ⟨e1, g2⟩ := Ow.int_cons g1
  obtain ⟨A, m, c, er, o, ef⟩ := Ow.own g2
  exact ⟨e0, e1, A, m, c, er, o, by rw [ef, er]⟩
theorem msgN_eq (l : List MsgM) : (l.map (fun r => (msgNs r).length)).sum = 2 * l.length + (l.map msgRowSz).sum := by
  induction l with
  | nil => rfl
  | cons x l ih =>
    rw [List.map_cons, List.sum_cons, ih, List.map_cons, List.sum_cons, List.length_cons]
    have h1 : (msgNs x).length = x.row.length + 2 := rfl
    have h2 : msgRowSz x = x.row.length := rfl
    omega
theorem msgN_le (l : List MsgM) : msgN l ≤ 2 * msgSz l := by
  unfold msgN nums
  rw [pre_all, msgN_eq]
  unfold msgSz
  omega
theorem msgSz_map {l l' : List MsgM} (h : l'.map (fun r => (msgNs r).length) = l.map (fun r => (msgNs r).length)) : msgSz l' = msgSz l := by
  have h1 := len_of_map h
  have h2 := congrArg List.sum h
  rw [msgN_eq, msgN_eq, h1] at h2
  unfold msgSz
  omega

set_option maxHeartbeats 1600000 in
theorem toMsg_any (x0 x1 : Int) (A : Option Addr) (n cc : Nat) (xs : List Int) (w : World) (h : IRow w w.heap.size A n xs) (hn : n ≤ 1048576) :
    Calls Try.prog 37 #[.agg #[.int .i64 x0, .int .i64 x1, .slice A n cc]] w fun e w' => ∃ A' n' c', e = .returned (.agg #[.int .i64 x0, .int .i64 x1, .slice A' n' c']) ∧ Own w' w.heap.size A' n' c' xs ∧ Below w.heap.size w w' := by
  have S := Sep.nil w w.heap.size
  have c := Below.refl w.heap.size w
  replace S := S.boxAt c.size (w.heap.size) rfl #[.int .i64 x0, .int .i64 x1, .slice A n cc] 50
  replace c := c.alloc c.size (.cells #[.int .i64 x0, .int .i64 x1, .slice A n cc] 50)
  replace S := S.boxAt c.size (w.heap.size + 1) (by simp) #[.int .i64 0, .int .i64 0, .slice none 0 0] 40
  replace c := c.alloc c.size (.cells #[.int .i64 0, .int .i64 0, .slice none 0 0] 40)
  replace S := S.boxAt c.size (w.heap.size + 1 + 1) (by simp) #[.int .i64 x0, .int .i64 x1, .slice none 0 0] 40
  replace c := c.alloc c.size (.cells #[.int .i64 x0, .int .i64 x1, .slice none 0 0] 40)
  go_enter Try.func37, Try.ntmps37
  go_wp2_with fail
  generalize ((w.alloc (.cells #[.int .i64 x0, .int .i64 x1, .slice A n cc] 50)).alloc (.cells #[.int .i64 0, .int .i64 0, .slice none 0 0] 40)).alloc (.cells #[.int .i64 x0, .int .i64 x1, .slice none 0 0] 40) = w1 at *
  refine (to_any A n cc xs _ ((h.below c).up c.size) hn).mono ?_
  rintro e w2 ⟨rfl, o, b⟩
  obtain ⟨fp_u, S'⟩ := S.has b o.has c.size
  replace c := c.trans (b.mono c.size)
  clear S; have S := S'; clear S' o b
  have f0 : w2.cell? ⟨w.heap.size + 1 + 1, 2, none⟩ = some (.slice none 0 0) := (S.at_ 1 rfl).cell 2
  have f1 := (S.at_ 1 rfl).free 2
  have f2 : w2.cell? ⟨w.heap.size + 1 + 1, 0, none⟩ = some (.int .i64 x0) := (S.at_ 1 rfl).cell 0
  have f3 : w2.cell? ⟨w.heap.size + 1 + 1, 1, none⟩ = some (.int .i64 x1) := (S.at_ 1 rfl).cell 1
  have f4 : w2.cell? ⟨w.heap.size + 1, 0, none⟩ = some (.int .i64 0) := (S.at_ 2 rfl).cell 0
  have f5 := (S.at_ 2 rfl).free 0
  have f6 : w2.cell? ⟨w.heap.size + 1, 1, none⟩ = some (.int .i64 0) := (S.at_ 2 rfl).cell 1
  have f7 := (S.at_ 2 rfl).free 1
  have f8 : w2.cell? ⟨w.heap.size + 1, 2, none⟩ = some (.slice none 0 0) := (S.at_ 2 rfl).cell 2
  have f9 := (S.at_ 2 rfl).free 2
  replace S := S.put 1 rfl 2 (.slice (some ⟨w1.heap.size, 0, none⟩) n n)
  replace c := c.setCell (p := ⟨w.heap.size + 1 + 1, 2, none⟩) (by show w.heap.size ≤ w.heap.size + 1 + 1; omega) (.slice (some ⟨w1.heap.size, 0, none⟩) n n)
  replace S := S.put 2 rfl 0 (.int .i64 x0)
  replace c := c.setCell (p := ⟨w.heap.size + 1, 0, none⟩) (by show w.heap.size ≤ w.heap.size + 1; omega) (.int .i64 x0)
  replace S := S.put 2 rfl 1 (.int .i64 x1)
  replace c := c.setCell (p := ⟨w.heap.size + 1, 1, none⟩) (by show w.heap.size ≤ w.heap.size + 1; omega) (.int .i64 x1)
  replace S := S.put 2 rfl 2 (.slice (some ⟨w1.heap.size, 0, none⟩) n n)
  replace c := c.setCell (p := ⟨w.heap.size + 1, 2, none⟩) (by show w.heap.size ≤ w.heap.size + 1; omega) (.slice (some ⟨w1.heap.size, 0, none⟩) n n)
  obtain ⟨A2, n2, c2, e2, H0⟩ := Has.own (xs := xs) ((S.sub (.cons_cons _ (List.nil_sublist _))).first)
  injection e2 with a1 a2 a3
  subst a1 a2 a3
  have H := Lib.hid H0
  have C := Lib.hid c
  clear S c h H0
  go_wp2
  exact bodyPost_ret (v := .agg #[.int .i64 x0, .int .i64 x1, .slice (some ⟨w1.heap.size, 0, none⟩) n n]) (by simp [results, Try.results37, go_sem, f4, f6, f8]) rfl ⟨_, _, _, rfl, H.out, C.out⟩

set_option maxHeartbeats 3200000 in
theorem toMsgS_made (A : Option Addr) (n c : Nat) (l : List MsgM) (w : World) (h : Rd w w.heap.size [msgD l] [.slice A n c]) (hs : msgSz l ≤ 1048576) :
    Calls Try.prog 81 #[.slice A n c] w (MadeMsgS w l) := by
  obtain ⟨A', n', c', e, hl, hnc, hcm, hel⟩ := h.msgs
  injection e with e1 e2 e3
  subst e1 e2 e3
  have hn : n ≤ 1048576 := by unfold msgSz at hs; omega
  have HS := Lib.hid hs
  have HL := Lib.hid hl
  have hmk := run_make_k (P := Try.prog) 27 40 (.agg #[.int .i64 0, .int .i64 0, .slice none 0 0]) #[.int .i64 0, .int .i64 0, .slice none 0 0] 3 40 Try.underlying27 infoMsg rfl .i64 .i64 n (by omega) (by omega)
  have O0 := Lib.hid (ow_made (w := w) (e := 40) (f := msgC) (x0 := (⟨0, 0, []⟩ : MsgM)) (zc := #[.int .i64 0, .int .i64 0, .slice none 0 0]) (k := 3) rfl (by decide) n (by simp only [maxLen]; omega) ow_zero_msg)
  have B0 := Lib.hid ((Below.refl w.heap.size w).alloc (Nat.le_refl _) (.cells (madeCells #[.int .i64 0, .int .i64 0, .slice none 0 0] (n * 3)) 40))
  clear hl hs h
  go_enter Try.func81, Try.ntmps81
  go_wp2
  go_loopw [4] (fun i wr => ∃ (j : Nat) (fp : List Nat), j ≤ n ∧ i = .int .i64 (j : Int) ∧ Ow wr [msgD (l.take j ++ List.replicate (n - j) (⟨0, 0, []⟩ : MsgM))] [.slice (some ⟨w.heap.size, 0, none⟩) n n] fp ∧ fp.Nodup ∧ (∀ p ∈ fp, w.heap.size ≤ p) ∧ Below w.heap.size w wr) (fun i _ => n - (intOf i).toNat)
  case atStart => exact ⟨0, _, Nat.zero_le _, rfl, O0.out, by simp, by simp, B0.out⟩
  case round =>
    obtain ⟨j, fp, hj, rfl, hown, hnd, hge, hbel⟩ := hrel
    clear hmk O0 B0
    by_cases hlt : j < n
    · obtain ⟨b, off, rfl, hb, hc⟩ := hel (by omega)
      have hjl : j < l.length := by have := HL.out; omega
      obtain ⟨A1, m1, d1, hc0, hc1, hc2, hrow, _⟩ := hc j hjl
      have cs0 := (hbel.cell (p := ⟨b, off + j * 3, none⟩) hb).trans hc0
      have cs1 := (hbel.cell (p := ⟨b, off + j * 3 + 1, none⟩) hb).trans hc1
      have cs2 := (hbel.cell (p := ⟨b, off + j * 3 + 2, none⟩) hb).trans hc2
      have hr1 := (hrow.below hbel).up hbel.size
      have hm1 : m1 ≤ 1048576 := by
        have h1 := pre_at (g := msgRowSz) hjl
        have h2 := HS.out
        have h3 := hrow.1
        have h4 : msgRowSz l[j] = l[j].row.length := rfl
        unfold msgSz at h2
        omega
      obtain ⟨x0, hx0⟩ : ∃ x0, x0 = l[j].frm := ⟨_, rfl⟩
      obtain ⟨x1, hx1⟩ : ∃ x1, x1 = l[j].dest := ⟨_, rfl⟩
      obtain ⟨xs, hxs⟩ : ∃ xs, xs = l[j].row := ⟨_, rfl⟩
      rw [← hx0] at cs0
      rw [← hx1] at cs1
      rw [← hxs] at hr1
      have HX := Lib.hid (show l[j] = ⟨x0, x1, xs⟩ by rw [hx0, hx1, hxs])
      clear hx0 hx1 hxs hc hc0 hc1 hc2 hrow
      go_wp2_with fail
      refine (toMsg_any x0 x1 A1 m1 d1 xs _ hr1 hm1).mono ?_
      rintro e w1 ⟨A2, n2, c2, rfl, o1, b1⟩
      have hown1 := hown.keep b1
      have hl2 : (l.take j ++ List.replicate (n - j) (⟨0, 0, []⟩ : MsgM)).length = n := by simp; have := HL.out; omega
      obtain ⟨es, he, hcell, hfr⟩ := Ow.slots (k := 3) msgC_len (by decide) hown1 (j := j) (by omega)
      have ck0 := hcell 0 (by decide)
      have ck1 := hcell 1 (by decide)
      have ck2 := hcell 2 (by decide)
      rw [Nat.add_zero] at ck0
      match es, he with
      | [y0, y1, y2], _ =>
      have ck0' : w1.cell? ⟨w.heap.size, j * 3, none⟩ = some y0 := ck0
      have ck1' : w1.cell? ⟨w.heap.size, j * 3 + 1, none⟩ = some y1 := ck1
      have ck2' : w1.cell? ⟨w.heap.size, j * 3 + 2, none⟩ = some y2 := ck2
      have fk0 := hfr (j * 3)
      have fk1 := hfr (j * 3 + 1)
      have fk2 := hfr (j * 3 + 2)
      have ho : Ow w1 (msgC ⟨x0, x1, xs⟩) [.int .i64 x0, .int .i64 x1, .slice A2 n2 c2] (Value.slice A2 n2 c2).ownBlock.toList := .int (.int (o1.ow))
      have hfresh : ∀ p ∈ (Value.slice A2 n2 c2).ownBlock.toList, wr.heap.size ≤ p := fun p hp => (o1.ge p (by simpa using hp)).1
      have hold := hown.lt
      obtain ⟨ht, fp', hfin, hnd', hsub⟩ := Ow.store (k := 3) msgC_len (by decide) hown1 hnd (j := j) (x := ⟨x0, x1, xs⟩) (by omega) ho (by cases (Value.slice A2 n2 c2).ownBlock <;> simp) (fun p hp hm => by have := hfresh p hp; have := hold p hm; omega)
      have z := hbel.size
      have R1 := Lib.hid (show Ow (puts w1 w.heap.size (j * 3) [.int .i64 x0, .int .i64 x1, .slice A2 n2 c2]) [msgD (l.take (j + 1) ++ List.replicate (n - (j + 1)) (⟨0, 0, []⟩ : MsgM))] [.slice (some ⟨w.heap.size, 0, none⟩) n n] fp' by
        have h1 := fill_step (x0 := (⟨0, 0, []⟩ : MsgM)) HL.out hjl
        rw [HX.out] at h1
        rw [← h1]
        exact hfin)
      have R2 := Lib.hid (show ∀ p ∈ fp', w.heap.size ≤ p from fun p hp => by
        rcases hsub p hp with h | h
        · exact hge p h
        · have := hfresh p h; omega)
      have b01 := hbel.trans (b1.mono hbel.size)
      have R3 := Lib.hid (show Below w.heap.size w (puts w1 w.heap.size (j * 3) [.int .i64 x0, .int .i64 x1, .slice A2 n2 c2]) from b01.trans (ht.below (by simp) b01.size))
      have R4 := Lib.hid hnd'
      clear hown hown1 hfin hnd' hsub ht ho o1 b1 b01 hcell hfr ck0 ck1 ck2 hbel hl2 hfresh hold hr1
      go_wp2
      go_roundw
      case rel => exact ⟨j + 1, fp', by omega, by go_num, R1.out, R4.out, R2.out, R3.out⟩
      case measure => simp [intOf]; omega
    · go_wp2
      go_ret
      have e : n - j = 0 := by omega
      rw [e, List.replicate_zero, List.append_nil, List.take_of_length_le (by have := HL.out; omega)] at hown
      exact ⟨_, _, _, rfl, ⟨fp, hown, hnd, hge⟩, hbel⟩

set_option maxHeartbeats 1600000 in
theorem eqMsg_one (x0 x1 : Int) (A A' : Option Addr) (n c c' B B' : Nat) (xs : List Int) (w : World) (h : IRow w B A n xs) (h' : IRow w B' A' n xs) (hB : B ≤ w.heap.size) (hB' : B' ≤ w.heap.size) (hn : n ≤ 1048577) :
    Calls Try.prog 39 #[.agg #[.int .i64 x0, .int .i64 x1, .slice A n c], .agg #[.int .i64 x0, .int .i64 x1, .slice A' n c']] w fun e w' => e = .returned (.bool true) ∧ Below w.heap.size w w' := by
  have b0 : Below w.heap.size w ((w.alloc (.cells #[.int .i64 x0, .int .i64 x1, .slice A n c] 40)).alloc (.cells #[.int .i64 x0, .int .i64 x1, .slice A' n c'] 40)) :=
    ((Below.refl _ w).alloc (Nat.le_refl _) _).alloc (by simp) _
  have h0 := h.below (b0.mono hB)
  have h1 := h'.below (b0.mono hB')
  have B0 := Lib.hid b0
  clear h h' b0
  go_enter Try.func39, Try.ntmps39
  go_wp2_with fail
  refine (eq_yes A A' n c c' _ _ xs _ h0 h1 hn).mono ?_
  rintro e w1 ⟨rfl, d1⟩
  have B1 := Lib.hid (B0.out.trans (d1.below _))
  clear h0 h1 d1
  go_wp2
  go_ret
  exact ⟨rfl, B1.out⟩

set_option maxHeartbeats 3200000 in
theorem eqMsgS_yes (A A' : Option Addr) (n n' c c' B B' : Nat) (l : List MsgM) (w : World) (h : Rd w B [msgD l] [.slice A n c]) (h' : Rd w B' [msgD l] [.slice A' n' c']) (hB : B ≤ w.heap.size) (hB' : B' ≤ w.heap.size) (hs : msgSz l ≤ 1048577) :
    Calls Try.prog 83 #[.slice A n c, .slice A' n' c'] w fun e w' => e = .returned (.bool true) ∧ Below w.heap.size w w' := by
  obtain ⟨_, _, _, e, hl, _, _, hel⟩ := h.msgs
  injection e with e1 e2 e3
  subst e1 e2 e3
  obtain ⟨_, _, _, e, hl', _, _, hel'⟩ := h'.msgs
  injection e with e1 e2 e3
  subst e1 e2 e3
  obtain rfl : n = n' := by rw [← hl, hl']
  have hn : n ≤ 1048577 := by unfold msgSz at hs; omega
  have HS := Lib.hid hs
  have HL := Lib.hid hl
  clear hl hl' hs h h'
  go_enter Try.func83, Try.ntmps83
  go_wp2
  go_loopw [5] (fun i wr => ∃ j : Nat, j ≤ n ∧ i = .int .i64 (j : Int) ∧ Below w.heap.size w wr) (fun i _ => n - (intOf i).toNat)
  case atStart => exact ⟨0, Nat.zero_le _, rfl, Below.refl _ _⟩
  case round =>
    obtain ⟨j, hj, rfl, hbel⟩ := hrel
    by_cases hlt : j < n
    · obtain ⟨b, off, rfl, hb, hc⟩ := hel (by omega)
      obtain ⟨b', off', rfl, hb', hc'⟩ := hel' (by omega)
      have hjl : j < l.length := by have := HL.out; omega
      obtain ⟨A1, m1, d1, hc0, hc1, hc2, hrow, _⟩ := hc j hjl
      obtain ⟨A2, m2, d2, hd0, hd1, hd2, hrow', _⟩ := hc' j hjl
      obtain rfl : m1 = m2 := by rw [← hrow.1, ← hrow'.1]
      have cs0 := (hbel.cell (p := ⟨b, off + j * 3, none⟩) (show b < _ by omega)).trans hc0
      have cs1 := (hbel.cell (p := ⟨b, off + j * 3 + 1, none⟩) (show b < _ by omega)).trans hc1
      have cs2 := (hbel.cell (p := ⟨b, off + j * 3 + 2, none⟩) (show b < _ by omega)).trans hc2
      have ct0 := (hbel.cell (p := ⟨b', off' + j * 3, none⟩) (show b' < _ by omega)).trans hd0
      have ct1 := (hbel.cell (p := ⟨b', off' + j * 3 + 1, none⟩) (show b' < _ by omega)).trans hd1
      have ct2 := (hbel.cell (p := ⟨b', off' + j * 3 + 2, none⟩) (show b' < _ by omega)).trans hd2
      have hr1 := hrow.below (hbel.mono hB)
      have hr2 := hrow'.below (hbel.mono hB')
      have hm1 : m1 ≤ 1048577 := by
        have h1 := pre_at (g := msgRowSz) hjl
        have h2 := HS.out
        have h3 := hrow.1
        have h4 : msgRowSz l[j] = l[j].row.length := rfl
        unfold msgSz at h2
        omega
      generalize l[j].frm = x0 at *
      generalize l[j].dest = x1 at *
      generalize l[j].row = xs at *
      have i0 : (0 : Int) ≤ (j : Int) := by omega
      have i1 : (j : Int) < (n : Int) := by omega
      have z := hbel.size
      have HB := Lib.hid hbel
      have R1 := Lib.hid hr1
      have R2 := Lib.hid hr2
      clear hc hc' hc0 hd0 hc1 hd1 hc2 hd2 hel hel' hbel hrow hrow' hr1 hr2
      go_wp2_with fail
      go_region_with (first
        | (go_at_call 39
           refine (eqMsg_one x0 x1 A1 A2 m1 d1 d2 B B' xs _ ?_ ?_ ?_ ?_ hm1).mono ?_
           exact R1.out
           exact R2.out
           show B ≤ wr.heap.size; omega
           show B' ≤ wr.heap.size; omega
           rintro e w1 ⟨rfl, b1⟩
           have BB := Lib.hid (HB.out.drew.trans (b1.mono (by show w.heap.size ≤ wr.heap.size; omega)))))
      all_goals
        go_wp2
        go_roundw
        case rel => exact ⟨j + 1, by omega, by go_num, BB.out⟩
        case measure => simp [intOf]; omega
    · go_wp2
      go_ret
      exact ⟨rfl, hbel⟩

set_option maxHeartbeats 1600000 in
theorem szMsg_one (x0 x1 : Int) (A : Option Addr) (m c : Nat) (L : Int) (w : World) (l0 : 0 ≤ L) (l1 : L ≤ 1048576) (hm : m ≤ maxLen) :
    Calls Try.prog 35 #[.agg #[.int .i64 x0, .int .i64 x1, .slice A m c], .int .i64 L] w fun e w' => e = .returned (.int .i64 (left L m)) ∧ Below w.heap.size w w' := by
  have B0 := Lib.hid ((Below.refl w.heap.size w).alloc (Nat.le_refl _) (.cells #[.int .i64 x0, .int .i64 x1, .slice A m c] 50))
  by_cases h : (m : Int) ≤ L
  case pos =>
    go_enter Try.func35, Try.ntmps35
    go_wp2_with fail
    refine (szRow_any A m c L _ l0 l1 hm).mono ?_
    rintro e w1 ⟨rfl, rfl⟩
    rw [left, if_pos (by omega)]
    have q0 : ¬ (L - (m : Int) < 0) := by omega
    go_wp2
    go_ret
    refine ⟨ret_i64 ?_, B0.out⟩
    rw [left, if_pos (by omega)]
  case neg =>
    go_enter Try.func35, Try.ntmps35
    go_wp2_with fail
    refine (szRow_any A m c L _ l0 l1 hm).mono ?_
    rintro e w1 ⟨rfl, rfl⟩
    rw [left, if_neg (by omega)]
    go_wp2
    go_ret
    refine ⟨ret_i64 ?_, B0.out⟩
    rw [left, if_neg (by omega)]

set_option maxHeartbeats 3200000 in
theorem szMsgS_any (A : Option Addr) (n c : Nat) (l : List MsgM) (B : Nat) (L : Int) (w : World) (h : Rd w B [msgD l] [.slice A n c]) (hB : B ≤ w.heap.size) (l0 : 0 ≤ L) (l1 : L ≤ 1048576) :
    Calls Try.prog 78 #[.slice A n c, .int .i64 L] w fun e w' => e = .returned (.int .i64 (left L (msgSz l))) ∧ Below w.heap.size w w' := by
  obtain ⟨_, _, _, e, hl, h1, h2, hel⟩ := h.msgs
  injection e with e1 e2 e3
  subst e1 e2 e3
  have hm : n ≤ maxLen := Nat.le_trans h1 h2
  unfold maxLen at hm
  have HL := Lib.hid hl
  have HSz := Lib.hid (show msgSz l = n + (l.map msgRowSz).sum by unfold msgSz; rw [hl])
  clear h hl h1 h2
  by_cases hn : (n : Int) ≤ L
  case neg =>
    go_enter Try.func78, Try.ntmps78
    go_wp2
    go_ret
    refine ⟨ret_i64 ?_, Below.refl _ _⟩
    rw [left, HSz.out, if_neg (by omega)]
  case pos =>
    go_enter Try.func78, Try.ntmps78
    go_wp2
    go_loopw [1, 5] (fun q i wr => ∃ j : Nat, j ≤ n ∧ i = .int .i64 (j : Int) ∧ q = .int .i64 (L - (n : Int) - (pre msgRowSz l j : Int)) ∧ (pre msgRowSz l j : Int) ≤ L - (n : Int) ∧ Below w.heap.size w wr) (fun _ i _ => n - (intOf i).toNat)
    case atStart => exact ⟨0, Nat.zero_le _, rfl, by simp [pre_zero], by simp [pre_zero]; omega, Below.refl _ _⟩
    case round =>
      obtain ⟨j, hj, rfl, rfl, hle, hbel⟩ := hrel
      by_cases hlt : j < n
      · obtain ⟨b, off, rfl, hb, hc⟩ := hel (by omega)
        have hjl : j < l.length := by have := HL.out; omega
        obtain ⟨A1, m1, d1, hc0, hc1, hc2, hrow, hm1⟩ := hc j hjl
        have cs0 := (hbel.cell (p := ⟨b, off + j * 3, none⟩) (show b < _ by omega)).trans hc0
        have cs1 := (hbel.cell (p := ⟨b, off + j * 3 + 1, none⟩) (show b < _ by omega)).trans hc1
        have cs2 := (hbel.cell (p := ⟨b, off + j * 3 + 2, none⟩) (show b < _ by omega)).trans hc2
        generalize l[j].frm = x0 at *
        generalize l[j].dest = x1 at *
        have hml : m1 = msgRowSz l[j] := hrow.1.symm
        have hpj := pre_succ (g := msgRowSz) hjl
        rw [← hml] at hpj
        have hpl := pre_le (g := msgRowSz) (l := l) (j := j + 1)
        have HP := Lib.hid hpj
        have HPL := Lib.hid hpl
        have hmm : m1 ≤ maxLen := Nat.le_trans hm1.1 hm1.2
        generalize hN : pre msgRowSz l j = N at *
        have HNN := Lib.hid hN
        clear hc hc0 hc1 hc2 hrow hml hpj hpl hN hm1
        by_cases hq : (m1 : Int) ≤ L - (n : Int) - (N : Int)
        case neg =>
          go_wp2_with fail
          refine (szMsg_one x0 x1 A1 m1 d1 _ _ (by omega) (by omega) hmm).mono ?_
          rintro e w1 ⟨rfl, b1⟩
          rw [left, if_neg (by omega)]
          have BB := Lib.hid (hbel.trans (b1.mono hbel.size))
          clear hbel b1
          go_wp2
          go_ret
          refine ⟨ret_i64 ?_, BB.out⟩
          have h3 := HP.out
          have h4 := HPL.out
          rw [left, HSz.out, if_neg (by omega)]
        case pos =>
          go_wp2_with fail
          refine (szMsg_one x0 x1 A1 m1 d1 _ _ (by omega) (by omega) hmm).mono ?_
          rintro e w1 ⟨rfl, b1⟩
          rw [left, if_pos (by omega)]
          have BB := Lib.hid (hbel.trans (b1.mono hbel.size))
          clear hbel b1
          have q0 : ¬ (L - (n : Int) - (N : Int) - (m1 : Int) < 0) := by omega
          go_wp2
          go_roundw
          case rel => exact ⟨j + 1, by omega, by go_num, by rw [HP.out]; go_num, by rw [HP.out]; omega, BB.out⟩
          case measure => simp [intOf]; omega
      · have hjn : j = l.length := by have := HL.out; omega
        have e2 : pre msgRowSz l j = (l.map msgRowSz).sum := by rw [hjn]; exact pre_all
        have HE := Lib.hid e2
        clear e2 hjn
        go_wp2
        go_ret
        refine ⟨ret_i64 ?_, hbel⟩
        rw [left, HSz.out, ← HE.out, if_pos (by omega)]
        omega

set_option maxHeartbeats 6400000 in
theorem markMsgS_any (A : Option Addr) (n c : Nat) (l : List MsgM) (fp : List Nat) (w : World) (o : Ow w [msgD l] [.slice A n c] fp) (hnd : fp.Nodup) (hs : msgSz l ≤ 1048577) (k : Int) (k0 : 0 ≤ k) (k1 : k ≤ 100000000000) :
    Calls Try.prog 89 #[.slice A n c, .int .i64 k] w fun e w' => ∃ l', e = .returned (.int .i64 (k + (msgN l : Int))) ∧ Ow w' [msgD l'] [.slice A n c] fp ∧ Touch fp w w' ∧ MarkedMsgS l' k ∧ msgN l' = msgN l ∧ msgSz l' = msgSz l := by
  suffices H : Calls Try.prog 89 #[.slice A n c, .int .i64 k] w fun e w' => ∃ l', e = .returned (.int .i64 (k + (nums msgNs l l.length : Int))) ∧ Ow w' [msgD l'] [.slice A n c] fp ∧ Touch fp w w' ∧ l'.map (fun r => (msgNs r).length) = l.map (fun r => (msgNs r).length) ∧ l'.flatMap msgNs = upFrom k (nums msgNs l l.length) by
    refine H.mono ?_
    rintro e w' ⟨l', rfl, o', t', h1, h2⟩
    have h3 := len_of_map h1
    refine ⟨l', rfl, o', t', ?_, ?_, msgSz_map h1⟩
    · show l'.flatMap msgNs = upFrom k (l'.flatMap msgNs).length
      rw [h2, upFrom_length]
    · show nums msgNs l' l'.length = nums msgNs l l.length
      rw [h3]
      exact nums_map h1 _
  obtain ⟨A', n', c', e, hl, _, _⟩ := o.rd.msgs
  injection e with e1 e2 e3
  subst e1 e2 e3
  have HL := Lib.hid hl
  have hn : n ≤ 1048577 := by unfold msgSz at hs; omega
  have HS := Lib.hid hs
  have O := Lib.hid o
  have HN := Lib.hid hnd
  clear o hs hnd hl
  go_enter Try.func89, Try.ntmps89
  go_wp2
  go_loopw [1, 5] (fun q i wr => ∃ (j : Nat) (l' : List MsgM), j ≤ n ∧ i = .int .i64 (j : Int) ∧ q = .int .i64 (k + (nums msgNs l j : Int)) ∧ l'.map (fun r => (msgNs r).length) = l.map (fun r => (msgNs r).length) ∧ (l'.take j).flatMap msgNs = upFrom k (nums msgNs l j) ∧ Ow wr [msgD l'] [.slice A n c] fp ∧ Touch fp w wr) (fun _ i _ => n - (intOf i).toNat)
  case atStart => exact ⟨0, l, Nat.zero_le _, rfl, by simp [nums, pre_zero], rfl, by simp [nums, pre_zero, upFrom], O.out, Touch.refl _ _⟩
  case round =>
    obtain ⟨j, l', hj, rfl, rfl, hmap, hflat, hown, htch⟩ := hrel
    have hll : l'.length = l.length := by simpa using congrArg List.length hmap
    by_cases hlt : j < n
    · have hjl : j < l'.length := by have := HL.out; omega
      have hjl2 : j < l.length := by have := HL.out; omega
      have hlen0 : (msgNs l'[j]).length = (msgNs l[j]).length := by
        have h1 := congrArg (fun q => q[j]?) hmap
        simp [List.getElem?_eq_getElem hjl, List.getElem?_eq_getElem hjl2] at h1
        exact h1
      obtain ⟨g, d, es, f2, e, _, _, he, hcell, hfr, hel, hn2, hg2, hgf, hsub, _, _⟩ := Ow.elem (k := 3) msgC_len (by decide) hown HN.out (j := j) hjl
      injection e with e e2 e3
      subst e e3
      match es, he with
      | [y0, y1, y2], _ =>
      obtain ⟨ey0, ey1, A1, m1, d1, eyr, o1, ef2⟩ := Ow.msg hel
      subst ey0
      subst ey1
      subst eyr
      subst ef2
      have ck0 := hcell 0 (by decide)
      have ck1 := hcell 1 (by decide)
      have ck2 := hcell 2 (by decide)
      rw [Nat.add_zero] at ck0
      have cl0 : wr.cell? ⟨g, j * 3, none⟩ = some (.int .i64 l'[j].frm) := ck0
      have cl1 : wr.cell? ⟨g, j * 3 + 1, none⟩ = some (.int .i64 l'[j].dest) := ck1
      have cl2 : wr.cell? ⟨g, j * 3 + 2, none⟩ = some (.slice A1 m1 d1) := ck2
      have fk0 := hfr (j * 3)
      have fk1 := hfr (j * 3 + 1)
      have hlen : m1 + 2 = (msgNs l[j]).length := by
        rw [← hlen0]
        show m1 + 2 = l'[j].row.length + 2
        rw [o1.len]
      have hnj : nums msgNs l (j + 1) = nums msgNs l j + (m1 + 2) := by rw [hlen]; exact pre_succ hjl2
      have hb1 : nums msgNs l j + (m1 + 2) ≤ 2097154 := by
        rw [hlen]
        have h1 : nums msgNs l j + (msgNs l[j]).length ≤ (l.map (fun r => (msgNs r).length)).sum := pre_at (g := fun r => (msgNs r).length) hjl2
        have h2 := HS.out
        unfold msgSz at h2
        have h3 := msgN_eq l
        omega
      have hm1 : m1 ≤ 1048577 := by
        have h1 := pre_at (g := fun r => (msgNs r).length) hjl2
        have h2 := HS.out
        have h3 := msgN_eq l
        have h4 := pre_at (g := msgRowSz) hjl2
        have h5 : msgRowSz l[j] + 2 = (msgNs l[j]).length := rfl
        unfold msgSz at h2
        omega
      generalize hN : nums msgNs l j = N at *
      obtain ⟨x0, hx0⟩ : ∃ x, x = l'[j].frm := ⟨_, rfl⟩
      obtain ⟨x1, hx1⟩ : ∃ x, x = l'[j].dest := ⟨_, rfl⟩
      obtain ⟨xr, hxr⟩ : ∃ x, x = l'[j].row := ⟨_, rfl⟩
      rw [← hx0] at cl0
      rw [← hx1] at cl1
      rw [← hxr] at o1
      have hlj : l'[j] = ⟨x0, x1, xr⟩ := by rw [hx0, hx1, hxr]
      obtain ⟨tg, hown2⟩ := Ow.storeFront (k := 3) msgC_len (by decide) hown HN.out (j := j) hjl (x := ⟨k + (N : Int), k + (N : Int) + 1, xr⟩) (xs := [x0, x1]) (xs' := [k + (N : Int), k + (N : Int) + 1]) (rest := [rowD xr]) (by rw [hlj]; rfl) rfl rfl
      have t2 := htch.trans (tg.mono (fun p hp => by have : p = g := by simpa using hp
                                                     rw [this]; exact hgf))
      have hw2 : (wr.setCell ⟨g, j * 3, none⟩ (.int .i64 (k + (N : Int)))).setCell ⟨g, j * 3 + 1, none⟩ (.int .i64 (k + (N : Int) + 1)) = puts wr g (j * 3) (ivals [k + (N : Int), k + (N : Int) + 1]) := rfl
      generalize puts wr g (j * 3) (ivals [k + (N : Int), k + (N : Int) + 1]) = w2 at *
      obtain ⟨g', d', es', f2', e', _, _, he', hcell', _, hel', _, _, _, hsub', hin', _⟩ := Ow.elem (k := 3) msgC_len (by decide) hown2 HN.out (j := j) (by simpa using hjl)
      injection e' with e' e2' e3'
      injection e' with e'
      injection e' with e' _
      subst e' e3'
      match es', he' with
      | [z0, z1, z2], _ =>
      have hget : (l'.set j ⟨k + (N : Int), k + (N : Int) + 1, xr⟩)[j]'(by simpa using hjl) = ⟨k + (N : Int), k + (N : Int) + 1, xr⟩ := by simp
      rw [hget] at hel'
      obtain ⟨ez0, ez1, A2, m2, d2, ezr, o3, ef3⟩ := Ow.msg hel'
      subst ez0
      subst ez1
      subst ezr
      subst ef3
      have cz : w2.cell? ⟨g, j * 3 + 2, none⟩ = some (.slice A2 m2 d2) := hcell' 2 (by decide)
      have cy : w2.cell? ⟨g, j * 3 + 2, none⟩ = some (.slice A1 m1 d1) := by
        rw [← hw2]
        exact (World.cell?_setCell_other _ ⟨g, j * 3 + 1, none⟩ ⟨g, j * 3 + 2, none⟩ _ (by simp)).trans ((World.cell?_setCell_other _ ⟨g, j * 3, none⟩ ⟨g, j * 3 + 2, none⟩ _ (by simp)).trans (cl2))
      rw [cz] at cy
      injection cy with cy
      injection cy with a1 a2 a3
      subst a1 a2 a3
      have HJ := Lib.hid hnj
      have IN := Lib.hid hin'
      have HM := Lib.hid hmap
      have HF := Lib.hid hflat
      have HT := Lib.hid t2
      have SB := Lib.hid hsub'
      have HE := Lib.hid hlen
      have HLL := Lib.hid hll
      have HNN := Lib.hid hN
      have HL0 := Lib.hid hlen0
      have HW2 := Lib.hid hw2
      have HLJ := Lib.hid hlj
      clear hin' hmap hflat htch hsub hsub' hcell hcell' ck0 ck1 ck2 hel hel' hown hown2 hfr hgf hlen hnj hN hll e2 e2' hget cz tg t2 hlen0 hx0 hx1 hxr hw2 o1 hlj
      go_wp2_with fail
      rw [HW2.out]
      refine (mark_any A2 m2 d2 0 _ _ o3 (by omega) _ (by omega) (by omega)).mono ?_
      rintro e w3 ⟨rfl, o4, g4⟩
      have tt : Touch (Value.slice A2 m2 d2).ownBlock.toList w2 w3 := Touch.of_grown g4 (fun p hp => by rw [hp]; simp)
      have R1 := Lib.hid (show Ow w3 [msgD (l'.set j ⟨k + (N : Int), k + (N : Int) + 1, upFrom (k + (N : Int) + 1 + 1) m2⟩)] [.slice (some ⟨g, 0, none⟩) n c] fp by
        have h1 := IN.out w3 ⟨k + (N : Int), k + (N : Int) + 1, upFrom (k + (N : Int) + 1 + 1) m2⟩ tt (.int (.int o4.ow))
        rw [List.set_set] at h1
        exact h1)
      have R2 := Lib.hid (HT.out.trans (tt.mono SB.out))
      clear IN tt o4 g4 o3
      go_wp2
      go_roundw
      case rel =>
        refine ⟨j + 1, _, by omega, by go_num, by rw [HJ.out]; go_num, ?_, ?_, R1.out, R2.out⟩
        · rw [set_map hjl ?_]
          · exact HM.out
          · show (upFrom _ m2).length + 2 = _
            rw [upFrom_length, HE.out, HL0.out]
        · have h1 := nums_map HM.out j
          have h2 := flat_step (g := msgNs) (l := l') (j := j) (k := k) (x := ⟨k + (N : Int), k + (N : Int) + 1, upFrom (k + (N : Int) + 1 + 1) m2⟩) hjl (by rw [h1, HNN.out]; exact HF.out) (by
            rw [h1, HNN.out]
            show (k + (N : Int)) :: (k + (N : Int) + 1) :: upFrom (k + (N : Int) + 1 + 1) m2 = upFrom (k + (N : Int)) ((upFrom (k + (N : Int) + 1 + 1) m2).length + 2)
            rw [upFrom_length]
            simp only [upFrom_cons])
          rw [h2, h1, HNN.out, HJ.out]
          show upFrom k (N + ((upFrom _ m2).length + 2)) = _
          rw [upFrom_length]
      case measure => simp [intOf]; omega
    · go_wp2
      go_ret
      have hjn : j = l.length := by have := HL.out; omega
      subst hjn
      refine ⟨l', rfl, hown, htch, hmap, ?_⟩
      rw [List.take_of_length_le (by omega)] at hflat
      exact hflat

set_option maxHeartbeats 3200000 in
theorem heldMsgS_any (A : Option Addr) (n c : Nat) (l : List MsgM) (B : Nat) (w : World) (h : Rd w B [msgD l] [.slice A n c]) (_hB : B ≤ w.heap.size) (hs : msgSz l ≤ 1048577) (k : Int) (k0 : 0 ≤ k) (k1 : k ≤ 100000000000) (hm : MarkedMsgS l k) :
    Calls Try.prog 91 #[.slice A n c, .int .i64 k] w fun e w' => e = .returned (.int .i64 (k + (msgN l : Int))) ∧ Below w.heap.size w w' := by
  obtain ⟨_, _, _, e, hl, _, _, hel⟩ := h.msgs
  injection e with e1 e2 e3
  subst e1 e2 e3
  have HL := Lib.hid hl
  have hn : n ≤ 1048577 := by unfold msgSz at hs; omega
  have HS := Lib.hid hs
  have HM := Lib.hid (show l.flatMap msgNs = upFrom k (l.flatMap msgNs).length from hm)
  clear hs hl hm h
  go_enter Try.func91, Try.ntmps91
  go_wp2
  go_loop [1, 5] (fun q i => ∃ j : Nat, j ≤ n ∧ i = .int .i64 (j : Int) ∧ q = .int .i64 (k + (nums msgNs l j : Int))) (fun _ i => n - (intOf i).toNat)
  case atStart => exact ⟨0, Nat.zero_le _, rfl, by simp [nums, pre_zero]⟩
  case round =>
    obtain ⟨j, hj, rfl, rfl⟩ := hrel
    by_cases hlt : j < n
    · obtain ⟨b, off, rfl, hb, hc⟩ := hel (by omega)
      have hjl : j < l.length := by have := HL.out; omega
      obtain ⟨A1, m1, d1, hcell0, hcell1, hcell2, hrow, _⟩ := hc j hjl
      have hat := flat_at HM.out hjl
      obtain ⟨N, hN⟩ : ∃ N, N = nums msgNs l j := ⟨_, rfl⟩
      rw [← hN] at hat ⊢
      have hml : m1 = l[j].row.length := hrow.1.symm
      have hat2 : l[j].frm :: l[j].dest :: l[j].row = upFrom (k + (N : Int)) (l[j].row.length + 2) := hat
      rw [upFrom_cons, upFrom_cons] at hat2
      injection hat2 with ha0 ih0
      injection ih0 with ha1 ih1
      rw [ha0] at hcell0
      rw [ha1] at hcell1
      have hr : IRow w B A1 m1 (upFrom (k + (N : Int) + 1 + 1) m1) := by
        rw [hml, ← ih1, ← hml]
        exact hrow
      have hnj : nums msgNs l (j + 1) = N + (m1 + 2) := by rw [hN, hml]; exact pre_succ hjl
      have hb1 : N + (m1 + 2) ≤ 2097154 := by
        rw [hN, hml]
        have h1 : nums msgNs l j + (msgNs l[j]).length ≤ (l.map (fun r => (msgNs r).length)).sum := pre_at (g := fun r => (msgNs r).length) hjl
        have h2 := HS.out
        unfold msgSz at h2
        have h3 := msgN_eq l
        have h4 : (msgNs l[j]).length = l[j].row.length + 2 := rfl
        omega
      have hm1 : m1 ≤ 1048577 := by
        have h2 := HS.out
        have h4 := pre_at (g := msgRowSz) hjl
        have h5 : msgRowSz l[j] = l[j].row.length := rfl
        unfold msgSz at h2
        omega
      have HJ := Lib.hid hnj
      clear hc hat ha0 ha1 hnj hel hN hml hrow ih1
      go_wp2_with fail
      refine (held_any A1 m1 d1 _ _ _ hr (by omega) (by omega) (by omega)).mono ?_
      rintro e w1 ⟨rfl, rfl⟩
      have q0 : ¬ (k + (N : Int) + 1 + 1 + (m1 : Int) < 0) := by omega
      go_wp2
      go_round
      case rel => exact ⟨j + 1, by omega, by go_num, by rw [HJ.out]; go_num⟩
      case measure => simp [intOf]; omega
    · go_wp2
      go_ret
      have hjn : j = l.length := by have := HL.out; omega
      subst hjn
      exact ⟨rfl, Below.refl _ _⟩

end Go.Proofs.Ytdcdcccdihhhcaa
