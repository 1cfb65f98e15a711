/-
  Networks and single messages as plain data, and the laws' helpers for them (by program, wip/gen/typegen.py).
-/
import Derived.Test.YtdcdcccdihhhcaaMsg
import Derived.Test.YtdcdcccdihhhcaaLink
import Derived.Test.YtdcdcccdihhhcaaKA
import Derived.RegionTactic
import Derived.BigQuiet
namespace Go.Proofs.Ytdcdcccdihhhcaa
set_option maxRecDepth 100000
open Go.RowKit

def MsgM.cells (t : MsgM) : List Dat := [.int t.frm] ++ ([.int t.dest] ++ ((rowCells t.row)))
def MsgM.sz (t : MsgM) : Nat := t.row.length
def MsgM.n (t : MsgM) : Nat := t.row.length
def MarkedMsg (t : MsgM) (k : Int) : Prop := MarkedI t.row (k)
def MadeMsg (w : World) (t : MsgM) (e : Ending) (w' : World) : Prop :=
  ∃ (x0 : Int) (x1 : Int) (A2 : Option Addr) (n2 c2 : Nat), e = .returned (.agg #[.int .i64 x0, .int .i64 x1, .slice A2 n2 c2]) ∧ Has w' w.heap.size t.cells [.int .i64 x0, .int .i64 x1, .slice A2 n2 c2] ∧ Below w.heap.size w w'
theorem Rd.msgT {w : World} {B : Nat} {t : MsgM} {v0 v1 v2 : Value} (h : Rd w B t.cells [v0, v1, v2]) : ∃ (A2 : Option Addr) (n2 c2 : Nat), v0 = .int .i64 t.frm ∧ v1 = .int .i64 t.dest ∧ v2 = .slice A2 n2 c2 ∧ Rd w B (rowCells t.row) [.slice A2 n2 c2] := by
  have g0 : Rd w B ([.int t.frm] ++ ([.int t.dest] ++ ((rowCells t.row)))) [v0, v1, v2] := h
  obtain ⟨p0, g1⟩ := Rd.cut (ds := [.int t.frm]) (vs := [v0]) (vs' := [v1, v2]) g0 rfl
  obtain ⟨e0, _⟩ := Rd.int_cons p0
  obtain ⟨p1, g2⟩ := Rd.cut (ds := [.int t.dest]) (vs := [v1]) (vs' := [v2]) g1 rfl
  obtain ⟨e1, _⟩ := Rd.int_cons p1
  have p2 := g2
  obtain ⟨A2, n2, c2, e2, _⟩ := Rd.rowS p2
  subst e0
  subst e1
  subst e2
  exact ⟨A2, n2, c2, rfl, rfl, rfl, p2⟩
theorem Ow.msgT {w : World} {t : MsgM} {v0 v1 v2 : Value} {fp : List Nat} (h : Ow w t.cells [v0, v1, v2] fp) : ∃ f2, fp = f2 ++ ([]) ∧ Ow w (rowCells t.row) [v2] f2 := by
  have g0 : Ow w ([.int t.frm] ++ ([.int t.dest] ++ ((rowCells t.row) ++ ([])))) [v0, v1, v2] fp := h
  obtain ⟨_, g1⟩ := Ow.int_cons g0
  obtain ⟨_, g2⟩ := Ow.int_cons g1
  obtain ⟨f2, r2, rfl, o2, g3⟩ := Ow.cut (ds := (rowCells t.row)) (vs := [v2]) (vs' := []) g2 rfl
  have gz := Ow.nil_foot g3
  subst gz
  exact ⟨f2, rfl, o2⟩
theorem msg_n9 (t : MsgM) : t.n ≤ 9 * t.sz := by
  have h0 : t.row.length ≤ 9 * (t.row.length) := (Nat.le_trans (Nat.le_refl _) (Nat.le_mul_of_pos_left _ (by decide)))
  show t.row.length ≤ 9 * (t.row.length)
  omega
theorem msg_n_le (t : MsgM) (h : t.sz ≤ 1048577) : t.n ≤ 9437193 := by
  have := msg_n9 t
  omega

set_option maxHeartbeats 6400000 in
theorem toMsg_made (v0 v1 v2 : Value) (t : MsgM) (w : World) (h : Rd w w.heap.size t.cells [v0, v1, v2]) (hs : t.sz ≤ 1048576) : Calls Try.prog 37 #[.agg #[v0, v1, v2]] w (MadeMsg w t) := by
  obtain ⟨Aa2, na2, ca2, rfl, rfl, rfl, hr2⟩ := h.msgT
  have S := Sep.nil w w.heap.size
  have c := Below.refl w.heap.size w
  have hz2 : t.row.length ≤ 1048576 := by unfold MsgM.sz at hs; omega
  replace S := S.boxAt c.size (w.heap.size) rfl #[.int .i64 t.frm, .int .i64 t.dest, .slice Aa2 na2 ca2] 50
  replace c := c.alloc c.size (.cells #[.int .i64 t.frm, .int .i64 t.dest, .slice Aa2 na2 ca2] 50)
  replace S := S.boxAt c.size (w.heap.size + 1) (by simp) #[.int .i64 0, .int .i64 0, .slice none 0 0] 40
  replace c := c.alloc c.size (.cells #[.int .i64 0, .int .i64 0, .slice none 0 0] 40)
  replace S := S.boxAt c.size (w.heap.size + 1 + 1) (by simp) #[.int .i64 t.frm, .int .i64 t.dest, .slice none 0 0] 40
  replace c := c.alloc c.size (.cells #[.int .i64 t.frm, .int .i64 t.dest, .slice none 0 0] 40)
  go_enter Try.func37, Try.ntmps37
  go_wp2_with fail
  generalize ((w.alloc (.cells #[.int .i64 t.frm, .int .i64 t.dest, .slice Aa2 na2 ca2] 50)).alloc (.cells #[.int .i64 0, .int .i64 0, .slice none 0 0] 40)).alloc (.cells #[.int .i64 t.frm, .int .i64 t.dest, .slice none 0 0] 40) = w1 at *
  refine (toI_made _ _ _ t.row _ ((hr2.keep c).up c.size) hz2).mono ?_
  rintro e w2 ⟨Au2, nu2, cu2, rfl, o, b⟩
  obtain ⟨fp_u2, S'⟩ := S.has b o c.size
  replace c := c.trans (b.mono c.size)
  clear S; have S := S'; clear S' o b
  have f0 : w2.cell? ⟨w.heap.size + 1 + 1, 2, none⟩ = some (.slice none 0 0) := (S.at_ 1 rfl).cell 2
  have f1 := (S.at_ 1 rfl).free 2
  have f2 : w2.cell? ⟨w.heap.size + 1 + 1, 0, none⟩ = some (.int .i64 t.frm) := (S.at_ 1 rfl).cell 0
  have f3 : w2.cell? ⟨w.heap.size + 1 + 1, 1, none⟩ = some (.int .i64 t.dest) := (S.at_ 1 rfl).cell 1
  have f4 : w2.cell? ⟨w.heap.size + 1, 0, none⟩ = some (.int .i64 0) := (S.at_ 2 rfl).cell 0
  have f5 := (S.at_ 2 rfl).free 0
  have f6 : w2.cell? ⟨w.heap.size + 1, 1, none⟩ = some (.int .i64 0) := (S.at_ 2 rfl).cell 1
  have f7 := (S.at_ 2 rfl).free 1
  have f8 : w2.cell? ⟨w.heap.size + 1, 2, none⟩ = some (.slice none 0 0) := (S.at_ 2 rfl).cell 2
  have f9 := (S.at_ 2 rfl).free 2
  replace S := S.put 1 rfl 2 (.slice Au2 nu2 cu2)
  replace c := c.setCell (p := ⟨w.heap.size + 1 + 1, 2, none⟩) (by show w.heap.size ≤ w.heap.size + 1 + 1; omega) (.slice Au2 nu2 cu2)
  replace S := S.put 2 rfl 0 (.int .i64 t.frm)
  replace c := c.setCell (p := ⟨w.heap.size + 1, 0, none⟩) (by show w.heap.size ≤ w.heap.size + 1; omega) (.int .i64 t.frm)
  replace S := S.put 2 rfl 1 (.int .i64 t.dest)
  replace c := c.setCell (p := ⟨w.heap.size + 1, 1, none⟩) (by show w.heap.size ≤ w.heap.size + 1; omega) (.int .i64 t.dest)
  replace S := S.put 2 rfl 2 (.slice Au2 nu2 cu2)
  replace c := c.setCell (p := ⟨w.heap.size + 1, 2, none⟩) (by show w.heap.size ≤ w.heap.size + 1; omega) (.slice Au2 nu2 cu2)
  have hzz := S.nodup
  have S2 := (S.sub ((.cons_cons _ (List.nil_sublist _)))).of_perm (is' := [.own (rowCells t.row) [.slice Au2 nu2 cu2] fp_u2]) (by exact List.Perm.refl _)
  have H0 : Has _ w.heap.size t.cells [.int .i64 t.frm, .int .i64 t.dest, .slice Au2 nu2 cu2] := ⟨fp_u2 ++ ([]), (.int (.int (Ow.append (S.own_ 0 rfl) .nil))), S2.nodup, S2.ge⟩
  have H := Lib.hid H0
  have C := Lib.hid c
  clear S S2 H0 hzz c h hr2
  go_wp2
  exact bodyPost_ret (v := .agg #[.int .i64 t.frm, .int .i64 t.dest, .slice Au2 nu2 cu2]) (by simp [results, Try.results37, go_sem, f4, f6, f8]) rfl ⟨_, _, _, _, _, rfl, H.out, C.out⟩

set_option maxHeartbeats 6400000 in
theorem eqMsg_yes (v0 v1 v2 u0 u1 u2 : Value) (B B' : Nat) (t : MsgM) (w : World) (h : Rd w B t.cells [v0, v1, v2]) (h' : Rd w B' t.cells [u0, u1, u2]) (hB : B ≤ w.heap.size) (hB' : B' ≤ w.heap.size) (hs : t.sz ≤ 1048577) :
    Calls Try.prog 39 #[.agg #[v0, v1, v2], .agg #[u0, u1, u2]] w fun e w' => e = .returned (.bool true) ∧ Below w.heap.size w w' := by
  obtain ⟨Aa2, na2, ca2, rfl, rfl, rfl, hr2⟩ := h.msgT
  obtain ⟨Ab2, nb2, cb2, rfl, rfl, rfl, kr2⟩ := h'.msgT
  have S := Sep.nil w w.heap.size
  have c := Below.refl w.heap.size w
  have hz2 : t.row.length ≤ 1048577 := by unfold MsgM.sz at hs; omega
  replace S := S.boxAt c.size (w.heap.size) rfl #[.int .i64 t.frm, .int .i64 t.dest, .slice Aa2 na2 ca2] 40
  replace c := c.alloc c.size (.cells #[.int .i64 t.frm, .int .i64 t.dest, .slice Aa2 na2 ca2] 40)
  replace S := S.boxAt c.size (w.heap.size + 1) (by simp) #[.int .i64 t.frm, .int .i64 t.dest, .slice Ab2 nb2 cb2] 40
  replace c := c.alloc c.size (.cells #[.int .i64 t.frm, .int .i64 t.dest, .slice Ab2 nb2 cb2] 40)
  go_enter Try.func39, Try.ntmps39
  go_wp2_with fail
  generalize (w.alloc (.cells #[.int .i64 t.frm, .int .i64 t.dest, .slice Aa2 na2 ca2] 40)).alloc (.cells #[.int .i64 t.frm, .int .i64 t.dest, .slice Ab2 nb2 cb2] 40) = w1 at *
  refine (eqI_in _ _ _ _ _ _ _ _ t.row _ (hr2.keep (c.mono hB)) (kr2.keep (c.mono hB')) (Nat.le_trans hB c.size) (Nat.le_trans hB' c.size) hz2).mono ?_
  rintro e w2 ⟨rfl, b⟩
  replace c := c.trans (b.mono c.size)
  replace S := S.keep b
  clear b
  have C := Lib.hid c
  clear S c h h' hr2 kr2
  go_wp2
  go_ret
  exact ⟨rfl, C.out⟩

set_option maxHeartbeats 6400000 in
theorem markMsg_any (v0 v1 v2 : Value) (t : MsgM) (fp : List Nat) (w : World) (o : Ow w t.cells [v0, v1, v2] fp) (hnd : fp.Nodup) (hs : t.sz ≤ 1048577) (k : Int) (k0 : 0 ≤ k) (k1 : k ≤ 90000000000) :
    Calls Try.prog 47 #[.agg #[v0, v1, v2], .int .i64 k] w fun e w' => ∃ t', e = .returned (.int .i64 (k + (t.n : Int))) ∧ Ow w' t'.cells [v0, v1, v2] fp ∧ Touch fp w w' ∧ MarkedMsg t' k ∧ t'.n = t.n ∧ t'.sz = t.sz := by
  obtain ⟨Aa2, na2, ca2, rfl, rfl, rfl, _hr2⟩ := o.rd.msgT
  have hz2 : t.row.length ≤ 1048577 := by unfold MsgM.sz at hs; omega
  have h9 := msg_n_le t hs
  have hna : t.n = t.row.length := rfl
  obtain ⟨f2, rfl, o2⟩ := Ow.msgT o
  have n0 := hnd
  have n1 := (List.nodup_append.1 n0).2.1
  have S := Sep.nil w 0
  replace S := S.addOw o2 n0
  clear o o2 n0 n1
  have T := Touch.of_below ((Below.refl _ w).alloc (Nat.le_refl _) (.cells #[.int .i64 t.frm, .int .i64 t.dest, .slice Aa2 na2 ca2] 40)) (f2 ++ ([]))
  replace S := S.boxAt (Nat.zero_le _) w.heap.size rfl #[.int .i64 t.frm, .int .i64 t.dest, .slice Aa2 na2 ca2] 40
  go_enter Try.func47, Try.ntmps47
  go_wp2_with fail
  generalize w.alloc (.cells #[.int .i64 t.frm, .int .i64 t.dest, .slice Aa2 na2 ca2] 40) = w1 at *
  refine (markI_any _ _ _ t.row f2 _ (S.own_ 1 rfl) (S.nodup_own 1 rfl) hz2 _ (by omega) (by omega)).mono ?_
  rintro e w2 ⟨d2, rfl, o, t', m2, en2, es2⟩
  replace T := T.trans (t'.mono (fun p hp => by simp [hp]))
  replace S := S.mark 1 rfl t' o
  clear o t'
  have M2 := Lib.hid m2
  clear m2
  have R0 : Ow _ (MsgM.cells (⟨t.frm, t.dest, d2⟩)) [.int .i64 t.frm, .int .i64 t.dest, .slice Aa2 na2 ca2] (f2 ++ ([])) := (.int (.int (Ow.append (S.own_ 1 rfl) .nil)))
  have R := Lib.hid R0
  have TT := Lib.hid T
  have E := Lib.hid (And.intro hna (And.intro (en2) (es2)))
  clear S T R0 hna en2 es2
  go_wp2
  go_ret
  obtain ⟨hna, en, es⟩ := E.out
  obtain en2 := en
  obtain es2 := es
  refine ⟨⟨t.frm, t.dest, d2⟩, ?_, R.out, TT.out, ?_, ?_, ?_⟩
  · refine congrArg Ending.returned (congrArg (Value.int .i64) ?_)
    omega
  · show MarkedI d2 (k)
    exact M2.out
  · show d2.length = t.row.length
    omega
  · show d2.length = t.row.length
    omega

set_option maxHeartbeats 6400000 in
theorem heldMsg_any (v0 v1 v2 : Value) (t : MsgM) (B : Nat) (w : World) (h : Rd w B t.cells [v0, v1, v2]) (hB : B ≤ w.heap.size) (hs : t.sz ≤ 1048577) (k : Int) (k0 : 0 ≤ k) (k1 : k ≤ 90000000000) (hm : MarkedMsg t k) :
    Calls Try.prog 50 #[.agg #[v0, v1, v2], .int .i64 k] w fun e w' => e = .returned (.int .i64 (k + (t.n : Int))) ∧ Below w.heap.size w w' := by
  obtain ⟨Aa2, na2, ca2, rfl, rfl, rfl, hr2⟩ := h.msgT
  have S := Sep.nil w w.heap.size
  have c := Below.refl w.heap.size w
  have hz2 : t.row.length ≤ 1048577 := by unfold MsgM.sz at hs; omega
  have h9 := msg_n_le t hs
  have hna : t.n = t.row.length := rfl
  have m2 : MarkedI t.row k := hm
  replace S := S.boxAt c.size (w.heap.size) rfl #[.int .i64 t.frm, .int .i64 t.dest, .slice Aa2 na2 ca2] 40
  replace c := c.alloc c.size (.cells #[.int .i64 t.frm, .int .i64 t.dest, .slice Aa2 na2 ca2] 40)
  go_enter Try.func50, Try.ntmps50
  go_wp2_with fail
  generalize w.alloc (.cells #[.int .i64 t.frm, .int .i64 t.dest, .slice Aa2 na2 ca2] 40) = w1 at *
  refine (heldI_in _ _ _ t.row _ _ (hr2.keep (c.mono hB)) (Nat.le_trans hB c.size) hz2 _ (by omega) (by omega) m2).mono ?_
  rintro e w2 ⟨rfl, b⟩
  replace c := c.trans (b.mono c.size)
  replace S := S.keep b
  clear b
  have q2 : ¬ (k + (t.row.length : Int) < 0) := by omega
  have C := Lib.hid c
  have HN := Lib.hid hna
  clear S c h hna hr2 m2
  go_wp2
  go_ret
  refine ⟨congrArg Ending.returned (congrArg (Value.int .i64) ?_), C.out⟩
  rw [HN.out]

set_option maxHeartbeats 6400000 in
theorem szMsg_any (v0 v1 v2 : Value) (t : MsgM) (B : Nat) (L : Int) (w : World) (h : Rd w B t.cells [v0, v1, v2]) (hB : B ≤ w.heap.size) (l0 : 0 ≤ L) (l1 : L ≤ 1048576) :
    Calls Try.prog 35 #[.agg #[v0, v1, v2], .int .i64 L] w fun e w' => e = .returned (.int .i64 (left L t.sz)) ∧ Below w.heap.size w w' := by
  obtain ⟨Aa2, na2, ca2, rfl, rfl, rfl, hr2⟩ := h.msgT
  have HD := Lib.hid (show t.sz = t.row.length from rfl)
  have S := Sep.nil w w.heap.size
  have c := Below.refl w.heap.size w
  replace S := S.boxAt c.size (w.heap.size) rfl #[.int .i64 t.frm, .int .i64 t.dest, .slice Aa2 na2 ca2] 50
  replace c := c.alloc c.size (.cells #[.int .i64 t.frm, .int .i64 t.dest, .slice Aa2 na2 ca2] 50)
  go_enter Try.func35, Try.ntmps35
  go_wp2_with fail
  generalize w.alloc (.cells #[.int .i64 t.frm, .int .i64 t.dest, .slice Aa2 na2 ca2] 50) = w1 at *
  refine (szI_any _ _ _ t.row _ _ _ (hr2.keep (c.mono hB)) (Nat.le_trans hB c.size) (by omega) (by omega)).mono ?_
  rintro e w2 ⟨rfl, b⟩
  replace c := c.trans (b.mono c.size)
  replace S := S.keep b
  clear b
  obtain ⟨s2, hsv2⟩ : ∃ q, q = t.row.length := ⟨_, rfl⟩
  rw [← hsv2]
  have HV2 := Lib.hid hsv2
  clear hsv2
  by_cases hc2 : (s2 : Int) ≤ L
  case neg =>
    rw [left, if_neg (by omega)]
    have C := Lib.hid c
    clear S c h hr2
    go_wp2
    go_ret
    refine ⟨ret_i64 ?_, C.out⟩
    rw [left, HD.out, ← HV2.out, if_neg (by omega)]
  rw [left, if_pos (by omega)]
  have q2 : ¬ (L - (s2 : Int) < 0) := by omega
  have C := Lib.hid c
  clear S c h hr2
  go_wp2
  go_ret
  refine ⟨ret_i64 ?_, C.out⟩
  rw [left, HD.out, ← HV2.out, if_pos (by omega)]

structure NetM where
  flight : List MsgM
  cuts : List LinkM
def NetM.cells (t : NetM) : List Dat := [msgD t.flight] ++ ([linkD t.cuts])
def NetM.sz (t : NetM) : Nat := msgSz t.flight + linkSz t.cuts
def NetM.n (t : NetM) : Nat := msgN t.flight + linkN t.cuts
def MarkedNet (t : NetM) (k : Int) : Prop := MarkedMsgS t.flight (k) ∧ MarkedLinkS t.cuts (k + (msgN t.flight : Int))
def MadeNet (w : World) (t : NetM) (e : Ending) (w' : World) : Prop :=
  ∃ (A0 : Option Addr) (n0 c0 : Nat) (A1 : Option Addr) (n1 c1 : Nat), e = .returned (.agg #[.slice A0 n0 c0, .slice A1 n1 c1]) ∧ Has w' w.heap.size t.cells [.slice A0 n0 c0, .slice A1 n1 c1] ∧ Below w.heap.size w w'
theorem Rd.netT {w : World} {B : Nat} {t : NetM} {v0 v1 : Value} (h : Rd w B t.cells [v0, v1]) : ∃ (A0 : Option Addr) (n0 c0 : Nat) (A1 : Option Addr) (n1 c1 : Nat), v0 = .slice A0 n0 c0 ∧ v1 = .slice A1 n1 c1 ∧ Rd w B ([msgD t.flight]) [.slice A0 n0 c0] ∧ Rd w B ([linkD t.cuts]) [.slice A1 n1 c1] := by
  have g0 : Rd w B ([msgD t.flight] ++ ([linkD t.cuts])) [v0, v1] := h
  obtain ⟨p0, g1⟩ := Rd.cut (ds := [msgD t.flight]) (vs := [v0]) (vs' := [v1]) g0 rfl
  obtain ⟨A0, n0, c0, e0, _⟩ := Rd.msgs p0
  have p1 := g1
  obtain ⟨A1, n1, c1, e1, _⟩ := Rd.links p1
  subst e0
  subst e1
  exact ⟨A0, n0, c0, A1, n1, c1, rfl, rfl, p0, p1⟩
theorem Ow.netT {w : World} {t : NetM} {v0 v1 : Value} {fp : List Nat} (h : Ow w t.cells [v0, v1] fp) : ∃ f0 f1, fp = f0 ++ (f1 ++ ([])) ∧ Ow w ([msgD t.flight]) [v0] f0 ∧ Ow w ([linkD t.cuts]) [v1] f1 := by
  have g0 : Ow w ([msgD t.flight] ++ ([linkD t.cuts] ++ ([]))) [v0, v1] fp := h
  obtain ⟨f0, r0, rfl, o0, g1⟩ := Ow.cut (ds := [msgD t.flight]) (vs := [v0]) (vs' := [v1]) g0 rfl
  obtain ⟨f1, r1, rfl, o1, g2⟩ := Ow.cut (ds := [linkD t.cuts]) (vs := [v1]) (vs' := []) g1 rfl
  have gz := Ow.nil_foot g2
  subst gz
  exact ⟨f0, f1, rfl, o0, o1⟩
theorem net_n9 (t : NetM) : t.n ≤ 9 * t.sz := by
  have h0 : msgN t.flight ≤ 9 * (msgSz t.flight) := (Nat.le_trans (msgN_le t.flight) (Nat.mul_le_mul_right _ (by decide)))
  have h1 : linkN t.cuts ≤ 9 * (linkSz t.cuts) := (Nat.le_trans (linkN_le t.cuts) (Nat.mul_le_mul_right _ (by decide)))
  show msgN t.flight + linkN t.cuts ≤ 9 * (msgSz t.flight + linkSz t.cuts)
  omega
theorem net_n_le (t : NetM) (h : t.sz ≤ 1048577) : t.n ≤ 9437193 := by
  have := net_n9 t
  omega

set_option maxHeartbeats 6400000 in
theorem toNet_made (v0 v1 : Value) (t : NetM) (w : World) (h : Rd w w.heap.size t.cells [v0, v1]) (hs : t.sz ≤ 1048576) : Calls Try.prog 42 #[.agg #[v0, v1]] w (MadeNet w t) := by
  obtain ⟨Aa0, na0, ca0, Aa1, na1, ca1, rfl, rfl, hr0, hr1⟩ := h.netT
  have S := Sep.nil w w.heap.size
  have c := Below.refl w.heap.size w
  have hz0 : msgSz t.flight ≤ 1048576 := by unfold NetM.sz at hs; omega
  have hz1 : linkSz t.cuts ≤ 1048576 := by unfold NetM.sz at hs; omega
  replace S := S.boxAt c.size (w.heap.size) rfl #[.slice Aa0 na0 ca0, .slice Aa1 na1 ca1] 58
  replace c := c.alloc c.size (.cells #[.slice Aa0 na0 ca0, .slice Aa1 na1 ca1] 58)
  replace S := S.boxAt c.size (w.heap.size + 1) (by simp) #[.slice none 0 0, .slice none 0 0] 30
  replace c := c.alloc c.size (.cells #[.slice none 0 0, .slice none 0 0] 30)
  replace S := S.boxAt c.size (w.heap.size + 1 + 1) (by simp) #[.slice none 0 0, .slice none 0 0] 30
  replace c := c.alloc c.size (.cells #[.slice none 0 0, .slice none 0 0] 30)
  go_enter Try.func42, Try.ntmps42
  go_wp2_with fail
  generalize ((w.alloc (.cells #[.slice Aa0 na0 ca0, .slice Aa1 na1 ca1] 58)).alloc (.cells #[.slice none 0 0, .slice none 0 0] 30)).alloc (.cells #[.slice none 0 0, .slice none 0 0] 30) = w1 at *
  refine (toMsgS_made _ _ _ t.flight _ ((hr0.keep c).up c.size) hz0).mono ?_
  rintro e w2 ⟨Au0, nu0, cu0, rfl, o, b⟩
  obtain ⟨fp_u0, S'⟩ := S.has b o c.size
  replace c := c.trans (b.mono c.size)
  clear S; have S := S'; clear S' o b
  have f0 : w2.cell? ⟨w.heap.size + 1 + 1, 0, none⟩ = some (.slice none 0 0) := (S.at_ 1 rfl).cell 0
  have f1 := (S.at_ 1 rfl).free 0
  have f2 : w2.cell? ⟨w.heap.size, 1, none⟩ = some (.slice Aa1 na1 ca1) := (S.at_ 3 rfl).cell 1
  replace S := S.put 1 rfl 0 (.slice Au0 nu0 cu0)
  replace c := c.setCell (p := ⟨w.heap.size + 1 + 1, 0, none⟩) (by show w.heap.size ≤ w.heap.size + 1 + 1; omega) (.slice Au0 nu0 cu0)
  go_wp2_with fail
  generalize w2.setCell ⟨w.heap.size + 1 + 1, 0, none⟩ (.slice Au0 nu0 cu0) = w3 at *
  refine (toLinkS_made _ _ _ t.cuts _ ((hr1.keep c).up c.size) hz1).mono ?_
  rintro e w4 ⟨Au1, nu1, cu1, rfl, o, b⟩
  obtain ⟨fp_u1, S'⟩ := S.has b o c.size
  replace c := c.trans (b.mono c.size)
  clear S; have S := S'; clear S' o b f0 f1 f2
  have f3 : w4.cell? ⟨w.heap.size + 1 + 1, 1, none⟩ = some (.slice none 0 0) := (S.at_ 2 rfl).cell 1
  have f4 := (S.at_ 2 rfl).free 1
  have f5 : w4.cell? ⟨w.heap.size + 1 + 1, 0, none⟩ = some (.slice Au0 nu0 cu0) := (S.at_ 2 rfl).cell 0
  have f6 : w4.cell? ⟨w.heap.size + 1, 0, none⟩ = some (.slice none 0 0) := (S.at_ 3 rfl).cell 0
  have f7 := (S.at_ 3 rfl).free 0
  have f8 : w4.cell? ⟨w.heap.size + 1, 1, none⟩ = some (.slice none 0 0) := (S.at_ 3 rfl).cell 1
  have f9 := (S.at_ 3 rfl).free 1
  replace S := S.put 2 rfl 1 (.slice Au1 nu1 cu1)
  replace c := c.setCell (p := ⟨w.heap.size + 1 + 1, 1, none⟩) (by show w.heap.size ≤ w.heap.size + 1 + 1; omega) (.slice Au1 nu1 cu1)
  replace S := S.put 3 rfl 0 (.slice Au0 nu0 cu0)
  replace c := c.setCell (p := ⟨w.heap.size + 1, 0, none⟩) (by show w.heap.size ≤ w.heap.size + 1; omega) (.slice Au0 nu0 cu0)
  replace S := S.put 3 rfl 1 (.slice Au1 nu1 cu1)
  replace c := c.setCell (p := ⟨w.heap.size + 1, 1, none⟩) (by show w.heap.size ≤ w.heap.size + 1; omega) (.slice Au1 nu1 cu1)
  have hzz := S.nodup
  have S2 := (S.sub ((.cons_cons _ (.cons_cons _ (List.nil_sublist _))))).of_perm (is' := [.own ([msgD t.flight]) [.slice Au0 nu0 cu0] fp_u0, .own ([linkD t.cuts]) [.slice Au1 nu1 cu1] fp_u1]) (by exact (List.reverse_perm _).symm)
  have H0 : Has _ w.heap.size t.cells [.slice Au0 nu0 cu0, .slice Au1 nu1 cu1] := ⟨fp_u0 ++ (fp_u1 ++ ([])), (Ow.append (S.own_ 1 rfl) (Ow.append (S.own_ 0 rfl) .nil)), S2.nodup, S2.ge⟩
  have H := Lib.hid H0
  have C := Lib.hid c
  clear S S2 H0 hzz c h hr0 hr1
  go_wp2
  exact bodyPost_ret (v := .agg #[.slice Au0 nu0 cu0, .slice Au1 nu1 cu1]) (by simp [results, Try.results42, go_sem, f6, f8]) rfl ⟨_, _, _, _, _, _, rfl, H.out, C.out⟩

set_option maxHeartbeats 6400000 in
theorem eqNet_yes (v0 v1 u0 u1 : Value) (B B' : Nat) (t : NetM) (w : World) (h : Rd w B t.cells [v0, v1]) (h' : Rd w B' t.cells [u0, u1]) (hB : B ≤ w.heap.size) (hB' : B' ≤ w.heap.size) (hs : t.sz ≤ 1048577) :
    Calls Try.prog 43 #[.agg #[v0, v1], .agg #[u0, u1]] w fun e w' => e = .returned (.bool true) ∧ Below w.heap.size w w' := by
  obtain ⟨Aa0, na0, ca0, Aa1, na1, ca1, rfl, rfl, hr0, hr1⟩ := h.netT
  obtain ⟨Ab0, nb0, cb0, Ab1, nb1, cb1, rfl, rfl, kr0, kr1⟩ := h'.netT
  have S := Sep.nil w w.heap.size
  have c := Below.refl w.heap.size w
  have hz0 : msgSz t.flight ≤ 1048577 := by unfold NetM.sz at hs; omega
  have hz1 : linkSz t.cuts ≤ 1048577 := by unfold NetM.sz at hs; omega
  replace S := S.boxAt c.size (w.heap.size) rfl #[.slice Aa0 na0 ca0, .slice Aa1 na1 ca1] 30
  replace c := c.alloc c.size (.cells #[.slice Aa0 na0 ca0, .slice Aa1 na1 ca1] 30)
  replace S := S.boxAt c.size (w.heap.size + 1) (by simp) #[.slice Ab0 nb0 cb0, .slice Ab1 nb1 cb1] 30
  replace c := c.alloc c.size (.cells #[.slice Ab0 nb0 cb0, .slice Ab1 nb1 cb1] 30)
  go_enter Try.func43, Try.ntmps43
  go_wp2_with fail
  generalize (w.alloc (.cells #[.slice Aa0 na0 ca0, .slice Aa1 na1 ca1] 30)).alloc (.cells #[.slice Ab0 nb0 cb0, .slice Ab1 nb1 cb1] 30) = w1 at *
  refine (eqMsgS_yes _ _ _ _ _ _ _ _ t.flight _ (hr0.keep (c.mono hB)) (kr0.keep (c.mono hB')) (Nat.le_trans hB c.size) (Nat.le_trans hB' c.size) hz0).mono ?_
  rintro e w2 ⟨rfl, b⟩
  replace c := c.trans (b.mono c.size)
  replace S := S.keep b
  clear b
  have f0 : w2.cell? ⟨w.heap.size, 1, none⟩ = some (.slice Aa1 na1 ca1) := (S.at_ 1 rfl).cell 1
  have f1 : w2.cell? ⟨w.heap.size + 1, 1, none⟩ = some (.slice Ab1 nb1 cb1) := (S.at_ 0 rfl).cell 1
  go_wp2_with fail
  refine (eqLinkS_yes _ _ _ _ _ _ _ _ t.cuts _ (hr1.keep (c.mono hB)) (kr1.keep (c.mono hB')) (Nat.le_trans hB c.size) (Nat.le_trans hB' c.size) hz1).mono ?_
  rintro e w3 ⟨rfl, b⟩
  replace c := c.trans (b.mono c.size)
  replace S := S.keep b
  clear b f0 f1
  have C := Lib.hid c
  clear S c h h' hr0 kr0 hr1 kr1
  go_wp2
  go_ret
  exact ⟨rfl, C.out⟩

set_option maxHeartbeats 6400000 in
theorem markNet_any (v0 v1 : Value) (t : NetM) (fp : List Nat) (w : World) (o : Ow w t.cells [v0, v1] fp) (hnd : fp.Nodup) (hs : t.sz ≤ 1048577) (k : Int) (k0 : 0 ≤ k) (k1 : k ≤ 90000000000) :
    Calls Try.prog 46 #[.agg #[v0, v1], .int .i64 k] w fun e w' => ∃ t', e = .returned (.int .i64 (k + (t.n : Int))) ∧ Ow w' t'.cells [v0, v1] fp ∧ Touch fp w w' ∧ MarkedNet t' k ∧ t'.n = t.n ∧ t'.sz = t.sz := by
  obtain ⟨Aa0, na0, ca0, Aa1, na1, ca1, rfl, rfl, _hr0, _hr1⟩ := o.rd.netT
  have hz0 : msgSz t.flight ≤ 1048577 := by unfold NetM.sz at hs; omega
  have hz1 : linkSz t.cuts ≤ 1048577 := by unfold NetM.sz at hs; omega
  have h9 := net_n_le t hs
  have hna : t.n = msgN t.flight + linkN t.cuts := rfl
  obtain ⟨f0, f1, rfl, o0, o1⟩ := Ow.netT o
  have n0 := hnd
  have n1 := (List.nodup_append.1 n0).2.1
  have n2 := (List.nodup_append.1 n1).2.1
  have S := Sep.nil w 0
  replace S := S.addOw o1 n1
  replace S := S.addOw o0 n0
  clear o o0 o1 n0 n1 n2
  have T := Touch.of_below ((Below.refl _ w).alloc (Nat.le_refl _) (.cells #[.slice Aa0 na0 ca0, .slice Aa1 na1 ca1] 30)) (f0 ++ (f1 ++ ([])))
  replace S := S.boxAt (Nat.zero_le _) w.heap.size rfl #[.slice Aa0 na0 ca0, .slice Aa1 na1 ca1] 30
  go_enter Try.func46, Try.ntmps46
  go_wp2_with fail
  generalize w.alloc (.cells #[.slice Aa0 na0 ca0, .slice Aa1 na1 ca1] 30) = w1 at *
  refine (markMsgS_any _ _ _ t.flight f0 _ (S.own_ 1 rfl) (S.nodup_own 1 rfl) hz0 _ (by omega) (by omega)).mono ?_
  rintro e w2 ⟨d0, rfl, o, t', m0, en0, es0⟩
  replace T := T.trans (t'.mono (fun p hp => by simp [hp]))
  replace S := S.mark 1 rfl t' o
  clear o t'
  have M0 := Lib.hid m0
  clear m0
  have f0 : w2.cell? ⟨w.heap.size, 1, none⟩ = some (.slice Aa1 na1 ca1) := (S.at_ 0 rfl).cell 1
  go_wp2_with fail
  refine (markLinkS_any _ _ _ t.cuts f1 _ (S.own_ 2 rfl) (S.nodup_own 2 rfl) hz1 _ (by omega) (by omega)).mono ?_
  rintro e w3 ⟨d1, rfl, o, t', m1, en1, es1⟩
  replace T := T.trans (t'.mono (fun p hp => by simp [hp]))
  replace S := S.mark 2 rfl t' o
  clear o t' f0
  have M1 := Lib.hid m1
  clear m1
  have R0 : Ow _ (NetM.cells (⟨d0, d1⟩)) [.slice Aa0 na0 ca0, .slice Aa1 na1 ca1] (f0 ++ (f1 ++ ([]))) := (Ow.append (S.own_ 1 rfl) (Ow.append (S.own_ 2 rfl) .nil))
  have R := Lib.hid R0
  have TT := Lib.hid T
  have E := Lib.hid (And.intro hna (And.intro (And.intro en0 (en1)) (And.intro es0 (es1))))
  clear S T R0 hna en0 es0 en1 es1
  go_wp2
  go_ret
  obtain ⟨hna, en, es⟩ := E.out
  obtain ⟨en0, en1⟩ := en
  obtain ⟨es0, es1⟩ := es
  refine ⟨⟨d0, d1⟩, ?_, R.out, TT.out, ?_, ?_, ?_⟩
  · refine congrArg Ending.returned (congrArg (Value.int .i64) ?_)
    omega
  · show MarkedMsgS d0 (k) ∧ MarkedLinkS d1 (k + (msgN d0 : Int))
    rw [en0]
    exact ⟨M0.out, M1.out⟩
  · show msgN d0 + linkN d1 = msgN t.flight + linkN t.cuts
    omega
  · show msgSz d0 + linkSz d1 = msgSz t.flight + linkSz t.cuts
    omega

set_option maxHeartbeats 6400000 in
theorem heldNet_any (v0 v1 : Value) (t : NetM) (B : Nat) (w : World) (h : Rd w B t.cells [v0, v1]) (hB : B ≤ w.heap.size) (hs : t.sz ≤ 1048577) (k : Int) (k0 : 0 ≤ k) (k1 : k ≤ 90000000000) (hm : MarkedNet t k) :
    Calls Try.prog 48 #[.agg #[v0, v1], .int .i64 k] w fun e w' => e = .returned (.int .i64 (k + (t.n : Int))) ∧ Below w.heap.size w w' := by
  obtain ⟨Aa0, na0, ca0, Aa1, na1, ca1, rfl, rfl, hr0, hr1⟩ := h.netT
  have S := Sep.nil w w.heap.size
  have c := Below.refl w.heap.size w
  have hz0 : msgSz t.flight ≤ 1048577 := by unfold NetM.sz at hs; omega
  have hz1 : linkSz t.cuts ≤ 1048577 := by unfold NetM.sz at hs; omega
  have h9 := net_n_le t hs
  have hna : t.n = msgN t.flight + linkN t.cuts := rfl
  obtain ⟨m0, m1⟩ := hm
  replace S := S.boxAt c.size (w.heap.size) rfl #[.slice Aa0 na0 ca0, .slice Aa1 na1 ca1] 30
  replace c := c.alloc c.size (.cells #[.slice Aa0 na0 ca0, .slice Aa1 na1 ca1] 30)
  go_enter Try.func48, Try.ntmps48
  go_wp2_with fail
  generalize w.alloc (.cells #[.slice Aa0 na0 ca0, .slice Aa1 na1 ca1] 30) = w1 at *
  refine (heldMsgS_any _ _ _ t.flight _ _ (hr0.keep (c.mono hB)) (Nat.le_trans hB c.size) hz0 _ (by omega) (by omega) m0).mono ?_
  rintro e w2 ⟨rfl, b⟩
  replace c := c.trans (b.mono c.size)
  replace S := S.keep b
  clear b
  have q0 : ¬ (k + (msgN t.flight : Int) < 0) := by omega
  have f0 : w2.cell? ⟨w.heap.size, 1, none⟩ = some (.slice Aa1 na1 ca1) := (S.at_ 0 rfl).cell 1
  go_wp2_with fail
  refine (heldLinkS_any _ _ _ t.cuts _ _ (hr1.keep (c.mono hB)) (Nat.le_trans hB c.size) hz1 _ (by omega) (by omega) m1).mono ?_
  rintro e w3 ⟨rfl, b⟩
  replace c := c.trans (b.mono c.size)
  replace S := S.keep b
  clear b f0
  have q1 : ¬ (k + (msgN t.flight : Int) + (linkN t.cuts : Int) < 0) := by omega
  have C := Lib.hid c
  have HN := Lib.hid hna
  clear S c h hna hr0 m0 hr1 m1
  go_wp2
  go_ret
  refine ⟨congrArg Ending.returned (congrArg (Value.int .i64) ?_), C.out⟩
  rw [HN.out]
  omega

set_option maxHeartbeats 6400000 in
theorem szNet_any (v0 v1 : Value) (t : NetM) (B : Nat) (L : Int) (w : World) (h : Rd w B t.cells [v0, v1]) (hB : B ≤ w.heap.size) (l0 : 0 ≤ L) (l1 : L ≤ 1048576) :
    Calls Try.prog 40 #[.agg #[v0, v1], .int .i64 L] w fun e w' => e = .returned (.int .i64 (left L t.sz)) ∧ Below w.heap.size w w' := by
  obtain ⟨Aa0, na0, ca0, Aa1, na1, ca1, rfl, rfl, hr0, hr1⟩ := h.netT
  have HD := Lib.hid (show t.sz = msgSz t.flight + linkSz t.cuts from rfl)
  have S := Sep.nil w w.heap.size
  have c := Below.refl w.heap.size w
  replace S := S.boxAt c.size (w.heap.size) rfl #[.slice Aa0 na0 ca0, .slice Aa1 na1 ca1] 58
  replace c := c.alloc c.size (.cells #[.slice Aa0 na0 ca0, .slice Aa1 na1 ca1] 58)
  go_enter Try.func40, Try.ntmps40
  go_wp2_with fail
  generalize w.alloc (.cells #[.slice Aa0 na0 ca0, .slice Aa1 na1 ca1] 58) = w1 at *
  refine (szMsgS_any _ _ _ t.flight _ _ _ (hr0.keep (c.mono hB)) (Nat.le_trans hB c.size) (by omega) (by omega)).mono ?_
  rintro e w2 ⟨rfl, b⟩
  replace c := c.trans (b.mono c.size)
  replace S := S.keep b
  clear b
  obtain ⟨s0, hsv0⟩ : ∃ q, q = msgSz t.flight := ⟨_, rfl⟩
  rw [← hsv0]
  have HV0 := Lib.hid hsv0
  clear hsv0
  by_cases hc0 : (s0 : Int) ≤ L
  case neg =>
    rw [left, if_neg (by omega)]
    have C := Lib.hid c
    clear S c h hr0 hr1
    go_wp2
    go_ret
    refine ⟨ret_i64 ?_, C.out⟩
    rw [left, HD.out, ← HV0.out, if_neg (by omega)]
  rw [left, if_pos (by omega)]
  have q0 : ¬ (L - (s0 : Int) < 0) := by omega
  have f0 : w2.cell? ⟨w.heap.size, 1, none⟩ = some (.slice Aa1 na1 ca1) := (S.at_ 0 rfl).cell 1
  go_wp2_with fail
  refine (szLinkS_any _ _ _ t.cuts _ _ _ (hr1.keep (c.mono hB)) (Nat.le_trans hB c.size) (by omega) (by omega)).mono ?_
  rintro e w3 ⟨rfl, b⟩
  replace c := c.trans (b.mono c.size)
  replace S := S.keep b
  clear b f0
  obtain ⟨s1, hsv1⟩ : ∃ q, q = linkSz t.cuts := ⟨_, rfl⟩
  rw [← hsv1]
  have HV1 := Lib.hid hsv1
  clear hsv1
  by_cases hc1 : (s1 : Int) ≤ L - (s0 : Int)
  case neg =>
    rw [left, if_neg (by omega)]
    have C := Lib.hid c
    clear S c h hr0 hr1
    go_wp2
    go_ret
    refine ⟨ret_i64 ?_, C.out⟩
    rw [left, HD.out, ← HV0.out, ← HV1.out, if_neg (by omega)]
  rw [left, if_pos (by omega)]
  have q1 : ¬ (L - (s0 : Int) - (s1 : Int) < 0) := by omega
  have C := Lib.hid c
  clear S c h hr0 hr1
  go_wp2
  go_ret
  refine ⟨ret_i64 ?_, C.out⟩
  rw [left, HD.out, ← HV0.out, ← HV1.out, if_pos (by omega)]
  omega

end Go.Proofs.Ytdcdcccdihhhcaa
