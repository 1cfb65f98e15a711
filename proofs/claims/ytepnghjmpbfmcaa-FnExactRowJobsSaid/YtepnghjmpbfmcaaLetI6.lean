/-
  Chapter 11: the message in a row, of the program (by program, wip/gen/genleti6.py).
-/
import Derived.Test.YtepnghjmpbfmcaaLetI5
import Derived.Test.YtepnghjmpbfmcaaLetIF
import Derived.Test.YtepnghjmpbfmcaaLetIJ
import Derived.RegionTactic
import Derived.BigQuiet
import Derived.Laws.EntriesVeiled
namespace Go.Proofs.Ytepnghjmpbfmcaa
set_option maxRecDepth 100000
open Go.RowKit

set_option linter.unusedVariables false
set_option linter.unusedSimpArgs false
def letV (w : World) (base : Nat) (o : Option LetM) (v : Value) : Prop :=
  match o with
  | none => v = .nilIface
  | some (.ask a) => v = .iface 45 (.agg #[.int .i64 a.cl, .int .i64 a.sq, .int .i64 a.kd, .int .i64 a.oa, .int .i64 a.ob, .int .i64 a.oc, .int .i64 a.od])
  | some (.ack a) => v = .iface 49 (.agg #[.int .i64 a.cl, .int .i64 a.sq, .int .i64 a.ix, .int .i64 a.last])
  | some (.fetch x) => v = .iface 97 (.int .i64 x)
  | some (.feed a) => ∃ (G : Option Addr) (m gc : Nat), v = .iface 56 (.agg #[.int .i64 a.base, .int .i64 a.last, .slice G m gc]) ∧ Has w base [entD a.ents] [.slice G m gc]
  | some (.trim x) => v = .iface 99 (.int .i64 x)
  | some (.read a) => v = .iface 60 (.agg #[.int .i64 a.cl, .int .i64 a.sq, .int .i64 a.key, .int .i64 a.least])
  | some (.value a) => v = .iface 64 (.agg #[.int .i64 a.cl, .int .i64 a.sq, .int .i64 a.ix, .int .i64 a.has, .int .i64 a.val])
  | some (.poll x) => v = .iface 101 (.int .i64 x)
  | some (.jobs a) => ∃ (G : Option Addr) (m gc : Nat), v = .iface 25 (.agg #[.int .i64 a.ix, .int .i64 a.tm, .int .i64 a.ho, .int .i64 a.ep, .int .i64 a.un, .slice G m gc]) ∧ Has w base [djD a.open_] [.slice G m gc]
set_option maxHeartbeats 12800000 in
theorem iLetIn_none (A : Option Addr) (n cc B : Nat) (d : List Int) (w : World) (hi : IRow w B A n d) (hB : B ≤ w.heap.size) (hn : n ≤ 1048577) (hnc : n ≤ cc) (hcm : cc ≤ maxLen) (hk : kindM d = 0) :
    Calls Try.prog 40 #[.slice A n cc] w fun e w' => ∃ v, e = .returned v ∧ letV w' w.heap.size (letInM d) v ∧ Below w.heap.size w w' := by
  have HCM := Lib.hid hcm
  unfold maxLen at hcm
  have K : Calls Try.prog 27 #[.slice A n cc] w (fun e w' => e = .returned (.int .i64 0) ∧ Below w.heap.size w w') := by
    have h9 := iKindOf_any A n cc B d w hi hn
    rw [hk] at h9
    exact h9
  have HLM := Lib.hid (show letInM d = none by unfold letInM; rw [if_neg (by rw [hk]; decide), if_neg (by rw [hk]; decide), if_neg (by rw [hk]; decide), if_neg (by rw [hk]; decide), if_neg (by rw [hk]; decide), if_neg (by rw [hk]; decide), if_neg (by rw [hk]; decide), if_neg (by rw [hk]; decide), if_neg (by rw [hk]; decide)])
  have ew : IntKind.i64.wrap ((n : Int) - 1) = (n : Int) - 1 := by rw [IntKind.wrap_i64]; omega
  have KK := Lib.hid K
  clear K hk hi hcm
  go_enter Try.func40, Try.ntmps40
  go_wp2_with fail
  refine KK.out.mono ?_
  rintro e w1 ⟨rfl, b⟩
  have CC := Lib.hid b
  clear b
  go_wp2_with (first | (go_at_call 59; refine (iIsLen_none _ _).mono ?_; rintro e w' ⟨rfl, rfl⟩))
  go_ret
  exact ⟨_, rfl, by rw [HLM.out]; rfl, CC.out⟩

set_option maxHeartbeats 12800000 in
theorem iLetIn_ask (A : Option Addr) (n cc B : Nat) (d : List Int) (w : World) (hi : IRow w B A n d) (hB : B ≤ w.heap.size) (hn : n ≤ 1048577) (hnc : n ≤ cc) (hcm : cc ≤ maxLen) (hk : kindM d = 1) :
    Calls Try.prog 40 #[.slice A n cc] w fun e w' => ∃ v, e = .returned v ∧ letV w' w.heap.size (letInM d) v ∧ Below w.heap.size w w' := by
  have HCM := Lib.hid hcm
  unfold maxLen at hcm
  have K : Calls Try.prog 27 #[.slice A n cc] w (fun e w' => e = .returned (.int .i64 1) ∧ Below w.heap.size w w') := by
    have h9 := iKindOf_any A n cc B d w hi hn
    rw [hk] at h9
    exact h9
  have HLM := Lib.hid (show letInM d = if d.length = 8 ∧ askOkB (ofAsk d) = true then some (.ask (ofAsk d)) else none by unfold letInM; rw [if_pos hk])
  have hd := kindM_head hk (by decide)
  have h48 : d.length ≤ 48 := by have h9 := hd.2.2; unfold rowOk at h9; simp only [Bool.and_eq_true, decide_eq_true_eq] at h9; exact h9.1
  have HL := Lib.hid hi.1
  have hn1 : 0 < n := by have := hi.1; omega
  have hn48 : n ≤ 48 := by have := hi.1; omega
  have KK := Lib.hid K
  clear K hk hd h48
  by_cases hC : n = 8
  case neg =>
    have L : ∀ w9, Calls Try.prog 59 #[.int .i64 1, .int .i64 ((n : Int) - 1)] w9 (fun e w' => e = .returned (.bool false) ∧ w9 = w') := fun w9 => by
      have h9 := iIsLen_ask ((n : Int) - 1) w9
      rw [decide_eq_false (show ¬ ((n : Int) - 1 = 7) by omega)] at h9
      exact h9
    have HZ := Lib.hid (show letInM d = none by rw [HLM.out, if_neg (fun h9 => hC (by have := HL.out; omega))])
    have ew : IntKind.i64.wrap ((n : Int) - 1) = (n : Int) - 1 := by rw [IntKind.wrap_i64]; omega
    have LL := Lib.hid L
    clear L hC hi
    go_enter Try.func40, Try.ntmps40
    go_wp2_with fail
    refine KK.out.mono ?_
    rintro e w1 ⟨rfl, b⟩
    have CC := Lib.hid b
    clear b
    go_wp2_with (first | (go_at_call 59; refine (LL.out _).mono ?_; rintro e w' ⟨rfl, rfl⟩))
    go_ret
    exact ⟨_, rfl, by rw [HZ.out]; rfl, CC.out⟩
  case pos =>
    obtain ⟨b, off, rfl, hb, hc⟩ := hi.2 hn1
    clear hc
    subst hC
    obtain ⟨x0, hx0⟩ : ∃ x, x = d.getD 1 0 := ⟨_, rfl⟩
    have HG0 := Lib.hid (show (d.drop 1).getD 0 0 = x0 by rw [getD_drop, hx0])
    obtain ⟨x1, hx1⟩ : ∃ x, x = d.getD 2 0 := ⟨_, rfl⟩
    have HG1 := Lib.hid (show (d.drop 1).getD 1 0 = x1 by rw [getD_drop, hx1])
    obtain ⟨x2, hx2⟩ : ∃ x, x = d.getD 3 0 := ⟨_, rfl⟩
    have HG2 := Lib.hid (show (d.drop 1).getD 2 0 = x2 by rw [getD_drop, hx2])
    obtain ⟨x3, hx3⟩ : ∃ x, x = d.getD 4 0 := ⟨_, rfl⟩
    have HG3 := Lib.hid (show (d.drop 1).getD 3 0 = x3 by rw [getD_drop, hx3])
    obtain ⟨x4, hx4⟩ : ∃ x, x = d.getD 5 0 := ⟨_, rfl⟩
    have HG4 := Lib.hid (show (d.drop 1).getD 4 0 = x4 by rw [getD_drop, hx4])
    obtain ⟨x5, hx5⟩ : ∃ x, x = d.getD 6 0 := ⟨_, rfl⟩
    have HG5 := Lib.hid (show (d.drop 1).getD 5 0 = x5 by rw [getD_drop, hx5])
    obtain ⟨x6, hx6⟩ : ∃ x, x = d.getD 7 0 := ⟨_, rfl⟩
    have HG6 := Lib.hid (show (d.drop 1).getD 6 0 = x6 by rw [getD_drop, hx6])
    have HM := Lib.hid (show ofAsk d = ⟨x0, x1, x2, x3, x4, x5, x6⟩ by unfold ofAsk; rw [hx0, hx1, hx2, hx3, hx4, hx5, hx6])
    have L : ∀ w9, Calls Try.prog 59 #[.int .i64 1, .int .i64 7] w9 (fun e w' => e = .returned (.bool true) ∧ w9 = w') := fun w9 => by
      have h9 := iIsLen_ask 7 w9
      rw [decide_eq_true rfl] at h9
      exact h9
    have HI := Lib.hid (hi.dropL (m := 1) (by omega))
    have hc1 : ¬ (cc = 1) := by omega
    have hc1' : (1 : Int) ≤ (cc : Int) := by omega
    have hccn : 7 ≤ cc - 1 := by omega
    have hm1 : ∀ w9, (method 248 45 (.agg #[.int .i64 x0, .int .i64 x1, .int .i64 x2, .int .i64 x3, .int .i64 x4, .int .i64 x5, .int .i64 x6]) "loop.example/g00851/impl.fits").run Try.prog w9 = .ok (109, .agg #[.int .i64 x0, .int .i64 x1, .int .i64 x2, .int .i64 x3, .int .i64 x4, .int .i64 x5, .int .i64 x6]) w9 := fun _ => by kernel_rfl
    have LL := Lib.hid L
    clear L hi hn1 hn48 hn hx0 hx1 hx2 hx3 hx4 hx5 hx6
    go_enter Try.func40, Try.ntmps40
    go_wp2_with fail
    refine KK.out.mono ?_
    rintro e w1 ⟨rfl, b⟩
    have c := b
    clear b
    go_wp2_with (first | (go_at_call 59; refine (LL.out _).mono ?_; rintro e w' ⟨rfl, rfl⟩) | fail)
    refine (iLetOf_ask b (off + 1) (cc - 1) B (d.drop 1) _ (HI.out.below (c.mono hB)) (Nat.le_trans hB c.size) hccn).mono ?_
    rintro e w2 ⟨rfl, b2⟩
    replace c := c.trans (b2.mono c.size)
    clear b2
    rw [HG0.out, HG1.out, HG2.out, HG3.out, HG4.out, HG5.out, HG6.out]
    go_wp2_with fail
    refine (iAskFits_any x0 x1 x2 x3 x4 x5 x6 _).mono ?_
    rintro e w3 ⟨rfl, b3⟩
    have CC := Lib.hid (c.trans (b3.mono c.size))
    clear b3 c
    cases hok : askOkB ⟨x0, x1, x2, x3, x4, x5, x6⟩
    case false =>
      have HZ := Lib.hid (show letInM d = none by rw [HLM.out, if_neg (fun h9 => by have h8 := h9.2; rw [HM.out, hok] at h8; cases h8)])
      clear hok
      go_wp2
      go_ret
      exact ⟨_, rfl, by rw [HZ.out]; rfl, CC.out⟩
    case true =>
      have HZ := Lib.hid (show letInM d = some (.ask ⟨x0, x1, x2, x3, x4, x5, x6⟩) by rw [HLM.out, if_pos ⟨HL.out, by rw [HM.out]; exact hok⟩, HM.out])
      clear hok
      go_wp2
      go_ret
      exact ⟨_, rfl, by rw [HZ.out]; rfl, CC.out⟩

set_option maxHeartbeats 12800000 in
theorem iLetIn_ack (A : Option Addr) (n cc B : Nat) (d : List Int) (w : World) (hi : IRow w B A n d) (hB : B ≤ w.heap.size) (hn : n ≤ 1048577) (hnc : n ≤ cc) (hcm : cc ≤ maxLen) (hk : kindM d = 2) :
    Calls Try.prog 40 #[.slice A n cc] w fun e w' => ∃ v, e = .returned v ∧ letV w' w.heap.size (letInM d) v ∧ Below w.heap.size w w' := by
  have HCM := Lib.hid hcm
  unfold maxLen at hcm
  have K : Calls Try.prog 27 #[.slice A n cc] w (fun e w' => e = .returned (.int .i64 2) ∧ Below w.heap.size w w') := by
    have h9 := iKindOf_any A n cc B d w hi hn
    rw [hk] at h9
    exact h9
  have HLM := Lib.hid (show letInM d = if d.length = 5 ∧ ackOkB (ofAck d) = true then some (.ack (ofAck d)) else none by unfold letInM; rw [if_neg (by rw [hk]; decide), if_pos hk])
  have hd := kindM_head hk (by decide)
  have h48 : d.length ≤ 48 := by have h9 := hd.2.2; unfold rowOk at h9; simp only [Bool.and_eq_true, decide_eq_true_eq] at h9; exact h9.1
  have HL := Lib.hid hi.1
  have hn1 : 0 < n := by have := hi.1; omega
  have hn48 : n ≤ 48 := by have := hi.1; omega
  have KK := Lib.hid K
  clear K hk hd h48
  by_cases hC : n = 5
  case neg =>
    have L : ∀ w9, Calls Try.prog 59 #[.int .i64 2, .int .i64 ((n : Int) - 1)] w9 (fun e w' => e = .returned (.bool false) ∧ w9 = w') := fun w9 => by
      have h9 := iIsLen_ack ((n : Int) - 1) w9
      rw [decide_eq_false (show ¬ ((n : Int) - 1 = 4) by omega)] at h9
      exact h9
    have HZ := Lib.hid (show letInM d = none by rw [HLM.out, if_neg (fun h9 => hC (by have := HL.out; omega))])
    have ew : IntKind.i64.wrap ((n : Int) - 1) = (n : Int) - 1 := by rw [IntKind.wrap_i64]; omega
    have LL := Lib.hid L
    clear L hC hi
    go_enter Try.func40, Try.ntmps40
    go_wp2_with fail
    refine KK.out.mono ?_
    rintro e w1 ⟨rfl, b⟩
    have CC := Lib.hid b
    clear b
    go_wp2_with (first | (go_at_call 59; refine (LL.out _).mono ?_; rintro e w' ⟨rfl, rfl⟩))
    go_ret
    exact ⟨_, rfl, by rw [HZ.out]; rfl, CC.out⟩
  case pos =>
    obtain ⟨b, off, rfl, hb, hc⟩ := hi.2 hn1
    clear hc
    subst hC
    obtain ⟨x0, hx0⟩ : ∃ x, x = d.getD 1 0 := ⟨_, rfl⟩
    have HG0 := Lib.hid (show (d.drop 1).getD 0 0 = x0 by rw [getD_drop, hx0])
    obtain ⟨x1, hx1⟩ : ∃ x, x = d.getD 2 0 := ⟨_, rfl⟩
    have HG1 := Lib.hid (show (d.drop 1).getD 1 0 = x1 by rw [getD_drop, hx1])
    obtain ⟨x2, hx2⟩ : ∃ x, x = d.getD 3 0 := ⟨_, rfl⟩
    have HG2 := Lib.hid (show (d.drop 1).getD 2 0 = x2 by rw [getD_drop, hx2])
    obtain ⟨x3, hx3⟩ : ∃ x, x = d.getD 4 0 := ⟨_, rfl⟩
    have HG3 := Lib.hid (show (d.drop 1).getD 3 0 = x3 by rw [getD_drop, hx3])
    have HM := Lib.hid (show ofAck d = ⟨x0, x1, x2, x3⟩ by unfold ofAck; rw [hx0, hx1, hx2, hx3])
    have L : ∀ w9, Calls Try.prog 59 #[.int .i64 2, .int .i64 4] w9 (fun e w' => e = .returned (.bool true) ∧ w9 = w') := fun w9 => by
      have h9 := iIsLen_ack 4 w9
      rw [decide_eq_true rfl] at h9
      exact h9
    have HI := Lib.hid (hi.dropL (m := 1) (by omega))
    have hc1 : ¬ (cc = 1) := by omega
    have hc1' : (1 : Int) ≤ (cc : Int) := by omega
    have hccn : 4 ≤ cc - 1 := by omega
    have hm1 : ∀ w9, (method 248 49 (.agg #[.int .i64 x0, .int .i64 x1, .int .i64 x2, .int .i64 x3]) "loop.example/g00851/impl.fits").run Try.prog w9 = .ok (115, .agg #[.int .i64 x0, .int .i64 x1, .int .i64 x2, .int .i64 x3]) w9 := fun _ => by kernel_rfl
    have LL := Lib.hid L
    clear L hi hn1 hn48 hn hx0 hx1 hx2 hx3
    go_enter Try.func40, Try.ntmps40
    go_wp2_with fail
    refine KK.out.mono ?_
    rintro e w1 ⟨rfl, b⟩
    have c := b
    clear b
    go_wp2_with (first | (go_at_call 59; refine (LL.out _).mono ?_; rintro e w' ⟨rfl, rfl⟩) | fail)
    refine (iLetOf_ack b (off + 1) (cc - 1) B (d.drop 1) _ (HI.out.below (c.mono hB)) (Nat.le_trans hB c.size) hccn).mono ?_
    rintro e w2 ⟨rfl, b2⟩
    replace c := c.trans (b2.mono c.size)
    clear b2
    rw [HG0.out, HG1.out, HG2.out, HG3.out]
    go_wp2_with fail
    refine (iAckFits_any x0 x1 x2 x3 _).mono ?_
    rintro e w3 ⟨rfl, b3⟩
    have CC := Lib.hid (c.trans (b3.mono c.size))
    clear b3 c
    cases hok : ackOkB ⟨x0, x1, x2, x3⟩
    case false =>
      have HZ := Lib.hid (show letInM d = none by rw [HLM.out, if_neg (fun h9 => by have h8 := h9.2; rw [HM.out, hok] at h8; cases h8)])
      clear hok
      go_wp2
      go_ret
      exact ⟨_, rfl, by rw [HZ.out]; rfl, CC.out⟩
    case true =>
      have HZ := Lib.hid (show letInM d = some (.ack ⟨x0, x1, x2, x3⟩) by rw [HLM.out, if_pos ⟨HL.out, by rw [HM.out]; exact hok⟩, HM.out])
      clear hok
      go_wp2
      go_ret
      exact ⟨_, rfl, by rw [HZ.out]; rfl, CC.out⟩

set_option maxHeartbeats 12800000 in
theorem iLetIn_fetch (A : Option Addr) (n cc B : Nat) (d : List Int) (w : World) (hi : IRow w B A n d) (hB : B ≤ w.heap.size) (hn : n ≤ 1048577) (hnc : n ≤ cc) (hcm : cc ≤ maxLen) (hk : kindM d = 3) :
    Calls Try.prog 40 #[.slice A n cc] w fun e w' => ∃ v, e = .returned v ∧ letV w' w.heap.size (letInM d) v ∧ Below w.heap.size w w' := by
  have HCM := Lib.hid hcm
  unfold maxLen at hcm
  have K : Calls Try.prog 27 #[.slice A n cc] w (fun e w' => e = .returned (.int .i64 3) ∧ Below w.heap.size w w') := by
    have h9 := iKindOf_any A n cc B d w hi hn
    rw [hk] at h9
    exact h9
  have HLM := Lib.hid (show letInM d = if d.length = 2 ∧ inB (d.getD 1 0) 1 2001 = true then some (.fetch (d.getD 1 0)) else none by unfold letInM; rw [if_neg (by rw [hk]; decide), if_neg (by rw [hk]; decide), if_pos hk])
  have hd := kindM_head hk (by decide)
  have h48 : d.length ≤ 48 := by have h9 := hd.2.2; unfold rowOk at h9; simp only [Bool.and_eq_true, decide_eq_true_eq] at h9; exact h9.1
  have HL := Lib.hid hi.1
  have hn1 : 0 < n := by have := hi.1; omega
  have hn48 : n ≤ 48 := by have := hi.1; omega
  have KK := Lib.hid K
  clear K hk hd h48
  by_cases hC : n = 2
  case neg =>
    have L : ∀ w9, Calls Try.prog 59 #[.int .i64 3, .int .i64 ((n : Int) - 1)] w9 (fun e w' => e = .returned (.bool false) ∧ w9 = w') := fun w9 => by
      have h9 := iIsLen_fetch ((n : Int) - 1) w9
      rw [decide_eq_false (show ¬ ((n : Int) - 1 = 1) by omega)] at h9
      exact h9
    have HZ := Lib.hid (show letInM d = none by rw [HLM.out, if_neg (fun h9 => hC (by have := HL.out; omega))])
    have ew : IntKind.i64.wrap ((n : Int) - 1) = (n : Int) - 1 := by rw [IntKind.wrap_i64]; omega
    have LL := Lib.hid L
    clear L hC hi
    go_enter Try.func40, Try.ntmps40
    go_wp2_with fail
    refine KK.out.mono ?_
    rintro e w1 ⟨rfl, b⟩
    have CC := Lib.hid b
    clear b
    go_wp2_with (first | (go_at_call 59; refine (LL.out _).mono ?_; rintro e w' ⟨rfl, rfl⟩))
    go_ret
    exact ⟨_, rfl, by rw [HZ.out]; rfl, CC.out⟩
  case pos =>
    obtain ⟨b, off, rfl, hb, hc⟩ := hi.2 hn1
    clear hc
    subst hC
    obtain ⟨x0, hx0⟩ : ∃ x, x = d.getD 1 0 := ⟨_, rfl⟩
    have HG0 := Lib.hid (show (d.drop 1).getD 0 0 = x0 by rw [getD_drop, hx0])
    have HM := Lib.hid hx0
    have L : ∀ w9, Calls Try.prog 59 #[.int .i64 3, .int .i64 1] w9 (fun e w' => e = .returned (.bool true) ∧ w9 = w') := fun w9 => by
      have h9 := iIsLen_fetch 1 w9
      rw [decide_eq_true rfl] at h9
      exact h9
    have HI := Lib.hid (hi.dropL (m := 1) (by omega))
    have hc1 : ¬ (cc = 1) := by omega
    have hc1' : (1 : Int) ≤ (cc : Int) := by omega
    have hccn : 1 ≤ cc - 1 := by omega
    have hm1 : ∀ w9, (method 248 97 (.int .i64 x0) "loop.example/g00851/impl.fits").run Try.prog w9 = .ok (123, .int .i64 x0) w9 := fun _ => by kernel_rfl
    have LL := Lib.hid L
    clear L hi hn1 hn48 hn hx0
    go_enter Try.func40, Try.ntmps40
    go_wp2_with fail
    refine KK.out.mono ?_
    rintro e w1 ⟨rfl, b⟩
    have c := b
    clear b
    go_wp2_with (first | (go_at_call 59; refine (LL.out _).mono ?_; rintro e w' ⟨rfl, rfl⟩) | fail)
    refine (iLetOf_fetch b (off + 1) (cc - 1) B (d.drop 1) _ (HI.out.below (c.mono hB)) (Nat.le_trans hB c.size) hccn).mono ?_
    rintro e w2 ⟨rfl, b2⟩
    replace c := c.trans (b2.mono c.size)
    clear b2
    rw [HG0.out]
    go_wp2_with fail
    refine (iFetchFits_any x0 _).mono ?_
    rintro e w3 ⟨rfl, b3⟩
    have CC := Lib.hid (c.trans (b3.mono c.size))
    clear b3 c
    cases hok : inB x0 1 2001
    case false =>
      have HZ := Lib.hid (show letInM d = none by rw [HLM.out, if_neg (fun h9 => by have h8 := h9.2; rw [← HM.out, hok] at h8; cases h8)])
      clear hok
      go_wp2
      go_ret
      exact ⟨_, rfl, by rw [HZ.out]; rfl, CC.out⟩
    case true =>
      have HZ := Lib.hid (show letInM d = some (.fetch x0) by rw [HLM.out, if_pos ⟨HL.out, by rw [← HM.out]; exact hok⟩, ← HM.out])
      clear hok
      go_wp2
      go_ret
      exact ⟨_, rfl, by rw [HZ.out]; rfl, CC.out⟩

set_option maxHeartbeats 12800000 in
theorem iLetIn_feed (A : Option Addr) (n cc B : Nat) (d : List Int) (w : World) (hi : IRow w B A n d) (hB : B ≤ w.heap.size) (hn : n ≤ 1048577) (hnc : n ≤ cc) (hcm : cc ≤ maxLen) (hk : kindM d = 4) :
    Calls Try.prog 40 #[.slice A n cc] w fun e w' => ∃ v, e = .returned v ∧ letV w' w.heap.size (letInM d) v ∧ Below w.heap.size w w' := by
  have HCM := Lib.hid hcm
  unfold maxLen at hcm
  have K : Calls Try.prog 27 #[.slice A n cc] w (fun e w' => e = .returned (.int .i64 4) ∧ Below w.heap.size w w') := by
    have h9 := iKindOf_any A n cc B d w hi hn
    rw [hk] at h9
    exact h9
  have HLM := Lib.hid (show letInM d = if (3 ≤ d.length ∧ d.length % 9 = 3) ∧ feedOkB (ofFeed d) = true then some (.feed (ofFeed d)) else none by unfold letInM; rw [if_neg (by rw [hk]; decide), if_neg (by rw [hk]; decide), if_neg (by rw [hk]; decide), if_pos hk])
  have hd := kindM_head hk (by decide)
  have h48 : d.length ≤ 48 := by have h9 := hd.2.2; unfold rowOk at h9; simp only [Bool.and_eq_true, decide_eq_true_eq] at h9; exact h9.1
  have HL := Lib.hid hi.1
  have hn1 : 0 < n := by have := hi.1; omega
  have hn48 : n ≤ 48 := by have := hi.1; omega
  have KK := Lib.hid K
  clear K hk hd h48
  by_cases hC : 3 ≤ n ∧ n % 9 = 3
  case neg =>
    have L : ∀ w9, Calls Try.prog 59 #[.int .i64 4, .int .i64 ((n : Int) - 1)] w9 (fun e w' => e = .returned (.bool false) ∧ w9 = w') := fun w9 => by
      have h9 := iIsLen_feed ((n : Int) - 1) (by omega) w9
      rw [show (decide (2 ≤ (n : Int) - 1) && decide (((n : Int) - 1 - 2) % 9 = 0)) = false by rw [Bool.and_eq_false_iff, decide_eq_false_iff_not, decide_eq_false_iff_not]; omega] at h9
      exact h9
    have HZ := Lib.hid (show letInM d = none by rw [HLM.out, if_neg (fun h9 => hC (by have := HL.out; omega))])
    have ew : IntKind.i64.wrap ((n : Int) - 1) = (n : Int) - 1 := by rw [IntKind.wrap_i64]; omega
    have LL := Lib.hid L
    clear L hC hi
    go_enter Try.func40, Try.ntmps40
    go_wp2_with fail
    refine KK.out.mono ?_
    rintro e w1 ⟨rfl, b⟩
    have CC := Lib.hid b
    clear b
    go_wp2_with (first | (go_at_call 59; refine (LL.out _).mono ?_; rintro e w' ⟨rfl, rfl⟩))
    go_ret
    exact ⟨_, rfl, by rw [HZ.out]; rfl, CC.out⟩
  case pos =>
    obtain ⟨b, off, rfl, hb, hc⟩ := hi.2 hn1
    clear hc
    obtain ⟨x0, hx0⟩ : ∃ x, x = d.getD 1 0 := ⟨_, rfl⟩
    have HG0 := Lib.hid (show (d.drop 1).getD 0 0 = x0 by rw [getD_drop, hx0])
    obtain ⟨x1, hx1⟩ : ∃ x, x = d.getD 2 0 := ⟨_, rfl⟩
    have HG1 := Lib.hid (show (d.drop 1).getD 1 0 = x1 by rw [getD_drop, hx1])
    obtain ⟨r, hr⟩ : ∃ r, n = 3 + 9 * r := ⟨(n - 3) / 9, by omega⟩
    obtain ⟨lst9, hl9⟩ : ∃ l, l = entsFrom (d.drop 3) r := ⟨_, rfl⟩
    have hr24 : r ≤ 24 := by omega
    have HM := Lib.hid (show ofFeed d = ⟨x0, x1, lst9⟩ by
      unfold ofFeed
      rw [hx0, hx1, hl9]
      have e9 : (d.length - 3) / 9 = r := by have := HL.out; omega
      rw [e9])
    have HF9 := Lib.hid (show entsFrom ((d.drop 1).drop 2) r = lst9 by rw [List.drop_drop, hl9])
    have hsz : entSz lst9 ≤ 1048577 := by rw [hl9]; unfold entSz; rw [entsFrom_len]; omega
    have L : ∀ w9, Calls Try.prog 59 #[.int .i64 4, .int .i64 ((n : Int) - 1)] w9 (fun e w' => e = .returned (.bool true) ∧ w9 = w') := fun w9 => by
      have h9 := iIsLen_feed ((n : Int) - 1) (by omega) w9
      rw [show (decide (2 ≤ (n : Int) - 1) && decide (((n : Int) - 1 - 2) % 9 = 0)) = true by rw [Bool.and_eq_true, decide_eq_true_eq, decide_eq_true_eq]; omega] at h9
      exact h9
    have ew : IntKind.i64.wrap ((n : Int) - 1) = (n : Int) - 1 := by rw [IntKind.wrap_i64]; omega
    have HI := Lib.hid (hi.dropL (m := 1) (by omega))
    have hc1 : ¬ (cc = 1) := by omega
    have hc1' : (1 : Int) ≤ (cc : Int) := by omega
    have hn1' : (1 : Int) ≤ (n : Int) := by omega
    have hn1'' : 1 ≤ n := by omega
    have HR := Lib.hid hr
    have HC9 := Lib.hid hC
    have LL := Lib.hid L
    clear L hi hn48 hn hr hl9 hC hx0 hx1
    go_enter Try.func40, Try.ntmps40
    go_wp2_with fail
    refine KK.out.mono ?_
    rintro e w1 ⟨rfl, b⟩
    have c := b
    clear b
    go_wp2_with (first | (go_at_call 59; refine (LL.out _).mono ?_; rintro e w' ⟨rfl, rfl⟩) | fail)
    refine (iLetOf_feed b (off + 1) (n - 1) (cc - 1) B r (d.drop 1) _ (HI.out.below (c.mono hB)) (Nat.le_trans hB c.size) (by have := HR.out; omega) hr24 (by omega) (by have := HCM.out; omega)).mono ?_
    rintro e w2 ⟨G, m9, gc, rfl, o, b2⟩
    rw [HF9.out] at o
    obtain ⟨fp_u, S⟩ := (Sep.nil w1 w.heap.size).has b2 o c.size
    replace c := c.trans (b2.mono c.size)
    clear b2 o
    rw [HG0.out, HG1.out]
    have hm1 : ∀ w9, (method 248 56 (.agg #[.int .i64 x0, .int .i64 x1, .slice G m9 gc]) "loop.example/g00851/impl.fits").run Try.prog w9 = .ok (54, .agg #[.int .i64 x0, .int .i64 x1, .slice G m9 gc]) w9 := fun _ => by kernel_rfl
    go_wp2_with fail
    refine (iFeedFits_any x0 x1 G m9 gc _ lst9 _ ((S.own_ 0 rfl).rd) (Nat.le_refl _) hsz).mono ?_
    rintro e w3 ⟨rfl, b3⟩
    replace c := c.trans (b3.mono c.size)
    replace S := S.keep b3
    have H := Lib.hid S.first
    have CC := Lib.hid c
    clear b3 c S
    cases hok : feedOkB ⟨x0, x1, lst9⟩
    case false =>
      have HZ := Lib.hid (show letInM d = none by rw [HLM.out, if_neg (fun h9 => by have h8 := h9.2; rw [HM.out, hok] at h8; cases h8)])
      clear hok
      go_wp2
      go_ret
      exact ⟨_, rfl, by rw [HZ.out]; rfl, CC.out⟩
    case true =>
      have HZ := Lib.hid (show letInM d = some (.feed ⟨x0, x1, lst9⟩) by rw [HLM.out, if_pos ⟨by have := HC9.out; have := HL.out; omega, by rw [HM.out]; exact hok⟩, HM.out])
      clear hok
      go_wp2
      go_ret
      exact ⟨_, rfl, by rw [HZ.out]; exact ⟨_, _, _, rfl, H.out⟩, CC.out⟩

set_option maxHeartbeats 12800000 in
theorem iLetIn_trim (A : Option Addr) (n cc B : Nat) (d : List Int) (w : World) (hi : IRow w B A n d) (hB : B ≤ w.heap.size) (hn : n ≤ 1048577) (hnc : n ≤ cc) (hcm : cc ≤ maxLen) (hk : kindM d = 5) :
    Calls Try.prog 40 #[.slice A n cc] w fun e w' => ∃ v, e = .returned v ∧ letV w' w.heap.size (letInM d) v ∧ Below w.heap.size w w' := by
  have HCM := Lib.hid hcm
  unfold maxLen at hcm
  have K : Calls Try.prog 27 #[.slice A n cc] w (fun e w' => e = .returned (.int .i64 5) ∧ Below w.heap.size w w') := by
    have h9 := iKindOf_any A n cc B d w hi hn
    rw [hk] at h9
    exact h9
  have HLM := Lib.hid (show letInM d = if d.length = 2 ∧ inB (d.getD 1 0) 1 2000 = true then some (.trim (d.getD 1 0)) else none by unfold letInM; rw [if_neg (by rw [hk]; decide), if_neg (by rw [hk]; decide), if_neg (by rw [hk]; decide), if_neg (by rw [hk]; decide), if_pos hk])
  have hd := kindM_head hk (by decide)
  have h48 : d.length ≤ 48 := by have h9 := hd.2.2; unfold rowOk at h9; simp only [Bool.and_eq_true, decide_eq_true_eq] at h9; exact h9.1
  have HL := Lib.hid hi.1
  have hn1 : 0 < n := by have := hi.1; omega
  have hn48 : n ≤ 48 := by have := hi.1; omega
  have KK := Lib.hid K
  clear K hk hd h48
  by_cases hC : n = 2
  case neg =>
    have L : ∀ w9, Calls Try.prog 59 #[.int .i64 5, .int .i64 ((n : Int) - 1)] w9 (fun e w' => e = .returned (.bool false) ∧ w9 = w') := fun w9 => by
      have h9 := iIsLen_trim ((n : Int) - 1) w9
      rw [decide_eq_false (show ¬ ((n : Int) - 1 = 1) by omega)] at h9
      exact h9
    have HZ := Lib.hid (show letInM d = none by rw [HLM.out, if_neg (fun h9 => hC (by have := HL.out; omega))])
    have ew : IntKind.i64.wrap ((n : Int) - 1) = (n : Int) - 1 := by rw [IntKind.wrap_i64]; omega
    have LL := Lib.hid L
    clear L hC hi
    go_enter Try.func40, Try.ntmps40
    go_wp2_with fail
    refine KK.out.mono ?_
    rintro e w1 ⟨rfl, b⟩
    have CC := Lib.hid b
    clear b
    go_wp2_with (first | (go_at_call 59; refine (LL.out _).mono ?_; rintro e w' ⟨rfl, rfl⟩))
    go_ret
    exact ⟨_, rfl, by rw [HZ.out]; rfl, CC.out⟩
  case pos =>
    obtain ⟨b, off, rfl, hb, hc⟩ := hi.2 hn1
    clear hc
    subst hC
    obtain ⟨x0, hx0⟩ : ∃ x, x = d.getD 1 0 := ⟨_, rfl⟩
    have HG0 := Lib.hid (show (d.drop 1).getD 0 0 = x0 by rw [getD_drop, hx0])
    have HM := Lib.hid hx0
    have L : ∀ w9, Calls Try.prog 59 #[.int .i64 5, .int .i64 1] w9 (fun e w' => e = .returned (.bool true) ∧ w9 = w') := fun w9 => by
      have h9 := iIsLen_trim 1 w9
      rw [decide_eq_true rfl] at h9
      exact h9
    have HI := Lib.hid (hi.dropL (m := 1) (by omega))
    have hc1 : ¬ (cc = 1) := by omega
    have hc1' : (1 : Int) ≤ (cc : Int) := by omega
    have hccn : 1 ≤ cc - 1 := by omega
    have hm1 : ∀ w9, (method 248 99 (.int .i64 x0) "loop.example/g00851/impl.fits").run Try.prog w9 = .ok (125, .int .i64 x0) w9 := fun _ => by kernel_rfl
    have LL := Lib.hid L
    clear L hi hn1 hn48 hn hx0
    go_enter Try.func40, Try.ntmps40
    go_wp2_with fail
    refine KK.out.mono ?_
    rintro e w1 ⟨rfl, b⟩
    have c := b
    clear b
    go_wp2_with (first | (go_at_call 59; refine (LL.out _).mono ?_; rintro e w' ⟨rfl, rfl⟩) | fail)
    refine (iLetOf_trim b (off + 1) (cc - 1) B (d.drop 1) _ (HI.out.below (c.mono hB)) (Nat.le_trans hB c.size) hccn).mono ?_
    rintro e w2 ⟨rfl, b2⟩
    replace c := c.trans (b2.mono c.size)
    clear b2
    rw [HG0.out]
    go_wp2_with fail
    refine (iTrimFits_any x0 _).mono ?_
    rintro e w3 ⟨rfl, b3⟩
    have CC := Lib.hid (c.trans (b3.mono c.size))
    clear b3 c
    cases hok : inB x0 1 2000
    case false =>
      have HZ := Lib.hid (show letInM d = none by rw [HLM.out, if_neg (fun h9 => by have h8 := h9.2; rw [← HM.out, hok] at h8; cases h8)])
      clear hok
      go_wp2
      go_ret
      exact ⟨_, rfl, by rw [HZ.out]; rfl, CC.out⟩
    case true =>
      have HZ := Lib.hid (show letInM d = some (.trim x0) by rw [HLM.out, if_pos ⟨HL.out, by rw [← HM.out]; exact hok⟩, ← HM.out])
      clear hok
      go_wp2
      go_ret
      exact ⟨_, rfl, by rw [HZ.out]; rfl, CC.out⟩

set_option maxHeartbeats 12800000 in
theorem iLetIn_read (A : Option Addr) (n cc B : Nat) (d : List Int) (w : World) (hi : IRow w B A n d) (hB : B ≤ w.heap.size) (hn : n ≤ 1048577) (hnc : n ≤ cc) (hcm : cc ≤ maxLen) (hk : kindM d = 6) :
    Calls Try.prog 40 #[.slice A n cc] w fun e w' => ∃ v, e = .returned v ∧ letV w' w.heap.size (letInM d) v ∧ Below w.heap.size w w' := by
  have HCM := Lib.hid hcm
  unfold maxLen at hcm
  have K : Calls Try.prog 27 #[.slice A n cc] w (fun e w' => e = .returned (.int .i64 6) ∧ Below w.heap.size w w') := by
    have h9 := iKindOf_any A n cc B d w hi hn
    rw [hk] at h9
    exact h9
  have HLM := Lib.hid (show letInM d = if d.length = 5 ∧ readOkB (ofRead d) = true then some (.read (ofRead d)) else none by unfold letInM; rw [if_neg (by rw [hk]; decide), if_neg (by rw [hk]; decide), if_neg (by rw [hk]; decide), if_neg (by rw [hk]; decide), if_neg (by rw [hk]; decide), if_pos hk])
  have hd := kindM_head hk (by decide)
  have h48 : d.length ≤ 48 := by have h9 := hd.2.2; unfold rowOk at h9; simp only [Bool.and_eq_true, decide_eq_true_eq] at h9; exact h9.1
  have HL := Lib.hid hi.1
  have hn1 : 0 < n := by have := hi.1; omega
  have hn48 : n ≤ 48 := by have := hi.1; omega
  have KK := Lib.hid K
  clear K hk hd h48
  by_cases hC : n = 5
  case neg =>
    have L : ∀ w9, Calls Try.prog 59 #[.int .i64 6, .int .i64 ((n : Int) - 1)] w9 (fun e w' => e = .returned (.bool false) ∧ w9 = w') := fun w9 => by
      have h9 := iIsLen_read ((n : Int) - 1) w9
      rw [decide_eq_false (show ¬ ((n : Int) - 1 = 4) by omega)] at h9
      exact h9
    have HZ := Lib.hid (show letInM d = none by rw [HLM.out, if_neg (fun h9 => hC (by have := HL.out; omega))])
    have ew : IntKind.i64.wrap ((n : Int) - 1) = (n : Int) - 1 := by rw [IntKind.wrap_i64]; omega
    have LL := Lib.hid L
    clear L hC hi
    go_enter Try.func40, Try.ntmps40
    go_wp2_with fail
    refine KK.out.mono ?_
    rintro e w1 ⟨rfl, b⟩
    have CC := Lib.hid b
    clear b
    go_wp2_with (first | (go_at_call 59; refine (LL.out _).mono ?_; rintro e w' ⟨rfl, rfl⟩))
    go_ret
    exact ⟨_, rfl, by rw [HZ.out]; rfl, CC.out⟩
  case pos =>
    obtain ⟨b, off, rfl, hb, hc⟩ := hi.2 hn1
    clear hc
    subst hC
    obtain ⟨x0, hx0⟩ : ∃ x, x = d.getD 1 0 := ⟨_, rfl⟩
    have HG0 := Lib.hid (show (d.drop 1).getD 0 0 = x0 by rw [getD_drop, hx0])
    obtain ⟨x1, hx1⟩ : ∃ x, x = d.getD 2 0 := ⟨_, rfl⟩
    have HG1 := Lib.hid (show (d.drop 1).getD 1 0 = x1 by rw [getD_drop, hx1])
    obtain ⟨x2, hx2⟩ : ∃ x, x = d.getD 3 0 := ⟨_, rfl⟩
    have HG2 := Lib.hid (show (d.drop 1).getD 2 0 = x2 by rw [getD_drop, hx2])
    obtain ⟨x3, hx3⟩ : ∃ x, x = d.getD 4 0 := ⟨_, rfl⟩
    have HG3 := Lib.hid (show (d.drop 1).getD 3 0 = x3 by rw [getD_drop, hx3])
    have HM := Lib.hid (show ofRead d = ⟨x0, x1, x2, x3⟩ by unfold ofRead; rw [hx0, hx1, hx2, hx3])
    have L : ∀ w9, Calls Try.prog 59 #[.int .i64 6, .int .i64 4] w9 (fun e w' => e = .returned (.bool true) ∧ w9 = w') := fun w9 => by
      have h9 := iIsLen_read 4 w9
      rw [decide_eq_true rfl] at h9
      exact h9
    have HI := Lib.hid (hi.dropL (m := 1) (by omega))
    have hc1 : ¬ (cc = 1) := by omega
    have hc1' : (1 : Int) ≤ (cc : Int) := by omega
    have hccn : 4 ≤ cc - 1 := by omega
    have hm1 : ∀ w9, (method 248 60 (.agg #[.int .i64 x0, .int .i64 x1, .int .i64 x2, .int .i64 x3]) "loop.example/g00851/impl.fits").run Try.prog w9 = .ok (119, .agg #[.int .i64 x0, .int .i64 x1, .int .i64 x2, .int .i64 x3]) w9 := fun _ => by kernel_rfl
    have LL := Lib.hid L
    clear L hi hn1 hn48 hn hx0 hx1 hx2 hx3
    go_enter Try.func40, Try.ntmps40
    go_wp2_with fail
    refine KK.out.mono ?_
    rintro e w1 ⟨rfl, b⟩
    have c := b
    clear b
    go_wp2_with (first | (go_at_call 59; refine (LL.out _).mono ?_; rintro e w' ⟨rfl, rfl⟩) | fail)
    refine (iLetOf_read b (off + 1) (cc - 1) B (d.drop 1) _ (HI.out.below (c.mono hB)) (Nat.le_trans hB c.size) hccn).mono ?_
    rintro e w2 ⟨rfl, b2⟩
    replace c := c.trans (b2.mono c.size)
    clear b2
    rw [HG0.out, HG1.out, HG2.out, HG3.out]
    go_wp2_with fail
    refine (iReadFits_any x0 x1 x2 x3 _).mono ?_
    rintro e w3 ⟨rfl, b3⟩
    have CC := Lib.hid (c.trans (b3.mono c.size))
    clear b3 c
    cases hok : readOkB ⟨x0, x1, x2, x3⟩
    case false =>
      have HZ := Lib.hid (show letInM d = none by rw [HLM.out, if_neg (fun h9 => by have h8 := h9.2; rw [HM.out, hok] at h8; cases h8)])
      clear hok
      go_wp2
      go_ret
      exact ⟨_, rfl, by rw [HZ.out]; rfl, CC.out⟩
    case true =>
      have HZ := Lib.hid (show letInM d = some (.read ⟨x0, x1, x2, x3⟩) by rw [HLM.out, if_pos ⟨HL.out, by rw [HM.out]; exact hok⟩, HM.out])
      clear hok
      go_wp2
      go_ret
      exact ⟨_, rfl, by rw [HZ.out]; rfl, CC.out⟩

set_option maxHeartbeats 12800000 in
theorem iLetIn_value (A : Option Addr) (n cc B : Nat) (d : List Int) (w : World) (hi : IRow w B A n d) (hB : B ≤ w.heap.size) (hn : n ≤ 1048577) (hnc : n ≤ cc) (hcm : cc ≤ maxLen) (hk : kindM d = 7) :
    Calls Try.prog 40 #[.slice A n cc] w fun e w' => ∃ v, e = .returned v ∧ letV w' w.heap.size (letInM d) v ∧ Below w.heap.size w w' := by
  have HCM := Lib.hid hcm
  unfold maxLen at hcm
  have K : Calls Try.prog 27 #[.slice A n cc] w (fun e w' => e = .returned (.int .i64 7) ∧ Below w.heap.size w w') := by
    have h9 := iKindOf_any A n cc B d w hi hn
    rw [hk] at h9
    exact h9
  have HLM := Lib.hid (show letInM d = if d.length = 6 ∧ valueOkB (ofValue d) = true then some (.value (ofValue d)) else none by unfold letInM; rw [if_neg (by rw [hk]; decide), if_neg (by rw [hk]; decide), if_neg (by rw [hk]; decide), if_neg (by rw [hk]; decide), if_neg (by rw [hk]; decide), if_neg (by rw [hk]; decide), if_pos hk])
  have hd := kindM_head hk (by decide)
  have h48 : d.length ≤ 48 := by have h9 := hd.2.2; unfold rowOk at h9; simp only [Bool.and_eq_true, decide_eq_true_eq] at h9; exact h9.1
  have HL := Lib.hid hi.1
  have hn1 : 0 < n := by have := hi.1; omega
  have hn48 : n ≤ 48 := by have := hi.1; omega
  have KK := Lib.hid K
  clear K hk hd h48
  by_cases hC : n = 6
  case neg =>
    have L : ∀ w9, Calls Try.prog 59 #[.int .i64 7, .int .i64 ((n : Int) - 1)] w9 (fun e w' => e = .returned (.bool false) ∧ w9 = w') := fun w9 => by
      have h9 := iIsLen_value ((n : Int) - 1) w9
      rw [decide_eq_false (show ¬ ((n : Int) - 1 = 5) by omega)] at h9
      exact h9
    have HZ := Lib.hid (show letInM d = none by rw [HLM.out, if_neg (fun h9 => hC (by have := HL.out; omega))])
    have ew : IntKind.i64.wrap ((n : Int) - 1) = (n : Int) - 1 := by rw [IntKind.wrap_i64]; omega
    have LL := Lib.hid L
    clear L hC hi
    go_enter Try.func40, Try.ntmps40
    go_wp2_with fail
    refine KK.out.mono ?_
    rintro e w1 ⟨rfl, b⟩
    have CC := Lib.hid b
    clear b
    go_wp2_with (first | (go_at_call 59; refine (LL.out _).mono ?_; rintro e w' ⟨rfl, rfl⟩))
    go_ret
    exact ⟨_, rfl, by rw [HZ.out]; rfl, CC.out⟩
  case pos =>
    obtain ⟨b, off, rfl, hb, hc⟩ := hi.2 hn1
    clear hc
    subst hC
    obtain ⟨x0, hx0⟩ : ∃ x, x = d.getD 1 0 := ⟨_, rfl⟩
    have HG0 := Lib.hid (show (d.drop 1).getD 0 0 = x0 by rw [getD_drop, hx0])
    obtain ⟨x1, hx1⟩ : ∃ x, x = d.getD 2 0 := ⟨_, rfl⟩
    have HG1 := Lib.hid (show (d.drop 1).getD 1 0 = x1 by rw [getD_drop, hx1])
    obtain ⟨x2, hx2⟩ : ∃ x, x = d.getD 3 0 := ⟨_, rfl⟩
    have HG2 := Lib.hid (show (d.drop 1).getD 2 0 = x2 by rw [getD_drop, hx2])
    obtain ⟨x3, hx3⟩ : ∃ x, x = d.getD 4 0 := ⟨_, rfl⟩
    have HG3 := Lib.hid (show (d.drop 1).getD 3 0 = x3 by rw [getD_drop, hx3])
    obtain ⟨x4, hx4⟩ : ∃ x, x = d.getD 5 0 := ⟨_, rfl⟩
    have HG4 := Lib.hid (show (d.drop 1).getD 4 0 = x4 by rw [getD_drop, hx4])
    have HM := Lib.hid (show ofValue d = ⟨x0, x1, x2, x3, x4⟩ by unfold ofValue; rw [hx0, hx1, hx2, hx3, hx4])
    have L : ∀ w9, Calls Try.prog 59 #[.int .i64 7, .int .i64 5] w9 (fun e w' => e = .returned (.bool true) ∧ w9 = w') := fun w9 => by
      have h9 := iIsLen_value 5 w9
      rw [decide_eq_true rfl] at h9
      exact h9
    have HI := Lib.hid (hi.dropL (m := 1) (by omega))
    have hc1 : ¬ (cc = 1) := by omega
    have hc1' : (1 : Int) ≤ (cc : Int) := by omega
    have hccn : 5 ≤ cc - 1 := by omega
    have hm1 : ∀ w9, (method 248 64 (.agg #[.int .i64 x0, .int .i64 x1, .int .i64 x2, .int .i64 x3, .int .i64 x4]) "loop.example/g00851/impl.fits").run Try.prog w9 = .ok (121, .agg #[.int .i64 x0, .int .i64 x1, .int .i64 x2, .int .i64 x3, .int .i64 x4]) w9 := fun _ => by kernel_rfl
    have LL := Lib.hid L
    clear L hi hn1 hn48 hn hx0 hx1 hx2 hx3 hx4
    go_enter Try.func40, Try.ntmps40
    go_wp2_with fail
    refine KK.out.mono ?_
    rintro e w1 ⟨rfl, b⟩
    have c := b
    clear b
    go_wp2_with (first | (go_at_call 59; refine (LL.out _).mono ?_; rintro e w' ⟨rfl, rfl⟩) | fail)
    refine (iLetOf_value b (off + 1) (cc - 1) B (d.drop 1) _ (HI.out.below (c.mono hB)) (Nat.le_trans hB c.size) hccn).mono ?_
    rintro e w2 ⟨rfl, b2⟩
    replace c := c.trans (b2.mono c.size)
    clear b2
    rw [HG0.out, HG1.out, HG2.out, HG3.out, HG4.out]
    go_wp2_with fail
    refine (iValueFits_any x0 x1 x2 x3 x4 _).mono ?_
    rintro e w3 ⟨rfl, b3⟩
    have CC := Lib.hid (c.trans (b3.mono c.size))
    clear b3 c
    cases hok : valueOkB ⟨x0, x1, x2, x3, x4⟩
    case false =>
      have HZ := Lib.hid (show letInM d = none by rw [HLM.out, if_neg (fun h9 => by have h8 := h9.2; rw [HM.out, hok] at h8; cases h8)])
      clear hok
      go_wp2
      go_ret
      exact ⟨_, rfl, by rw [HZ.out]; rfl, CC.out⟩
    case true =>
      have HZ := Lib.hid (show letInM d = some (.value ⟨x0, x1, x2, x3, x4⟩) by rw [HLM.out, if_pos ⟨HL.out, by rw [HM.out]; exact hok⟩, HM.out])
      clear hok
      go_wp2
      go_ret
      exact ⟨_, rfl, by rw [HZ.out]; rfl, CC.out⟩

set_option maxHeartbeats 12800000 in
theorem iLetIn_poll (A : Option Addr) (n cc B : Nat) (d : List Int) (w : World) (hi : IRow w B A n d) (hB : B ≤ w.heap.size) (hn : n ≤ 1048577) (hnc : n ≤ cc) (hcm : cc ≤ maxLen) (hk : kindM d = 8) :
    Calls Try.prog 40 #[.slice A n cc] w fun e w' => ∃ v, e = .returned v ∧ letV w' w.heap.size (letInM d) v ∧ Below w.heap.size w w' := by
  have HCM := Lib.hid hcm
  unfold maxLen at hcm
  have K : Calls Try.prog 27 #[.slice A n cc] w (fun e w' => e = .returned (.int .i64 8) ∧ Below w.heap.size w w') := by
    have h9 := iKindOf_any A n cc B d w hi hn
    rw [hk] at h9
    exact h9
  have HLM := Lib.hid (show letInM d = if d.length = 2 ∧ schedB (d.getD 1 0) = true then some (.poll (d.getD 1 0)) else none by unfold letInM; rw [if_neg (by rw [hk]; decide), if_neg (by rw [hk]; decide), if_neg (by rw [hk]; decide), if_neg (by rw [hk]; decide), if_neg (by rw [hk]; decide), if_neg (by rw [hk]; decide), if_neg (by rw [hk]; decide), if_pos hk])
  have hd := kindM_head hk (by decide)
  have h48 : d.length ≤ 48 := by have h9 := hd.2.2; unfold rowOk at h9; simp only [Bool.and_eq_true, decide_eq_true_eq] at h9; exact h9.1
  have HL := Lib.hid hi.1
  have hn1 : 0 < n := by have := hi.1; omega
  have hn48 : n ≤ 48 := by have := hi.1; omega
  have KK := Lib.hid K
  clear K hk hd h48
  by_cases hC : n = 2
  case neg =>
    have L : ∀ w9, Calls Try.prog 59 #[.int .i64 8, .int .i64 ((n : Int) - 1)] w9 (fun e w' => e = .returned (.bool false) ∧ w9 = w') := fun w9 => by
      have h9 := iIsLen_poll ((n : Int) - 1) w9
      rw [decide_eq_false (show ¬ ((n : Int) - 1 = 1) by omega)] at h9
      exact h9
    have HZ := Lib.hid (show letInM d = none by rw [HLM.out, if_neg (fun h9 => hC (by have := HL.out; omega))])
    have ew : IntKind.i64.wrap ((n : Int) - 1) = (n : Int) - 1 := by rw [IntKind.wrap_i64]; omega
    have LL := Lib.hid L
    clear L hC hi
    go_enter Try.func40, Try.ntmps40
    go_wp2_with fail
    refine KK.out.mono ?_
    rintro e w1 ⟨rfl, b⟩
    have CC := Lib.hid b
    clear b
    go_wp2_with (first | (go_at_call 59; refine (LL.out _).mono ?_; rintro e w' ⟨rfl, rfl⟩))
    go_ret
    exact ⟨_, rfl, by rw [HZ.out]; rfl, CC.out⟩
  case pos =>
    obtain ⟨b, off, rfl, hb, hc⟩ := hi.2 hn1
    clear hc
    subst hC
    obtain ⟨x0, hx0⟩ : ∃ x, x = d.getD 1 0 := ⟨_, rfl⟩
    have HG0 := Lib.hid (show (d.drop 1).getD 0 0 = x0 by rw [getD_drop, hx0])
    have HM := Lib.hid hx0
    have L : ∀ w9, Calls Try.prog 59 #[.int .i64 8, .int .i64 1] w9 (fun e w' => e = .returned (.bool true) ∧ w9 = w') := fun w9 => by
      have h9 := iIsLen_poll 1 w9
      rw [decide_eq_true rfl] at h9
      exact h9
    have HI := Lib.hid (hi.dropL (m := 1) (by omega))
    have hc1 : ¬ (cc = 1) := by omega
    have hc1' : (1 : Int) ≤ (cc : Int) := by omega
    have hccn : 1 ≤ cc - 1 := by omega
    have hm1 : ∀ w9, (method 248 101 (.int .i64 x0) "loop.example/g00851/impl.fits").run Try.prog w9 = .ok (127, .int .i64 x0) w9 := fun _ => by kernel_rfl
    have LL := Lib.hid L
    clear L hi hn1 hn48 hn hx0
    go_enter Try.func40, Try.ntmps40
    go_wp2_with fail
    refine KK.out.mono ?_
    rintro e w1 ⟨rfl, b⟩
    have c := b
    clear b
    go_wp2_with (first | (go_at_call 59; refine (LL.out _).mono ?_; rintro e w' ⟨rfl, rfl⟩) | fail)
    refine (iLetOf_poll b (off + 1) (cc - 1) B (d.drop 1) _ (HI.out.below (c.mono hB)) (Nat.le_trans hB c.size) hccn).mono ?_
    rintro e w2 ⟨rfl, b2⟩
    replace c := c.trans (b2.mono c.size)
    clear b2
    rw [HG0.out]
    go_wp2_with fail
    refine (iPollFits_any x0 _).mono ?_
    rintro e w3 ⟨rfl, b3⟩
    have CC := Lib.hid (c.trans (b3.mono c.size))
    clear b3 c
    cases hok : schedB x0
    case false =>
      have HZ := Lib.hid (show letInM d = none by rw [HLM.out, if_neg (fun h9 => by have h8 := h9.2; rw [← HM.out, hok] at h8; cases h8)])
      clear hok
      go_wp2
      go_ret
      exact ⟨_, rfl, by rw [HZ.out]; rfl, CC.out⟩
    case true =>
      have HZ := Lib.hid (show letInM d = some (.poll x0) by rw [HLM.out, if_pos ⟨HL.out, by rw [← HM.out]; exact hok⟩, ← HM.out])
      clear hok
      go_wp2
      go_ret
      exact ⟨_, rfl, by rw [HZ.out]; rfl, CC.out⟩

set_option maxHeartbeats 12800000 in
theorem iLetIn_jobs (A : Option Addr) (n cc B : Nat) (d : List Int) (w : World) (hi : IRow w B A n d) (hB : B ≤ w.heap.size) (hn : n ≤ 1048577) (hnc : n ≤ cc) (hcm : cc ≤ maxLen) (hk : kindM d = 9) :
    Calls Try.prog 40 #[.slice A n cc] w fun e w' => ∃ v, e = .returned v ∧ letV w' w.heap.size (letInM d) v ∧ Below w.heap.size w w' := by
  have HCM := Lib.hid hcm
  unfold maxLen at hcm
  have K : Calls Try.prog 27 #[.slice A n cc] w (fun e w' => e = .returned (.int .i64 9) ∧ Below w.heap.size w w') := by
    have h9 := iKindOf_any A n cc B d w hi hn
    rw [hk] at h9
    exact h9
  have HLM := Lib.hid (show letInM d = if (6 ≤ d.length ∧ d.length % 2 = 0) ∧ jobsOkB (ofJobs d) = true then some (.jobs (ofJobs d)) else none by unfold letInM; rw [if_neg (by rw [hk]; decide), if_neg (by rw [hk]; decide), if_neg (by rw [hk]; decide), if_neg (by rw [hk]; decide), if_neg (by rw [hk]; decide), if_neg (by rw [hk]; decide), if_neg (by rw [hk]; decide), if_neg (by rw [hk]; decide), if_pos hk])
  have hd := kindM_head hk (by decide)
  have h48 : d.length ≤ 48 := by have h9 := hd.2.2; unfold rowOk at h9; simp only [Bool.and_eq_true, decide_eq_true_eq] at h9; exact h9.1
  have HL := Lib.hid hi.1
  have hn1 : 0 < n := by have := hi.1; omega
  have hn48 : n ≤ 48 := by have := hi.1; omega
  have KK := Lib.hid K
  clear K hk hd h48
  by_cases hC : 6 ≤ n ∧ n % 2 = 0
  case neg =>
    have L : ∀ w9, Calls Try.prog 59 #[.int .i64 9, .int .i64 ((n : Int) - 1)] w9 (fun e w' => e = .returned (.bool false) ∧ w9 = w') := fun w9 => by
      have h9 := iIsLen_jobs ((n : Int) - 1) (by omega) w9
      rw [show (decide (5 ≤ (n : Int) - 1) && decide (((n : Int) - 1 - 5) % 2 = 0)) = false by rw [Bool.and_eq_false_iff, decide_eq_false_iff_not, decide_eq_false_iff_not]; omega] at h9
      exact h9
    have HZ := Lib.hid (show letInM d = none by rw [HLM.out, if_neg (fun h9 => hC (by have := HL.out; omega))])
    have ew : IntKind.i64.wrap ((n : Int) - 1) = (n : Int) - 1 := by rw [IntKind.wrap_i64]; omega
    have LL := Lib.hid L
    clear L hC hi
    go_enter Try.func40, Try.ntmps40
    go_wp2_with fail
    refine KK.out.mono ?_
    rintro e w1 ⟨rfl, b⟩
    have CC := Lib.hid b
    clear b
    go_wp2_with (first | (go_at_call 59; refine (LL.out _).mono ?_; rintro e w' ⟨rfl, rfl⟩))
    go_ret
    exact ⟨_, rfl, by rw [HZ.out]; rfl, CC.out⟩
  case pos =>
    obtain ⟨b, off, rfl, hb, hc⟩ := hi.2 hn1
    clear hc
    obtain ⟨x0, hx0⟩ : ∃ x, x = d.getD 1 0 := ⟨_, rfl⟩
    have HG0 := Lib.hid (show (d.drop 1).getD 0 0 = x0 by rw [getD_drop, hx0])
    obtain ⟨x1, hx1⟩ : ∃ x, x = d.getD 2 0 := ⟨_, rfl⟩
    have HG1 := Lib.hid (show (d.drop 1).getD 1 0 = x1 by rw [getD_drop, hx1])
    obtain ⟨x2, hx2⟩ : ∃ x, x = d.getD 3 0 := ⟨_, rfl⟩
    have HG2 := Lib.hid (show (d.drop 1).getD 2 0 = x2 by rw [getD_drop, hx2])
    obtain ⟨x3, hx3⟩ : ∃ x, x = d.getD 4 0 := ⟨_, rfl⟩
    have HG3 := Lib.hid (show (d.drop 1).getD 3 0 = x3 by rw [getD_drop, hx3])
    obtain ⟨x4, hx4⟩ : ∃ x, x = d.getD 5 0 := ⟨_, rfl⟩
    have HG4 := Lib.hid (show (d.drop 1).getD 4 0 = x4 by rw [getD_drop, hx4])
    obtain ⟨r, hr⟩ : ∃ r, n = 6 + 2 * r := ⟨(n - 6) / 2, by omega⟩
    obtain ⟨lst9, hl9⟩ : ∃ l, l = duesFrom (d.drop 6) r := ⟨_, rfl⟩
    have hr24 : r ≤ 24 := by omega
    have HM := Lib.hid (show ofJobs d = ⟨x0, x1, x2, x3, x4, lst9⟩ by
      unfold ofJobs
      rw [hx0, hx1, hx2, hx3, hx4, hl9]
      have e9 : (d.length - 6) / 2 = r := by have := HL.out; omega
      rw [e9])
    have HF9 := Lib.hid (show duesFrom ((d.drop 1).drop 5) r = lst9 by rw [List.drop_drop, hl9])
    have hsz : djSz lst9 ≤ 1048577 := by rw [hl9]; unfold djSz; rw [duesFrom_len]; omega
    have L : ∀ w9, Calls Try.prog 59 #[.int .i64 9, .int .i64 ((n : Int) - 1)] w9 (fun e w' => e = .returned (.bool true) ∧ w9 = w') := fun w9 => by
      have h9 := iIsLen_jobs ((n : Int) - 1) (by omega) w9
      rw [show (decide (5 ≤ (n : Int) - 1) && decide (((n : Int) - 1 - 5) % 2 = 0)) = true by rw [Bool.and_eq_true, decide_eq_true_eq, decide_eq_true_eq]; omega] at h9
      exact h9
    have ew : IntKind.i64.wrap ((n : Int) - 1) = (n : Int) - 1 := by rw [IntKind.wrap_i64]; omega
    have HI := Lib.hid (hi.dropL (m := 1) (by omega))
    have hc1 : ¬ (cc = 1) := by omega
    have hc1' : (1 : Int) ≤ (cc : Int) := by omega
    have hn1' : (1 : Int) ≤ (n : Int) := by omega
    have hn1'' : 1 ≤ n := by omega
    have HR := Lib.hid hr
    have HC9 := Lib.hid hC
    have LL := Lib.hid L
    clear L hi hn48 hn hr hl9 hC hx0 hx1 hx2 hx3 hx4
    go_enter Try.func40, Try.ntmps40
    go_wp2_with fail
    refine KK.out.mono ?_
    rintro e w1 ⟨rfl, b⟩
    have c := b
    clear b
    go_wp2_with (first | (go_at_call 59; refine (LL.out _).mono ?_; rintro e w' ⟨rfl, rfl⟩) | fail)
    refine (iLetOf_jobs b (off + 1) (n - 1) (cc - 1) B r (d.drop 1) _ (HI.out.below (c.mono hB)) (Nat.le_trans hB c.size) (by have := HR.out; omega) hr24 (by omega) (by have := HCM.out; omega)).mono ?_
    rintro e w2 ⟨G, m9, gc, rfl, o, b2⟩
    rw [HF9.out] at o
    obtain ⟨fp_u, S⟩ := (Sep.nil w1 w.heap.size).has b2 o c.size
    replace c := c.trans (b2.mono c.size)
    clear b2 o
    rw [HG0.out, HG1.out, HG2.out, HG3.out, HG4.out]
    have hm1 : ∀ w9, (method 248 25 (.agg #[.int .i64 x0, .int .i64 x1, .int .i64 x2, .int .i64 x3, .int .i64 x4, .slice G m9 gc]) "loop.example/g00851/impl.fits").run Try.prog w9 = .ok (99, .agg #[.int .i64 x0, .int .i64 x1, .int .i64 x2, .int .i64 x3, .int .i64 x4, .slice G m9 gc]) w9 := fun _ => by kernel_rfl
    go_wp2_with fail
    refine (iJobsFits_any x0 x1 x2 x3 x4 G m9 gc _ lst9 _ ((S.own_ 0 rfl).rd) (Nat.le_refl _) hsz).mono ?_
    rintro e w3 ⟨rfl, b3⟩
    replace c := c.trans (b3.mono c.size)
    replace S := S.keep b3
    have H := Lib.hid S.first
    have CC := Lib.hid c
    clear b3 c S
    cases hok : jobsOkB ⟨x0, x1, x2, x3, x4, lst9⟩
    case false =>
      have HZ := Lib.hid (show letInM d = none by rw [HLM.out, if_neg (fun h9 => by have h8 := h9.2; rw [HM.out, hok] at h8; cases h8)])
      clear hok
      go_wp2
      go_ret
      exact ⟨_, rfl, by rw [HZ.out]; rfl, CC.out⟩
    case true =>
      have HZ := Lib.hid (show letInM d = some (.jobs ⟨x0, x1, x2, x3, x4, lst9⟩) by rw [HLM.out, if_pos ⟨by have := HC9.out; have := HL.out; omega, by rw [HM.out]; exact hok⟩, HM.out])
      clear hok
      go_wp2
      go_ret
      exact ⟨_, rfl, by rw [HZ.out]; exact ⟨_, _, _, rfl, H.out⟩, CC.out⟩

theorem iLetIn_any (A : Option Addr) (n cc B : Nat) (d : List Int) (w : World) (hi : IRow w B A n d) (hB : B ≤ w.heap.size) (hn : n ≤ 1048577) (hnc : n ≤ cc) (hcm : cc ≤ maxLen) :
    Calls Try.prog 40 #[.slice A n cc] w fun e w' => ∃ v, e = .returned v ∧ letV w' w.heap.size (letInM d) v ∧ Below w.heap.size w w' := by
  rcases kindM_range d with h | h | h | h | h | h | h | h | h | h
  · exact iLetIn_none A n cc B d w hi hB hn hnc hcm h
  · exact iLetIn_ask A n cc B d w hi hB hn hnc hcm h
  · exact iLetIn_ack A n cc B d w hi hB hn hnc hcm h
  · exact iLetIn_fetch A n cc B d w hi hB hn hnc hcm h
  · exact iLetIn_feed A n cc B d w hi hB hn hnc hcm h
  · exact iLetIn_trim A n cc B d w hi hB hn hnc hcm h
  · exact iLetIn_read A n cc B d w hi hB hn hnc hcm h
  · exact iLetIn_value A n cc B d w hi hB hn hnc hcm h
  · exact iLetIn_poll A n cc B d w hi hB hn hnc hcm h
  · exact iLetIn_jobs A n cc B d w hi hB hn hnc hcm h

end Go.Proofs.Ytepnghjmpbfmcaa
