/-
  Chapter 11: rows of lists of jobs, of the model (by program, wip/gen/genlettk.py).
-/
import Derived.Test.YtafbjmhjjbfaeaaLetKN
import Derived.Test.YtafbjmhjjbfaeaaLetSJ
import Derived.Test.YtafbjmhjjbfaeaaEntL
import Derived.Test.YtafbjmhjjbfaeaaMove
import Derived.Test.YtafbjmhjjbfaeaaKA
import Derived.RegionTactic
import Derived.BigQuiet
import Derived.Laws.EntriesVeiled
namespace Go.Proofs.Ytafbjmhjjbfaeaa
set_option maxRecDepth 100000
open Go.RowKit

set_option linter.unusedVariables false
set_option linter.unusedSimpArgs false
set_option maxHeartbeats 12800000 in
theorem sJobsRow_any (y0 y1 y2 y3 y4 : Int) (A : Option Addr) (n cc B : Nat) (l : List TimerM) (w : World) (h : Rd w B [djD l] [.slice A n cc]) (hB : B ≤ w.heap.size) (hs : djSz l ≤ 1048577) :
    Calls Try.prog 26 #[.agg #[.int .i64 y0, .int .i64 y1, .int .i64 y2, .int .i64 y3, .int .i64 y4, .slice A n cc]] w fun e w' => ∃ (A : Option Addr) (n c : Nat), e = .returned (.slice A n c) ∧ Has w' w.heap.size (rowCells (jobsRowM ⟨y0, y1, y2, y3, y4, l⟩)) [.slice A n c] ∧ Below w.heap.size w w' := by
  have HH := Lib.hid h
  obtain ⟨_, _, _, e, hl, _, _, hel⟩ := h.djs
  injection e with e1 e2 e3
  subst e1 e2 e3
  have HL := Lib.hid hl
  have hnB : n ≤ 1048577 := by unfold djSz at hs; omega
  have HEL := Lib.hid hel
  clear h hl hel
  have S := Sep.nil w w.heap.size
  have c := Below.refl w.heap.size w
  replace S := S.boxAt c.size (w.heap.size) rfl #[.int .i64 y0, .int .i64 y1, .int .i64 y2, .int .i64 y3, .int .i64 y4, .slice A n cc] 51
  replace c := c.alloc c.size (.cells #[.int .i64 y0, .int .i64 y1, .int .i64 y2, .int .i64 y3, .int .i64 y4, .slice A n cc] 51)
  go_enter Try.func26, Try.ntmps26
  have f0 : (w.alloc (.cells #[.int .i64 y0, .int .i64 y1, .int .i64 y2, .int .i64 y3, .int .i64 y4, .slice A n cc] 51)).cell? ⟨w.heap.size, 0, none⟩ = some (.int .i64 y0) := (S.at_ 0 rfl).cell 0
  have f1 : (w.alloc (.cells #[.int .i64 y0, .int .i64 y1, .int .i64 y2, .int .i64 y3, .int .i64 y4, .slice A n cc] 51)).cell? ⟨w.heap.size, 1, none⟩ = some (.int .i64 y1) := (S.at_ 0 rfl).cell 1
  have f2 : (w.alloc (.cells #[.int .i64 y0, .int .i64 y1, .int .i64 y2, .int .i64 y3, .int .i64 y4, .slice A n cc] 51)).cell? ⟨w.heap.size, 2, none⟩ = some (.int .i64 y2) := (S.at_ 0 rfl).cell 2
  have f3 : (w.alloc (.cells #[.int .i64 y0, .int .i64 y1, .int .i64 y2, .int .i64 y3, .int .i64 y4, .slice A n cc] 51)).cell? ⟨w.heap.size, 3, none⟩ = some (.int .i64 y3) := (S.at_ 0 rfl).cell 3
  have f4 : (w.alloc (.cells #[.int .i64 y0, .int .i64 y1, .int .i64 y2, .int .i64 y3, .int .i64 y4, .slice A n cc] 51)).cell? ⟨w.heap.size, 4, none⟩ = some (.int .i64 y4) := (S.at_ 0 rfl).cell 4
  have f5 : (w.alloc (.cells #[.int .i64 y0, .int .i64 y1, .int .i64 y2, .int .i64 y3, .int .i64 y4, .slice A n cc] 51)).cell? ⟨w.heap.size, 5, none⟩ = some (.slice A n cc) := (S.at_ 0 rfl).cell 5
  go_wp2_with fail
  generalize w.alloc (.cells #[.int .i64 y0, .int .i64 y1, .int .i64 y2, .int .i64 y3, .int .i64 y4, .slice A n cc] 51) = w1 at *
  refine (sJobsOk_any y0 y1 y2 y3 y4 A n cc B l _ (HH.out.keep (c.mono hB)) (Nat.le_trans hB c.size) hs).mono ?_
  rintro e w2 ⟨rfl, b2⟩
  replace c := c.trans (b2.mono c.size)
  replace S := S.keep b2
  clear b2 f0 f1 f2 f3 f4 f5
  cases hok : jobsOkB ⟨y0, y1, y2, y3, y4, l⟩
  case false =>
    have HV := Lib.hid (show jobsRowM ⟨y0, y1, y2, y3, y4, l⟩ = [] by unfold jobsRowM; rw [hok]; rfl)
    have H := Lib.hid ((has_lit w2 [] (by decide)).up c.size)
    have C := Lib.hid (c.alloc c.size (.cells #[] 2))
    clear S c hok
    go_wp2
    go_ret
    exact ⟨_, _, _, rfl, by rw [HV.out]; exact H.out, C.out⟩
  case true =>
    have HV := Lib.hid (show jobsRowM ⟨y0, y1, y2, y3, y4, l⟩ = [9, y0, y1, y2, y3, y4] ++ duesNs l by unfold jobsRowM; rw [if_pos hok]; rfl)
    have H3 := Lib.hid (show l.length ≤ 8 from openB_len ((jobsOkB_iff _).1 hok).2.2.2.2.2)
    clear hok hs
    have f6 : w2.cell? ⟨w.heap.size, 0, none⟩ = some (.int .i64 y0) := (S.at_ 0 rfl).cell 0
    have f7 : w2.cell? ⟨w.heap.size, 1, none⟩ = some (.int .i64 y1) := (S.at_ 0 rfl).cell 1
    have f8 : w2.cell? ⟨w.heap.size, 2, none⟩ = some (.int .i64 y2) := (S.at_ 0 rfl).cell 2
    have f9 : w2.cell? ⟨w.heap.size, 3, none⟩ = some (.int .i64 y3) := (S.at_ 0 rfl).cell 3
    have f10 : w2.cell? ⟨w.heap.size, 4, none⟩ = some (.int .i64 y4) := (S.at_ 0 rfl).cell 4
    have f11 : w2.cell? ⟨w.heap.size, 5, none⟩ = some (.slice A n cc) := (S.at_ 0 rfl).cell 5
    obtain ⟨fp_out, S'⟩ := S.has ((Below.refl _ _).alloc (Nat.le_refl _) _) (show Has (w2.alloc (.cells #[.int .i64 9, .int .i64 y0, .int .i64 y1, .int .i64 y2, .int .i64 y3, .int .i64 y4] 2)) w2.heap.size (rowCells ([9, y0, y1, y2, y3, y4] ++ duesNs (l.take 0))) [.slice (some ⟨w2.heap.size, 0, none⟩) 6 6] from has_lit w2 [9, y0, y1, y2, y3, y4] (by simp)) c.size
    replace c := c.alloc c.size (.cells #[.int .i64 9, .int .i64 y0, .int .i64 y1, .int .i64 y2, .int .i64 y3, .int .i64 y4] 2)
    clear S; have S := S'; clear S'
    have S0 := Lib.hid S
    have B0 := Lib.hid c
    clear S c
    go_wp2
    clear f6 f7 f8 f9 f10 f11
    go_loopw [3, 4] (fun u k wr => ∃ (j : Nat) (G : Option Addr) (m gc : Nat) (fp : List Nat), j ≤ n ∧ k = .int .i64 (j : Int) ∧ u = .slice G m gc ∧ m = 6 + 2 * j ∧ Sep wr w.heap.size [.own (rowCells ([9, y0, y1, y2, y3, y4] ++ duesNs (l.take j))) [.slice G m gc] fp, .blk w.heap.size #[.int .i64 y0, .int .i64 y1, .int .i64 y2, .int .i64 y3, .int .i64 y4, .slice A n cc] 51] ∧ Below w.heap.size w wr) (fun _ k _ => n - (intOf k).toNat)
    case atStart => exact ⟨0, _, _, _, _, Nat.zero_le _, rfl, rfl, rfl, S0.out, B0.out⟩
    case round =>
      obtain ⟨j, G, m, gc, fp, hj, rfl, rfl, hm, S, c⟩ := hrel
      clear S0 B0
      have hm40 : m ≤ 40 := by have := H3.out; have := HL.out; omega
      have HM := Lib.hid hm
      clear hm
      by_cases hlt : j < n
      case neg =>
        have e9 : j = n := by omega
        have HTA := Lib.hid (show l.take j = l by rw [List.take_of_length_le (by have := HL.out; omega)])
        rw [HTA.out] at S
        have H := Lib.hid S.first
        have f0 : wr.cell? ⟨w.heap.size, 0, none⟩ = some (.int .i64 y0) := (S.at_ 1 rfl).cell 0
        have f1 : wr.cell? ⟨w.heap.size, 1, none⟩ = some (.int .i64 y1) := (S.at_ 1 rfl).cell 1
        have f2 : wr.cell? ⟨w.heap.size, 2, none⟩ = some (.int .i64 y2) := (S.at_ 1 rfl).cell 2
        have f3 : wr.cell? ⟨w.heap.size, 3, none⟩ = some (.int .i64 y3) := (S.at_ 1 rfl).cell 3
        have f4 : wr.cell? ⟨w.heap.size, 4, none⟩ = some (.int .i64 y4) := (S.at_ 1 rfl).cell 4
        have f5 : wr.cell? ⟨w.heap.size, 5, none⟩ = some (.slice A n cc) := (S.at_ 1 rfl).cell 5
        have CC := Lib.hid c
        clear S c e9
        have g1 : decide ((j : Int) < (n : Int)) = false := decide_eq_false (by omega)
        have g2 : decide (j < n) = false := decide_eq_false hlt
        go_wp2
        go_ret
        exact ⟨_, _, _, rfl, by rw [HV.out]; exact H.out, CC.out⟩
      case pos =>
        obtain ⟨b, off, rfl, hb, hc⟩ := HEL.out (by omega)
        have hjl : j < l.length := by have := HL.out; omega
        obtain ⟨hc0, hc1⟩ := hc j hjl
        have ct0 := hc0
        have cs0 := (c.cell (p := ⟨b, off + j * 2, none⟩) (show b < _ by omega)).trans hc0
        have ct1 := hc1
        have cs1 := (c.cell (p := ⟨b, off + j * 2 + 1, none⟩) (show b < _ by omega)).trans hc1
        obtain ⟨x0, hx0⟩ : ∃ q, q = l[j].tid := ⟨_, rfl⟩
        rw [← hx0] at cs0 ct0
        obtain ⟨x1, hx1⟩ : ∃ q, q = l[j].due := ⟨_, rfl⟩
        rw [← hx1] at cs1 ct1
        have HTK := Lib.hid (show l.take (j + 1) = l.take j ++ [⟨x0, x1⟩] by rw [List.take_succ_eq_append_getElem hjl, hx0, hx1])
        clear hc hc0 hc1 hx0 hx1
        have g1 : decide ((j : Int) < (n : Int)) = true := decide_eq_true (by omega)
        have g2 : decide (j < n) = true := decide_eq_true hlt
        have HLT := Lib.hid hlt
        have hj1 : (j : Int) < (n : Int) := by omega
        have hj0 : (0 : Int) ≤ (j : Int) := by omega
        have HN := Lib.hid (show ([9, y0, y1, y2, y3, y4] ++ duesNs (l.take j)) ++ [x0, x1] = [9, y0, y1, y2, y3, y4] ++ duesNs (l.take (j + 1)) by rw [HTK.out, duesNs_snoc, List.append_assoc]; rfl)
        have f0 : wr.cell? ⟨w.heap.size, 0, none⟩ = some (.int .i64 y0) := (S.at_ 1 rfl).cell 0
        have f1 : wr.cell? ⟨w.heap.size, 1, none⟩ = some (.int .i64 y1) := (S.at_ 1 rfl).cell 1
        have f2 : wr.cell? ⟨w.heap.size, 2, none⟩ = some (.int .i64 y2) := (S.at_ 1 rfl).cell 2
        have f3 : wr.cell? ⟨w.heap.size, 3, none⟩ = some (.int .i64 y3) := (S.at_ 1 rfl).cell 3
        have f4 : wr.cell? ⟨w.heap.size, 4, none⟩ = some (.int .i64 y4) := (S.at_ 1 rfl).cell 4
        have f5 : wr.cell? ⟨w.heap.size, 5, none⟩ = some (.slice (some ⟨b, off, none⟩) n cc) := (S.at_ 1 rfl).cell 5
        go_wp2_with fail
        refine wp_region_L (fun v => v.cell? ⟨w.heap.size, 5, none⟩ = some (.slice (some ⟨b, off, none⟩) n cc) ∧ v.cell? ⟨b, off + j * 2, none⟩ = some (.int .i64 x0) ∧ v.cell? ⟨b, off + j * 2 + 1, none⟩ = some (.int .i64 x1)) 15 (by kernel_rfl) ?_
        clear f0 f1 f2 f3 f4 f5
        replace S := S.keep ((Below.refl _ _).drew)
        replace c := c.drew
        generalize wr.drew = w1 at *
        have HF : w1.cell? ⟨w.heap.size, 5, none⟩ = some (.slice (some ⟨b, off, none⟩) n cc) ∧ w1.cell? ⟨b, off + j * 2, none⟩ = some (.int .i64 x0) ∧ w1.cell? ⟨b, off + j * 2 + 1, none⟩ = some (.int .i64 x1) := ⟨(S.at_ 1 rfl).cell 5, (c.cell (p := ⟨b, off + j * 2, none⟩) (show b < _ by omega)).trans ct0, (c.cell (p := ⟨b, off + j * 2 + 1, none⟩) (show b < _ by omega)).trans ct1⟩
        refine wpAnyL_take (i := 0) (v := ?_) rfl rfl (by kernel_rfl) (by kernel_rfl) (by kernel_rfl) (by kernel_rfl) (by kernel_rfl) (fun _ _ _ h => h) HF (Or.inl ⟨by rfl, ?_⟩) ?_
        rotate_left 1
        · (rintro v ⟨a0, a1, a2⟩; go_simp; try with_reducible rfl)
        try simp only [Act.put]
        refine wpAnyL_take (i := 1) (v := ?_) rfl rfl (by kernel_rfl) (by kernel_rfl) (by kernel_rfl) (by kernel_rfl) (by kernel_rfl) (fun _ _ _ h => h) HF (Or.inl ⟨by rfl, ?_⟩) ?_
        rotate_left 1
        · (rintro v ⟨a0, a1, a2⟩; go_simp; try with_reducible rfl)
        try simp only [Act.put]
        refine wpAnyL_take (i := 2) (v := ?_) rfl rfl (by kernel_rfl) (by kernel_rfl) (by kernel_rfl) (by kernel_rfl) (by kernel_rfl) (fun _ _ _ h => h) HF (Or.inl ⟨by rfl, ?_⟩) ?_
        rotate_left 1
        · (rintro v ⟨a0, a1, a2⟩; go_simp; try with_reducible rfl)
        try simp only [Act.put]
        refine wpAnyL_take (i := 3) (v := ?_) rfl rfl (by kernel_rfl) (by kernel_rfl) (by kernel_rfl) (by kernel_rfl) (by kernel_rfl) (fun _ _ _ h => h) HF (Or.inl ⟨by rfl, ?_⟩) ?_
        rotate_left 1
        · (rintro v ⟨a0, a1, a2⟩; go_simp; try with_reducible rfl)
        try simp only [Act.put]
        refine wpAnyL_take (i := 4) (v := ?_) rfl rfl (by kernel_rfl) (by kernel_rfl) (by kernel_rfl) (by kernel_rfl) (by kernel_rfl) (fun _ _ _ h => h) HF (Or.inl ⟨by rfl, ?_⟩) ?_
        rotate_left 1
        · (rintro v ⟨a0, a1, a2⟩; go_simp; try with_reducible rfl)
        try simp only [Act.put]
        refine wpAnyL_take (i := 5) (v := ?_) rfl rfl (by kernel_rfl) (by kernel_rfl) (by kernel_rfl) (by kernel_rfl) (by kernel_rfl) (fun _ _ _ h => h) HF (Or.inl ⟨by rfl, ?_⟩) ?_
        rotate_left 1
        · (rintro v ⟨a0, a1, a2⟩; go_simp; try with_reducible rfl)
        try simp only [Act.put]
        refine wpAnyL_take (i := 6) (v := ?_) rfl rfl (by kernel_rfl) (by kernel_rfl) (by kernel_rfl) (by kernel_rfl) (by kernel_rfl) (fun _ _ _ h => h) HF (Or.inl ⟨by rfl, ?_⟩) ?_
        rotate_left 1
        · (rintro v ⟨a0, a1, a2⟩; go_simp; try with_reducible rfl)
        try simp only [Act.put]
        refine wpAnyL_take (i := 7) (v := ?_) rfl rfl (by kernel_rfl) (by kernel_rfl) (by kernel_rfl) (by kernel_rfl) (by kernel_rfl) (fun _ _ _ h => h) HF (Or.inl ⟨by rfl, ?_⟩) ?_
        rotate_left 1
        · (rintro v ⟨a0, a1, a2⟩; go_simp; try with_reducible rfl)
        try simp only [Act.put]
        refine wpAnyL_take (i := 8) (v := ?_) rfl rfl (by kernel_rfl) (by kernel_rfl) (by kernel_rfl) (by kernel_rfl) (by kernel_rfl) (fun _ _ _ h => h) HF (Or.inl ⟨by rfl, ?_⟩) ?_
        rotate_left 1
        · (rintro v ⟨a0, a1, a2⟩; go_simp; try with_reducible rfl)
        try simp only [Act.put]
        refine wpAnyL_take (i := 9) (v := ?_) rfl rfl (by kernel_rfl) (by kernel_rfl) (by kernel_rfl) (by kernel_rfl) (by kernel_rfl) (fun _ _ _ h => h) HF (Or.inl ⟨by rfl, ?_⟩) ?_
        rotate_left 1
        · (rintro v ⟨a0, a1, a2⟩; go_simp; try with_reducible rfl)
        try simp only [Act.put]
        refine wpAnyL_take (i := 10) (v := ?_) rfl rfl (by kernel_rfl) (by kernel_rfl) (by kernel_rfl) (by kernel_rfl) (by kernel_rfl) (fun _ _ _ h => h) HF (Or.inl ⟨by rfl, ?_⟩) ?_
        rotate_left 1
        · (rintro v ⟨a0, a1, a2⟩; go_simp; try with_reducible rfl)
        try simp only [Act.put]
        refine wpAnyL_take (i := 11) (v := ?_) rfl rfl (by kernel_rfl) (by kernel_rfl) (by kernel_rfl) (by kernel_rfl) (by kernel_rfl) (fun _ _ _ h => h) HF (Or.inl ⟨by rfl, ?_⟩) ?_
        rotate_left 1
        · (rintro v ⟨a0, a1, a2⟩; go_simp; try with_reducible rfl)
        try simp only [Act.put]
        refine wpAnyL_take (i := 12) (v := ?_) rfl rfl (by kernel_rfl) (by kernel_rfl) (by kernel_rfl) (by kernel_rfl) (by kernel_rfl) (fun _ _ _ h => h) HF (Or.inl ⟨by rfl, ?_⟩) ?_
        rotate_left 1
        · (rintro v ⟨a0, a1, a2⟩; go_simp; try with_reducible rfl)
        try simp only [Act.put]
        refine wpAnyL_step (i := 13) (by kernel_rfl) rfl rfl ?_
        intro K hK
        go_simp
        replace S := S.boxAt c.size (w1.heap.size) rfl #[.int .i64 x0, .int .i64 x1] 2
        replace c := c.alloc c.size (.cells #[.int .i64 x0, .int .i64 x1] 2)
        clear HF
        have HF : (w1.alloc (.cells #[.int .i64 x0, .int .i64 x1] 2)).cell? ⟨w.heap.size, 5, none⟩ = some (.slice (some ⟨b, off, none⟩) n cc) ∧ (w1.alloc (.cells #[.int .i64 x0, .int .i64 x1] 2)).cell? ⟨b, off + j * 2, none⟩ = some (.int .i64 x0) ∧ (w1.alloc (.cells #[.int .i64 x0, .int .i64 x1] 2)).cell? ⟨b, off + j * 2 + 1, none⟩ = some (.int .i64 x1) := ⟨(S.at_ 2 rfl).cell 5, (c.cell (p := ⟨b, off + j * 2, none⟩) (show b < _ by omega)).trans ct0, (c.cell (p := ⟨b, off + j * 2 + 1, none⟩) (show b < _ by omega)).trans ct1⟩
        refine hK _ _ (fun _ => HF) ?_
        clear hK K
        try simp only [Act.put]
        generalize hw : w1.alloc (.cells #[.int .i64 x0, .int .i64 x1] 2) = w2 at *
        clear hw
        obtain ⟨qo, hqo⟩ : ∃ q, q = w1.heap.size := ⟨_, rfl⟩
        rw [← hqo] at S ⊢
        clear hqo
        have hsr := ints_srcL (S.at_ 0 rfl)
        replace S := S.tail
        replace S := S.pick 0 rfl
        replace S := (S.flat (f := fun y : Int => [Dat.int y]) (g := fun y : Int => [y]) int_flat [x0, x1]).swap
        refine wpAnyL_step (i := 14) (by kernel_rfl) rfl rfl ?_
        intro K hK
        refine wp_append_many (f := fun y : Int => [Dat.int y]) (k := 1) (l := [9, y0, y1, y2, y3, y4] ++ duesNs (l.take j)) (l2 := [x0, x1]) _ _ (by rfl) Try.underlying22 info64 (by rfl) (by decide) (fun _ => rfl) (by rfl) (S.own_ 0 rfl) (S.nodup_own 0 rfl) (by rfl) hsr (S.own_ 1 rfl) rfl (S.nodup_own 1 rfl) S.apart (by omega) (by omega) ?_
        intro A3 c3 w3 fp3 o3 n3 s3 t3
        have S' := S.merge t3 o3 n3 s3 c.size
        replace c := c.trans (S.below 0 rfl t3 c.size)
        clear S; have S := S'; clear S' o3 n3 s3 t3 hsr
        clear HF
        have HF : w3.cell? ⟨w.heap.size, 5, none⟩ = some (.slice (some ⟨b, off, none⟩) n cc) ∧ w3.cell? ⟨b, off + j * 2, none⟩ = some (.int .i64 x0) ∧ w3.cell? ⟨b, off + j * 2 + 1, none⟩ = some (.int .i64 x1) := ⟨(S.at_ 1 rfl).cell 5, (c.cell (p := ⟨b, off + j * 2, none⟩) (show b < _ by omega)).trans ct0, (c.cell (p := ⟨b, off + j * 2 + 1, none⟩) (show b < _ by omega)).trans ct1⟩
        refine hK _ _ (fun _ => HF) ?_
        clear hK K
        try simp only [Act.put]
        refine wpAnyL_step (i := 15) (by kernel_rfl) rfl rfl ?_
        intro K hK
        go_simp
        refine hK _ _ (fun h => nomatch (show true = false from h)) ?_
        clear hK K
        try simp only [Act.put]
        refine wpAnyL_done (by kernel_rfl) ?_ _
        rw [HN.out] at S
        have SS := Lib.hid S
        have CC := Lib.hid c
        clear S c HF cs0 cs1
        go_wp2
        go_roundw
        case rel => exact ⟨j + 1, A3, m + 2, c3, fp3, by have := HLT.out; omega, by go_num, rfl, by have := HM.out; omega, SS.out, CC.out⟩
        case measure => (have := HLT.out; simp [intOf] <;> omega)

theorem sJobsRow_at (x0 x1 x2 x3 x4 : Int) (A : Option Addr) (n c : Nat) (d0 : JobsM) (w : World) (h : Rd w w.heap.size d0.cells [.int .i64 x0, .int .i64 x1, .int .i64 x2, .int .i64 x3, .int .i64 x4, .slice A n c]) (hs : d0.sz ≤ 1048576) :
    Calls Try.prog 26 #[.agg #[.int .i64 x0, .int .i64 x1, .int .i64 x2, .int .i64 x3, .int .i64 x4, .slice A n c]] w fun e w' => ∃ (Ar0_0 : Option Addr) (nr0_0 cr0_0 : Nat), e = .returned (.slice Ar0_0 nr0_0 cr0_0) ∧ Has w' w.heap.size (rowCells (jobsRowM d0)) [.slice Ar0_0 nr0_0 cr0_0] ∧ Below w.heap.size w w' := by
  obtain ⟨l, rfl, h2⟩ := jobs_rd h
  exact sJobsRow_any x0 x1 x2 x3 x4 A n c w.heap.size l w h2 (Nat.le_refl _) (by have : djSz l ≤ 1048576 := hs; omega)

end Go.Proofs.Ytafbjmhjjbfaeaa
