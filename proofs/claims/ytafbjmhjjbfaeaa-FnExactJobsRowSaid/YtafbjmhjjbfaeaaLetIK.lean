/-
  Chapter 11: rows of lists of jobs, of the program (by program, wip/gen/genlettk.py).
-/
import Derived.Test.YtafbjmhjjbfaeaaLetKN
import Derived.Test.YtafbjmhjjbfaeaaLetI2
import Derived.Test.YtafbjmhjjbfaeaaLetIJ
import Derived.Test.YtafbjmhjjbfaeaaMove
import Derived.RegionTactic
import Derived.BigQuiet
import Derived.Laws.EntriesVeiled
namespace Go.Proofs.Ytafbjmhjjbfaeaa
set_option maxRecDepth 100000
open Go.RowKit

set_option linter.unusedVariables false
set_option linter.unusedSimpArgs false
set_option maxHeartbeats 12800000 in
theorem iJobsFields_any (y0 y1 y2 y3 y4 : Int) (A : Option Addr) (n cc B : Nat) (l : List TimerM) (w : World) (h : Rd w B [djD l] [.slice A n cc]) (hB : B ≤ w.heap.size) (hs : djSz l ≤ 1048577) (h3 : l.length ≤ 8) :
    Calls Try.prog 114 #[.agg #[.int .i64 y0, .int .i64 y1, .int .i64 y2, .int .i64 y3, .int .i64 y4, .slice A n cc]] w fun e w' => ∃ (A : Option Addr) (n c : Nat), e = .returned (.slice A n c) ∧ Has w' w.heap.size (rowCells (jobsNs ⟨y0, y1, y2, y3, y4, l⟩)) [.slice A n c] ∧ Below w.heap.size w w' := by
  obtain ⟨_, _, _, e, hl, _, _, hel⟩ := h.djs
  injection e with e1 e2 e3
  subst e1 e2 e3
  have HL := Lib.hid hl
  have hnB : n ≤ 1048577 := by unfold djSz at hs; omega
  have HEL := Lib.hid hel
  have H3 := Lib.hid h3
  have HV := Lib.hid (show jobsNs ⟨y0, y1, y2, y3, y4, l⟩ = [y0, y1, y2, y3, y4] ++ duesNs l from rfl)
  clear h hl hel h3 hs
  have S := Sep.nil w w.heap.size
  have c := Below.refl w.heap.size w
  replace S := S.boxAt c.size (w.heap.size) rfl #[.int .i64 y0, .int .i64 y1, .int .i64 y2, .int .i64 y3, .int .i64 y4, .slice A n cc] 51
  replace c := c.alloc c.size (.cells #[.int .i64 y0, .int .i64 y1, .int .i64 y2, .int .i64 y3, .int .i64 y4, .slice A n cc] 51)
  obtain ⟨fp_out, S'⟩ := S.has ((Below.refl _ _).alloc (Nat.le_refl _) _) (show Has ((w.alloc (.cells #[.int .i64 y0, .int .i64 y1, .int .i64 y2, .int .i64 y3, .int .i64 y4, .slice A n cc] 51)).alloc (.cells #[.int .i64 y0, .int .i64 y1, .int .i64 y2, .int .i64 y3, .int .i64 y4] 2)) (w.alloc (.cells #[.int .i64 y0, .int .i64 y1, .int .i64 y2, .int .i64 y3, .int .i64 y4, .slice A n cc] 51)).heap.size (rowCells ([y0, y1, y2, y3, y4] ++ duesNs (l.take 0))) [.slice (some ⟨(w.alloc (.cells #[.int .i64 y0, .int .i64 y1, .int .i64 y2, .int .i64 y3, .int .i64 y4, .slice A n cc] 51)).heap.size, 0, none⟩) 5 5] from has_lit (w.alloc (.cells #[.int .i64 y0, .int .i64 y1, .int .i64 y2, .int .i64 y3, .int .i64 y4, .slice A n cc] 51)) [y0, y1, y2, y3, y4] (by simp)) c.size
  replace c := c.alloc c.size (.cells #[.int .i64 y0, .int .i64 y1, .int .i64 y2, .int .i64 y3, .int .i64 y4] 2)
  clear S; have S := S'; clear S'
  rw [show (w.alloc (.cells #[.int .i64 y0, .int .i64 y1, .int .i64 y2, .int .i64 y3, .int .i64 y4, .slice A n cc] 51)).heap.size = w.heap.size + 1 by simp] at S
  have f0 : (w.alloc (.cells #[.int .i64 y0, .int .i64 y1, .int .i64 y2, .int .i64 y3, .int .i64 y4, .slice A n cc] 51)).cell? ⟨w.heap.size, 0, none⟩ = some (.int .i64 y0) := (Blk.new w #[.int .i64 y0, .int .i64 y1, .int .i64 y2, .int .i64 y3, .int .i64 y4, .slice A n cc] 51).cell 0
  have f1 : (w.alloc (.cells #[.int .i64 y0, .int .i64 y1, .int .i64 y2, .int .i64 y3, .int .i64 y4, .slice A n cc] 51)).cell? ⟨w.heap.size, 1, none⟩ = some (.int .i64 y1) := (Blk.new w #[.int .i64 y0, .int .i64 y1, .int .i64 y2, .int .i64 y3, .int .i64 y4, .slice A n cc] 51).cell 1
  have f2 : (w.alloc (.cells #[.int .i64 y0, .int .i64 y1, .int .i64 y2, .int .i64 y3, .int .i64 y4, .slice A n cc] 51)).cell? ⟨w.heap.size, 2, none⟩ = some (.int .i64 y2) := (Blk.new w #[.int .i64 y0, .int .i64 y1, .int .i64 y2, .int .i64 y3, .int .i64 y4, .slice A n cc] 51).cell 2
  have f3 : (w.alloc (.cells #[.int .i64 y0, .int .i64 y1, .int .i64 y2, .int .i64 y3, .int .i64 y4, .slice A n cc] 51)).cell? ⟨w.heap.size, 3, none⟩ = some (.int .i64 y3) := (Blk.new w #[.int .i64 y0, .int .i64 y1, .int .i64 y2, .int .i64 y3, .int .i64 y4, .slice A n cc] 51).cell 3
  have f4 : (w.alloc (.cells #[.int .i64 y0, .int .i64 y1, .int .i64 y2, .int .i64 y3, .int .i64 y4, .slice A n cc] 51)).cell? ⟨w.heap.size, 4, none⟩ = some (.int .i64 y4) := (Blk.new w #[.int .i64 y0, .int .i64 y1, .int .i64 y2, .int .i64 y3, .int .i64 y4, .slice A n cc] 51).cell 4
  have f5 : ((w.alloc (.cells #[.int .i64 y0, .int .i64 y1, .int .i64 y2, .int .i64 y3, .int .i64 y4, .slice A n cc] 51)).alloc (.cells #[.int .i64 y0, .int .i64 y1, .int .i64 y2, .int .i64 y3, .int .i64 y4] 2)).cell? ⟨w.heap.size, 5, none⟩ = some (.slice A n cc) := (S.at_ 1 rfl).cell 5
  have S0 := Lib.hid S
  have B0 := Lib.hid c
  clear S c
  go_enter Try.func114, Try.ntmps114
  go_wp2
  clear f0 f1 f2 f3 f4 f5
  go_loopw [3, 20] (fun u k wr => ∃ (j : Nat) (G : Option Addr) (m gc : Nat) (fp : List Nat), j ≤ n ∧ k = .int .i64 (j : Int) ∧ u = .slice G m gc ∧ m = 5 + 2 * j ∧ Sep wr w.heap.size [.own (rowCells ([y0, y1, y2, y3, y4] ++ duesNs (l.take j))) [.slice G m gc] fp, .blk w.heap.size #[.int .i64 y0, .int .i64 y1, .int .i64 y2, .int .i64 y3, .int .i64 y4, .slice A n cc] 51] ∧ Below w.heap.size w wr) (fun _ k _ => n - (intOf k).toNat)
  case atStart => exact ⟨0, _, _, _, _, Nat.zero_le _, rfl, rfl, rfl, S0.out, B0.out⟩
  case round =>
    obtain ⟨j, G, m, gc, fp, hj, rfl, rfl, hm, S, c⟩ := hrel
    clear S0 B0
    have hm40 : m ≤ 40 := by have := H3.out; have := HL.out; omega
    have HM := Lib.hid hm
    clear hm
    by_cases hlt : j < n
    case neg =>
      have e9 : j = n := by omega
      have HTA := Lib.hid (show l.take j = l by rw [List.take_of_length_le (by have := HL.out; omega)])
      rw [HTA.out] at S
      have H := Lib.hid S.first
      have f0 : wr.cell? ⟨w.heap.size, 0, none⟩ = some (.int .i64 y0) := (S.at_ 1 rfl).cell 0
      have f1 : wr.cell? ⟨w.heap.size, 1, none⟩ = some (.int .i64 y1) := (S.at_ 1 rfl).cell 1
      have f2 : wr.cell? ⟨w.heap.size, 2, none⟩ = some (.int .i64 y2) := (S.at_ 1 rfl).cell 2
      have f3 : wr.cell? ⟨w.heap.size, 3, none⟩ = some (.int .i64 y3) := (S.at_ 1 rfl).cell 3
      have f4 : wr.cell? ⟨w.heap.size, 4, none⟩ = some (.int .i64 y4) := (S.at_ 1 rfl).cell 4
      have f5 : wr.cell? ⟨w.heap.size, 5, none⟩ = some (.slice A n cc) := (S.at_ 1 rfl).cell 5
      have CC := Lib.hid c
      clear S c e9
      have g1 : decide ((j : Int) < (n : Int)) = false := decide_eq_false (by omega)
      have g2 : decide (j < n) = false := decide_eq_false hlt
      go_wp2
      go_ret
      exact ⟨_, _, _, rfl, by rw [HV.out]; exact H.out, CC.out⟩
    case pos =>
      obtain ⟨b, off, rfl, hb, hc⟩ := HEL.out (by omega)
      have hjl : j < l.length := by have := HL.out; omega
      obtain ⟨hc0, hc1⟩ := hc j hjl
      have cs0 := (c.cell (p := ⟨b, off + j * 2, none⟩) (show b < _ by omega)).trans hc0
      have cs1 := (c.cell (p := ⟨b, off + j * 2 + 1, none⟩) (show b < _ by omega)).trans hc1
      obtain ⟨x0, hx0⟩ : ∃ q, q = l[j].tid := ⟨_, rfl⟩
      rw [← hx0] at cs0
      obtain ⟨x1, hx1⟩ : ∃ q, q = l[j].due := ⟨_, rfl⟩
      rw [← hx1] at cs1
      have HTK := Lib.hid (show l.take (j + 1) = l.take j ++ [⟨x0, x1⟩] by rw [List.take_succ_eq_append_getElem hjl, hx0, hx1])
      clear hc hc0 hc1 hx0 hx1
      have g1 : decide ((j : Int) < (n : Int)) = true := decide_eq_true (by omega)
      have g2 : decide (j < n) = true := decide_eq_true hlt
      have HLT := Lib.hid hlt
      have hj1 : (j : Int) < (n : Int) := by omega
      have hj0 : (0 : Int) ≤ (j : Int) := by omega
      have HN := Lib.hid (show ([y0, y1, y2, y3, y4] ++ duesNs (l.take j)) ++ [x0, x1] = [y0, y1, y2, y3, y4] ++ duesNs (l.take (j + 1)) by rw [HTK.out, duesNs_snoc, List.append_assoc]; rfl)
      replace S := S.boxAt c.size (wr.heap.size) rfl #[.int .i64 x0, .int .i64 x1] 81
      replace c := c.alloc c.size (.cells #[.int .i64 x0, .int .i64 x1] 81)
      have f0 : (wr.alloc (.cells #[.int .i64 x0, .int .i64 x1] 81)).cell? ⟨wr.heap.size, 0, none⟩ = some (.int .i64 x0) := (S.at_ 0 rfl).cell 0
      have f1 : (wr.alloc (.cells #[.int .i64 x0, .int .i64 x1] 81)).cell? ⟨wr.heap.size, 1, none⟩ = some (.int .i64 x1) := (S.at_ 0 rfl).cell 1
      replace S := S.boxAt c.size (wr.heap.size + 1) (by simp) #[.int .i64 x0, .int .i64 x1] 2
      replace c := c.alloc c.size (.cells #[.int .i64 x0, .int .i64 x1] 2)
      have hsr := ints_srcL (S.at_ 0 rfl)
      replace S := S.tail
      replace S := S.pick 1 rfl
      replace S := (S.flat (f := fun y : Int => [Dat.int y]) (g := fun y : Int => [y]) int_flat [x0, x1]).swap
      have hgc := Lib.hid c
      go_wp2_with (first
        | (at_builtin
           refine wpList_append_many (f := fun y : Int => [Dat.int y]) (k := 1) (l := [y0, y1, y2, y3, y4] ++ duesNs (l.take j)) (l2 := [x0, x1]) rfl (.tmp 24) (.tmp 29) (by rfl) Try.underlying22 info64 (by rfl) (by decide) (fun _ => rfl) (by rfl) (S.own_ 0 rfl) (S.nodup_own 0 rfl) (by rfl) hsr (S.own_ 1 rfl) rfl (S.nodup_own 1 rfl) S.apart (by omega) (by omega) ?_
           intro A3 c3 v3 fp3 o3 n3 s3 t3))
      have S3 := S.merge t3 o3 n3 s3 hgc.out.size
      have C3 := hgc.out.trans (S.below 0 rfl t3 hgc.out.size)
      clear S c o3 n3 s3 t3 hgc hsr
      have S := S3
      have c := C3
      clear S3 C3
      rw [HN.out] at S
      replace S := S.sub (.cons_cons _ (.cons _ (.cons_cons _ (List.nil_sublist _))))
      have SS := Lib.hid S
      have CC := Lib.hid c
      clear S c cs0 cs1
      go_roundw
      case rel => exact ⟨j + 1, A3, m + 2, c3, fp3, by have := HLT.out; omega, by go_num, rfl, by have := HM.out; omega, SS.out, CC.out⟩
      case measure => (have := HLT.out; simp [intOf] <;> omega)

set_option maxHeartbeats 6400000 in
theorem iLetRow_jobs (y0 y1 y2 y3 y4 : Int) (A : Option Addr) (n cc B : Nat) (l : List TimerM) (w : World) (h : Rd w B [djD l] [.slice A n cc]) (hB : B ≤ w.heap.size) (hs : djSz l ≤ 1048577) :
    Calls Try.prog 35 #[.iface 51 (.agg #[.int .i64 y0, .int .i64 y1, .int .i64 y2, .int .i64 y3, .int .i64 y4, .slice A n cc])] w fun e w' => ∃ (A : Option Addr) (n c : Nat), e = .returned (.slice A n c) ∧ Has w' w.heap.size (rowCells (jobsRowM ⟨y0, y1, y2, y3, y4, l⟩)) [.slice A n c] ∧ Below w.heap.size w w' := by
  have hm1 : ∀ w9, (method 246 51 (.agg #[.int .i64 y0, .int .i64 y1, .int .i64 y2, .int .i64 y3, .int .i64 y4, .slice A n cc]) "loop.example/g00851/impl.fits").run Try.prog w9 = .ok (115, .agg #[.int .i64 y0, .int .i64 y1, .int .i64 y2, .int .i64 y3, .int .i64 y4, .slice A n cc]) w9 := fun _ => by kernel_rfl
  have hm2 : ∀ w9, (method 246 51 (.agg #[.int .i64 y0, .int .i64 y1, .int .i64 y2, .int .i64 y3, .int .i64 y4, .slice A n cc]) "loop.example/g00851/impl.fields").run Try.prog w9 = .ok (114, .agg #[.int .i64 y0, .int .i64 y1, .int .i64 y2, .int .i64 y3, .int .i64 y4, .slice A n cc]) w9 := fun _ => by kernel_rfl
  have HH := Lib.hid h
  clear h
  have S := Sep.nil w w.heap.size
  have c := Below.refl w.heap.size w
  go_enter Try.func35, Try.ntmps35
  go_wp2_with fail
  refine (iJobsFits_any y0 y1 y2 y3 y4 A n cc B l _ (HH.out.keep (c.mono hB)) (Nat.le_trans hB c.size) hs).mono ?_
  rintro e w1 ⟨rfl, b⟩
  replace c := c.trans (b.mono c.size)
  replace S := S.keep b
  clear b
  cases hok : jobsOkB ⟨y0, y1, y2, y3, y4, l⟩
  case false =>
    have HV := Lib.hid (show jobsRowM ⟨y0, y1, y2, y3, y4, l⟩ = [] by unfold jobsRowM; rw [hok]; rfl)
    have CC := Lib.hid c
    clear S c hok
    go_wp2
    go_ret
    exact ⟨_, _, _, rfl, by rw [HV.out]; exact has_nil_rowE _ _, CC.out⟩
  case true =>
    have HV := Lib.hid (show jobsRowM ⟨y0, y1, y2, y3, y4, l⟩ = [9] ++ jobsNs ⟨y0, y1, y2, y3, y4, l⟩ by unfold jobsRowM; rw [if_pos hok]; rfl)
    have HO := Lib.hid (show l.length ≤ 8 from openB_len ((jobsOkB_iff _).1 hok).2.2.2.2.2)
    clear hok
    go_wp2_with (first | (go_at_call 53; refine (iKind_jobs _ _).mono ?_; rintro e w' ⟨rfl, rfl⟩))
    obtain ⟨fp_lit, S'⟩ := S.has ((Below.refl _ _).alloc (Nat.le_refl _) _) (show Has (w1.alloc (.cells #[.int .i64 9] 2)) w1.heap.size (rowCells [9]) [.slice (some ⟨w1.heap.size, 0, none⟩) 1 1] from has_lit w1 [9] (by simp)) c.size
    replace c := c.alloc c.size (.cells #[.int .i64 9] 2)
    clear S; have S := S'; clear S'
    generalize hw : w1.alloc (.cells #[.int .i64 9] 2) = w2 at *
    clear hw
    refine (iJobsFields_any y0 y1 y2 y3 y4 A n cc B l _ (HH.out.keep (c.mono hB)) (Nat.le_trans hB c.size) hs HO.out).mono ?_
    rintro e w3 ⟨A2, n2, c2, rfl, o, b⟩
    obtain ⟨fp_u, S'⟩ := S.has b o c.size
    replace c := c.trans (b.mono c.size)
    clear S; have S := S'; clear S' o b
    have hsr := Rd.src (f := fun y : Int => [Dat.int y]) (g := fun y : Int => [y]) (l := jobsNs ⟨y0, y1, y2, y3, y4, l⟩) (e := 2) (k := 1) int_flat (fun _ => rfl) (by decide) (S.own_ 0 rfl).rd
    have hl2 : n2 ≤ 1000 := by have h9 := hsr.2; have h8 := (jobsNs_len (y0 := y0) (y1 := y1) (y2 := y2) (y3 := y3) (y4 := y4) HO.out); omega
    replace S := S.pick 1 rfl
    replace S := (S.flat (f := fun y : Int => [Dat.int y]) (g := fun y : Int => [y]) int_flat (jobsNs ⟨y0, y1, y2, y3, y4, l⟩)).swap
    have hgc := Lib.hid c
    go_wp2_with (first
      | (at_builtin
         refine wpList_append_many (f := fun y : Int => [Dat.int y]) (k := 1) (l := [9]) (l2 := jobsNs ⟨y0, y1, y2, y3, y4, l⟩) rfl (.tmp 8) (.tmp 10) (by rfl) Try.underlying22 info64 (by rfl) (by decide) (fun _ => rfl) (by rfl) (S.own_ 0 rfl) (S.nodup_own 0 rfl) (by rfl) hsr.1 (S.own_ 1 rfl) hsr.2 (S.nodup_own 1 rfl) S.apart (by omega) (by omega) ?_
         intro A3 c3 w9 fp3 o3 n3 s3 t3))
    have S3 := S.merge t3 o3 n3 s3 hgc.out.size
    have C3 := Lib.hid (hgc.out.trans (S.below 0 rfl t3 hgc.out.size))
    have H := Lib.hid S3.first
    clear S c o3 n3 s3 t3 hgc hsr S3
    go_ret
    exact ⟨_, _, _, rfl, by rw [HV.out]; exact H.out, C3.out⟩

set_option maxHeartbeats 3200000 in
theorem iJobsRow_any (y0 y1 y2 y3 y4 : Int) (A : Option Addr) (n cc B : Nat) (l : List TimerM) (w : World) (h : Rd w B [djD l] [.slice A n cc]) (hB : B ≤ w.heap.size) (hs : djSz l ≤ 1048577) :
    Calls Try.prog 28 #[.agg #[.int .i64 y0, .int .i64 y1, .int .i64 y2, .int .i64 y3, .int .i64 y4, .slice A n cc]] w fun e w' => ∃ (A : Option Addr) (n c : Nat), e = .returned (.slice A n c) ∧ Has w' w.heap.size (rowCells (jobsRowM ⟨y0, y1, y2, y3, y4, l⟩)) [.slice A n c] ∧ Below w.heap.size w w' := by
  have HH := Lib.hid h
  clear h
  have S := Sep.nil w w.heap.size
  have c := Below.refl w.heap.size w
  replace S := S.boxAt c.size (w.heap.size) rfl #[.int .i64 y0, .int .i64 y1, .int .i64 y2, .int .i64 y3, .int .i64 y4, .slice A n cc] 51
  replace c := c.alloc c.size (.cells #[.int .i64 y0, .int .i64 y1, .int .i64 y2, .int .i64 y3, .int .i64 y4, .slice A n cc] 51)
  go_enter Try.func28, Try.ntmps28
  have f0 : (w.alloc (.cells #[.int .i64 y0, .int .i64 y1, .int .i64 y2, .int .i64 y3, .int .i64 y4, .slice A n cc] 51)).cell? ⟨w.heap.size, 0, none⟩ = some (.int .i64 y0) := (S.at_ 0 rfl).cell 0
  have f1 : (w.alloc (.cells #[.int .i64 y0, .int .i64 y1, .int .i64 y2, .int .i64 y3, .int .i64 y4, .slice A n cc] 51)).cell? ⟨w.heap.size, 1, none⟩ = some (.int .i64 y1) := (S.at_ 0 rfl).cell 1
  have f2 : (w.alloc (.cells #[.int .i64 y0, .int .i64 y1, .int .i64 y2, .int .i64 y3, .int .i64 y4, .slice A n cc] 51)).cell? ⟨w.heap.size, 2, none⟩ = some (.int .i64 y2) := (S.at_ 0 rfl).cell 2
  have f3 : (w.alloc (.cells #[.int .i64 y0, .int .i64 y1, .int .i64 y2, .int .i64 y3, .int .i64 y4, .slice A n cc] 51)).cell? ⟨w.heap.size, 3, none⟩ = some (.int .i64 y3) := (S.at_ 0 rfl).cell 3
  have f4 : (w.alloc (.cells #[.int .i64 y0, .int .i64 y1, .int .i64 y2, .int .i64 y3, .int .i64 y4, .slice A n cc] 51)).cell? ⟨w.heap.size, 4, none⟩ = some (.int .i64 y4) := (S.at_ 0 rfl).cell 4
  have f5 : (w.alloc (.cells #[.int .i64 y0, .int .i64 y1, .int .i64 y2, .int .i64 y3, .int .i64 y4, .slice A n cc] 51)).cell? ⟨w.heap.size, 5, none⟩ = some (.slice A n cc) := (S.at_ 0 rfl).cell 5
  go_wp2_with fail
  generalize w.alloc (.cells #[.int .i64 y0, .int .i64 y1, .int .i64 y2, .int .i64 y3, .int .i64 y4, .slice A n cc] 51) = w1 at *
  refine (iLetRow_jobs y0 y1 y2 y3 y4 A n cc B l _ (HH.out.keep (c.mono hB)) (Nat.le_trans hB c.size) hs).mono ?_
  rintro e w2 ⟨A2, n2, c2, rfl, o, b⟩
  obtain ⟨fp_u, S'⟩ := S.has b o c.size
  replace c := c.trans (b.mono c.size)
  clear S; have S := S'; clear S' o b f0 f1 f2 f3 f4 f5
  have H := Lib.hid S.first
  have CC := Lib.hid c
  clear S c
  go_wp2
  go_ret
  exact ⟨_, _, _, rfl, H.out, CC.out⟩

theorem iJobsRow_at (x0 x1 x2 x3 x4 : Int) (A : Option Addr) (n c : Nat) (d0 : JobsM) (w : World) (h : Rd w w.heap.size d0.cells [.int .i64 x0, .int .i64 x1, .int .i64 x2, .int .i64 x3, .int .i64 x4, .slice A n c]) (hs : d0.sz ≤ 1048576) :
    Calls Try.prog 28 #[.agg #[.int .i64 x0, .int .i64 x1, .int .i64 x2, .int .i64 x3, .int .i64 x4, .slice A n c]] w fun e w' => ∃ (Ar0_0 : Option Addr) (nr0_0 cr0_0 : Nat), e = .returned (.slice Ar0_0 nr0_0 cr0_0) ∧ Has w' w.heap.size (rowCells (jobsRowM d0)) [.slice Ar0_0 nr0_0 cr0_0] ∧ Below w.heap.size w w' := by
  obtain ⟨l, rfl, h2⟩ := jobs_rd h
  exact iJobsRow_any x0 x1 x2 x3 x4 A n c w.heap.size l w h2 (Nat.le_refl _) (by have : djSz l ≤ 1048576 := hs; omega)

end Go.Proofs.Ytafbjmhjjbfaeaa
