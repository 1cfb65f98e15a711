/-
  Chapter 11: rows of feeds, of the program (by program, wip/gen/genletg.py).
-/
import Derived.Test.YtepnghjmpbfmcaaLetGN
import Derived.Test.YtepnghjmpbfmcaaLetI2
import Derived.Test.YtepnghjmpbfmcaaLetIF
import Derived.Test.YtepnghjmpbfmcaaEntI3
import Derived.RegionTactic
import Derived.BigQuiet
import Derived.Laws.EntriesVeiled
namespace Go.Proofs.Ytepnghjmpbfmcaa
set_option maxRecDepth 100000
open Go.RowKit

set_option linter.unusedVariables false
set_option linter.unusedSimpArgs false
set_option maxHeartbeats 12800000 in
theorem iFeedFields_any (y0 y1 : Int) (A : Option Addr) (n cc B : Nat) (l : List EntM) (w : World) (h : Rd w B [entD l] [.slice A n cc]) (hB : B ≤ w.heap.size) (hs : entSz l ≤ 1048577) (hE : entsB l = true) (h3 : l.length ≤ 3) :
    Calls Try.prog 116 #[.agg #[.int .i64 y0, .int .i64 y1, .slice A n cc]] w fun e w' => ∃ (A : Option Addr) (n c : Nat), e = .returned (.slice A n c) ∧ Has w' w.heap.size (rowCells (feedNs ⟨y0, y1, l⟩)) [.slice A n c] ∧ Below w.heap.size w w' := by
  obtain ⟨_, _, _, e, hl, _, _, hel⟩ := h.ents
  injection e with e1 e2 e3
  subst e1 e2 e3
  have HL := Lib.hid hl
  have hnB : n ≤ 1048577 := by unfold entSz at hs; omega
  have HEL := Lib.hid hel
  have HE := Lib.hid hE
  have H3 := Lib.hid h3
  have HV := Lib.hid (show feedNs ⟨y0, y1, l⟩ = [y0, y1] ++ entsNs l from rfl)
  clear h hl hel hE h3 hs
  have S := Sep.nil w w.heap.size
  have c := Below.refl w.heap.size w
  replace S := S.boxAt c.size (w.heap.size) rfl #[.int .i64 y0, .int .i64 y1, .slice A n cc] 56
  replace c := c.alloc c.size (.cells #[.int .i64 y0, .int .i64 y1, .slice A n cc] 56)
  obtain ⟨fp_out, S'⟩ := S.has ((Below.refl _ _).alloc (Nat.le_refl _) _) (show Has ((w.alloc (.cells #[.int .i64 y0, .int .i64 y1, .slice A n cc] 56)).alloc (.cells #[.int .i64 y0, .int .i64 y1] 2)) (w.alloc (.cells #[.int .i64 y0, .int .i64 y1, .slice A n cc] 56)).heap.size (rowCells ([y0, y1] ++ entsNs (l.take 0))) [.slice (some ⟨(w.alloc (.cells #[.int .i64 y0, .int .i64 y1, .slice A n cc] 56)).heap.size, 0, none⟩) 2 2] from has_lit (w.alloc (.cells #[.int .i64 y0, .int .i64 y1, .slice A n cc] 56)) [y0, y1] (by simp)) c.size
  replace c := c.alloc c.size (.cells #[.int .i64 y0, .int .i64 y1] 2)
  clear S; have S := S'; clear S'
  rw [show (w.alloc (.cells #[.int .i64 y0, .int .i64 y1, .slice A n cc] 56)).heap.size = w.heap.size + 1 by simp] at S
  have f0 : (w.alloc (.cells #[.int .i64 y0, .int .i64 y1, .slice A n cc] 56)).cell? ⟨w.heap.size, 0, none⟩ = some (.int .i64 y0) := (Blk.new w #[.int .i64 y0, .int .i64 y1, .slice A n cc] 56).cell 0
  have f1 : (w.alloc (.cells #[.int .i64 y0, .int .i64 y1, .slice A n cc] 56)).cell? ⟨w.heap.size, 1, none⟩ = some (.int .i64 y1) := (Blk.new w #[.int .i64 y0, .int .i64 y1, .slice A n cc] 56).cell 1
  have f2 : ((w.alloc (.cells #[.int .i64 y0, .int .i64 y1, .slice A n cc] 56)).alloc (.cells #[.int .i64 y0, .int .i64 y1] 2)).cell? ⟨w.heap.size, 2, none⟩ = some (.slice A n cc) := (S.at_ 1 rfl).cell 2
  have S0 := Lib.hid S
  have B0 := Lib.hid c
  clear S c
  go_enter Try.func116, Try.ntmps116
  go_wp2
  clear f0 f1 f2
  go_loopw [3, 14] (fun u k wr => ∃ (j : Nat) (G : Option Addr) (m gc : Nat) (fp : List Nat), j ≤ n ∧ k = .int .i64 (j : Int) ∧ u = .slice G m gc ∧ m = 2 + 9 * j ∧ Sep wr w.heap.size [.own (rowCells ([y0, y1] ++ entsNs (l.take j))) [.slice G m gc] fp, .blk w.heap.size #[.int .i64 y0, .int .i64 y1, .slice A n cc] 56] ∧ Below w.heap.size w wr) (fun _ k _ => n - (intOf k).toNat)
  case atStart => exact ⟨0, _, _, _, _, Nat.zero_le _, rfl, rfl, rfl, S0.out, B0.out⟩
  case round =>
    obtain ⟨j, G, m, gc, fp, hj, rfl, rfl, hm, S, c⟩ := hrel
    clear S0 B0
    have hm40 : m ≤ 40 := by have := H3.out; have := HL.out; omega
    have HM := Lib.hid hm
    clear hm
    by_cases hlt : j < n
    case neg =>
      have e9 : j = n := by omega
      have HTA := Lib.hid (show l.take j = l by rw [List.take_of_length_le (by have := HL.out; omega)])
      rw [HTA.out] at S
      have H := Lib.hid S.first
      have f0 : wr.cell? ⟨w.heap.size, 0, none⟩ = some (.int .i64 y0) := (S.at_ 1 rfl).cell 0
      have f1 : wr.cell? ⟨w.heap.size, 1, none⟩ = some (.int .i64 y1) := (S.at_ 1 rfl).cell 1
      have f2 : wr.cell? ⟨w.heap.size, 2, none⟩ = some (.slice A n cc) := (S.at_ 1 rfl).cell 2
      have CC := Lib.hid c
      clear S c e9
      have g1 : decide ((j : Int) < (n : Int)) = false := decide_eq_false (by omega)
      have g2 : decide (j < n) = false := decide_eq_false hlt
      go_wp2
      go_ret
      exact ⟨_, _, _, rfl, by rw [HV.out]; exact H.out, CC.out⟩
    case pos =>
      obtain ⟨b, off, rfl, hb, hc⟩ := HEL.out (by omega)
      have hjl : j < l.length := by have := HL.out; omega
      obtain ⟨hc0, hc1, hc2, hc3, hc4, hc5, hc6, hc7, hc8⟩ := hc j hjl
      have cs0 := (c.cell (p := ⟨b, off + j * 9, none⟩) (show b < _ by omega)).trans hc0
      have cs1 := (c.cell (p := ⟨b, off + j * 9 + 1, none⟩) (show b < _ by omega)).trans hc1
      have cs2 := (c.cell (p := ⟨b, off + j * 9 + 2, none⟩) (show b < _ by omega)).trans hc2
      have cs3 := (c.cell (p := ⟨b, off + j * 9 + 3, none⟩) (show b < _ by omega)).trans hc3
      have cs4 := (c.cell (p := ⟨b, off + j * 9 + 4, none⟩) (show b < _ by omega)).trans hc4
      have cs5 := (c.cell (p := ⟨b, off + j * 9 + 5, none⟩) (show b < _ by omega)).trans hc5
      have cs6 := (c.cell (p := ⟨b, off + j * 9 + 6, none⟩) (show b < _ by omega)).trans hc6
      have cs7 := (c.cell (p := ⟨b, off + j * 9 + 7, none⟩) (show b < _ by omega)).trans hc7
      have cs8 := (c.cell (p := ⟨b, off + j * 9 + 8, none⟩) (show b < _ by omega)).trans hc8
      obtain ⟨x0, hx0⟩ : ∃ q, q = l[j].idx := ⟨_, rfl⟩
      rw [← hx0] at cs0
      obtain ⟨x1, hx1⟩ : ∃ q, q = l[j].tm := ⟨_, rfl⟩
      rw [← hx1] at cs1
      obtain ⟨x2, hx2⟩ : ∃ q, q = l[j].cl := ⟨_, rfl⟩
      rw [← hx2] at cs2
      obtain ⟨x3, hx3⟩ : ∃ q, q = l[j].sq := ⟨_, rfl⟩
      rw [← hx3] at cs3
      obtain ⟨x4, hx4⟩ : ∃ q, q = l[j].kd := ⟨_, rfl⟩
      rw [← hx4] at cs4
      obtain ⟨x5, hx5⟩ : ∃ q, q = l[j].oa := ⟨_, rfl⟩
      rw [← hx5] at cs5
      obtain ⟨x6, hx6⟩ : ∃ q, q = l[j].ob := ⟨_, rfl⟩
      rw [← hx6] at cs6
      obtain ⟨x7, hx7⟩ : ∃ q, q = l[j].oc := ⟨_, rfl⟩
      rw [← hx7] at cs7
      obtain ⟨x8, hx8⟩ : ∃ q, q = l[j].od := ⟨_, rfl⟩
      rw [← hx8] at cs8
      have hmk : l[j] = ⟨x0, x1, x2, x3, x4, x5, x6, x7, x8⟩ := by rw [hx0, hx1, hx2, hx3, hx4, hx5, hx6, hx7, hx8]
      have HRM := Lib.hid (show entRowM ⟨x0, x1, x2, x3, x4, x5, x6, x7, x8⟩ = [x0, x1, x2, x3, x4, x5, x6, x7, x8] by unfold entRowM; rw [if_pos (by rw [← hmk]; exact entsB_at HE.out hjl)]; rfl)
      have HTK := Lib.hid (show l.take (j + 1) = l.take j ++ [⟨x0, x1, x2, x3, x4, x5, x6, x7, x8⟩] by rw [List.take_succ_eq_append_getElem hjl, hmk])
      clear hmk hc hx0 hx1 hx2 hx3 hx4 hx5 hx6 hx7 hx8 hc0 hc1 hc2 hc3 hc4 hc5 hc6 hc7 hc8
      have f0 : wr.cell? ⟨w.heap.size, 0, none⟩ = some (.int .i64 y0) := (S.at_ 1 rfl).cell 0
      have f1 : wr.cell? ⟨w.heap.size, 1, none⟩ = some (.int .i64 y1) := (S.at_ 1 rfl).cell 1
      have f2 : wr.cell? ⟨w.heap.size, 2, none⟩ = some (.slice (some ⟨b, off, none⟩) n cc) := (S.at_ 1 rfl).cell 2
      have g1 : decide ((j : Int) < (n : Int)) = true := decide_eq_true (by omega)
      have g2 : decide (j < n) = true := decide_eq_true hlt
      have HLT := Lib.hid hlt
      have hj1 : (j : Int) < (n : Int) := by omega
      have hj0 : (0 : Int) ≤ (j : Int) := by omega
      replace S := S.boxAt c.size (wr.heap.size) rfl #[.int .i64 x0, .int .i64 x1, .int .i64 x2, .int .i64 x3, .int .i64 x4, .int .i64 x5, .int .i64 x6, .int .i64 x7, .int .i64 x8] 83
      replace c := c.alloc c.size (.cells #[.int .i64 x0, .int .i64 x1, .int .i64 x2, .int .i64 x3, .int .i64 x4, .int .i64 x5, .int .i64 x6, .int .i64 x7, .int .i64 x8] 83)
      have f3 : (wr.alloc (.cells #[.int .i64 x0, .int .i64 x1, .int .i64 x2, .int .i64 x3, .int .i64 x4, .int .i64 x5, .int .i64 x6, .int .i64 x7, .int .i64 x8] 83)).cell? ⟨wr.heap.size, 0, none⟩ = some (.int .i64 x0) := (S.at_ 0 rfl).cell 0
      have f4 : (wr.alloc (.cells #[.int .i64 x0, .int .i64 x1, .int .i64 x2, .int .i64 x3, .int .i64 x4, .int .i64 x5, .int .i64 x6, .int .i64 x7, .int .i64 x8] 83)).cell? ⟨wr.heap.size, 1, none⟩ = some (.int .i64 x1) := (S.at_ 0 rfl).cell 1
      have f5 : (wr.alloc (.cells #[.int .i64 x0, .int .i64 x1, .int .i64 x2, .int .i64 x3, .int .i64 x4, .int .i64 x5, .int .i64 x6, .int .i64 x7, .int .i64 x8] 83)).cell? ⟨wr.heap.size, 2, none⟩ = some (.int .i64 x2) := (S.at_ 0 rfl).cell 2
      have f6 : (wr.alloc (.cells #[.int .i64 x0, .int .i64 x1, .int .i64 x2, .int .i64 x3, .int .i64 x4, .int .i64 x5, .int .i64 x6, .int .i64 x7, .int .i64 x8] 83)).cell? ⟨wr.heap.size, 3, none⟩ = some (.int .i64 x3) := (S.at_ 0 rfl).cell 3
      have f7 : (wr.alloc (.cells #[.int .i64 x0, .int .i64 x1, .int .i64 x2, .int .i64 x3, .int .i64 x4, .int .i64 x5, .int .i64 x6, .int .i64 x7, .int .i64 x8] 83)).cell? ⟨wr.heap.size, 4, none⟩ = some (.int .i64 x4) := (S.at_ 0 rfl).cell 4
      have f8 : (wr.alloc (.cells #[.int .i64 x0, .int .i64 x1, .int .i64 x2, .int .i64 x3, .int .i64 x4, .int .i64 x5, .int .i64 x6, .int .i64 x7, .int .i64 x8] 83)).cell? ⟨wr.heap.size, 5, none⟩ = some (.int .i64 x5) := (S.at_ 0 rfl).cell 5
      have f9 : (wr.alloc (.cells #[.int .i64 x0, .int .i64 x1, .int .i64 x2, .int .i64 x3, .int .i64 x4, .int .i64 x5, .int .i64 x6, .int .i64 x7, .int .i64 x8] 83)).cell? ⟨wr.heap.size, 6, none⟩ = some (.int .i64 x6) := (S.at_ 0 rfl).cell 6
      have f10 : (wr.alloc (.cells #[.int .i64 x0, .int .i64 x1, .int .i64 x2, .int .i64 x3, .int .i64 x4, .int .i64 x5, .int .i64 x6, .int .i64 x7, .int .i64 x8] 83)).cell? ⟨wr.heap.size, 7, none⟩ = some (.int .i64 x7) := (S.at_ 0 rfl).cell 7
      have f11 : (wr.alloc (.cells #[.int .i64 x0, .int .i64 x1, .int .i64 x2, .int .i64 x3, .int .i64 x4, .int .i64 x5, .int .i64 x6, .int .i64 x7, .int .i64 x8] 83)).cell? ⟨wr.heap.size, 8, none⟩ = some (.int .i64 x8) := (S.at_ 0 rfl).cell 8
      go_wp2_with fail
      generalize wr.alloc (.cells #[.int .i64 x0, .int .i64 x1, .int .i64 x2, .int .i64 x3, .int .i64 x4, .int .i64 x5, .int .i64 x6, .int .i64 x7, .int .i64 x8] 83) = w1 at *
      clear cs0 cs1 cs2 cs3 cs4 cs5 cs6 cs7 cs8 f0 f1 f2
      refine (iEntryRow_any x0 x1 x2 x3 x4 x5 x6 x7 x8 _).mono ?_
      rintro e w2 ⟨A2, n2, c2, rfl, o, b2⟩
      obtain ⟨fp_u, S'⟩ := S.has b2 o c.size
      replace c := c.trans (b2.mono c.size)
      clear S; have S := S'; clear S' o b2 f3 f4 f5 f6 f7 f8 f9 f10 f11
      rw [HRM.out] at S
      have hn2 : n2 = 9 := by have h9 := (Rd.src (f := fun y : Int => [Dat.int y]) (g := fun y : Int => [y]) (l := [x0, x1, x2, x3, x4, x5, x6, x7, x8]) (e := 2) (k := 1) int_flat (fun _ => rfl) (by decide) (S.own_ 0 rfl).rd).2; exact h9.symm
      subst hn2
      have f12 : w2.cell? ⟨w.heap.size, 0, none⟩ = some (.int .i64 y0) := (S.at_ 3 rfl).cell 0
      have f13 : w2.cell? ⟨w.heap.size, 1, none⟩ = some (.int .i64 y1) := (S.at_ 3 rfl).cell 1
      have f14 : w2.cell? ⟨w.heap.size, 2, none⟩ = some (.slice (some ⟨b, off, none⟩) n cc) := (S.at_ 3 rfl).cell 2
      have hsr := Rd.src (f := fun y : Int => [Dat.int y]) (g := fun y : Int => [y]) (l := [x0, x1, x2, x3, x4, x5, x6, x7, x8]) (e := 2) (k := 1) int_flat (fun _ => rfl) (by decide) (S.own_ 0 rfl).rd
      replace S := S.pick 2 rfl
      replace S := (S.flat (f := fun y : Int => [Dat.int y]) (g := fun y : Int => [y]) int_flat ([x0, x1, x2, x3, x4, x5, x6, x7, x8])).swap
      have hgc := Lib.hid c
      go_wp2_with (first
        | (at_builtin
           refine wpList_append_many (f := fun y : Int => [Dat.int y]) (k := 1) (l := [y0, y1] ++ entsNs (l.take j)) (l2 := [x0, x1, x2, x3, x4, x5, x6, x7, x8]) rfl (.tmp 18) (.tmp 20) (by rfl) Try.underlying22 info64 (by rfl) (by decide) (fun _ => rfl) (by rfl) (S.own_ 0 rfl) (S.nodup_own 0 rfl) (by rfl) hsr.1 (S.own_ 1 rfl) hsr.2 (S.nodup_own 1 rfl) S.apart (by omega) (by omega) ?_
           intro A3 c3 w9 fp3 o3 n3 s3 t3))
      have S3 := S.merge t3 o3 n3 s3 hgc.out.size
      have C3 := hgc.out.trans (S.below 0 rfl t3 hgc.out.size)
      clear S c o3 n3 s3 t3 hgc hsr
      have S := S3
      have c := C3
      clear S3 C3
      have HN := Lib.hid (show ([y0, y1] ++ entsNs (l.take j)) ++ [x0, x1, x2, x3, x4, x5, x6, x7, x8] = [y0, y1] ++ entsNs (l.take (j + 1)) by rw [HTK.out, entsNs_snoc, List.append_assoc]; rfl)
      rw [HN.out] at S
      replace S := S.sub (.cons_cons _ (.cons _ (.cons _ (.cons_cons _ (List.nil_sublist _)))))
      have SS := Lib.hid S
      have CC := Lib.hid c
      clear S c
      go_wp2
      go_roundw
      case rel => exact ⟨j + 1, A3, m + 9, c3, fp3, by have := HLT.out; omega, by go_num, rfl, by have := HM.out; omega, SS.out, CC.out⟩
      case measure => (have := HLT.out; simp [intOf] <;> omega)

set_option maxHeartbeats 6400000 in
theorem iLetRow_feed (y0 y1 : Int) (A : Option Addr) (n cc B : Nat) (l : List EntM) (w : World) (h : Rd w B [entD l] [.slice A n cc]) (hB : B ≤ w.heap.size) (hs : entSz l ≤ 1048577) :
    Calls Try.prog 52 #[.iface 56 (.agg #[.int .i64 y0, .int .i64 y1, .slice A n cc])] w fun e w' => ∃ (A : Option Addr) (n c : Nat), e = .returned (.slice A n c) ∧ Has w' w.heap.size (rowCells (feedRowM ⟨y0, y1, l⟩)) [.slice A n c] ∧ Below w.heap.size w w' := by
  have hm1 : ∀ w9, (method 248 56 (.agg #[.int .i64 y0, .int .i64 y1, .slice A n cc]) "loop.example/g00851/impl.fits").run Try.prog w9 = .ok (54, .agg #[.int .i64 y0, .int .i64 y1, .slice A n cc]) w9 := fun _ => by kernel_rfl
  have hm2 : ∀ w9, (method 248 56 (.agg #[.int .i64 y0, .int .i64 y1, .slice A n cc]) "loop.example/g00851/impl.fields").run Try.prog w9 = .ok (116, .agg #[.int .i64 y0, .int .i64 y1, .slice A n cc]) w9 := fun _ => by kernel_rfl
  have HH := Lib.hid h
  clear h
  have S := Sep.nil w w.heap.size
  have c := Below.refl w.heap.size w
  go_enter Try.func52, Try.ntmps52
  go_wp2_with fail
  refine (iFeedFits_any y0 y1 A n cc B l _ (HH.out.keep (c.mono hB)) (Nat.le_trans hB c.size) hs).mono ?_
  rintro e w1 ⟨rfl, b⟩
  replace c := c.trans (b.mono c.size)
  replace S := S.keep b
  clear b
  cases hok : feedOkB ⟨y0, y1, l⟩
  case false =>
    have HV := Lib.hid (show feedRowM ⟨y0, y1, l⟩ = [] by unfold feedRowM; rw [hok]; rfl)
    have CC := Lib.hid c
    clear S c hok
    go_wp2
    go_ret
    exact ⟨_, _, _, rfl, by rw [HV.out]; exact has_nil_rowE _ _, CC.out⟩
  case true =>
    have HV := Lib.hid (show feedRowM ⟨y0, y1, l⟩ = [4] ++ feedNs ⟨y0, y1, l⟩ by unfold feedRowM; rw [if_pos hok]; rfl)
    have HO := Lib.hid (show entsB l = true ∧ l.length ≤ 3 from ⟨((feedOkB_iff _).1 hok).2.2.2.1, ((feedOkB_iff _).1 hok).2.2.1⟩)
    clear hok
    go_wp2_with (first | (go_at_call 63; refine (iKind_feed _ _).mono ?_; rintro e w' ⟨rfl, rfl⟩))
    obtain ⟨fp_lit, S'⟩ := S.has ((Below.refl _ _).alloc (Nat.le_refl _) _) (show Has (w1.alloc (.cells #[.int .i64 4] 2)) w1.heap.size (rowCells [4]) [.slice (some ⟨w1.heap.size, 0, none⟩) 1 1] from has_lit w1 [4] (by simp)) c.size
    replace c := c.alloc c.size (.cells #[.int .i64 4] 2)
    clear S; have S := S'; clear S'
    generalize hw : w1.alloc (.cells #[.int .i64 4] 2) = w2 at *
    clear hw
    refine (iFeedFields_any y0 y1 A n cc B l _ (HH.out.keep (c.mono hB)) (Nat.le_trans hB c.size) hs HO.out.1 HO.out.2).mono ?_
    rintro e w3 ⟨A2, n2, c2, rfl, o, b⟩
    obtain ⟨fp_u, S'⟩ := S.has b o c.size
    replace c := c.trans (b.mono c.size)
    clear S; have S := S'; clear S' o b
    have hsr := Rd.src (f := fun y : Int => [Dat.int y]) (g := fun y : Int => [y]) (l := feedNs ⟨y0, y1, l⟩) (e := 2) (k := 1) int_flat (fun _ => rfl) (by decide) (S.own_ 0 rfl).rd
    have hl2 : n2 ≤ 1000 := by have h9 := hsr.2; have h8 := (feedNs_len (y0 := y0) (y1 := y1) HO.out.2); omega
    replace S := S.pick 1 rfl
    replace S := (S.flat (f := fun y : Int => [Dat.int y]) (g := fun y : Int => [y]) int_flat (feedNs ⟨y0, y1, l⟩)).swap
    have hgc := Lib.hid c
    go_wp2_with (first
      | (at_builtin
         refine wpList_append_many (f := fun y : Int => [Dat.int y]) (k := 1) (l := [4]) (l2 := feedNs ⟨y0, y1, l⟩) rfl (.tmp 8) (.tmp 10) (by rfl) Try.underlying22 info64 (by rfl) (by decide) (fun _ => rfl) (by rfl) (S.own_ 0 rfl) (S.nodup_own 0 rfl) (by rfl) hsr.1 (S.own_ 1 rfl) hsr.2 (S.nodup_own 1 rfl) S.apart (by omega) (by omega) ?_
         intro A3 c3 w9 fp3 o3 n3 s3 t3))
    have S3 := S.merge t3 o3 n3 s3 hgc.out.size
    have C3 := Lib.hid (hgc.out.trans (S.below 0 rfl t3 hgc.out.size))
    have H := Lib.hid S3.first
    clear S c o3 n3 s3 t3 hgc hsr S3
    go_ret
    exact ⟨_, _, _, rfl, by rw [HV.out]; exact H.out, C3.out⟩

set_option maxHeartbeats 3200000 in
theorem iFeedRow_any (y0 y1 : Int) (A : Option Addr) (n cc B : Nat) (l : List EntM) (w : World) (h : Rd w B [entD l] [.slice A n cc]) (hB : B ≤ w.heap.size) (hs : entSz l ≤ 1048577) :
    Calls Try.prog 32 #[.agg #[.int .i64 y0, .int .i64 y1, .slice A n cc]] w fun e w' => ∃ (A : Option Addr) (n c : Nat), e = .returned (.slice A n c) ∧ Has w' w.heap.size (rowCells (feedRowM ⟨y0, y1, l⟩)) [.slice A n c] ∧ Below w.heap.size w w' := by
  have HH := Lib.hid h
  clear h
  have S := Sep.nil w w.heap.size
  have c := Below.refl w.heap.size w
  replace S := S.boxAt c.size (w.heap.size) rfl #[.int .i64 y0, .int .i64 y1, .slice A n cc] 56
  replace c := c.alloc c.size (.cells #[.int .i64 y0, .int .i64 y1, .slice A n cc] 56)
  go_enter Try.func32, Try.ntmps32
  have f0 : (w.alloc (.cells #[.int .i64 y0, .int .i64 y1, .slice A n cc] 56)).cell? ⟨w.heap.size, 0, none⟩ = some (.int .i64 y0) := (S.at_ 0 rfl).cell 0
  have f1 : (w.alloc (.cells #[.int .i64 y0, .int .i64 y1, .slice A n cc] 56)).cell? ⟨w.heap.size, 1, none⟩ = some (.int .i64 y1) := (S.at_ 0 rfl).cell 1
  have f2 : (w.alloc (.cells #[.int .i64 y0, .int .i64 y1, .slice A n cc] 56)).cell? ⟨w.heap.size, 2, none⟩ = some (.slice A n cc) := (S.at_ 0 rfl).cell 2
  go_wp2_with fail
  generalize w.alloc (.cells #[.int .i64 y0, .int .i64 y1, .slice A n cc] 56) = w1 at *
  refine (iLetRow_feed y0 y1 A n cc B l _ (HH.out.keep (c.mono hB)) (Nat.le_trans hB c.size) hs).mono ?_
  rintro e w2 ⟨A2, n2, c2, rfl, o, b⟩
  obtain ⟨fp_u, S'⟩ := S.has b o c.size
  replace c := c.trans (b.mono c.size)
  clear S; have S := S'; clear S' o b f0 f1 f2
  have H := Lib.hid S.first
  have CC := Lib.hid c
  clear S c
  go_wp2
  go_ret
  exact ⟨_, _, _, rfl, H.out, CC.out⟩

theorem iFeedRow_at (x0 x1 : Int) (A : Option Addr) (n c : Nat) (d0 : FeedM) (w : World) (h : Rd w w.heap.size d0.cells [.int .i64 x0, .int .i64 x1, .slice A n c]) (hs : d0.sz ≤ 1048576) :
    Calls Try.prog 32 #[.agg #[.int .i64 x0, .int .i64 x1, .slice A n c]] w fun e w' => ∃ (Ar0_0 : Option Addr) (nr0_0 cr0_0 : Nat), e = .returned (.slice Ar0_0 nr0_0 cr0_0) ∧ Has w' w.heap.size (rowCells (feedRowM d0)) [.slice Ar0_0 nr0_0 cr0_0] ∧ Below w.heap.size w w' := by
  obtain ⟨l, rfl, h2⟩ := feed_rd h
  exact iFeedRow_any x0 x1 A n c w.heap.size l w h2 (Nat.le_refl _) (by have : entSz l ≤ 1048576 := hs; omega)

end Go.Proofs.Ytepnghjmpbfmcaa
