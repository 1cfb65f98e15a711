/-
  Chapter 8: a part of a book, of the program (by program, wip/gen/genbookia.py).
-/
import Derived.Test.YtnjfdnjakogpmaaBookI8
import Derived.RegionTactic
import Derived.BigQuiet
import Derived.Laws.EntriesVeiled
namespace Go.Proofs.Ytnjfdnjakogpmaa
set_option maxRecDepth 100000
open Go.RowKit
attribute [local go_sem] Oper.semAt_some

/-- So far fewer than k have been collected. -/
def PartG (w : World) (M : Nat) (fix : List Item) (b : Nat) (k : Int) (pre : List EntM) (W : World) : Prop := (pre.length : Int) < k ∧ CollG w fix b pre W ∧ M ≤ W.heap.size
/-- As many as were asked have come: the loop has been left. -/
def BrkG (w : World) (fix : List Item) (b id : Nat) (k : Int) (c : Code) (pre : List EntM) (W : World) : Prop := c = .exit id ∧ (pre.length : Int) = k ∧ CollG w fix b pre W
theorem CollG.size0 {w W : World} {fix : List Item} {b : Nat} {pre : List EntM} (h : CollG w fix b pre W) : w.heap.size ≤ W.heap.size := by
  obtain ⟨_, _, _, _, _, _, h⟩ := h
  exact h.size
theorem partG_own {w : World} {M : Nat} {fix : List Item} {b B : Nat} {k : Int} (hB : w.heap.size ≤ B) : OwnFrom B (PartG w M fix b k) := fun s W W' row hs hg hr => ⟨hs.1, collG_own hB s W W' row hs.2.1 hg hr, Nat.le_trans hs.2.2 hg.size⟩
theorem brkG_own {w : World} {fix : List Item} {b id B : Nat} {k : Int} (hB : w.heap.size ≤ B) (c : Code) : OwnFrom B (BrkG w fix b id k c) := fun s W W' row hs hg hr => ⟨hs.1, hs.2.1, collG_own hB s W W' row hs.2.2 hg hr⟩
/-- What the body keeps: what lay ahead of the call, and the iterator's three boxes. -/
def KeepB (n₀ bb bf bl : Nat) (W W' : World) : Prop := Below n₀ W W' ∧ W'.heap[bb]? = W.heap[bb]? ∧ W'.heap[bf]? = W.heap[bf]? ∧ W'.heap[bl]? = W.heap[bl]?
theorem keepB_t {n₀ bb bf bl : Nat} {A B C : World} (h : KeepB n₀ bb bf bl A B) (k : KeepB n₀ bb bf bl B C) : KeepB n₀ bb bf bl A C := ⟨h.1.trans k.1, k.2.1.trans h.2.1, k.2.2.1.trans h.2.2.1, k.2.2.2.trans h.2.2.2⟩
theorem keepB_b {n₀ bb bf bl : Nat} {w : World} (hn : n₀ ≤ w.heap.size) (h0 : bb < w.heap.size) (h1 : bf < w.heap.size) (h2 : bl < w.heap.size) (W : World) (l : Nat) (o o' : Obj) (hl : w.heap.size ≤ l) (h : W.heap[l]? = some o) (hc : o.isCells = false) (hw : o.isWalk = false) : KeepB n₀ bb bf bl W (W.putObj l o') :=
  ⟨belowK_b hn W l o o' hl h hc hw, World.putObj_heap_other (by omega), World.putObj_heap_other (by omega), World.putObj_heap_other (by omega)⟩
theorem keepB_more {n₀ bb bf bl : Nat} {W : World} (hn : n₀ ≤ W.heap.size) (h0 : bb < W.heap.size) (h1 : bf < W.heap.size) (h2 : bl < W.heap.size) (o : Obj) : KeepB n₀ bb bf bl W (W.alloc o) :=
  ⟨(Below.refl _ W).alloc hn o, ((Below.refl W.heap.size W).alloc (Nat.le_refl _) o).block bb h0, ((Below.refl W.heap.size W).alloc (Nat.le_refl _) o).block bf h1, ((Below.refl W.heap.size W).alloc (Nat.le_refl _) o).block bl h2⟩
set_option maxHeartbeats 12800000 in
theorem iPart_any (x0 x1 : Int) (A : Option Addr) (n cc B : Nat) (l : List EntM) (x k : Int) (w : World) (h : Rd w B [entD l] [.slice A n cc]) (hB : B ≤ w.heap.size) (hs : entSz l ≤ 1048577) :
    Calls Try.prog 41 #[.agg #[.int .i64 x0, .int .i64 x1, .slice A n cc], .int .i64 x, .int .i64 k] w (MadeEntryS w (partM ⟨x0, x1, l⟩ x k)) := by
  have HH := Lib.hid h
  obtain ⟨_, _, _, e, hl, _, hcm, hel⟩ := h.ents
  injection e with e1 e2 e3
  subst e1 e2 e3
  have hn : n ≤ 1048577 := by unfold entSz at hs; omega
  have HL := Lib.hid hl
  clear hel hcm h
  have S := Sep.nil w w.heap.size
  have c := Below.refl w.heap.size w
  replace S := S.boxAt c.size (w.heap.size) rfl #[.int .i64 x0, .int .i64 x1, .slice A n cc] 29
  replace c := c.alloc c.size (.cells #[.int .i64 x0, .int .i64 x1, .slice A n cc] 29)
  replace S := S.boxAt c.size (w.heap.size + 1) (by simp) #[.int .i64 k] 2
  replace c := c.alloc c.size (.cells #[.int .i64 k] 2)
  refine (callsIn_wide (n := 3)).1 ?_
  refine callsIn_of_wp_marks Try.func41 rfl trivial ?_ rfl
  refine wpIn_wide.2 ?_
  simp only [Try.ntmps41, List.size_toArray, List.length_cons, List.length_nil, Nat.reduceAdd, Nat.reduceSub, Array.replicate_succ, Array.replicate_zero, List.push_toArray, List.append_toArray, List.nil_append, List.cons_append]
  have f0 : ((w.alloc (.cells #[.int .i64 x0, .int .i64 x1, .slice A n cc] 29)).alloc (.cells #[.int .i64 k] 2)).cell? ⟨w.heap.size, 0, none⟩ = some (.int .i64 x0) := (S.at_ 1 rfl).cell 0
  have f1 : ((w.alloc (.cells #[.int .i64 x0, .int .i64 x1, .slice A n cc] 29)).alloc (.cells #[.int .i64 k] 2)).cell? ⟨w.heap.size, 1, none⟩ = some (.int .i64 x1) := (S.at_ 1 rfl).cell 1
  have f2 : ((w.alloc (.cells #[.int .i64 x0, .int .i64 x1, .slice A n cc] 29)).alloc (.cells #[.int .i64 k] 2)).cell? ⟨w.heap.size, 2, none⟩ = some (.slice A n cc) := (S.at_ 1 rfl).cell 2
  have f3 : ((w.alloc (.cells #[.int .i64 x0, .int .i64 x1, .slice A n cc] 29)).alloc (.cells #[.int .i64 k] 2)).cell? ⟨w.heap.size + 1, 0, none⟩ = some (.int .i64 k) := (S.at_ 0 rfl).cell 0
  go_wp2_with fail
  generalize (w.alloc (.cells #[.int .i64 x0, .int .i64 x1, .slice A n cc] 29)).alloc (.cells #[.int .i64 k] 2) = w1 at *
  refine (iBookOk_any x0 x1 A n cc B l _ (HH.out.keep (c.mono hB)) (Nat.le_trans hB c.size) hs).mono ?_
  rintro e w2 ⟨rfl, b2⟩
  replace c := c.trans (b2.mono c.size)
  replace S := S.keep b2
  clear b2 f0 f1 f2 f3
  cases hok : bookB ⟨x0, x1, l⟩
  case false =>
    have HD := Lib.hid (show partM ⟨x0, x1, l⟩ x k = [] by unfold partM; rw [hok]; rfl)
    have CC := Lib.hid c
    clear hok S c hl
    go_wp2
    exact postM_ret0 (v := .slice none 0 0) rfl (by simp [results, Try.results41, go_sem]) ⟨none, 0, 0, rfl, by rw [HD.out]; exact ⟨[], ow_nil_ents _, List.nodup_nil, fun p hp => by cases hp⟩, CC.out⟩
  case true =>
    have f4 : w2.cell? ⟨w.heap.size + 1, 0, none⟩ = some (.int .i64 k) := (S.at_ 0 rfl).cell 0
    by_cases hk1 : k < 1
    case pos =>
      have HD := Lib.hid (show partM ⟨x0, x1, l⟩ x k = [] by unfold partM; rw [if_pos hok, show k.toNat = 0 by omega, List.take_zero])
      have CC := Lib.hid c
      have d1 : decide (k < 1) = true := decide_eq_true hk1
      clear hok S c hl
      go_wp2
      exact postM_ret0 (v := .slice none 0 0) rfl (by simp [results, Try.results41, go_sem]) ⟨none, 0, 0, rfl, by rw [HD.out]; exact ⟨[], ow_nil_ents _, List.nodup_nil, fun p hp => by cases hp⟩, CC.out⟩
    case neg =>
      have d1 : decide (k < 1) = false := decide_eq_false hk1
      have HP := Lib.hid (show ∀ ys : List EntM, ys <+: selE l x 2000 → ((ys = selE l x 2000 ∧ (ys.length : Int) < k) ∨ (ys.length : Int) = k) → partM ⟨x0, x1, l⟩ x k = ys from fun ys h1 h2 => by
        unfold partM
        rw [if_pos hok, ← sel_part (b := ⟨x0, x1, l⟩) hok]
        show (selE l x 2000).take k.toNat = ys
        rcases h2 with ⟨rfl, h2⟩ | h2
        · exact List.take_of_length_le (by omega)
        · rw [List.prefix_iff_eq_take.1 h1]
          congr 1
          omega)
      have hlen := selE_le l x 2000
      have hlm : l.length ≤ 20 := bookB_len hok
      clear hok hl
      replace S := S.boxAt c.size (w2.heap.size) rfl #[.slice none 0 0] 27
      replace c := c.alloc c.size (.cells #[.slice none 0 0] 27)
      have f5 : (w2.alloc (.cells #[.slice none 0 0] 27)).cell? ⟨w.heap.size, 0, none⟩ = some (.int .i64 x0) := (S.at_ 2 rfl).cell 0
      have f6 : (w2.alloc (.cells #[.slice none 0 0] 27)).cell? ⟨w.heap.size, 1, none⟩ = some (.int .i64 x1) := (S.at_ 2 rfl).cell 1
      have f7 : (w2.alloc (.cells #[.slice none 0 0] 27)).cell? ⟨w.heap.size, 2, none⟩ = some (.slice A n cc) := (S.at_ 2 rfl).cell 2
      go_wp2_with fail
      generalize w2.alloc (.cells #[.slice none 0 0] 27) = w3 at *
      obtain ⟨qp, hqp⟩ : ∃ q, q = w2.heap.size := ⟨_, rfl⟩
      rw [← hqp] at S ⊢
      clear hqp
      refine (iEntriesIn_any x0 x1 A n cc x 2000 _).mono ?_
      rintro e w9 ⟨rfl, rfl⟩
      clear f4 f5 f6 f7
      replace S := S.boxAt c.size (w3.heap.size) rfl #[.int .i64 x0, .int .i64 x1, .slice A n cc] 29
      replace c := c.alloc c.size (.cells #[.int .i64 x0, .int .i64 x1, .slice A n cc] 29)
      replace S := S.boxAt c.size (w3.heap.size + 1) (by simp) #[.int .i64 x] 2
      replace c := c.alloc c.size (.cells #[.int .i64 x] 2)
      replace S := S.boxAt c.size (w3.heap.size + 1 + 1) (by simp) #[.int .i64 2000] 2
      replace c := c.alloc c.size (.cells #[.int .i64 2000] 2)
      replace S := S.pick 3 rfl
      replace S := S.own0 (ds := [entD []]) (vs := [.slice none 0 0]) (ow_nil_ents _)
      generalize ((w3.alloc (.cells #[.int .i64 x0, .int .i64 x1, .slice A n cc] 29)).alloc (.cells #[.int .i64 x] 2)).alloc (.cells #[.int .i64 2000] 2) = w8 at *
      have K0 := Lib.hid (S.at_ 4 rfl)
      have K1 := Lib.hid (S.at_ 3 rfl)
      have K2 := Lib.hid (S.at_ 2 rfl)
      have S0 := Lib.hid S
      have C0 := Lib.hid c
      have hsz : w.heap.size ≤ w8.heap.size := c.size
      clear S c
      go_wp2_with fail
      refine (wpIn_wide (n := 3)).1 ?_
      refine wpIn_rangeFunc_ownH rfl (by decide) (gf := 68) (lb := #[.pointer (some ⟨w3.heap.size, 0, none⟩), .pointer (some ⟨w3.heap.size + 1, 0, none⟩), .pointer (some ⟨w3.heap.size + 1 + 1, 0, none⟩)]) rfl trivial (enters_of Try.func68 (by kernel_rfl) rfl)
        (iIter_stops _ _ _ B x0 x1 x 2000 A n cc l (KeepB w.heap.size (w3.heap.size) (w3.heap.size + 1) (w3.heap.size + 1 + 1)) (fun _ _ h => ⟨h.1.mono hB, h.2⟩) w8 K0.out K1.out K2.out (HH.out.keep (C0.out.mono hB)) hn (Nat.le_trans hB hsz)) keepB_t (keepB_b hsz K0.out.lt K1.out.lt K2.out.lt) (Below.refl _ _) (fun _ => rfl)
        (PartG w w8.heap.size [.blk (w3.heap.size + 1 + 1) #[.int .i64 2000] 2, .blk (w3.heap.size + 1) #[.int .i64 x] 2, .blk w3.heap.size #[.int .i64 x0, .int .i64 x1, .slice A n cc] 29, .blk (w.heap.size + 1) #[.int .i64 k] 2, .blk w.heap.size #[.int .i64 x0, .int .i64 x1, .slice A n cc] 29] qp k)
        (BrkG w [.blk (w3.heap.size + 1 + 1) #[.int .i64 2000] 2, .blk (w3.heap.size + 1) #[.int .i64 x] 2, .blk w3.heap.size #[.int .i64 x0, .int .i64 x1, .slice A n cc] 29, .blk (w.heap.size + 1) #[.int .i64 k] 2, .blk w.heap.size #[.int .i64 x0, .int .i64 x1, .slice A n cc] 29] qp 0 k)
        (partG_own hsz)
        (brkG_own hsz)
        ⟨by show ((0 : Nat) : Int) < k; omega, ⟨none, 0, 0, [], rfl, S0.out, C0.out⟩, Nat.le_refl _⟩
        (fun y a' W => ∃ Bx, Blk W Bx #[.int .i64 y.idx, .int .i64 y.tm, .int .i64 y.cl, .int .i64 y.sq, .int .i64 y.kd, .int .i64 y.oa, .int .i64 y.ob, .int .i64 y.oc, .int .i64 y.od] 37 ∧ a' = { tmps := #[.agg #[.int .i64 x0, .int .i64 x1, .slice A n cc], .int .i64 x, .int .i64 k, .pointer (some ⟨w.heap.size, 0, none⟩), undef, .pointer (some ⟨w.heap.size + 1, 0, none⟩), .slice none 0 0, .pointer (some ⟨qp, 0, none⟩), .pointer (some ⟨Bx, 0, none⟩), .agg #[.int .i64 x0, .int .i64 x1, .slice A n cc], .bool true, .bool false, .bool false, .int .i64 k, .bool false, .bool false, .agg #[.int .i64 x0, .int .i64 x1, .slice A n cc], .int .i64 x, .func (.func 68) #[] #[.pointer (some ⟨w3.heap.size, 0, none⟩), .pointer (some ⟨w3.heap.size + 1, 0, none⟩), .pointer (some ⟨w3.heap.size + 1 + 1, 0, none⟩)], .agg #[.int .i64 y.idx, .int .i64 y.tm, .int .i64 y.cl, .int .i64 y.sq, .int .i64 y.kd, .int .i64 y.oa, .int .i64 y.ob, .int .i64 y.oc, .int .i64 y.od], undef, undef, undef, undef, undef, undef, undef, undef, undef], defers := [] })
        ?hAx ?assign ?body ?done ?stop
      case hAx =>
        rintro y a' s W W' row ⟨Bx, h1, h2⟩ hg hr
        exact ⟨Bx, ownFrom_blk (β := Unit) _ _ _ _ () W W' row h1 hg hr, h2⟩
      case assign =>
        rintro l0 pre y W K hI hK
        simp only [encE]
        gi_wp2
        exact hK _ _ ((KeepsOthers.alloc _ _).from _) (keepB_more hI.2.1.size0 (Nat.lt_of_lt_of_le K0.out.lt hI.2.2) (Nat.lt_of_lt_of_le K1.out.lt hI.2.2) (Nat.lt_of_lt_of_le K2.out.lt hI.2.2) _) ⟨hI.1, hI.2.1.more _, Nat.le_trans hI.2.2 (by simp)⟩ ⟨W.heap.size, Blk.new _ _ _, rfl⟩
      case body =>
        rintro l0 pre y a' W hl _ ⟨hkk, ⟨G, m, gc, fp, hg, S, cI⟩, hM⟩ ⟨Bx, hBx, rfl⟩ hlt
        have hm : m ≤ 1048577 := by
          have hg' : m = pre.length := hg
          omega
        obtain ⟨e0, e1, e2, e3, e4, e5, e6, e7, e8⟩ := y
        simp only at hBx S
        have HG := Lib.hid hg
        have HSW := Lib.hid S
        have X0 : W.cell? ⟨Bx, 0, none⟩ = some (.int .i64 e0) := hBx.cell 0
        have X1 : W.cell? ⟨Bx, 1, none⟩ = some (.int .i64 e1) := hBx.cell 1
        have X2 : W.cell? ⟨Bx, 2, none⟩ = some (.int .i64 e2) := hBx.cell 2
        have X3 : W.cell? ⟨Bx, 3, none⟩ = some (.int .i64 e3) := hBx.cell 3
        have X4 : W.cell? ⟨Bx, 4, none⟩ = some (.int .i64 e4) := hBx.cell 4
        have X5 : W.cell? ⟨Bx, 5, none⟩ = some (.int .i64 e5) := hBx.cell 5
        have X6 : W.cell? ⟨Bx, 6, none⟩ = some (.int .i64 e6) := hBx.cell 6
        have X7 : W.cell? ⟨Bx, 7, none⟩ = some (.int .i64 e7) := hBx.cell 7
        have X8 : W.cell? ⟨Bx, 8, none⟩ = some (.int .i64 e8) := hBx.cell 8
        have f0 : W.cell? ⟨qp, 0, none⟩ = some (.slice G m gc) := (S.at_ 1 rfl).cell 0
        have S1 := S.boxAt cI.size (W.heap.size) rfl #[.int .i64 e0, .int .i64 e1, .int .i64 e2, .int .i64 e3, .int .i64 e4, .int .i64 e5, .int .i64 e6, .int .i64 e7, .int .i64 e8] 37
        have c1 := cI.alloc cI.size (.cells #[.int .i64 e0, .int .i64 e1, .int .i64 e2, .int .i64 e3, .int .i64 e4, .int .i64 e5, .int .i64 e6, .int .i64 e7, .int .i64 e8] 37)
        have K3 := Lib.hid (KeepsOthers.alloc W (.cells #[.int .i64 e0, .int .i64 e1, .int .i64 e2, .int .i64 e3, .int .i64 e4, .int .i64 e5, .int .i64 e6, .int .i64 e7, .int .i64 e8] 37))
        have Q1 := Lib.hid ((Below.refl w.heap.size W).alloc cI.size (.cells #[.int .i64 e0, .int .i64 e1, .int .i64 e2, .int .i64 e3, .int .i64 e4, .int .i64 e5, .int .i64 e6, .int .i64 e7, .int .i64 e8] 37))
        have HC : ∀ i, i < 9 → (W.alloc (.cells #[.int .i64 e0, .int .i64 e1, .int .i64 e2, .int .i64 e3, .int .i64 e4, .int .i64 e5, .int .i64 e6, .int .i64 e7, .int .i64 e8] 37)).cell? ⟨W.heap.size, i, none⟩ = [Value.int .i64 e0, Value.int .i64 e1, Value.int .i64 e2, Value.int .i64 e3, Value.int .i64 e4, Value.int .i64 e5, Value.int .i64 e6, Value.int .i64 e7, Value.int .i64 e8][i]? := fun i hi => by
          have h1 := (S1.at_ 0 rfl).cell i
          rw [h1]
          simp
        replace S1 := (S1.tail).own0 (ds := entC (⟨e0, e1, e2, e3, e4, e5, e6, e7, e8⟩ : EntM)) (vs := [.int .i64 e0, .int .i64 e1, .int .i64 e2, .int .i64 e3, .int .i64 e4, .int .i64 e5, .int .i64 e6, .int .i64 e7, .int .i64 e8]) (.int (.int (.int (.int (.int (.int (.int (.int (.int (.nil))))))))))
        replace S1 := S1.swap
        have HH1 := Lib.hid hkk
        clear hBx S hg S0 C0 HH HP hkk
        by_cases hb : (m : Int) + 1 = k
        case pos =>
          have b1 : (((m + 1 : Nat) : Int) == k) = true := by simp; omega
          have b2 : (((m : Int) + 1) == k) = true := by simp; omega
          have b3 : decide (((m : Int) + 1) = k) = true := by simp; omega
          gi_wp2_with (first
            | (gi_at_builtin
               refine wpListIn_append_elem (l := pre) (y := (⟨e0, e1, e2, e3, e4, e5, e6, e7, e8⟩ : EntM)) rfl (.tmp 20) (.tmp 22) (by rfl) Try.underlying27 infoEntry (by rfl) (by decide) entC_len (by rfl) (S1.own_ 0 rfl) (S1.nodup_own 0 rfl) (by rfl) HC (S1.own_ 1 rfl) (S1.nodup_own 1 rfl) S1.apart (by omega) (by omega) ?_
               intro A3 c3 w3 fp3 o3 n3 s3 t3
               have S3 := S1.merge t3 o3 n3 s3 c1.size
               have S4 := S3.put 1 rfl 0 (.slice A3 (m + 1) c3)
               have g0 := (S3.at_ 1 rfl).cell 0
               have g1 := (S3.at_ 1 rfl).free 0
               have g2 := (S4.at_ 5 rfl).cell 0
               have g3 := (S4.at_ 1 rfl).cell 0))
          have HS := Lib.hid S4
          have HK := Lib.hid ((K3.out.trans (keeps_own t3 (S1.own_ 0 rfl))).trans (KeepsOthers.setCell w3 ⟨qp, 0, none⟩ (.slice A3 (m + 1) c3)))
          have HQ := Lib.hid ((Q1.out.trans (S1.below 0 rfl t3 c1.size)).setCell (p := ⟨qp, 0, none⟩) (HSW.out.base_le 1 rfl) (.slice A3 (m + 1) c3))
          have hln : (pre ++ [(⟨e0, e1, e2, e3, e4, e5, e6, e7, e8⟩ : EntM)]).length = m + 1 := by rw [HG.out, List.length_append, List.length_singleton]
          exact ⟨HK.out.from _, rfl, by rw [hln]; exact hb, A3, m + 1, c3, fp3, hln.symm, HS.out, cI.trans HQ.out⟩
        case neg =>
          have b1 : (((m + 1 : Nat) : Int) == k) = false := by simp; omega
          have b2 : (((m : Int) + 1) == k) = false := by simp; omega
          have b3 : decide (((m : Int) + 1) = k) = false := by simp; omega
          gi_wp2_with (first
            | (gi_at_builtin
               refine wpListIn_append_elem (l := pre) (y := (⟨e0, e1, e2, e3, e4, e5, e6, e7, e8⟩ : EntM)) rfl (.tmp 20) (.tmp 22) (by rfl) Try.underlying27 infoEntry (by rfl) (by decide) entC_len (by rfl) (S1.own_ 0 rfl) (S1.nodup_own 0 rfl) (by rfl) HC (S1.own_ 1 rfl) (S1.nodup_own 1 rfl) S1.apart (by omega) (by omega) ?_
               intro A3 c3 w3 fp3 o3 n3 s3 t3
               have S3 := S1.merge t3 o3 n3 s3 c1.size
               have S4 := S3.put 1 rfl 0 (.slice A3 (m + 1) c3)
               have g0 := (S3.at_ 1 rfl).cell 0
               have g1 := (S3.at_ 1 rfl).free 0
               have g2 := (S4.at_ 5 rfl).cell 0
               have g3 := (S4.at_ 1 rfl).cell 0))
          have HS := Lib.hid S4
          have HK := Lib.hid ((K3.out.trans (keeps_own t3 (S1.own_ 0 rfl))).trans (KeepsOthers.setCell w3 ⟨qp, 0, none⟩ (.slice A3 (m + 1) c3)))
          have HQ := Lib.hid ((Q1.out.trans (S1.below 0 rfl t3 c1.size)).setCell (p := ⟨qp, 0, none⟩) (HSW.out.base_le 1 rfl) (.slice A3 (m + 1) c3))
          have hln : (pre ++ [(⟨e0, e1, e2, e3, e4, e5, e6, e7, e8⟩ : EntM)]).length = m + 1 := by rw [HG.out, List.length_append, List.length_singleton]
          exact ⟨HK.out.from _, ⟨HQ.out, (HS.out.at_ 4 rfl).trans (HSW.out.at_ 4 rfl).symm, (HS.out.at_ 3 rfl).trans (HSW.out.at_ 3 rfl).symm, (HS.out.at_ 2 rfl).trans (HSW.out.at_ 2 rfl).symm⟩, by rw [hln]; have h8 : m = pre.length := HG.out; have := HH1.out; rw [← h8] at this; omega, ⟨A3, m + 1, c3, fp3, hln.symm, HS.out, cI.trans HQ.out⟩, Nat.le_trans hM HK.out.size⟩
      case done =>
        rintro D ys W hD rfl ⟨hkk, ⟨G, m, gc, fp, hg, S, cI⟩, hM⟩ hK
        have f0 : W.cell? ⟨qp, 0, none⟩ = some (.slice G m gc) := (S.at_ 1 rfl).cell 0
        have HV := Lib.hid (HP.out _ (List.prefix_refl _) (.inl ⟨rfl, hkk⟩))
        have HS := Lib.hid (S.putObj (.deferred none) hK rfl).first
        have HC := Lib.hid (below_shut cI (Nat.le_trans hsz hD) hK)
        have HK := Lib.hid hK
        have HG := Lib.hid hg
        clear S cI hK hg S0 C0 K0 K1 K2 hkk
        go_wp2
        exact postM_ret1 (v := .slice G m gc) rfl HK.out (by simp [results, Try.results41, go_sem]) ⟨G, m, gc, rfl, by rw [HV.out]; exact HS.out, HC.out⟩
      case stop =>
        rintro D c' pre W hD ⟨hp, _⟩ ⟨rfl, hkk, G, m, gc, fp, hg, S, cI⟩ hK
        have f0 : W.cell? ⟨qp, 0, none⟩ = some (.slice G m gc) := (S.at_ 1 rfl).cell 0
        have HV := Lib.hid (HP.out pre hp (.inr hkk))
        have HS := Lib.hid (S.putObj (.deferred none) hK rfl).first
        have HC := Lib.hid (below_shut cI (Nat.le_trans hsz hD) hK)
        have HK := Lib.hid hK
        have HG := Lib.hid hg
        clear S cI hK hg S0 C0 K0 K1 K2 hkk
        gi_wp2
        go_wp2
        exact postM_ret1 (v := .slice G m gc) rfl HK.out (by simp [results, Try.results41, go_sem]) ⟨G, m, gc, rfl, by rw [HV.out]; exact HS.out, HC.out⟩

end Go.Proofs.Ytnjfdnjakogpmaa
