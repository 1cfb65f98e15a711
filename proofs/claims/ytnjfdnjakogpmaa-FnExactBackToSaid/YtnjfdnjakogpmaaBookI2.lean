/-
  Chapter 8: entries collected from an iterator, of the program.
-/
import Derived.Test.YtnjfdnjakogpmaaBookI1
import Derived.Test.YtnjfdnjakogpmaaCutE
namespace Go.Proofs.Ytnjfdnjakogpmaa
set_option maxRecDepth 100000
open Go.RowKit
attribute [local go_sem] Oper.semAt_some

/-- A loop variable's box, by the number of its block. -/
theorem ownFrom_blk {β : Type} (B Bx : Nat) (cs : Array Value) (t : TypeId) : OwnFrom B (fun (_ : β) W => Blk W Bx cs t) := fun _ W W' row hs hg hr =>
  (hg.block Bx hs.lt (fun e => by
    obtain ⟨_, o, ho, hc⟩ := hr Bx e.symm
    rw [show W.heap[Bx]? = _ from hs] at ho
    injection ho with ho
    rw [← ho] at hc
    cases hc)).trans hs
theorem below_shut {w W : World} {D : Nat} (c : Below w.heap.size w W) (hD : w.heap.size ≤ D) (hK : W.heap[D]? = some (.deferred (some []))) : Below w.heap.size w (W.putObj D (.deferred none)) :=
  c.trans (belowK_b (w := w) (Nat.le_refl _) W D _ _ hD hK rfl rfl)

/-- So far 'pre' has been collected: an own slice, its box, and further pieces. -/
def CollG (w : World) (fix : List Item) (b : Nat) (pre : List EntM) (W : World) : Prop := ∃ (G : Option Addr) (m gc : Nat) (fp : List Nat), m = pre.length ∧ Sep W w.heap.size (.own [entD pre] [.slice G m gc] fp :: .blk b #[.slice G m gc] 27 :: fix) ∧ Below w.heap.size w W
theorem collG_own {w : World} {fix : List Item} {b B : Nat} (hB : w.heap.size ≤ B) : OwnFrom B (CollG w fix b) := fun _ _ _ _ hs hg hr => by
  obtain ⟨G, m, gc, fp, h1, h2, h3⟩ := hs
  exact ⟨G, m, gc, fp, h1, h2.turned hg fun r e => (hr r e).2, h3.grown hg h3.size fun k e => Nat.le_trans hB (hr k e).1⟩
theorem CollG.more {w W : World} {fix : List Item} {b : Nat} {pre : List EntM} (h : CollG w fix b pre W) (o : Obj) : CollG w fix b pre (W.alloc o) := by
  obtain ⟨G, m, gc, fp, h1, h2, h3⟩ := h
  exact ⟨G, m, gc, fp, h1, h2.keep ((Below.refl _ _).alloc (Nat.le_refl _) _), h3.alloc h3.size _⟩

set_option maxHeartbeats 6400000 in
theorem iAppendSeq_any (gf : Nat) (lb : Array Value) (xs : List EntM) (Sp : List EntM → Prop) (eg : ∀ args w, (callFunc gf args).run Try.prog w = .ok (.enter gf args) w) (w : World) (hlen : xs.length ≤ 1048576)
    (hseq : SeqStopsK Fence.wide 2 Try.prog gf lb encE (Below w.heap.size) (fun ys => ys = xs) Sp xs.length w) :
    Calls Try.prog 73 #[.slice none 0 0, .func (.func gf) #[] lb] w (MadeEntryS w xs) := by
  refine (callsIn_wide (n := 3)).1 ?_
  refine callsIn_of_wp_marks Try.func73 rfl trivial ?_ rfl
  simp only [Try.ntmps73, List.size_toArray, List.length_cons, List.length_nil, Nat.reduceAdd, Nat.reduceSub, Array.replicate_succ, Array.replicate_zero, List.push_toArray, List.append_toArray, List.nil_append, List.cons_append]
  gi_wp2
  have S := Sep.nil w w.heap.size
  have c := Below.refl w.heap.size w
  replace S := S.boxAt c.size (w.heap.size) rfl #[.slice none 0 0] 27
  replace c := c.alloc c.size (.cells #[.slice none 0 0] 27)
  replace S := S.own0 (ds := [entD []]) (vs := [.slice none 0 0]) (ow_nil_ents _)
  refine wpIn_rangeFunc_ownH rfl (by decide) (gf := gf) (lb := lb) rfl trivial eg hseq belowK_t (belowK_b (by simp)) c (fun _ => rfl)
    (CollG w [] w.heap.size)
    (fun _ _ _ => False)
    (collG_own c.size)
    (fun _ _ _ _ _ hs _ _ => hs)
    ⟨none, 0, 0, [], rfl, S, c⟩
    (fun x a' W => ∃ Bx, Blk W Bx #[.int .i64 x.idx, .int .i64 x.tm, .int .i64 x.cl, .int .i64 x.sq, .int .i64 x.kd, .int .i64 x.oa, .int .i64 x.ob, .int .i64 x.oc, .int .i64 x.od] 37 ∧ a' = { tmps := #[.slice none 0 0, .func (.func gf) #[] lb, .pointer (some ⟨w.heap.size, 0, none⟩), undef, .slice none 0 0, .pointer (some ⟨Bx, 0, none⟩), .func (.func gf) #[] lb, .agg #[.int .i64 x.idx, .int .i64 x.tm, .int .i64 x.cl, .int .i64 x.sq, .int .i64 x.kd, .int .i64 x.oa, .int .i64 x.ob, .int .i64 x.oc, .int .i64 x.od], undef, undef, undef, undef, undef], defers := [] })
    ?hAx ?assign ?body ?done ?stop
  case hAx =>
    rintro x a' s W W' row ⟨Bx, h1, h2⟩ hg hr
    exact ⟨Bx, ownFrom_blk (β := Unit) _ _ _ _ () W W' row h1 hg hr, h2⟩
  case assign =>
    rintro l pre x W K hI hK
    simp only [encE]
    gi_wp2
    exact hK _ _ ((KeepsOthers.alloc _ _).from _) ((Below.refl _ W).alloc (by obtain ⟨_, _, _, _, _, _, c⟩ := hI; exact c.size) _) (hI.more _) ⟨W.heap.size, Blk.new _ _ _, rfl⟩
  case body =>
    rintro l pre x a' W hl _ ⟨G, m, gc, fp, hg, S, cI⟩ ⟨Bx, hBx, rfl⟩ hlt
    have hm : m ≤ 1048577 := by
      have hg' : m = pre.length := hg
      omega
    obtain ⟨e0, e1, e2, e3, e4, e5, e6, e7, e8⟩ := x
    simp only at hBx S
    have HG := Lib.hid hg
    have X0 := (hBx.cell 0)
    have X1 := (hBx.cell 1)
    have X2 := (hBx.cell 2)
    have X3 := (hBx.cell 3)
    have X4 := (hBx.cell 4)
    have X5 := (hBx.cell 5)
    have X6 := (hBx.cell 6)
    have X7 := (hBx.cell 7)
    have X8 := (hBx.cell 8)
    simp only [List.getElem?_toArray, List.getElem?_cons_zero, List.getElem?_cons_succ] at X0 X1 X2 X3 X4 X5 X6 X7 X8
    have f0 : W.cell? ⟨w.heap.size, 0, none⟩ = some (.slice G m gc) := (S.at_ 1 rfl).cell 0
    have S1 := S.boxAt cI.size (W.heap.size) rfl #[.int .i64 e0, .int .i64 e1, .int .i64 e2, .int .i64 e3, .int .i64 e4, .int .i64 e5, .int .i64 e6, .int .i64 e7, .int .i64 e8] 37
    have c1 := cI.alloc cI.size (.cells #[.int .i64 e0, .int .i64 e1, .int .i64 e2, .int .i64 e3, .int .i64 e4, .int .i64 e5, .int .i64 e6, .int .i64 e7, .int .i64 e8] 37)
    have K1 := Lib.hid (KeepsOthers.alloc W (.cells #[.int .i64 e0, .int .i64 e1, .int .i64 e2, .int .i64 e3, .int .i64 e4, .int .i64 e5, .int .i64 e6, .int .i64 e7, .int .i64 e8] 37))
    have Q1 := Lib.hid ((Below.refl w.heap.size W).alloc cI.size (.cells #[.int .i64 e0, .int .i64 e1, .int .i64 e2, .int .i64 e3, .int .i64 e4, .int .i64 e5, .int .i64 e6, .int .i64 e7, .int .i64 e8] 37))
    have HC : ∀ i, i < 9 → (W.alloc (.cells #[.int .i64 e0, .int .i64 e1, .int .i64 e2, .int .i64 e3, .int .i64 e4, .int .i64 e5, .int .i64 e6, .int .i64 e7, .int .i64 e8] 37)).cell? ⟨W.heap.size, i, none⟩ = [Value.int .i64 e0, Value.int .i64 e1, Value.int .i64 e2, Value.int .i64 e3, Value.int .i64 e4, Value.int .i64 e5, Value.int .i64 e6, Value.int .i64 e7, Value.int .i64 e8][i]? := fun i hi => by
      have h1 := (S1.at_ 0 rfl).cell i
      rw [h1]
      simp
    replace S1 := (S1.tail).own0 (ds := entC (⟨e0, e1, e2, e3, e4, e5, e6, e7, e8⟩ : EntM)) (vs := [.int .i64 e0, .int .i64 e1, .int .i64 e2, .int .i64 e3, .int .i64 e4, .int .i64 e5, .int .i64 e6, .int .i64 e7, .int .i64 e8]) (.int (.int (.int (.int (.int (.int (.int (.int (.int .nil)))))))))
    replace S1 := S1.swap
    clear hBx S c hg
    gi_wp2_with (first
      | (gi_at_builtin
         refine wpListIn_append_elem (l := pre) (y := (⟨e0, e1, e2, e3, e4, e5, e6, e7, e8⟩ : EntM)) rfl (.tmp 8) (.tmp 10) (by rfl) Try.underlying27 infoEntry (by rfl) (by decide) entC_len (by rfl) (S1.own_ 0 rfl) (S1.nodup_own 0 rfl) (by rfl) HC (S1.own_ 1 rfl) (S1.nodup_own 1 rfl) S1.apart (by omega) (by omega) ?_
         intro A3 c3 w3 fp3 o3 n3 s3 t3
         have S3 := S1.merge t3 o3 n3 s3 c1.size
         have g0 := (S3.at_ 1 rfl).cell 0
         have g1 := (S3.at_ 1 rfl).free 0))
    have HS := Lib.hid (S3.put 1 rfl 0 (.slice A3 (m + 1) c3))
    have HK := Lib.hid ((K1.out.trans (keeps_own t3 (S1.own_ 0 rfl))).trans (KeepsOthers.setCell w3 ⟨w.heap.size, 0, none⟩ (.slice A3 (m + 1) c3)))
    have HQ := Lib.hid ((Q1.out.trans (S1.below 0 rfl t3 c1.size)).setCell (p := ⟨w.heap.size, 0, none⟩) (Nat.le_refl _) (.slice A3 (m + 1) c3))
    exact ⟨HK.out.from _, HQ.out, A3, m + 1, c3, fp3, by rw [HG.out, List.length_append, List.length_singleton], HS.out, cI.trans HQ.out⟩
  case done =>
    rintro D ys W hD rfl ⟨G, m, gc, fp, hg, S, cI⟩ hK
    have f0 : W.cell? ⟨w.heap.size, 0, none⟩ = some (.slice G m gc) := (S.at_ 1 rfl).cell 0
    have HS := Lib.hid (S.putObj (.deferred none) hK rfl).first
    have HC := Lib.hid (below_shut cI (Nat.le_trans (by simp) hD) hK)
    have HK := Lib.hid hK
    have HG := Lib.hid hg
    clear S cI hK hg
    gi_wp2
    refine ⟨by simp, .inl ⟨_, _, rfl, run_takeDeferred HK.out, ?_⟩⟩
    exact ⟨_, results_tmp rfl _ _ _, G, m, gc, rfl, HS.out, HC.out⟩
  case stop =>
    rintro D c pre W _ _ h _
    exact h.elim

end Go.Proofs.Ytnjfdnjakogpmaa
