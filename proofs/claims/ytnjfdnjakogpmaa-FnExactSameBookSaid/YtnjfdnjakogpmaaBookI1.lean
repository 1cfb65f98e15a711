/-
  Chapter 8: the iterator over a book's entries, of the program: its contract; entries collected from it.
-/
import Derived.Test.YtnjfdnjakogpmaaIter
import Derived.Test.YtnjfdnjakogpmaaBookC
namespace Go.Proofs.Ytnjfdnjakogpmaa
set_option maxRecDepth 100000
open Go.RowKit
attribute [local go_sem] Oper.semAt_some

def encE (e : EntM) : Array Value := #[.agg #[.int .i64 e.idx, .int .i64 e.tm, .int .i64 e.cl, .int .i64 e.sq, .int .i64 e.kd, .int .i64 e.oa, .int .i64 e.ob, .int .i64 e.oc, .int .i64 e.od]]
def inE (a z : Int) (e : EntM) : Bool := decide (a ≤ e.idx) && decide (e.idx ≤ z)
def selN (l : List EntM) (a z : Int) (j : Nat) : List EntM := (l.take j).filter (inE a z)
def selE (l : List EntM) (a z : Int) : List EntM := l.filter (inE a z)
theorem selN_yes {l : List EntM} {a z : Int} {j : Nat} (hj : j < l.length) (h : inE a z l[j] = true) : selN l a z (j + 1) = selN l a z j ++ [l[j]] := by
  unfold selN
  rw [List.take_succ_eq_append_getElem hj, List.filter_append]
  simp [h]
theorem selN_no {l : List EntM} {a z : Int} {j : Nat} (hj : j < l.length) (h : inE a z l[j] = false) : selN l a z (j + 1) = selN l a z j := by
  unfold selN
  rw [List.take_succ_eq_append_getElem hj, List.filter_append]
  simp [h]
theorem selN_all {l : List EntM} {a z : Int} : selN l a z l.length = selE l a z := by
  unfold selN selE
  rw [List.take_length]
theorem selN_pre (l : List EntM) (a z : Int) (j : Nat) : selN l a z j <+: selE l a z := by
  unfold selN selE
  exact (List.take_prefix j l).filter _
theorem selN_lt {l : List EntM} {a z : Int} {j : Nat} (hj : j < l.length) (h : inE a z l[j] = true) : (selN l a z j).length < (selE l a z).length := by
  have h1 := (selN_pre l a z (j + 1)).length_le
  rw [selN_yes hj h, List.length_append, List.length_singleton] at h1
  omega

theorem iEntriesIn_any (x0 x1 : Int) (A : Option Addr) (n cc : Nat) (a z : Int) (w : World) :
    Calls Try.prog 55 #[.agg #[.int .i64 x0, .int .i64 x1, .slice A n cc], .int .i64 a, .int .i64 z] w fun e w' => e = .returned (.func (.func 68) #[] #[.pointer (some ⟨w.heap.size, 0, none⟩), .pointer (some ⟨w.heap.size + 1, 0, none⟩), .pointer (some ⟨w.heap.size + 1 + 1, 0, none⟩)]) ∧ w' = ((w.alloc (.cells #[.int .i64 x0, .int .i64 x1, .slice A n cc] 29)).alloc (.cells #[.int .i64 a] 2)).alloc (.cells #[.int .i64 z] 2) := by
  go_enter Try.func55, Try.ntmps55
  go_wp2
  go_ret
  exact ⟨rfl, rfl⟩

set_option maxHeartbeats 6400000 in
theorem iIter_in (l0 bb bf bl n₀ : Nat) (x0 x1 a z : Int) (A : Option Addr) (n cc : Nat) (es : List EntM) (Kp : World → World → Prop)
    (hKp : ∀ W W', Kp W W' → Below n₀ W W' ∧ W'.heap[bb]? = W.heap[bb]? ∧ W'.heap[bf]? = W.heap[bf]? ∧ W'.heap[bl]? = W.heap[bl]?)
    (J Jx : List EntM → World → Prop) (B9 : Nat) (hJ : AbidesFrom B9 J)
    (hY : ∀ pre x W1, J pre W1 → pre.length < (selE es a z).length → YieldAt Fence.wide (2 - 1) Try.prog l0 (encE x) W1 fun e W' => (e = .returned (.bool true) ∧ J (pre ++ [x]) W' ∧ Kp W1 W') ∨ (e = .returned (.bool false) ∧ Jx (pre ++ [x]) W'))
    (W : World) (h0 : Blk W bb #[.int .i64 x0, .int .i64 x1, .slice A n cc] 29) (h1 : Blk W bf #[.int .i64 a] 2) (h2 : Blk W bl #[.int .i64 z] 2)
    (hr : Rd W n₀ [entD es] [.slice A n cc]) (hn : n ≤ 1048577) (hB : n₀ ≤ W.heap.size) (hj0 : J [] W) :
    CallsIn Fence.wide 2 Try.prog 68 #[.func (.yield l0) #[] #[], .pointer (some ⟨bb, 0, none⟩), .pointer (some ⟨bf, 0, none⟩), .pointer (some ⟨bl, 0, none⟩)] W fun e W' => (∃ v, e = .returned v) ∧
      ((∃ xs, xs = selE es a z ∧ J xs W') ∨ (∃ pre, (pre <+: selE es a z ∧ pre ≠ []) ∧ Jx pre W')) := by
  refine callsIn_of_wp Try.func68 rfl trivial ?_ rfl
  simp only [Try.ntmps68, List.size_toArray, List.length_cons, List.length_nil, Nat.reduceAdd, Nat.reduceSub, Array.replicate_succ, Array.replicate_zero, List.push_toArray, List.append_toArray, List.nil_append, List.cons_append]
  have k0 : W.cell? ⟨bb, 2, none⟩ = some (.slice A n cc) := h0.cell 2
  gi_wp2
  gi_loopw [10] (fun i wr => ∃ j : Nat, j ≤ n ∧ i = .int .i64 (j : Int) ∧ J (selN es a z j) wr ∧ Blk wr bf #[.int .i64 a] 2 ∧ Blk wr bl #[.int .i64 z] 2 ∧ Rd wr n₀ [entD es] [.slice A n cc] ∧ n₀ ≤ wr.heap.size) (fun i _ => n - (intOf i).toNat)
  case atStart => exact ⟨0, Nat.zero_le _, rfl, hj0, h1, h2, hr, hB⟩
  case round =>
    obtain ⟨j, hj, rfl, hJs, b1, b2, hrd, hB2⟩ := hrel
    obtain ⟨_, _, _, e, hl, _, _, hel⟩ := hrd.ents
    injection e with e1 e2 e3
    subst e1 e2 e3
    have HJ := Lib.hid hJs
    have HR := Lib.hid hrd
    have B1 := Lib.hid b1
    have B2 := Lib.hid b2
    have HB := Lib.hid hB2
    have HL := Lib.hid hl
    clear h0 h1 h2 hr k0 hj0 hJs hrd hB hB2
    by_cases hlt : j < n
    case neg =>
      obtain rfl : j = n := by omega
      have HV := Lib.hid (show selN es a z j = selE es a z by rw [← HL.out, selN_all])
      clear b1 b2 hel hl
      gi_wp2
      go_end0
      exact ⟨⟨_, rfl⟩, .inl ⟨_, HV.out, HJ.out⟩⟩
    case pos =>
      obtain ⟨b, off, rfl, hb, hc⟩ := hel (by omega)
      have hjl : j < es.length := by have := HL.out; omega
      obtain ⟨hc0, hc1, hc2, hc3, hc4, hc5, hc6, hc7, hc8⟩ := hc j hjl
      obtain ⟨x, hx⟩ : ∃ x, x = es[j] := ⟨_, rfl⟩
      rw [← hx] at hc0 hc1 hc2 hc3 hc4 hc5 hc6 hc7 hc8
      have HY1 := Lib.hid (show inE a z x = true → selN es a z (j + 1) = selN es a z j ++ [x] from fun h => by rw [hx] at h ⊢; exact selN_yes hjl h)
      have HY0 := Lib.hid (show inE a z x = false → selN es a z (j + 1) = selN es a z j from fun h => by rw [hx] at h; exact selN_no hjl h)
      have HLT := Lib.hid (show inE a z x = true → (selN es a z j).length < (selE es a z).length from fun h => by rw [hx] at h; exact selN_lt hjl h)
      have HPR := Lib.hid (selN_pre es a z (j + 1))
      clear hx hc hel hl hjl
      obtain ⟨e0, e1, e2, e3, e4, e5, e6, e7, e8⟩ := x
      simp only at hc0 hc1 hc2 hc3 hc4 hc5 hc6 hc7 hc8
      have f0 : (wr.alloc (.cells #[.int .i64 e0, .int .i64 e1, .int .i64 e2, .int .i64 e3, .int .i64 e4, .int .i64 e5, .int .i64 e6, .int .i64 e7, .int .i64 e8] 37)).cell? ⟨bf, 0, none⟩ = some (.int .i64 a) := (b1.alloc _).cell 0
      have f1 : (wr.alloc (.cells #[.int .i64 e0, .int .i64 e1, .int .i64 e2, .int .i64 e3, .int .i64 e4, .int .i64 e5, .int .i64 e6, .int .i64 e7, .int .i64 e8] 37)).cell? ⟨bl, 0, none⟩ = some (.int .i64 z) := (b2.alloc _).cell 0
      have g1 := Lib.hid (b1.alloc (.cells #[.int .i64 e0, .int .i64 e1, .int .i64 e2, .int .i64 e3, .int .i64 e4, .int .i64 e5, .int .i64 e6, .int .i64 e7, .int .i64 e8] 37))
      have g2 := Lib.hid (b2.alloc (.cells #[.int .i64 e0, .int .i64 e1, .int .i64 e2, .int .i64 e3, .int .i64 e4, .int .i64 e5, .int .i64 e6, .int .i64 e7, .int .i64 e8] 37))
      have gr := Lib.hid (HR.out.keep ((Below.refl n₀ wr).alloc HB.out (.cells #[.int .i64 e0, .int .i64 e1, .int .i64 e2, .int .i64 e3, .int .i64 e4, .int .i64 e5, .int .i64 e6, .int .i64 e7, .int .i64 e8] 37)))
      have gB := Lib.hid (show n₀ ≤ (wr.alloc (.cells #[.int .i64 e0, .int .i64 e1, .int .i64 e2, .int .i64 e3, .int .i64 e4, .int .i64 e5, .int .i64 e6, .int .i64 e7, .int .i64 e8] 37)).heap.size by have := HB.out; simp; omega)
      have gJ := Lib.hid (hJ _ _ _ none HJ.out (World.grownBy_alloc wr (.cells #[.int .i64 e0, .int .i64 e1, .int .i64 e2, .int .i64 e3, .int .i64 e4, .int .i64 e5, .int .i64 e6, .int .i64 e7, .int .i64 e8] 37) none) (fun r e => by cases e))
      have HIN := Lib.hid (show inE a z ⟨e0, e1, e2, e3, e4, e5, e6, e7, e8⟩ = (decide (a ≤ e0) && decide (e0 ≤ z)) from rfl)
      clear b1 b2
      by_cases d1 : a ≤ e0
      case neg =>
        have d1' : e0 < a := by omega
        have HN := Lib.hid (HY0.out (by rw [HIN.out, decide_eq_false d1]; rfl))
        gi_wp2
        refine ⟨fun _ h => (by cases h), ?_⟩
        gi_wp2
        go_roundw
        case rel => exact ⟨j + 1, by omega, by go_num, by rw [HN.out]; exact gJ.out, g1.out, g2.out, gr.out, gB.out⟩
        case measure => simp [intOf]; omega
      case pos =>
        by_cases d2 : e0 ≤ z
        case neg =>
          have d2' : z < e0 := by omega
          have HN := Lib.hid (HY0.out (by rw [HIN.out, decide_eq_false d2, Bool.and_false]))
          gi_wp2
          refine ⟨fun _ h => (by cases h), ?_⟩
          gi_wp2
          go_roundw
          case rel => exact ⟨j + 1, by omega, by go_num, by rw [HN.out]; exact gJ.out, g1.out, g2.out, gr.out, gB.out⟩
          case measure => simp [intOf]; omega
        case pos =>
          have HIN1 := Lib.hid (show inE a z ⟨e0, e1, e2, e3, e4, e5, e6, e7, e8⟩ = true by rw [HIN.out, decide_eq_true d1, decide_eq_true d2]; rfl)
          have HN := Lib.hid (HY1.out HIN1.out)
          obtain ⟨fn, tmps, assign, body, hy, hR⟩ := hY _ ⟨e0, e1, e2, e3, e4, e5, e6, e7, e8⟩ _ gJ.out (HLT.out HIN1.out)
          simp only [encE] at hy
          have HRR := Lib.hid hR
          clear hR
          gi_wp2
          refine HRR.out.mono ?_
          rintro e W3 (⟨rfl, hJ3, hk3⟩ | ⟨rfl, hJx3⟩)
          · obtain ⟨q0, _, q1, q2⟩ := hKp _ _ hk3
            have G1 := Lib.hid (show Blk W3 bf #[.int .i64 a] 2 from q1.trans g1.out)
            have G2 := Lib.hid (show Blk W3 bl #[.int .i64 z] 2 from q2.trans g2.out)
            have GR := Lib.hid (gr.out.keep q0)
            have GB := Lib.hid (Nat.le_trans gB.out q0.size)
            have G3 := Lib.hid hJ3
            clear q0 q1 q2 hk3 hJ3 g1 g2 gr gB gJ HJ HR B1 B2
            gi_wp2
            go_roundw
            case rel => exact ⟨j + 1, by omega, by go_num, by rw [HN.out]; exact G3.out, G1.out, G2.out, GR.out, GB.out⟩
            case measure => simp [intOf]; omega
          · have G3 := Lib.hid hJx3
            clear hJx3
            gi_wp2
            refine bodyPost_ret (results_none rfl _ _ _) rfl ?_
            exact ⟨⟨_, rfl⟩, .inr ⟨_, ⟨by rw [← HN.out]; exact HPR.out, by simp⟩, G3.out⟩⟩

theorem iIter_stops (bb bf bl n₀ : Nat) (x0 x1 a z : Int) (A : Option Addr) (n cc : Nat) (es : List EntM) (Kp : World → World → Prop)
    (hKp : ∀ W W', Kp W W' → Below n₀ W W' ∧ W'.heap[bb]? = W.heap[bb]? ∧ W'.heap[bf]? = W.heap[bf]? ∧ W'.heap[bl]? = W.heap[bl]?)
    (w : World) (h0 : Blk w bb #[.int .i64 x0, .int .i64 x1, .slice A n cc] 29) (h1 : Blk w bf #[.int .i64 a] 2) (h2 : Blk w bl #[.int .i64 z] 2)
    (hr : Rd w n₀ [entD es] [.slice A n cc]) (hn : n ≤ 1048577) (hB : n₀ ≤ w.heap.size) :
    SeqStopsK Fence.wide 2 Try.prog 68 #[.pointer (some ⟨bb, 0, none⟩), .pointer (some ⟨bf, 0, none⟩), .pointer (some ⟨bl, 0, none⟩)] encE Kp (fun ys => ys = selE es a z) (fun pre => pre <+: selE es a z ∧ pre ≠ []) (selE es a z).length w :=
  fun l J Jx W hW hJ _ hY hj0 =>
    iIter_in l bb bf bl n₀ x0 x1 a z A n cc es Kp hKp J Jx W.heap.size hJ hY W (h0.keep hW h0.lt) (h1.keep hW h1.lt) (h2.keep hW h2.lt) (hr.keep (hW.mono hB)) hn (Nat.le_trans hB hW.size) hj0

end Go.Proofs.Ytnjfdnjakogpmaa
