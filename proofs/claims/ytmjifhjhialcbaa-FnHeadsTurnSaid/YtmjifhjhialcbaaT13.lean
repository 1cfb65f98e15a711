/- Parts of my texts: MarkO MarkS1. -/
import Derived.Test.YtmjifhjhialcbaaT8
import Derived.Laws.EntriesVeiled
namespace Go.Proofs.Ytmjifhjhialcbaa
set_option maxRecDepth 100000
set_option linter.unusedVariables false
open Go.RowKit
def doneA (l : List MarkM) (c : Int) (j : Nat) : Bool := (l.take j).any fun y => decide (c ≤ y.mc)
def outA (l : List MarkM) (x : MarkM) (j : Nat) : List MarkM := ((l.take j).filter fun y => decide (y.mc < x.mc)) ++ (if doneA l x.mc j = true then x :: ((l.take j).filter fun y => decide (x.mc < y.mc)) else [])
theorem outA_zero (l : List MarkM) (x : MarkM) : outA l x 0 = [] := by
 unfold outA doneA
 simp
theorem doneA_zero (l : List MarkM) (c : Int) : doneA l c 0 = false := by
 unfold doneA
 simp
theorem doneA_step {l : List MarkM} {c : Int} {j : Nat} (hj : j < l.length) : doneA l c (j + 1) = (doneA l c j || decide (c ≤ l[j].mc)) := by
 unfold doneA
 rw [List.take_succ_eq_append_getElem hj, List.any_append]
 simp
theorem doneA_no {l : List MarkM} (h : seenB l = true) {c : Int} {j : Nat} (hj : j < l.length) (hc : l[j].mc ≤ c) : doneA l c j = false := by
 rw [Bool.eq_false_iff]
 intro h9
 unfold doneA at h9
 rw [List.any_eq_true] at h9
 obtain ⟨y, hy, h8⟩ := h9
 obtain ⟨i, hi, rfl⟩ := List.getElem_of_mem hy
 rw [List.length_take] at hi
 rw [List.getElem_take, decide_eq_true_eq] at h8
 have := seen_rise h j hj i (by omega)
 omega
theorem filt_step {l : List MarkM} {p : MarkM → Bool} {j : Nat} (hj : j < l.length) : (l.take (j + 1)).filter p = (l.take j).filter p ++ (if p l[j] = true then [l[j]] else []) := by
 rw [List.take_succ_eq_append_getElem hj, List.filter_append, List.filter_cons]
 simp
theorem outA_lt {l : List MarkM} (h : seenB l = true) {x : MarkM} {j : Nat} (hj : j < l.length) (hc : l[j].mc < x.mc) : outA l x (j + 1) = outA l x j ++ [l[j]] ∧ doneA l x.mc j = false ∧ doneA l x.mc (j + 1) = false := by
 have h1 := doneA_no h hj (c := x.mc) (by omega)
 have h2 : doneA l x.mc (j + 1) = false := by rw [doneA_step hj, h1, decide_eq_false (by omega)]; rfl
 refine ⟨?_, h1, h2⟩
 unfold outA
 rw [h1, h2, filt_step hj, if_pos (decide_eq_true hc)]
 simp
theorem filt_gt_nil {l : List MarkM} {c : Int} {j : Nat} (h : doneA l c j = false) : ((l.take j).filter fun y => decide (c < y.mc)) = [] := by
 rw [List.filter_eq_nil_iff]
 intro y hy h9
 rw [Bool.eq_false_iff] at h
 apply h
 unfold doneA
 rw [List.any_eq_true]
 refine ⟨y, hy, ?_⟩
 simp at h9 ⊢
 omega
theorem outA_eq {l : List MarkM} (h : seenB l = true) {x : MarkM} {j : Nat} (hj : j < l.length) (hc : l[j].mc = x.mc) : outA l x (j + 1) = outA l x j ++ [x] ∧ doneA l x.mc j = false ∧ doneA l x.mc (j + 1) = true := by
 have h1 := doneA_no h hj (c := x.mc) (by omega)
 have h2 : doneA l x.mc (j + 1) = true := by rw [doneA_step hj, decide_eq_true (by omega), Bool.or_true]
 refine ⟨?_, h1, h2⟩
 unfold outA
 rw [h1, h2, if_pos rfl, filt_step hj, filt_step hj, if_neg (by simp; omega), if_neg (by simp; omega), filt_gt_nil h1]
 simp
theorem outA_gt_no {l : List MarkM} {x : MarkM} {j : Nat} (hj : j < l.length) (hc : x.mc < l[j].mc) (h1 : doneA l x.mc j = false) : outA l x (j + 1) = (outA l x j ++ [x]) ++ [l[j]] ∧ doneA l x.mc (j + 1) = true := by
 have h2 : doneA l x.mc (j + 1) = true := by rw [doneA_step hj, decide_eq_true (by omega), Bool.or_true]
 refine ⟨?_, h2⟩
 unfold outA
 rw [h1, h2, if_pos rfl, filt_step hj, filt_step hj, if_neg (by simp; omega), if_pos (by simp; omega), filt_gt_nil h1]
 simp
theorem outA_gt_yes {l : List MarkM} {x : MarkM} {j : Nat} (hj : j < l.length) (hc : x.mc < l[j].mc) (h1 : doneA l x.mc j = true) : outA l x (j + 1) = outA l x j ++ [l[j]] ∧ doneA l x.mc (j + 1) = true := by
 have h2 : doneA l x.mc (j + 1) = true := by rw [doneA_step hj, h1, Bool.true_or]
 refine ⟨?_, h2⟩
 unfold outA
 rw [h1, h2, if_pos rfl, filt_step hj, filt_step hj, if_neg (by simp; omega), if_pos (by simp; omega)]
 simp
theorem outA_end_yes {l : List MarkM} {x : MarkM} (h1 : doneA l x.mc l.length = true) : outA l x l.length = insM l x := by
 unfold outA insM
 rw [h1, if_pos rfl, List.take_length]
theorem outA_end_no {l : List MarkM} {x : MarkM} (h1 : doneA l x.mc l.length = false) : outA l x l.length ++ [x] = insM l x := by
 have h2 := filt_gt_nil h1
 rw [List.take_length] at h2
 unfold outA insM
 rw [h1, h2, List.take_length]
 simp
theorem mrk_flat : ∀ x : MarkM, mrkC x = (mrkNs x).flatMap fun y => [Dat.int y] := fun _ => rfl
set_option maxHeartbeats 3200000 in
theorem sCopyMs_any (A : Option Addr) (n cc B : Nat) (l : List MarkM) (w : World) (h : Rd w B [mrkD l] [.slice A n cc]) (hB : B ≤ w.heap.size) (hs : mrkSz l ≤ 1048577) :
    Calls Try.prog 71 #[.slice A n cc] w fun e w' => ∃ (A2 : Option Addr) (c2 : Nat), e = .returned (.slice A2 n c2) ∧ Has w' w.heap.size [mrkD l] [.slice A2 n c2] ∧ Below w.heap.size w w' := by
 obtain ⟨_, _, _, e, hl, _, hcm, _⟩ := h.mrks
 injection e with e1 e2 e3
 subst e1 e2 e3
 have hn : n ≤ 1048577 := by unfold mrkSz at hs; omega
 have S := Sep.nil w w.heap.size
 have c := Below.refl w.heap.size w
 replace S := S.boxAt c.size (w.heap.size) rfl #[] 76
 replace c := al c S
 have hsr := Rd.src (f := mrkC) (g := mrkNs) (l := l) (e := 76) (k := 3) mrk_flat (fun _ => rfl) (by decide) (h.keep (c.mono hB))
 replace S := S.blk0 (k := 3) (f := mrkC)
 replace S := (S.flat (f := mrkC) (g := mrkNs) mrk_flat l).swap
 have hgc := jd c
 clear h c hcm
 go_enter Try.func71, Try.ntmps71
 go_wp2_with (first
  | (at_builtin
     refine wpList_append_fresh (f := mrkC) (k := 3) (l2 := l) rfl (.tmp 3) (.tmp 4) (by rfl) Try.underlying38 infoMark (by rfl) (by decide) mrkC_len (by rfl) (S.own_ 0 rfl) (S.nodup_own 0 rfl) (by rfl) hsr.1 (S.own_ 1 rfl) hsr.2 (S.nodup_own 1 rfl) S.apart (by omega) (by omega) ?_
     intro A3 c3 w3 fp3 o3 n3 s3 t3))
 have H := jd (S.merge t3 o3 n3 s3 hgc.out.size).first
 have C := jd (hgc.out.trans (S.below 0 rfl t3 hgc.out.size))
 clear S o3 n3 s3 t3 hgc hsr
 go_ret
 exact ⟨_, _, rfl, H.out, C.out⟩
end Go.Proofs.Ytmjifhjhialcbaa
