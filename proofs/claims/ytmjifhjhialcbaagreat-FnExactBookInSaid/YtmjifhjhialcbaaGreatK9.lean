/- Parts of my texts: MarkO MarkS1 EntS1 EntL EntS2. -/
import Derived.Test.YtmjifhjhialcbaaGreatK8
import Derived.Laws.EntriesVeiled
import Derived.Deep.MidRow
namespace Go.Proofs.YtmjifhjhialcbaaGreat
set_option maxRecDepth 100000
set_option linter.unusedVariables false
open Go.RowKit
def doneA (l : List MarkM) (c : Int) (j : Nat) : Bool := (l.take j).any fun y => decide (c ≤ y.mc)
def outA (l : List MarkM) (x : MarkM) (j : Nat) : List MarkM := ((l.take j).filter fun y => decide (y.mc < x.mc)) ++ (if doneA l x.mc j = true then x :: ((l.take j).filter fun y => decide (x.mc < y.mc)) else [])
theorem outA_zero (l : List MarkM) (x : MarkM) : outA l x 0 = [] := by
 unfold outA doneA
 simp
theorem doneA_zero (l : List MarkM) (c : Int) : doneA l c 0 = false := by
 unfold doneA
 simp
theorem doneA_step {l : List MarkM} {c : Int} {j : Nat} (hj : j < l.length) : doneA l c (j + 1) = (doneA l c j || decide (c ≤ l[j].mc)) := by
 unfold doneA
 rw [List.take_succ_eq_append_getElem hj, List.any_append]
 simp
theorem doneA_no {l : List MarkM} (h : seenB l = true) {c : Int} {j : Nat} (hj : j < l.length) (hc : l[j].mc ≤ c) : doneA l c j = false := by
 rw [Bool.eq_false_iff]
 intro h9
 unfold doneA at h9
 rw [List.any_eq_true] at h9
 obtain ⟨y, hy, h8⟩ := h9
 obtain ⟨i, hi, rfl⟩ := List.getElem_of_mem hy
 rw [List.length_take] at hi
 rw [List.getElem_take, decide_eq_true_eq] at h8
 have := seen_rise h j hj i (by omega)
 omega
theorem filt_step {l : List MarkM} {p : MarkM → Bool} {j : Nat} (hj : j < l.length) : (l.take (j + 1)).filter p = (l.take j).filter p ++ (if p l[j] = true then [l[j]] else []) := by
 rw [List.take_succ_eq_append_getElem hj, List.filter_append, List.filter_cons]
 simp
theorem outA_lt {l : List MarkM} (h : seenB l = true) {x : MarkM} {j : Nat} (hj : j < l.length) (hc : l[j].mc < x.mc) : outA l x (j + 1) = outA l x j ++ [l[j]] ∧ doneA l x.mc j = false ∧ doneA l x.mc (j + 1) = false := by
 have h1 := doneA_no h hj (c := x.mc) (by omega)
 have h2 : doneA l x.mc (j + 1) = false := by rw [doneA_step hj, h1, decide_eq_false (by omega)]; rfl
 refine ⟨?_, h1, h2⟩
 unfold outA
 rw [h1, h2, filt_step hj, if_pos (decide_eq_true hc)]
 simp
theorem filt_gt_nil {l : List MarkM} {c : Int} {j : Nat} (h : doneA l c j = false) : ((l.take j).filter fun y => decide (c < y.mc)) = [] := by
 rw [List.filter_eq_nil_iff]
 intro y hy h9
 rw [Bool.eq_false_iff] at h
 apply h
 unfold doneA
 rw [List.any_eq_true]
 refine ⟨y, hy, ?_⟩
 simp at h9 ⊢
 omega
theorem outA_eq {l : List MarkM} (h : seenB l = true) {x : MarkM} {j : Nat} (hj : j < l.length) (hc : l[j].mc = x.mc) : outA l x (j + 1) = outA l x j ++ [x] ∧ doneA l x.mc j = false ∧ doneA l x.mc (j + 1) = true := by
 have h1 := doneA_no h hj (c := x.mc) (by omega)
 have h2 : doneA l x.mc (j + 1) = true := by rw [doneA_step hj, decide_eq_true (by omega), Bool.or_true]
 refine ⟨?_, h1, h2⟩
 unfold outA
 rw [h1, h2, if_pos rfl, filt_step hj, filt_step hj, if_neg (by simp; omega), if_neg (by simp; omega), filt_gt_nil h1]
 simp
theorem outA_gt_no {l : List MarkM} {x : MarkM} {j : Nat} (hj : j < l.length) (hc : x.mc < l[j].mc) (h1 : doneA l x.mc j = false) : outA l x (j + 1) = (outA l x j ++ [x]) ++ [l[j]] ∧ doneA l x.mc (j + 1) = true := by
 have h2 : doneA l x.mc (j + 1) = true := by rw [doneA_step hj, decide_eq_true (by omega), Bool.or_true]
 refine ⟨?_, h2⟩
 unfold outA
 rw [h1, h2, if_pos rfl, filt_step hj, filt_step hj, if_neg (by simp; omega), if_pos (by simp; omega), filt_gt_nil h1]
 simp
theorem outA_gt_yes {l : List MarkM} {x : MarkM} {j : Nat} (hj : j < l.length) (hc : x.mc < l[j].mc) (h1 : doneA l x.mc j = true) : outA l x (j + 1) = outA l x j ++ [l[j]] ∧ doneA l x.mc (j + 1) = true := by
 have h2 : doneA l x.mc (j + 1) = true := by rw [doneA_step hj, h1, Bool.true_or]
 refine ⟨?_, h2⟩
 unfold outA
 rw [h1, h2, if_pos rfl, filt_step hj, filt_step hj, if_neg (by simp; omega), if_pos (by simp; omega)]
 simp
theorem outA_end_yes {l : List MarkM} {x : MarkM} (h1 : doneA l x.mc l.length = true) : outA l x l.length = insM l x := by
 unfold outA insM
 rw [h1, if_pos rfl, List.take_length]
theorem outA_end_no {l : List MarkM} {x : MarkM} (h1 : doneA l x.mc l.length = false) : outA l x l.length ++ [x] = insM l x := by
 have h2 := filt_gt_nil h1
 rw [List.take_length] at h2
 unfold outA insM
 rw [h1, h2, List.take_length]
 simp
theorem mrk_flat : ∀ x : MarkM, mrkC x = (mrkNs x).flatMap fun y => [Dat.int y] := fun _ => rfl
set_option maxHeartbeats 3200000 in
theorem sCopyMs_any (A : Option Addr) (n cc B : Nat) (l : List MarkM) (w : World) (h : Rd w B [mrkD l] [.slice A n cc]) (hB : B ≤ w.heap.size) (hs : mrkSz l ≤ 1048577) :
    Calls Tryz.prog 81 #[.slice A n cc] w fun e w' => ∃ (A2 : Option Addr) (c2 : Nat), e = .returned (.slice A2 n c2) ∧ Has w' w.heap.size [mrkD l] [.slice A2 n c2] ∧ Below w.heap.size w w' := by
 obtain ⟨_, _, _, e, hl, _, hcm, _⟩ := h.mrks
 injection e with e1 e2 e3
 subst e1 e2 e3
 have hn : n ≤ 1048577 := by unfold mrkSz at hs; omega
 have S := Sep.nil w w.heap.size
 have c := Below.refl w.heap.size w
 replace S := S.boxAt c.size (w.heap.size) rfl #[] 113
 replace c := al c S
 have hsr := Rd.src (f := mrkC) (g := mrkNs) (l := l) (e := 113) (k := 3) mrk_flat (fun _ => rfl) (by decide) (h.keep (c.mono hB))
 replace S := S.blk0 (k := 3) (f := mrkC)
 replace S := (S.flat (f := mrkC) (g := mrkNs) mrk_flat l).swap
 have hgc := jd c
 clear h c hcm
 go_enter Tryz.func81, Tryz.ntmps81
 go_wp2_with (first
  | (at_builtin
     refine wpList_append_fresh (f := mrkC) (k := 3) (l2 := l) rfl (.tmp 3) (.tmp 4) (by rfl) Tryz.underlying43 infoMark (by rfl) (by decide) mrkC_len (by rfl) (S.own_ 0 rfl) (S.nodup_own 0 rfl) (by rfl) hsr.1 (S.own_ 1 rfl) hsr.2 (S.nodup_own 1 rfl) S.apart (by omega) (by omega) ?_
     intro A3 c3 w3 fp3 o3 n3 s3 t3))
 have H := jd (S.merge t3 o3 n3 s3 hgc.out.size).first
 have C := jd (hgc.out.trans (S.below 0 rfl t3 hgc.out.size))
 clear S o3 n3 s3 t3 hgc hsr
 go_ret
 exact ⟨_, _, rfl, H.out, C.out⟩
theorem in_yes (x a b : Int) (w : World) (h : a ≤ x ∧ x ≤ b) : Calls Tryz.prog 133 #[.int .i64 x, .int .i64 a, .int .i64 b] w fun e w' => e = .returned (.bool true) ∧ w = w' := by
 have := in_any x a b w
 rw [decide_eq_true h.1, decide_eq_true h.2] at this
 exact this
theorem in_no (x a b : Int) (w : World) (h : ¬ (a ≤ x ∧ x ≤ b)) : Calls Tryz.prog 133 #[.int .i64 x, .int .i64 a, .int .i64 b] w fun e w' => e = .returned (.bool false) ∧ w = w' := by
 have := in_any x a b w
 rw [show (decide (a ≤ x) && decide (x ≤ b)) = false by simp; omega] at this
 exact this
theorem l7Key_yes (x : Int) (w : World) (h : 0 ≤ x ∧ x ≤ 9) : Calls Tryz.prog 228 #[.int .i64 x] w fun e w' => e = .returned (.bool true) ∧ w = w' := by
 have H := jd h
 clear h
 go_enter Tryz.func228, Tryz.ntmps228
 go_wp2_with (first | (go_at_call 133; refine (in_yes x 0 9 _ H.out).mono ?_; rintro e w' ⟨rfl, rfl⟩))
 go_ret
 exact ⟨rfl, rfl⟩
theorem l7Key_no (x : Int) (w : World) (h : ¬ (0 ≤ x ∧ x ≤ 9)) : Calls Tryz.prog 228 #[.int .i64 x] w fun e w' => e = .returned (.bool false) ∧ w = w' := by
 have H := jd h
 clear h
 go_enter Tryz.func228, Tryz.ntmps228
 go_wp2_with (first | (go_at_call 133; refine (in_no x 0 9 _ H.out).mono ?_; rintro e w' ⟨rfl, rfl⟩))
 go_ret
 exact ⟨rfl, rfl⟩
theorem l7Value_yes (x : Int) (w : World) (h : 0 ≤ x ∧ x ≤ 999) : Calls Tryz.prog 229 #[.int .i64 x] w fun e w' => e = .returned (.bool true) ∧ w = w' := by
 have H := jd h
 clear h
 go_enter Tryz.func229, Tryz.ntmps229
 go_wp2_with (first | (go_at_call 133; refine (in_yes x 0 999 _ H.out).mono ?_; rintro e w' ⟨rfl, rfl⟩))
 go_ret
 exact ⟨rfl, rfl⟩
theorem l7Value_no (x : Int) (w : World) (h : ¬ (0 ≤ x ∧ x ≤ 999)) : Calls Tryz.prog 229 #[.int .i64 x] w fun e w' => e = .returned (.bool false) ∧ w = w' := by
 have H := jd h
 clear h
 go_enter Tryz.func229, Tryz.ntmps229
 go_wp2_with (first | (go_at_call 133; refine (in_no x 0 999 _ H.out).mono ?_; rintro e w' ⟨rfl, rfl⟩))
 go_ret
 exact ⟨rfl, rfl⟩
theorem l7Id_yes (x : Int) (w : World) (h : 1 ≤ x ∧ x ≤ 20) : Calls Tryz.prog 230 #[.int .i64 x] w fun e w' => e = .returned (.bool true) ∧ w = w' := by
 have H := jd h
 clear h
 go_enter Tryz.func230, Tryz.ntmps230
 go_wp2_with (first | (go_at_call 133; refine (in_yes x 1 20 _ H.out).mono ?_; rintro e w' ⟨rfl, rfl⟩))
 go_ret
 exact ⟨rfl, rfl⟩
theorem l7Id_no (x : Int) (w : World) (h : ¬ (1 ≤ x ∧ x ≤ 20)) : Calls Tryz.prog 230 #[.int .i64 x] w fun e w' => e = .returned (.bool false) ∧ w = w' := by
 have H := jd h
 clear h
 go_enter Tryz.func230, Tryz.ntmps230
 go_wp2_with (first | (go_at_call 133; refine (in_no x 1 20 _ H.out).mono ?_; rintro e w' ⟨rfl, rfl⟩))
 go_ret
 exact ⟨rfl, rfl⟩
theorem l7Seq_yes (x : Int) (w : World) (h : 1 ≤ x ∧ x ≤ 2000) : Calls Tryz.prog 183 #[.int .i64 x] w fun e w' => e = .returned (.bool true) ∧ w = w' := by
 have H := jd h
 clear h
 go_enter Tryz.func183, Tryz.ntmps183
 go_wp2_with (first | (go_at_call 133; refine (in_yes x 1 2000 _ H.out).mono ?_; rintro e w' ⟨rfl, rfl⟩))
 go_ret
 exact ⟨rfl, rfl⟩
theorem l7Seq_no (x : Int) (w : World) (h : ¬ (1 ≤ x ∧ x ≤ 2000)) : Calls Tryz.prog 183 #[.int .i64 x] w fun e w' => e = .returned (.bool false) ∧ w = w' := by
 have H := jd h
 clear h
 go_enter Tryz.func183, Tryz.ntmps183
 go_wp2_with (first | (go_at_call 133; refine (in_no x 1 2000 _ H.out).mono ?_; rintro e w' ⟨rfl, rfl⟩))
 go_ret
 exact ⟨rfl, rfl⟩
theorem l7Index_yes (x : Int) (w : World) (h : 1 ≤ x ∧ x ≤ 2000) : Calls Tryz.prog 159 #[.int .i64 x] w fun e w' => e = .returned (.bool true) ∧ w = w' := by
 have H := jd h
 clear h
 go_enter Tryz.func159, Tryz.ntmps159
 go_wp2_with (first | (go_at_call 133; refine (in_yes x 1 2000 _ H.out).mono ?_; rintro e w' ⟨rfl, rfl⟩))
 go_ret
 exact ⟨rfl, rfl⟩
theorem l7Index_no (x : Int) (w : World) (h : ¬ (1 ≤ x ∧ x ≤ 2000)) : Calls Tryz.prog 159 #[.int .i64 x] w fun e w' => e = .returned (.bool false) ∧ w = w' := by
 have H := jd h
 clear h
 go_enter Tryz.func159, Tryz.ntmps159
 go_wp2_with (first | (go_at_call 133; refine (in_no x 1 2000 _ H.out).mono ?_; rintro e w' ⟨rfl, rfl⟩))
 go_ret
 exact ⟨rfl, rfl⟩
theorem TimeOk_yes (x : Int) (w : World) (h : 0 ≤ x ∧ x ≤ 1000000) : Calls Tryz.prog 134 #[.int .i64 x] w fun e w' => e = .returned (.bool true) ∧ w = w' := by
 have H := jd h
 clear h
 go_enter Tryz.func134, Tryz.ntmps134
 go_wp2_with (first | (go_at_call 133; refine (in_yes x 0 1000000 _ H.out).mono ?_; rintro e w' ⟨rfl, rfl⟩))
 go_ret
 exact ⟨rfl, rfl⟩
theorem TimeOk_no (x : Int) (w : World) (h : ¬ (0 ≤ x ∧ x ≤ 1000000)) : Calls Tryz.prog 134 #[.int .i64 x] w fun e w' => e = .returned (.bool false) ∧ w = w' := by
 have H := jd h
 clear h
 go_enter Tryz.func134, Tryz.ntmps134
 go_wp2_with (first | (go_at_call 133; refine (in_no x 0 1000000 _ H.out).mono ?_; rintro e w' ⟨rfl, rfl⟩))
 go_ret
 exact ⟨rfl, rfl⟩
theorem AskerOk_yes (x : Int) (w : World) (h : 2 ≤ x ∧ x ≤ 5) : Calls Tryz.prog 182 #[.int .i64 x] w fun e w' => e = .returned (.bool true) ∧ w = w' := by
 have H := jd h
 clear h
 go_enter Tryz.func182, Tryz.ntmps182
 go_wp2_with (first | (go_at_call 133; refine (in_yes x 2 5 _ H.out).mono ?_; rintro e w' ⟨rfl, rfl⟩))
 go_ret
 exact ⟨rfl, rfl⟩
theorem AskerOk_no (x : Int) (w : World) (h : ¬ (2 ≤ x ∧ x ≤ 5)) : Calls Tryz.prog 182 #[.int .i64 x] w fun e w' => e = .returned (.bool false) ∧ w = w' := by
 have H := jd h
 clear h
 go_enter Tryz.func182, Tryz.ntmps182
 go_wp2_with (first | (go_at_call 133; refine (in_no x 2 5 _ H.out).mono ?_; rintro e w' ⟨rfl, rfl⟩))
 go_ret
 exact ⟨rfl, rfl⟩
set_option maxHeartbeats 6400000 in
theorem sOpOk_any (x0 x1 x2 x3 x4 : Int) (w : World) :
    Calls Tryz.prog 188 #[.agg #[.int .i64 x0, .int .i64 x1, .int .i64 x2, .int .i64 x3, .int .i64 x4]] w fun e w' => e = .returned (.bool (opB ⟨x0, x1, x2, x3, x4⟩)) ∧ Below w.heap.size w w' := by
 by_cases h1 : x0 = 1
 · subst h1
   by_cases c1 : 0 ≤ x1 ∧ x1 ≤ 9
   · have C1 := jd c1
     by_cases c2 : 0 ≤ x2 ∧ x2 ≤ 999
     · have C2 := jd c2
       by_cases c3 : x3 = 0
       · subst c3
         by_cases c4 : x4 = 0
         · subst c4
           have HV := jd (show true = opB ⟨1, x1, x2, 0, 0⟩ by simp [opB, inB]; try omega)
           go_enter Tryz.func188, Tryz.ntmps188
           go_wp2_with (first
            | (go_at_call 228; refine (l7Key_yes x1 _ C1.out).mono ?_; rintro e w' ⟨rfl, rfl⟩)
            | (go_at_call 229; refine (l7Value_yes x2 _ C2.out).mono ?_; rintro e w' ⟨rfl, rfl⟩))
           go_ret
           exact ⟨ret_bool HV.out, (Below.refl _ _).alloc (Nat.le_refl _) _⟩
         · have HV := jd (show false = opB ⟨1, x1, x2, 0, x4⟩ by simp [opB, inB]; omega)
           have e4 : (x4 == 0) = false := by simpa using c4
           have d4 : decide (x4 = 0) = false := decide_eq_false c4
           go_enter Tryz.func188, Tryz.ntmps188
           go_wp2_with (first
            | (go_at_call 228; refine (l7Key_yes x1 _ C1.out).mono ?_; rintro e w' ⟨rfl, rfl⟩)
            | (go_at_call 229; refine (l7Value_yes x2 _ C2.out).mono ?_; rintro e w' ⟨rfl, rfl⟩))
           go_ret
           exact ⟨ret_bool HV.out, (Below.refl _ _).alloc (Nat.le_refl _) _⟩
       · have HV := jd (show false = opB ⟨1, x1, x2, x3, x4⟩ by simp [opB, inB]; omega)
         have e3 : (x3 == 0) = false := by simpa using c3
         have d3 : decide (x3 = 0) = false := decide_eq_false c3
         go_enter Tryz.func188, Tryz.ntmps188
         go_wp2_with (first
          | (go_at_call 228; refine (l7Key_yes x1 _ C1.out).mono ?_; rintro e w' ⟨rfl, rfl⟩)
          | (go_at_call 229; refine (l7Value_yes x2 _ C2.out).mono ?_; rintro e w' ⟨rfl, rfl⟩))
         go_ret
         exact ⟨ret_bool HV.out, (Below.refl _ _).alloc (Nat.le_refl _) _⟩
     · have C2 := jd c2
       have HV := jd (show false = opB ⟨1, x1, x2, x3, x4⟩ by simp [opB, inB]; omega)
       clear c2
       go_enter Tryz.func188, Tryz.ntmps188
       go_wp2_with (first
        | (go_at_call 228; refine (l7Key_yes x1 _ C1.out).mono ?_; rintro e w' ⟨rfl, rfl⟩)
        | (go_at_call 229; refine (l7Value_no x2 _ C2.out).mono ?_; rintro e w' ⟨rfl, rfl⟩))
       go_ret
       exact ⟨ret_bool HV.out, (Below.refl _ _).alloc (Nat.le_refl _) _⟩
   · have C1 := jd c1
     have HV := jd (show false = opB ⟨1, x1, x2, x3, x4⟩ by simp [opB, inB]; omega)
     clear c1
     go_enter Tryz.func188, Tryz.ntmps188
     go_wp2_with (first
      | (go_at_call 228; refine (l7Key_no x1 _ C1.out).mono ?_; rintro e w' ⟨rfl, rfl⟩))
     go_ret
     exact ⟨ret_bool HV.out, (Below.refl _ _).alloc (Nat.le_refl _) _⟩
 by_cases h2 : x0 = 2
 · subst h2
   by_cases c1 : 0 ≤ x1 ∧ x1 ≤ 9
   · have C1 := jd c1
     by_cases c2 : x2 = 0
     · subst c2
       by_cases c3 : x3 = 0
       · subst c3
         by_cases c4 : x4 = 0
         · subst c4
           have HV := jd (show true = opB ⟨2, x1, 0, 0, 0⟩ by simp [opB, inB]; try omega)
           go_enter Tryz.func188, Tryz.ntmps188
           go_wp2_with (first
            | (go_at_call 228; refine (l7Key_yes x1 _ C1.out).mono ?_; rintro e w' ⟨rfl, rfl⟩))
           go_ret
           exact ⟨ret_bool HV.out, (Below.refl _ _).alloc (Nat.le_refl _) _⟩
         · have HV := jd (show false = opB ⟨2, x1, 0, 0, x4⟩ by simp [opB, inB]; omega)
           have e4 : (x4 == 0) = false := by simpa using c4
           have d4 : decide (x4 = 0) = false := decide_eq_false c4
           go_enter Tryz.func188, Tryz.ntmps188
           go_wp2_with (first
            | (go_at_call 228; refine (l7Key_yes x1 _ C1.out).mono ?_; rintro e w' ⟨rfl, rfl⟩))
           go_ret
           exact ⟨ret_bool HV.out, (Below.refl _ _).alloc (Nat.le_refl _) _⟩
       · have HV := jd (show false = opB ⟨2, x1, 0, x3, x4⟩ by simp [opB, inB]; omega)
         have e3 : (x3 == 0) = false := by simpa using c3
         have d3 : decide (x3 = 0) = false := decide_eq_false c3
         go_enter Tryz.func188, Tryz.ntmps188
         go_wp2_with (first
          | (go_at_call 228; refine (l7Key_yes x1 _ C1.out).mono ?_; rintro e w' ⟨rfl, rfl⟩))
         go_ret
         exact ⟨ret_bool HV.out, (Below.refl _ _).alloc (Nat.le_refl _) _⟩
     · have HV := jd (show false = opB ⟨2, x1, x2, x3, x4⟩ by simp [opB, inB]; omega)
       have e2 : (x2 == 0) = false := by simpa using c2
       have d2 : decide (x2 = 0) = false := decide_eq_false c2
       go_enter Tryz.func188, Tryz.ntmps188
       go_wp2_with (first
        | (go_at_call 228; refine (l7Key_yes x1 _ C1.out).mono ?_; rintro e w' ⟨rfl, rfl⟩))
       go_ret
       exact ⟨ret_bool HV.out, (Below.refl _ _).alloc (Nat.le_refl _) _⟩
   · have C1 := jd c1
     have HV := jd (show false = opB ⟨2, x1, x2, x3, x4⟩ by simp [opB, inB]; omega)
     clear c1
     go_enter Tryz.func188, Tryz.ntmps188
     go_wp2_with (first
      | (go_at_call 228; refine (l7Key_no x1 _ C1.out).mono ?_; rintro e w' ⟨rfl, rfl⟩))
     go_ret
     exact ⟨ret_bool HV.out, (Below.refl _ _).alloc (Nat.le_refl _) _⟩
 by_cases h3 : x0 = 3
 · subst h3
   by_cases c1 : 1 ≤ x1 ∧ x1 ≤ 20
   · have C1 := jd c1
     by_cases c2 : 0 ≤ x2 ∧ x2 ≤ 1000000
     · have C2 := jd c2
       by_cases c3 : 0 ≤ x3 ∧ x3 ≤ 9
       · have C3 := jd c3
         by_cases c4 : 0 ≤ x4 ∧ x4 ≤ 999
         · have C4 := jd c4
           have HV := jd (show true = opB ⟨3, x1, x2, x3, x4⟩ by simp [opB, inB]; try omega)
           go_enter Tryz.func188, Tryz.ntmps188
           go_wp2_with (first
            | (go_at_call 230; refine (l7Id_yes x1 _ C1.out).mono ?_; rintro e w' ⟨rfl, rfl⟩)
            | (go_at_call 134; refine (TimeOk_yes x2 _ C2.out).mono ?_; rintro e w' ⟨rfl, rfl⟩)
            | (go_at_call 228; refine (l7Key_yes x3 _ C3.out).mono ?_; rintro e w' ⟨rfl, rfl⟩)
            | (go_at_call 229; refine (l7Value_yes x4 _ C4.out).mono ?_; rintro e w' ⟨rfl, rfl⟩))
           go_ret
           exact ⟨ret_bool HV.out, (Below.refl _ _).alloc (Nat.le_refl _) _⟩
         · have C4 := jd c4
           have HV := jd (show false = opB ⟨3, x1, x2, x3, x4⟩ by simp [opB, inB]; omega)
           clear c4
           go_enter Tryz.func188, Tryz.ntmps188
           go_wp2_with (first
            | (go_at_call 230; refine (l7Id_yes x1 _ C1.out).mono ?_; rintro e w' ⟨rfl, rfl⟩)
            | (go_at_call 134; refine (TimeOk_yes x2 _ C2.out).mono ?_; rintro e w' ⟨rfl, rfl⟩)
            | (go_at_call 228; refine (l7Key_yes x3 _ C3.out).mono ?_; rintro e w' ⟨rfl, rfl⟩)
            | (go_at_call 229; refine (l7Value_no x4 _ C4.out).mono ?_; rintro e w' ⟨rfl, rfl⟩))
           go_ret
           exact ⟨ret_bool HV.out, (Below.refl _ _).alloc (Nat.le_refl _) _⟩
       · have C3 := jd c3
         have HV := jd (show false = opB ⟨3, x1, x2, x3, x4⟩ by simp [opB, inB]; omega)
         clear c3
         go_enter Tryz.func188, Tryz.ntmps188
         go_wp2_with (first
          | (go_at_call 230; refine (l7Id_yes x1 _ C1.out).mono ?_; rintro e w' ⟨rfl, rfl⟩)
          | (go_at_call 134; refine (TimeOk_yes x2 _ C2.out).mono ?_; rintro e w' ⟨rfl, rfl⟩)
          | (go_at_call 228; refine (l7Key_no x3 _ C3.out).mono ?_; rintro e w' ⟨rfl, rfl⟩))
         go_ret
         exact ⟨ret_bool HV.out, (Below.refl _ _).alloc (Nat.le_refl _) _⟩
     · have C2 := jd c2
       have HV := jd (show false = opB ⟨3, x1, x2, x3, x4⟩ by simp [opB, inB]; omega)
       clear c2
       go_enter Tryz.func188, Tryz.ntmps188
       go_wp2_with (first
        | (go_at_call 230; refine (l7Id_yes x1 _ C1.out).mono ?_; rintro e w' ⟨rfl, rfl⟩)
        | (go_at_call 134; refine (TimeOk_no x2 _ C2.out).mono ?_; rintro e w' ⟨rfl, rfl⟩))
       go_ret
       exact ⟨ret_bool HV.out, (Below.refl _ _).alloc (Nat.le_refl _) _⟩
   · have C1 := jd c1
     have HV := jd (show false = opB ⟨3, x1, x2, x3, x4⟩ by simp [opB, inB]; omega)
     clear c1
     go_enter Tryz.func188, Tryz.ntmps188
     go_wp2_with (first
      | (go_at_call 230; refine (l7Id_no x1 _ C1.out).mono ?_; rintro e w' ⟨rfl, rfl⟩))
     go_ret
     exact ⟨ret_bool HV.out, (Below.refl _ _).alloc (Nat.le_refl _) _⟩
 by_cases h4 : x0 = 4
 · subst h4
   by_cases c1 : 1 ≤ x1 ∧ x1 ≤ 20
   · have C1 := jd c1
     by_cases c2 : 0 ≤ x2 ∧ x2 ≤ 1000
     · have C2 := jd c2
       by_cases c3 : x3 = 0
       · subst c3
         by_cases c4 : x4 = 0
         · subst c4
           have HV := jd (show true = opB ⟨4, x1, x2, 0, 0⟩ by simp [opB, inB]; try omega)
           go_enter Tryz.func188, Tryz.ntmps188
           go_wp2_with (first
            | (go_at_call 230; refine (l7Id_yes x1 _ C1.out).mono ?_; rintro e w' ⟨rfl, rfl⟩)
            | (go_at_call 133; refine (in_yes x2 0 1000 _ C2.out).mono ?_; rintro e w' ⟨rfl, rfl⟩))
           go_ret
           exact ⟨ret_bool HV.out, (Below.refl _ _).alloc (Nat.le_refl _) _⟩
         · have HV := jd (show false = opB ⟨4, x1, x2, 0, x4⟩ by simp [opB, inB]; omega)
           have e4 : (x4 == 0) = false := by simpa using c4
           have d4 : decide (x4 = 0) = false := decide_eq_false c4
           go_enter Tryz.func188, Tryz.ntmps188
           go_wp2_with (first
            | (go_at_call 230; refine (l7Id_yes x1 _ C1.out).mono ?_; rintro e w' ⟨rfl, rfl⟩)
            | (go_at_call 133; refine (in_yes x2 0 1000 _ C2.out).mono ?_; rintro e w' ⟨rfl, rfl⟩))
           go_ret
           exact ⟨ret_bool HV.out, (Below.refl _ _).alloc (Nat.le_refl _) _⟩
       · have HV := jd (show false = opB ⟨4, x1, x2, x3, x4⟩ by simp [opB, inB]; omega)
         have e3 : (x3 == 0) = false := by simpa using c3
         have d3 : decide (x3 = 0) = false := decide_eq_false c3
         go_enter Tryz.func188, Tryz.ntmps188
         go_wp2_with (first
          | (go_at_call 230; refine (l7Id_yes x1 _ C1.out).mono ?_; rintro e w' ⟨rfl, rfl⟩)
          | (go_at_call 133; refine (in_yes x2 0 1000 _ C2.out).mono ?_; rintro e w' ⟨rfl, rfl⟩))
         go_ret
         exact ⟨ret_bool HV.out, (Below.refl _ _).alloc (Nat.le_refl _) _⟩
     · have C2 := jd c2
       have HV := jd (show false = opB ⟨4, x1, x2, x3, x4⟩ by simp [opB, inB]; omega)
       clear c2
       go_enter Tryz.func188, Tryz.ntmps188
       go_wp2_with (first
        | (go_at_call 230; refine (l7Id_yes x1 _ C1.out).mono ?_; rintro e w' ⟨rfl, rfl⟩)
        | (go_at_call 133; refine (in_no x2 0 1000 _ C2.out).mono ?_; rintro e w' ⟨rfl, rfl⟩))
       go_ret
       exact ⟨ret_bool HV.out, (Below.refl _ _).alloc (Nat.le_refl _) _⟩
   · have C1 := jd c1
     have HV := jd (show false = opB ⟨4, x1, x2, x3, x4⟩ by simp [opB, inB]; omega)
     clear c1
     go_enter Tryz.func188, Tryz.ntmps188
     go_wp2_with (first
      | (go_at_call 230; refine (l7Id_no x1 _ C1.out).mono ?_; rintro e w' ⟨rfl, rfl⟩))
     go_ret
     exact ⟨ret_bool HV.out, (Below.refl _ _).alloc (Nat.le_refl _) _⟩
 by_cases h5 : x0 = 5
 · subst h5
   by_cases c1 : 1 ≤ x1 ∧ x1 ≤ 1000
   · have C1 := jd c1
     by_cases c2 : x2 = 0
     · subst c2
       by_cases c3 : x3 = 0
       · subst c3
         by_cases c4 : x4 = 0
         · subst c4
           have HV := jd (show true = opB ⟨5, x1, 0, 0, 0⟩ by simp [opB, inB]; try omega)
           go_enter Tryz.func188, Tryz.ntmps188
           go_wp2_with (first
            | (go_at_call 133; refine (in_yes x1 1 1000 _ C1.out).mono ?_; rintro e w' ⟨rfl, rfl⟩))
           go_ret
           exact ⟨ret_bool HV.out, (Below.refl _ _).alloc (Nat.le_refl _) _⟩
         · have HV := jd (show false = opB ⟨5, x1, 0, 0, x4⟩ by simp [opB, inB]; omega)
           have e4 : (x4 == 0) = false := by simpa using c4
           have d4 : decide (x4 = 0) = false := decide_eq_false c4
           go_enter Tryz.func188, Tryz.ntmps188
           go_wp2_with (first
            | (go_at_call 133; refine (in_yes x1 1 1000 _ C1.out).mono ?_; rintro e w' ⟨rfl, rfl⟩))
           go_ret
           exact ⟨ret_bool HV.out, (Below.refl _ _).alloc (Nat.le_refl _) _⟩
       · have HV := jd (show false = opB ⟨5, x1, 0, x3, x4⟩ by simp [opB, inB]; omega)
         have e3 : (x3 == 0) = false := by simpa using c3
         have d3 : decide (x3 = 0) = false := decide_eq_false c3
         go_enter Tryz.func188, Tryz.ntmps188
         go_wp2_with (first
          | (go_at_call 133; refine (in_yes x1 1 1000 _ C1.out).mono ?_; rintro e w' ⟨rfl, rfl⟩))
         go_ret
         exact ⟨ret_bool HV.out, (Below.refl _ _).alloc (Nat.le_refl _) _⟩
     · have HV := jd (show false = opB ⟨5, x1, x2, x3, x4⟩ by simp [opB, inB]; omega)
       have e2 : (x2 == 0) = false := by simpa using c2
       have d2 : decide (x2 = 0) = false := decide_eq_false c2
       go_enter Tryz.func188, Tryz.ntmps188
       go_wp2_with (first
        | (go_at_call 133; refine (in_yes x1 1 1000 _ C1.out).mono ?_; rintro e w' ⟨rfl, rfl⟩))
       go_ret
       exact ⟨ret_bool HV.out, (Below.refl _ _).alloc (Nat.le_refl _) _⟩
   · have C1 := jd c1
     have HV := jd (show false = opB ⟨5, x1, x2, x3, x4⟩ by simp [opB, inB]; omega)
     clear c1
     go_enter Tryz.func188, Tryz.ntmps188
     go_wp2_with (first
      | (go_at_call 133; refine (in_no x1 1 1000 _ C1.out).mono ?_; rintro e w' ⟨rfl, rfl⟩))
     go_ret
     exact ⟨ret_bool HV.out, (Below.refl _ _).alloc (Nat.le_refl _) _⟩
 have HV := jd (show false = opB ⟨x0, x1, x2, x3, x4⟩ by simp [opB, h1, h2, h3, h4, h5])
 have g1 : (x0 == 1) = false := by simpa using h1
 have g2 : (x0 == 2) = false := by simpa using h2
 have g3 : (x0 == 3) = false := by simpa using h3
 have g4 : (x0 == 4) = false := by simpa using h4
 have g5 : (x0 == 5) = false := by simpa using h5
 go_enter Tryz.func188, Tryz.ntmps188
 go_wp2
 go_ret
 exact ⟨ret_bool HV.out, (Below.refl _ _).alloc (Nat.le_refl _) _⟩
theorem has_lit (w : World) (xs : List Int) (h : xs.length ≤ 1000) : Has (w.alloc (.cells (ivals xs).toArray 2)) w.heap.size (rowCells xs) [.slice (some ⟨w.heap.size, 0, none⟩) xs.length xs.length] := by
 have o : Own (w.alloc (.cells (ivals xs).toArray 2)) w.heap.size (some ⟨w.heap.size, 0, none⟩) xs.length xs.length xs := by
  have := World.ownsRow_lit (base := w.heap.size) (e := 2) (size := 1) w (ivals xs).toArray xs.length (Nat.le_refl _) (by unfold maxLen; omega) (by simp [ivals])
  exact this
 exact o.has
theorem int_flat : ∀ x : Int, (fun y : Int => [Dat.int y]) x = ([x] : List Int).flatMap fun y => [Dat.int y] := fun _ => rfl
theorem Sep.row {w : World} {base : Nat} {is : List Item} (h : Sep w base is) (n : Nat) {p : Nat} {cs : Array Value} {t : TypeId} (hn : is[n]? = some (.blk p cs t)) (cells : Array Value) : Sep (w.setRow p cells) base (is.set n (.blk p cells t)) := by
 have hlt : n < is.length := by
  rcases Nat.lt_or_ge n is.length with h1 | h1
  · exact h1
  · rw [List.getElem?_eq_none h1] at hn; cases hn
 have hset : foots (is.set n (.blk p cells t)) = foots is := by
  unfold foots
  have hi : is[n] = .blk p cs t := by rw [List.getElem?_eq_getElem hlt] at hn; injection hn
  rw [List.set_eq_take_append_cons_drop, if_pos hlt]
  have e : is = is.take n ++ is[n] :: is.drop (n + 1) := by rw [List.getElem_cons_drop, List.take_append_drop]
  conv => rhs; rw [e]
  rw [List.flatMap_append, List.flatMap_append, List.flatMap_cons, List.flatMap_cons, hi]
  rfl
 have hb := h.at_ n hn
 refine ⟨fun m i hi => ?_, by rw [hset]; exact h.nodup, by rw [hset]; exact h.ge⟩
 by_cases e : n = m
 · subst e
   rw [List.getElem?_set_self hlt] at hi
   injection hi with hi
   subst hi
   exact setRow_heap w p cs cells t (0, 0) hb
 · rw [List.getElem?_set_ne e] at hi
   have hh := h.holds m i hi
   have hnd := h.nodup
   refine Item.same hh (fun q hq => setRow_other w p q cells (fun hqp => ?_))
   subst hqp
   rw [foots_split is hn] at hnd
   have hm := foot_mem hi hq
   rcases Nat.lt_or_gt_of_ne e with h1 | h1
   · have : q ∈ foots (is.drop (n + 1)) := foot_mem (n := m - (n + 1)) (by rw [List.getElem?_drop]; rw [show n + 1 + (m - (n + 1)) = m by omega]; exact hi) hq
     rw [List.nodup_append, List.nodup_append] at hnd
     exact hnd.2.1.2.2 q (by simp [Item.foot]) q this rfl
   · have : q ∈ foots (is.take n) := foot_mem (n := m) (by rw [List.getElem?_take, if_pos h1]; exact hi) hq
     rw [List.nodup_append] at hnd
     exact hnd.2.2 q this q (by simp [Item.foot]) rfl
theorem touch_setRow (w : World) (p : Nat) (cells : Array Value) : Touch [p] w (w.setRow p cells) :=
 ⟨rfl, rfl, rfl, by simp [World.setRow], fun k _ hk => setRow_other w p k cells (fun e => hk (by simp [e]))⟩
theorem IRow.drop4 {w : World} {B b off : Nat} {d : List Int} (h : IRow w B (some ⟨b, off, none⟩) 9 d) : IRow w B (some ⟨b, off + 4, none⟩) 5 (d.drop 4) := by
 refine ⟨by rw [List.length_drop, h.1], fun _ => ?_⟩
 obtain ⟨b', off', e, hb, hc⟩ := h.2 (by omega)
 injection e with e
 injection e with e1 e2
 subst e1 e2
 refine ⟨b, off + 4, rfl, hb, fun j hj => ?_⟩
 have := hc (4 + j) (by omega)
 rw [Nat.add_assoc, this]
 simp [List.getD]
theorem sAsker_any (x : Int) (w : World) : Calls Tryz.prog 182 #[.int .i64 x] w fun e w' => e = .returned (.bool (askB x)) ∧ Below w.heap.size w w' := by
 by_cases h : 2 ≤ x ∧ x ≤ 5
 · refine (AskerOk_yes x w h).mono ?_
   rintro e w' ⟨rfl, rfl⟩
   exact ⟨ret_bool (by simp [askB, inB]; omega), Below.refl _ _⟩
 · refine (AskerOk_no x w h).mono ?_
   rintro e w' ⟨rfl, rfl⟩
   exact ⟨ret_bool (by simp [askB, inB]; omega), Below.refl _ _⟩
set_option maxHeartbeats 6400000 in
theorem sEntryOk_any (x0 x1 x2 x3 x4 x5 x6 x7 x8 : Int) (w : World) :
    Calls Tryz.prog 141 #[.agg #[.int .i64 x0, .int .i64 x1, .int .i64 x2, .int .i64 x3, .int .i64 x4, .int .i64 x5, .int .i64 x6, .int .i64 x7, .int .i64 x8]] w fun e w' => e = .returned (.bool (entB ⟨x0, x1, x2, x3, x4, x5, x6, x7, x8⟩)) ∧ Below w.heap.size w w' := by
 have C := jd ((Below.refl w.heap.size w).alloc (Nat.le_refl _) (.cells #[.int .i64 x0, .int .i64 x1, .int .i64 x2, .int .i64 x3, .int .i64 x4, .int .i64 x5, .int .i64 x6, .int .i64 x7, .int .i64 x8] 87))
 by_cases c0 : 1 ≤ x0 ∧ x0 ≤ 2000
 · have C0 := jd c0
   by_cases c1 : 0 ≤ x1 ∧ x1 ≤ 1000000
   · have C1 := jd c1
     by_cases c2 : 2 ≤ x2 ∧ x2 ≤ 5
     · have C2 := jd c2
       by_cases c3 : 1 ≤ x3 ∧ x3 ≤ 2000
       · have C3 := jd c3
         have HV := jd (show opB ⟨x4, x5, x6, x7, x8⟩ = entB ⟨x0, x1, x2, x3, x4, x5, x6, x7, x8⟩ by simp [entB, askB, inB, EntM.op, c0.1, c0.2, c1.1, c1.2, c2.1, c2.2, c3.1, c3.2])
         clear c0 c1 c2 c3
         go_enter Tryz.func141, Tryz.ntmps141
         go_wp2_with (first
          | (go_at_call 159; refine (l7Index_yes x0 _ C0.out).mono ?_; rintro e w' ⟨rfl, rfl⟩)
          | (go_at_call 134; refine (TimeOk_yes x1 _ C1.out).mono ?_; rintro e w' ⟨rfl, rfl⟩)
          | (go_at_call 182; refine (AskerOk_yes x2 _ C2.out).mono ?_; rintro e w' ⟨rfl, rfl⟩)
          | (go_at_call 183; refine (l7Seq_yes x3 _ C3.out).mono ?_; rintro e w' ⟨rfl, rfl⟩)
          | (go_at_call 188; refine (sOpOk_any x4 x5 x6 x7 x8 _).mono ?_; rintro e w' ⟨rfl, b⟩))
         have CC := jd (C.out.trans (b.mono C.out.size))
         clear b
         go_ret
         exact ⟨ret_bool HV.out, CC.out⟩
       · have C3 := jd c3
         have HV := jd (show false = entB ⟨x0, x1, x2, x3, x4, x5, x6, x7, x8⟩ by simp [entB, askB, inB]; omega)
         clear c0 c1 c2 c3
         go_enter Tryz.func141, Tryz.ntmps141
         go_wp2_with (first
          | (go_at_call 159; refine (l7Index_yes x0 _ C0.out).mono ?_; rintro e w' ⟨rfl, rfl⟩)
          | (go_at_call 134; refine (TimeOk_yes x1 _ C1.out).mono ?_; rintro e w' ⟨rfl, rfl⟩)
          | (go_at_call 182; refine (AskerOk_yes x2 _ C2.out).mono ?_; rintro e w' ⟨rfl, rfl⟩)
          | (go_at_call 183; refine (l7Seq_no x3 _ C3.out).mono ?_; rintro e w' ⟨rfl, rfl⟩))
         go_ret
         exact ⟨ret_bool HV.out, C.out⟩
     · have C2 := jd c2
       have HV := jd (show false = entB ⟨x0, x1, x2, x3, x4, x5, x6, x7, x8⟩ by simp [entB, askB, inB]; omega)
       clear c0 c1 c2
       go_enter Tryz.func141, Tryz.ntmps141
       go_wp2_with (first
        | (go_at_call 159; refine (l7Index_yes x0 _ C0.out).mono ?_; rintro e w' ⟨rfl, rfl⟩)
        | (go_at_call 134; refine (TimeOk_yes x1 _ C1.out).mono ?_; rintro e w' ⟨rfl, rfl⟩)
        | (go_at_call 182; refine (AskerOk_no x2 _ C2.out).mono ?_; rintro e w' ⟨rfl, rfl⟩))
       go_ret
       exact ⟨ret_bool HV.out, C.out⟩
   · have C1 := jd c1
     have HV := jd (show false = entB ⟨x0, x1, x2, x3, x4, x5, x6, x7, x8⟩ by simp [entB, askB, inB]; omega)
     clear c0 c1
     go_enter Tryz.func141, Tryz.ntmps141
     go_wp2_with (first
      | (go_at_call 159; refine (l7Index_yes x0 _ C0.out).mono ?_; rintro e w' ⟨rfl, rfl⟩)
      | (go_at_call 134; refine (TimeOk_no x1 _ C1.out).mono ?_; rintro e w' ⟨rfl, rfl⟩))
     go_ret
     exact ⟨ret_bool HV.out, C.out⟩
 · have C0 := jd c0
   have HV := jd (show false = entB ⟨x0, x1, x2, x3, x4, x5, x6, x7, x8⟩ by simp [entB, askB, inB]; omega)
   clear c0
   go_enter Tryz.func141, Tryz.ntmps141
   go_wp2_with (first
    | (go_at_call 159; refine (l7Index_no x0 _ C0.out).mono ?_; rintro e w' ⟨rfl, rfl⟩))
   go_ret
   exact ⟨ret_bool HV.out, C.out⟩
end Go.Proofs.YtmjifhjhialcbaaGreat
