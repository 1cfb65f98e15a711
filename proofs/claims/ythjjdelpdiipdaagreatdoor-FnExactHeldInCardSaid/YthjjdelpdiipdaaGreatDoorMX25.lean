/- Parts of my texts: LogS2. -/
import Derived.Test.YthjjdelpdiipdaaGreatDoorMX17
import Derived.Test.YthjjdelpdiipdaaGreatDoorMX24
import Derived.Deep.DeepCutAuto
namespace Go.Proofs.YthjjdelpdiipdaaGreatDoor
set_option maxRecDepth 100000
set_option linter.unusedVariables false
open Go.RowKit
set_option maxHeartbeats 12800000 in
theorem sPart12_any (x0 x1 : Int) (A : Option Addr) (n cc B : Nat) (l : List EntM) (x y : Int) (w : World) (h : Rd w B [entD l] [.slice A n cc]) (hB : B ≤ w.heap.size) (hs : entSz l ≤ 1048577) :
    Calls Tryz.prog 49 #[.agg #[.int .i64 x0, .int .i64 x1, .slice A n cc], .int .i64 x, .int .i64 y] w (MadeEntryS w (selE l x y)) := by
 have HH := jd h
 obtain ⟨_, _, _, e, hl, _, hcm, hel⟩ := h.ents
 injection e with e1 e2 e3
 subst e1 e2 e3
 have hn : n ≤ 1048577 := by unfold entSz at hs; omega
 have HL := jd hl
 clear h hcm hl
 have S := Sep.nil w w.heap.size
 have c := Below.refl w.heap.size w
 replace S := S.boxAt c.size (w.heap.size) rfl #[.int .i64 x0, .int .i64 x1, .slice A n cc] 49
 replace c := al c S
 replace S := S.boxAt c.size (w.heap.size + 1) (by simp) #[] 98
 replace c := al c S
 replace S := S.blk0 (k := 9) (f := entC)
 have S0 := jd S
 have B0 := jd c
 clear S c
 go_enter Tryz.func49, Tryz.ntmps49
 go_wp2
 go_loopw [7, 8] (fun u i wr => ∃ (j : Nat) (G : Option Addr) (m gc : Nat) (fp : List Nat), j ≤ n ∧ i = .int .i64 (j : Int) ∧ u = .slice G m gc ∧ m ≤ j ∧ Sep wr w.heap.size [.own [entD (selN l x y j)] [.slice G m gc] fp, .blk w.heap.size #[.int .i64 x0, .int .i64 x1, .slice A n cc] 49] ∧ Below w.heap.size w wr) (fun _ i _ => n - (intOf i).toNat)
 case atStart => exact ⟨0, _, _, _, _, Nat.zero_le _, rfl, rfl, Nat.le_refl _, S0.out, B0.out⟩
 case round =>
  obtain ⟨j, G, m, gc, fp, hj, rfl, rfl, hm, S, c⟩ := hrel
  clear S0 B0
  by_cases hlt : j < n
  case neg =>
   obtain rfl : j = n := by omega
   have f0 := lk S 1 0 rfl rfl
   have f1 := lk S 1 1 rfl rfl
   have f2 := lk S 1 2 rfl rfl
   have hj0 : decide ((j : Int) < (j : Int)) = false := decide_eq_false (by omega)
   have HE := jd (show selN l x y j = selE l x y by rw [← selN_all, HL.out])
   rw [HE.out] at S
   have H := jd S.first
   have C := jd c
   clear hel S c
   go_wp2
   go_ret
   exact ⟨_, _, _, rfl, H.out, C.out⟩
  case pos =>
   have c1 : (j : Int) < (n : Int) := by omega
   obtain ⟨b, off, rfl, hb, hc⟩ := hel (by omega)
   have hjl : j < l.length := by have := HL.out; omega
   obtain ⟨hc0, hc1, hc2, hc3, hc4, hc5, hc6, hc7, hc8⟩ := hc j hjl
   have cs0 := cu c hc0 (show b < _ by omega)
   have cs1 := cu c hc1 (show b < _ by omega)
   have cs2 := cu c hc2 (show b < _ by omega)
   have cs3 := cu c hc3 (show b < _ by omega)
   have cs4 := cu c hc4 (show b < _ by omega)
   have cs5 := cu c hc5 (show b < _ by omega)
   have cs6 := cu c hc6 (show b < _ by omega)
   have cs7 := cu c hc7 (show b < _ by omega)
   have cs8 := cu c hc8 (show b < _ by omega)
   obtain ⟨z0, hz0⟩ : ∃ q, q = l[j].idx := ⟨_, rfl⟩
   rw [← hz0] at cs0
   obtain ⟨z1, hz1⟩ : ∃ q, q = l[j].tm := ⟨_, rfl⟩
   rw [← hz1] at cs1
   obtain ⟨z2, hz2⟩ : ∃ q, q = l[j].cl := ⟨_, rfl⟩
   rw [← hz2] at cs2
   obtain ⟨z3, hz3⟩ : ∃ q, q = l[j].sq := ⟨_, rfl⟩
   rw [← hz3] at cs3
   obtain ⟨z4, hz4⟩ : ∃ q, q = l[j].kd := ⟨_, rfl⟩
   rw [← hz4] at cs4
   obtain ⟨z5, hz5⟩ : ∃ q, q = l[j].oa := ⟨_, rfl⟩
   rw [← hz5] at cs5
   obtain ⟨z6, hz6⟩ : ∃ q, q = l[j].ob := ⟨_, rfl⟩
   rw [← hz6] at cs6
   obtain ⟨z7, hz7⟩ : ∃ q, q = l[j].oc := ⟨_, rfl⟩
   rw [← hz7] at cs7
   obtain ⟨z8, hz8⟩ : ∃ q, q = l[j].od := ⟨_, rfl⟩
   rw [← hz8] at cs8
   have hmk2 : l[j] = ⟨z0, z1, z2, z3, z4, z5, z6, z7, z8⟩ := by rw [hz0, hz1, hz2, hz3, hz4, hz5, hz6, hz7, hz8]
   have HM := jd hmk2
   have HA := jd (fun h : inE x y l[j] = true => selN_yes (a := x) (z := y) hjl h)
   have HB := jd (fun h : inE x y l[j] = false => selN_no (a := x) (z := y) hjl h)
   have f0 := lk S 1 0 rfl rfl
   have f1 := lk S 1 1 rfl rfl
   have f2 := lk S 1 2 rfl rfl
   have hIN : inE x y l[j] = (decide (x ≤ z0) && decide (z0 ≤ y)) := by rw [hmk2]; rfl
   have HI := jd hIN
   clear hIN hmk2 hc hel hz0 hz1 hz2 hz3 hz4 hz5 hz6 hz7 hz8 hc0 hc1 hc2 hc3 hc4 hc5 hc6 hc7 hc8
   by_cases hd : x ≤ z0 ∧ z0 ≤ y
   case neg =>
    have HQ := jd hd
    have HN := jd (HB.out (by rw [HI.out, Bool.eq_false_iff]; intro h9; rw [Bool.and_eq_true, decide_eq_true_eq, decide_eq_true_eq] at h9; exact hd h9))
    have SS := jd S
    have CC := jd c
    clear S c hd
    go_wp2_with (first | (go_at_call 33; refine (in_no z0 x y _ HQ.out).mono ?_; rintro e w' ⟨rfl, rfl⟩))
    go_roundw
    case rel => exact ⟨j + 1, G, m, gc, fp, by omega, by go_num, rfl, by omega, by rw [HN.out]; exact SS.out, CC.out⟩
    case measure => simp [intOf]; omega
   case pos =>
    have HQ := jd hd
    have HN := jd (show selN l x y (j + 1) = selN l x y j ++ [⟨z0, z1, z2, z3, z4, z5, z6, z7, z8⟩] by rw [HA.out (by rw [HI.out, decide_eq_true hd.1, decide_eq_true hd.2]; rfl), HM.out])
    clear hd
    replace S := S.boxAt c.size (wr.heap.size) rfl #[.int .i64 z0, .int .i64 z1, .int .i64 z2, .int .i64 z3, .int .i64 z4, .int .i64 z5, .int .i64 z6, .int .i64 z7, .int .i64 z8] 98
    replace c := al c S
    have HC : ∀ i, i < 9 → (wr.alloc (.cells #[.int .i64 z0, .int .i64 z1, .int .i64 z2, .int .i64 z3, .int .i64 z4, .int .i64 z5, .int .i64 z6, .int .i64 z7, .int .i64 z8] 98)).cell? ⟨wr.heap.size, i, none⟩ = [Value.int .i64 z0, Value.int .i64 z1, Value.int .i64 z2, Value.int .i64 z3, Value.int .i64 z4, Value.int .i64 z5, Value.int .i64 z6, Value.int .i64 z7, Value.int .i64 z8][i]? := fun i hi => by
     have h1 := (S.at_ 0 rfl).cell i
     rw [h1]
     simp
    replace S := (S.tail).own0 (ds := entC ⟨z0, z1, z2, z3, z4, z5, z6, z7, z8⟩) (vs := [.int .i64 z0, .int .i64 z1, .int .i64 z2, .int .i64 z3, .int .i64 z4, .int .i64 z5, .int .i64 z6, .int .i64 z7, .int .i64 z8]) (.int (.int (.int (.int (.int (.int (.int (.int (.int (.nil))))))))))
    replace S := S.swap
    have hgc := jd c
    go_wp2_with (first
     | (go_at_call 33; refine (in_yes z0 x y _ HQ.out).mono ?_; rintro e w' ⟨rfl, rfl⟩)
     | (at_builtin
        refine wpList_append_elem (l := selN l x y j) (y := (⟨z0, z1, z2, z3, z4, z5, z6, z7, z8⟩ : EntM)) rfl (.tmp 26) (.tmp 32) (by rfl) Tryz.underlying47 infoEntry (by rfl) (by decide) entC_len (by rfl) (S.own_ 0 rfl) (S.nodup_own 0 rfl) (by rfl) HC (S.own_ 1 rfl) (S.nodup_own 1 rfl) S.apart (by omega) (by omega) ?_
        intro A3 c3 w3 fp3 o3 n3 s3 t3))
    have S3 := jd (S.merge t3 o3 n3 s3 hgc.out.size)
    have C3 := jd (hgc.out.trans (S.below 0 rfl t3 hgc.out.size))
    clear S c o3 n3 s3 t3 HC hgc
    go_roundw
    case rel => exact ⟨j + 1, A3, m + 1, c3, fp3, by omega, by go_num, rfl, by omega, by rw [HN.out]; exact S3.out, C3.out⟩
    case measure => simp [intOf]; omega
end Go.Proofs.YthjjdelpdiipdaaGreatDoor
