/- Parts of my texts: EntL EntS2 Cls. -/
import Derived.Test.YtmjifhjhialcbaaU11
import Derived.Deep.MidRow
import Derived.Deep.Quiet
namespace Go.Proofs.Ytmjifhjhialcbaa
set_option maxRecDepth 100000
set_option linter.unusedVariables false
open Go.RowKit
theorem has_lit (w : World) (xs : List Int) (h : xs.length ≤ 1000) : Has (w.alloc (.cells (ivals xs).toArray 2)) w.heap.size (rowCells xs) [.slice (some ⟨w.heap.size, 0, none⟩) xs.length xs.length] := by
 have o : Own (w.alloc (.cells (ivals xs).toArray 2)) w.heap.size (some ⟨w.heap.size, 0, none⟩) xs.length xs.length xs := by
  have := World.ownsRow_lit (base := w.heap.size) (e := 2) (size := 1) w (ivals xs).toArray xs.length (Nat.le_refl _) (by unfold maxLen; omega) (by simp [ivals])
  exact this
 exact o.has
theorem int_flat : ∀ x : Int, (fun y : Int => [Dat.int y]) x = ([x] : List Int).flatMap fun y => [Dat.int y] := fun _ => rfl
theorem Sep.row {w : World} {base : Nat} {is : List Item} (h : Sep w base is) (n : Nat) {p : Nat} {cs : Array Value} {t : TypeId} (hn : is[n]? = some (.blk p cs t)) (cells : Array Value) : Sep (w.setRow p cells) base (is.set n (.blk p cells t)) := by
 have hlt : n < is.length := by
  rcases Nat.lt_or_ge n is.length with h1 | h1
  · exact h1
  · rw [List.getElem?_eq_none h1] at hn; cases hn
 have hset : foots (is.set n (.blk p cells t)) = foots is := by
  unfold foots
  have hi : is[n] = .blk p cs t := by rw [List.getElem?_eq_getElem hlt] at hn; injection hn
  rw [List.set_eq_take_append_cons_drop, if_pos hlt]
  have e : is = is.take n ++ is[n] :: is.drop (n + 1) := by rw [List.getElem_cons_drop, List.take_append_drop]
  conv => rhs; rw [e]
  rw [List.flatMap_append, List.flatMap_append, List.flatMap_cons, List.flatMap_cons, hi]
  rfl
 have hb := h.at_ n hn
 refine ⟨fun m i hi => ?_, by rw [hset]; exact h.nodup, by rw [hset]; exact h.ge⟩
 by_cases e : n = m
 · subst e
   rw [List.getElem?_set_self hlt] at hi
   injection hi with hi
   subst hi
   exact setRow_heap w p cs cells t (0, 0) hb
 · rw [List.getElem?_set_ne e] at hi
   have hh := h.holds m i hi
   have hnd := h.nodup
   refine Item.same hh (fun q hq => setRow_other w p q cells (fun hqp => ?_))
   subst hqp
   rw [foots_split is hn] at hnd
   have hm := foot_mem hi hq
   rcases Nat.lt_or_gt_of_ne e with h1 | h1
   · have : q ∈ foots (is.drop (n + 1)) := foot_mem (n := m - (n + 1)) (by rw [List.getElem?_drop]; rw [show n + 1 + (m - (n + 1)) = m by omega]; exact hi) hq
     rw [List.nodup_append, List.nodup_append] at hnd
     exact hnd.2.1.2.2 q (by simp [Item.foot]) q this rfl
   · have : q ∈ foots (is.take n) := foot_mem (n := m) (by rw [List.getElem?_take, if_pos h1]; exact hi) hq
     rw [List.nodup_append] at hnd
     exact hnd.2.2 q this q (by simp [Item.foot]) rfl
theorem touch_setRow (w : World) (p : Nat) (cells : Array Value) : Touch [p] w (w.setRow p cells) :=
 ⟨rfl, rfl, rfl, by simp [World.setRow], fun k _ hk => setRow_other w p k cells (fun e => hk (by simp [e]))⟩
theorem IRow.drop4 {w : World} {B b off : Nat} {d : List Int} (h : IRow w B (some ⟨b, off, none⟩) 9 d) : IRow w B (some ⟨b, off + 4, none⟩) 5 (d.drop 4) := by
 refine ⟨by rw [List.length_drop, h.1], fun _ => ?_⟩
 obtain ⟨b', off', e, hb, hc⟩ := h.2 (by omega)
 injection e with e
 injection e with e1 e2
 subst e1 e2
 refine ⟨b, off + 4, rfl, hb, fun j hj => ?_⟩
 have := hc (4 + j) (by omega)
 rw [Nat.add_assoc, this]
 simp [List.getD]
theorem sAsker_any (x : Int) (w : World) : Calls Try.prog 84 #[.int .i64 x] w fun e w' => e = .returned (.bool (askB x)) ∧ Below w.heap.size w w' := by
 by_cases h : 2 ≤ x ∧ x ≤ 5
 · refine (AskerOk_yes x w h).mono ?_
   rintro e w' ⟨rfl, rfl⟩
   exact ⟨ret_bool (by simp [askB, inB]; omega), Below.refl _ _⟩
 · refine (AskerOk_no x w h).mono ?_
   rintro e w' ⟨rfl, rfl⟩
   exact ⟨ret_bool (by simp [askB, inB]; omega), Below.refl _ _⟩
set_option maxHeartbeats 6400000 in
theorem sEntryOk_any (x0 x1 x2 x3 x4 x5 x6 x7 x8 : Int) (w : World) :
    Calls Try.prog 87 #[.agg #[.int .i64 x0, .int .i64 x1, .int .i64 x2, .int .i64 x3, .int .i64 x4, .int .i64 x5, .int .i64 x6, .int .i64 x7, .int .i64 x8]] w fun e w' => e = .returned (.bool (entB ⟨x0, x1, x2, x3, x4, x5, x6, x7, x8⟩)) ∧ Below w.heap.size w w' := by
 have C := jd ((Below.refl w.heap.size w).alloc (Nat.le_refl _) (.cells #[.int .i64 x0, .int .i64 x1, .int .i64 x2, .int .i64 x3, .int .i64 x4, .int .i64 x5, .int .i64 x6, .int .i64 x7, .int .i64 x8] 35))
 by_cases c0 : 1 ≤ x0 ∧ x0 ≤ 2000
 · have C0 := jd c0
   by_cases c1 : 0 ≤ x1 ∧ x1 ≤ 1000000
   · have C1 := jd c1
     by_cases c2 : 2 ≤ x2 ∧ x2 ≤ 5
     · have C2 := jd c2
       by_cases c3 : 1 ≤ x3 ∧ x3 ≤ 2000
       · have C3 := jd c3
         have HV := jd (show opB ⟨x4, x5, x6, x7, x8⟩ = entB ⟨x0, x1, x2, x3, x4, x5, x6, x7, x8⟩ by simp [entB, askB, inB, EntM.op, c0.1, c0.2, c1.1, c1.2, c2.1, c2.2, c3.1, c3.2])
         clear c0 c1 c2 c3
         go_enter Try.func87, Try.ntmps87
         go_wp2_with (first
          | (go_at_call 86; refine (l7Index_yes x0 _ C0.out).mono ?_; rintro e w' ⟨rfl, rfl⟩)
          | (go_at_call 92; refine (TimeOk_yes x1 _ C1.out).mono ?_; rintro e w' ⟨rfl, rfl⟩)
          | (go_at_call 84; refine (AskerOk_yes x2 _ C2.out).mono ?_; rintro e w' ⟨rfl, rfl⟩)
          | (go_at_call 85; refine (l7Seq_yes x3 _ C3.out).mono ?_; rintro e w' ⟨rfl, rfl⟩)
          | (go_at_call 93; refine (sOpOk_any x4 x5 x6 x7 x8 _).mono ?_; rintro e w' ⟨rfl, b⟩))
         have CC := jd (C.out.trans (b.mono C.out.size))
         clear b
         go_ret
         exact ⟨ret_bool HV.out, CC.out⟩
       · have C3 := jd c3
         have HV := jd (show false = entB ⟨x0, x1, x2, x3, x4, x5, x6, x7, x8⟩ by simp [entB, askB, inB]; omega)
         clear c0 c1 c2 c3
         go_enter Try.func87, Try.ntmps87
         go_wp2_with (first
          | (go_at_call 86; refine (l7Index_yes x0 _ C0.out).mono ?_; rintro e w' ⟨rfl, rfl⟩)
          | (go_at_call 92; refine (TimeOk_yes x1 _ C1.out).mono ?_; rintro e w' ⟨rfl, rfl⟩)
          | (go_at_call 84; refine (AskerOk_yes x2 _ C2.out).mono ?_; rintro e w' ⟨rfl, rfl⟩)
          | (go_at_call 85; refine (l7Seq_no x3 _ C3.out).mono ?_; rintro e w' ⟨rfl, rfl⟩))
         go_ret
         exact ⟨ret_bool HV.out, C.out⟩
     · have C2 := jd c2
       have HV := jd (show false = entB ⟨x0, x1, x2, x3, x4, x5, x6, x7, x8⟩ by simp [entB, askB, inB]; omega)
       clear c0 c1 c2
       go_enter Try.func87, Try.ntmps87
       go_wp2_with (first
        | (go_at_call 86; refine (l7Index_yes x0 _ C0.out).mono ?_; rintro e w' ⟨rfl, rfl⟩)
        | (go_at_call 92; refine (TimeOk_yes x1 _ C1.out).mono ?_; rintro e w' ⟨rfl, rfl⟩)
        | (go_at_call 84; refine (AskerOk_no x2 _ C2.out).mono ?_; rintro e w' ⟨rfl, rfl⟩))
       go_ret
       exact ⟨ret_bool HV.out, C.out⟩
   · have C1 := jd c1
     have HV := jd (show false = entB ⟨x0, x1, x2, x3, x4, x5, x6, x7, x8⟩ by simp [entB, askB, inB]; omega)
     clear c0 c1
     go_enter Try.func87, Try.ntmps87
     go_wp2_with (first
      | (go_at_call 86; refine (l7Index_yes x0 _ C0.out).mono ?_; rintro e w' ⟨rfl, rfl⟩)
      | (go_at_call 92; refine (TimeOk_no x1 _ C1.out).mono ?_; rintro e w' ⟨rfl, rfl⟩))
     go_ret
     exact ⟨ret_bool HV.out, C.out⟩
 · have C0 := jd c0
   have HV := jd (show false = entB ⟨x0, x1, x2, x3, x4, x5, x6, x7, x8⟩ by simp [entB, askB, inB]; omega)
   clear c0
   go_enter Try.func87, Try.ntmps87
   go_wp2_with (first
    | (go_at_call 86; refine (l7Index_no x0 _ C0.out).mono ?_; rintro e w' ⟨rfl, rfl⟩))
   go_ret
   exact ⟨ret_bool HV.out, C.out⟩
theorem wp_region_cls {P : Program} {id : Nat} {Q : Exit → Act → World → Prop} {a : Act} {w : World} {l : List Oper} (F : World → Prop) (hm : P.follows .mixedOrders = true) (hB : Region.lexB .any l.toArray = true)
    (hF : ∀ v, Below w.heap.size w v → F v)
    (h : ∀ C : World → Prop, (∀ v, C v → F v) → (∀ v v', C v → Below v.heap.size v v' → C v') → wpQuiet P l.toArray C (fun a' => ∀ w', Below w.heap.size w w' → Q .normal a' w') l a) : (Code.region id l.toArray true).wp P Q a w := by
 refine wp_region_quiet (C := fun v => Below w.heap.size w v) hm hB ?_ ?_
 · exact (Below.refl _ _).drew
 · simpa using h (fun v => Below w.heap.size w v) hF (fun v v' hv hb => hv.trans (hb.mono hv.size))
theorem Calls.cls {P : Program} {f : FuncId} {args : Array Value} {v : World} {u u' : Value} {C : World → Prop} (hC : ∀ v v', C v → Below v.heap.size v v' → C v') (hv : C v)
    (h : Calls P f args v fun e w' => e = .returned u ∧ Below v.heap.size v w') (hu : u = u') : Calls P f args v fun e w' => e = .returned u' ∧ C w' :=
 h.mono fun _ _ ⟨he, hb⟩ => ⟨he.trans (by rw [hu]), hC _ _ hv hb⟩
end Go.Proofs.Ytmjifhjhialcbaa
