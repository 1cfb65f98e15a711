/-
  Chapter 8: a book's entries collected anew, and a book taken back, of the program (by program, wip/gen/genbooki5.py).
-/
import Derived.Test.YtnjfdnjakogpmaaBookI2
import Derived.Test.YtnjfdnjakogpmaaBookI4
import Derived.RegionTactic
import Derived.BigQuiet
import Derived.Laws.EntriesVeiled
namespace Go.Proofs.Ytnjfdnjakogpmaa
set_option maxRecDepth 100000
open Go.RowKit

theorem iCollect_any (gf : Nat) (lb : Array Value) (xs : List EntM) (Sp : List EntM → Prop) (eg : ∀ args w, (callFunc gf args).run Try.prog w = .ok (.enter gf args) w) (w : World) (hlen : xs.length ≤ 1048576)
    (hseq : SeqStopsK Fence.wide 2 Try.prog gf lb encE (Below w.heap.size) (fun ys => ys = xs) Sp xs.length w) :
    Calls Try.prog 63 #[.func (.func gf) #[] lb] w (MadeEntryS w xs) := by
  go_enter Try.func63, Try.ntmps63
  go_wp2_with fail
  refine (iAppendSeq_any gf lb xs Sp eg w hlen hseq).mono ?_
  rintro e w' ⟨A, n, c, rfl, o, b⟩
  go_wp2
  go_ret
  exact ⟨A, n, c, rfl, o, b⟩
theorem iEntriesIn_at (x0 x1 : Int) (A : Option Addr) (n cc : Nat) (a z : Int) (w : World) :
    Calls Try.prog 55 #[.agg #[.int .i64 x0, .int .i64 x1, .slice A n cc], .int .i64 a, .int .i64 z] w fun e w' => e = .returned (.func (.func 68) #[] #[.pointer (some ⟨w.heap.size, 0, none⟩), .pointer (some ⟨w.heap.size + 1, 0, none⟩), .pointer (some ⟨w.heap.size + 1 + 1, 0, none⟩)]) ∧ Blk w' w.heap.size #[.int .i64 x0, .int .i64 x1, .slice A n cc] 29 ∧ Blk w' (w.heap.size + 1) #[.int .i64 a] 2 ∧ Blk w' (w.heap.size + 1 + 1) #[.int .i64 z] 2 ∧ Below w.heap.size w w' := by
  refine (iEntriesIn_any x0 x1 A n cc a z w).mono ?_
  rintro e w' ⟨rfl, rfl⟩
  have S := Sep.nil w w.heap.size
  have c := Below.refl w.heap.size w
  replace S := S.boxAt c.size (w.heap.size) rfl #[.int .i64 x0, .int .i64 x1, .slice A n cc] 29
  replace c := c.alloc c.size (.cells #[.int .i64 x0, .int .i64 x1, .slice A n cc] 29)
  replace S := S.boxAt c.size (w.heap.size + 1) (by simp) #[.int .i64 a] 2
  replace c := c.alloc c.size (.cells #[.int .i64 a] 2)
  replace S := S.boxAt c.size (w.heap.size + 1 + 1) (by simp) #[.int .i64 z] 2
  replace c := c.alloc c.size (.cells #[.int .i64 z] 2)
  exact ⟨rfl, S.at_ 2 rfl, S.at_ 1 rfl, S.at_ 0 rfl, c⟩
theorem selE_le (l : List EntM) (a z : Int) : (selE l a z).length ≤ l.length := List.length_filter_le _ _
theorem iCollIter_any (bb bf bl B : Nat) (x0 x1 a z : Int) (A : Option Addr) (n cc : Nat) (l : List EntM) (w : World) (h0 : Blk w bb #[.int .i64 x0, .int .i64 x1, .slice A n cc] 29) (h1 : Blk w bf #[.int .i64 a] 2) (h2 : Blk w bl #[.int .i64 z] 2)
    (hr : Rd w B [entD l] [.slice A n cc]) (hB : B ≤ w.heap.size) (hn : n ≤ 1048576) :
    Calls Try.prog 63 #[.func (.func 68) #[] #[.pointer (some ⟨bb, 0, none⟩), .pointer (some ⟨bf, 0, none⟩), .pointer (some ⟨bl, 0, none⟩)]] w (MadeEntryS w (selE l a z)) := by
  refine iCollect_any 68 _ (selE l a z) _ (enters_of Try.func68 (by kernel_rfl) rfl) w ?_ (iIter_stops bb bf bl B x0 x1 a z A n cc l (Below w.heap.size) (fun W W' h => ⟨h.mono hB, h.block bb h0.lt, h.block bf h1.lt, h.block bl h2.lt⟩) w h0 h1 h2 hr (by omega) hB)
  obtain ⟨_, _, _, e, hl, _⟩ := hr.ents
  injection e with e1 e2 e3
  have := selE_le l a z
  omega
set_option maxHeartbeats 12800000 in
theorem iBookTo_any (x0 x1 : Int) (A : Option Addr) (n cc B : Nat) (l : List EntM) (i : Int) (w : World) (h : Rd w B [entD l] [.slice A n cc]) (hB : B ≤ w.heap.size) (_hs : entSz l ≤ 1048577) (hn20 : n ≤ 1048576) (hx : 0 ≤ x0 ∧ x0 ≤ 2000) :
    Calls Try.prog 64 #[.agg #[.int .i64 x0, .int .i64 x1, .slice A n cc], .int .i64 i] w fun e w' => ∃ (A2 : Option Addr) (n2 c2 : Nat), e = .returned (.agg #[.int .i64 x0, .int .i64 x1, .slice A2 n2 c2]) ∧ Has w' w.heap.size [entD (selE l (x0 + 1) i)] [.slice A2 n2 c2] ∧ Below w.heap.size w w' := by
  have HH := Lib.hid h
  have ew : IntKind.i64.wrap (x0 + 1) = x0 + 1 := by rw [IntKind.wrap_i64]; omega
  clear h hx
  have S := Sep.nil w w.heap.size
  have c := Below.refl w.heap.size w
  replace S := S.boxAt c.size (w.heap.size) rfl #[.int .i64 x0, .int .i64 x1, .slice A n cc] 29
  replace c := c.alloc c.size (.cells #[.int .i64 x0, .int .i64 x1, .slice A n cc] 29)
  replace S := S.boxAt c.size (w.heap.size + 1) (by simp) #[.int .i64 0, .int .i64 0, .slice none 0 0] 29
  replace c := c.alloc c.size (.cells #[.int .i64 0, .int .i64 0, .slice none 0 0] 29)
  go_enter Try.func64, Try.ntmps64
  go_wp2_with fail
  generalize (w.alloc (.cells #[.int .i64 x0, .int .i64 x1, .slice A n cc] 29)).alloc (.cells #[.int .i64 0, .int .i64 0, .slice none 0 0] 29) = w1 at *
  refine wp_region_L (fun v => v.cell? ⟨w.heap.size, 0, none⟩ = some (.int .i64 x0) ∧ v.cell? ⟨w.heap.size, 1, none⟩ = some (.int .i64 x1) ∧ v.cell? ⟨w.heap.size, 2, none⟩ = some (.slice A n cc)) 12 (by kernel_rfl) ?_
  replace S := S.keep ((Below.refl _ _).drew)
  replace c := c.drew
  generalize w1.drew = w2 at *
  have HF : w2.cell? ⟨w.heap.size, 0, none⟩ = some (.int .i64 x0) ∧ w2.cell? ⟨w.heap.size, 1, none⟩ = some (.int .i64 x1) ∧ w2.cell? ⟨w.heap.size, 2, none⟩ = some (.slice A n cc) := ⟨(S.at_ 1 rfl).cell 0, (S.at_ 1 rfl).cell 1, (S.at_ 1 rfl).cell 2⟩
  refine wpAnyL_take (i := 0) (v := ?_) rfl rfl (by kernel_rfl) (by kernel_rfl) (by kernel_rfl) (by kernel_rfl) (by kernel_rfl) (fun _ _ _ h => h) HF (Or.inl ⟨by rfl, ?_⟩) ?_
  rotate_left 1
  · (rintro v ⟨a0, a1, a2⟩; go_simp; try with_reducible rfl)
  try simp only [Act.put]
  refine wpAnyL_take (i := 1) (v := ?_) rfl rfl (by kernel_rfl) (by kernel_rfl) (by kernel_rfl) (by kernel_rfl) (by kernel_rfl) (fun _ _ _ h => h) HF (Or.inl ⟨by rfl, ?_⟩) ?_
  rotate_left 1
  · (rintro v ⟨a0, a1, a2⟩; go_simp; try with_reducible rfl)
  try simp only [Act.put]
  refine wpAnyL_take (i := 2) (v := ?_) rfl rfl (by kernel_rfl) (by kernel_rfl) (by kernel_rfl) (by kernel_rfl) (by kernel_rfl) (fun _ _ _ h => h) HF (Or.inl ⟨by rfl, ?_⟩) ?_
  rotate_left 1
  · (rintro v ⟨a0, a1, a2⟩; go_simp; try with_reducible rfl)
  try simp only [Act.put]
  refine wpAnyL_take (i := 3) (v := ?_) rfl rfl (by kernel_rfl) (by kernel_rfl) (by kernel_rfl) (by kernel_rfl) (by kernel_rfl) (fun _ _ _ h => h) HF (Or.inl ⟨by rfl, ?_⟩) ?_
  rotate_left 1
  · (rintro v ⟨a0, a1, a2⟩; go_simp; try with_reducible rfl)
  try simp only [Act.put]
  refine wpAnyL_take (i := 4) (v := ?_) rfl rfl (by kernel_rfl) (by kernel_rfl) (by kernel_rfl) (by kernel_rfl) (by kernel_rfl) (fun _ _ _ h => h) HF (Or.inl ⟨by rfl, ?_⟩) ?_
  rotate_left 1
  · (rintro v ⟨a0, a1, a2⟩; go_simp; try with_reducible rfl)
  try simp only [Act.put]
  refine wpAnyL_take (i := 5) (v := ?_) rfl rfl (by kernel_rfl) (by kernel_rfl) (by kernel_rfl) (by kernel_rfl) (by kernel_rfl) (fun _ _ _ h => h) HF (Or.inl ⟨by rfl, ?_⟩) ?_
  rotate_left 1
  · (rintro v ⟨a0, a1, a2⟩; go_simp; try with_reducible rfl)
  try simp only [Act.put]
  refine wpAnyL_take (i := 6) (v := ?_) rfl rfl (by kernel_rfl) (by kernel_rfl) (by kernel_rfl) (by kernel_rfl) (by kernel_rfl) (fun _ _ _ h => h) HF (Or.inl ⟨by rfl, ?_⟩) ?_
  rotate_left 1
  · (rintro v ⟨a0, a1, a2⟩; go_simp; try with_reducible rfl)
  try simp only [Act.put]
  refine wpAnyL_take (i := 7) (v := ?_) rfl rfl (by kernel_rfl) (by kernel_rfl) (by kernel_rfl) (by kernel_rfl) (by kernel_rfl) (fun _ _ _ h => h) HF (Or.inl ⟨by rfl, ?_⟩) ?_
  rotate_left 1
  · (rintro v ⟨a0, a1, a2⟩; go_simp; try with_reducible rfl)
  try simp only [Act.put]
  refine wpAnyL_take (i := 8) (v := ?_) rfl rfl (by kernel_rfl) (by kernel_rfl) (by kernel_rfl) (by kernel_rfl) (by kernel_rfl) (fun _ _ _ h => h) HF (Or.inl ⟨by rfl, ?_⟩) ?_
  rotate_left 1
  · (rintro v ⟨a0, a1, a2⟩; go_simp; try with_reducible rfl)
  try simp only [Act.put]
  refine wpAnyL_step (i := 9) (by kernel_rfl) rfl rfl ?_
  intro K hK
  go_simp
  refine (iEntriesIn_at x0 x1 A n cc (x0 + 1) i _).mono ?_
  rintro e w3 ⟨rfl, k0, k1, k2, b⟩
  replace c := c.trans (b.mono c.size)
  replace S := S.keep b
  clear b
  clear HF
  have HF : w3.cell? ⟨w.heap.size, 0, none⟩ = some (.int .i64 x0) ∧ w3.cell? ⟨w.heap.size, 1, none⟩ = some (.int .i64 x1) ∧ w3.cell? ⟨w.heap.size, 2, none⟩ = some (.slice A n cc) := ⟨(S.at_ 1 rfl).cell 0, (S.at_ 1 rfl).cell 1, (S.at_ 1 rfl).cell 2⟩
  refine hK _ _ (fun _ => HF) ?_
  clear hK K
  try simp only [Act.put]
  have K0 := Lib.hid k0
  have K1 := Lib.hid k1
  have K2 := Lib.hid k2
  clear k0 k1 k2
  refine wpAnyL_step (i := 10) (by kernel_rfl) rfl rfl ?_
  intro K hK
  go_simp
  refine (iCollIter_any _ _ _ B x0 x1 (x0 + 1) i A n cc l _ K0.out K1.out K2.out (HH.out.keep (c.mono hB)) (Nat.le_trans hB c.size) hn20).mono ?_
  rintro e w4 ⟨A2, n2, c2, rfl, o, b⟩
  obtain ⟨fp_u, S'⟩ := S.has b o c.size
  replace c := c.trans (b.mono c.size)
  clear S; have S := S'; clear S' o b
  clear HF
  have HF : w4.cell? ⟨w.heap.size, 0, none⟩ = some (.int .i64 x0) ∧ w4.cell? ⟨w.heap.size, 1, none⟩ = some (.int .i64 x1) ∧ w4.cell? ⟨w.heap.size, 2, none⟩ = some (.slice A n cc) := ⟨(S.at_ 2 rfl).cell 0, (S.at_ 2 rfl).cell 1, (S.at_ 2 rfl).cell 2⟩
  refine hK _ _ (fun _ => HF) ?_
  clear hK K
  try simp only [Act.put]
  refine wpAnyL_pure (i := 11) (v := ?_) rfl rfl (by kernel_rfl) (by kernel_rfl) (by kernel_rfl) (fun _ _ _ h => h) HF (Or.inl ⟨by rfl, ?_⟩) ?_
  rotate_left 1
  · (intro v _; go_simp; try with_reducible rfl)
  try simp only [Act.put]
  have f0 : w4.cell? ⟨w.heap.size + 1, 0, none⟩ = some (.int .i64 0) := (S.at_ 1 rfl).cell 0
  have f1 := (S.at_ 1 rfl).free 0
  have f2 : w4.cell? ⟨w.heap.size + 1, 1, none⟩ = some (.int .i64 0) := (S.at_ 1 rfl).cell 1
  have f3 := (S.at_ 1 rfl).free 1
  have f4 : w4.cell? ⟨w.heap.size + 1, 2, none⟩ = some (.slice none 0 0) := (S.at_ 1 rfl).cell 2
  have f5 := (S.at_ 1 rfl).free 2
  refine wpAnyL_step (i := 12) (by kernel_rfl) rfl rfl ?_
  intro K hK
  go_simp
  refine hK _ _ (fun h => nomatch (show true = false from h)) ?_
  clear hK K
  try simp only [Act.put]
  refine wpAnyL_done (by kernel_rfl) ?_ _
  replace S := S.put 1 rfl 0 (.int .i64 x0)
  replace c := c.setCell (p := ⟨w.heap.size + 1, 0, none⟩) (by show w.heap.size ≤ w.heap.size + 1; omega) (.int .i64 x0)
  replace S := S.put 1 rfl 1 (.int .i64 x1)
  replace c := c.setCell (p := ⟨w.heap.size + 1, 1, none⟩) (by show w.heap.size ≤ w.heap.size + 1; omega) (.int .i64 x1)
  replace S := S.put 1 rfl 2 (.slice A2 n2 c2)
  replace c := c.setCell (p := ⟨w.heap.size + 1, 2, none⟩) (by show w.heap.size ≤ w.heap.size + 1; omega) (.slice A2 n2 c2)
  clear HF
  generalize ((w4.setCell ⟨w.heap.size + 1, 0, none⟩ (.int .i64 x0)).setCell ⟨w.heap.size + 1, 1, none⟩ (.int .i64 x1)).setCell ⟨w.heap.size + 1, 2, none⟩ (.slice A2 n2 c2) = w5 at *
  clear f0 f1 f2 f3 f4 f5
  replace S := S.pick 0 rfl
  have H := Lib.hid S.first
  have r0 := Lib.hid ((S.at_ 1 rfl).cell 0)
  have r1 := Lib.hid ((S.at_ 1 rfl).cell 1)
  have r2 := Lib.hid ((S.at_ 1 rfl).cell 2)
  have CC := Lib.hid c
  clear S c
  go_wp2
  exact bodyPost_ret (v := .agg #[.int .i64 x0, .int .i64 x1, .slice A2 n2 c2]) (by simp [results, Try.results64, go_sem, r0.out, r1.out, r2.out]) rfl ⟨_, _, _, rfl, H.out, CC.out⟩
set_option maxHeartbeats 6400000 in
theorem iCopied_any (x0 x1 : Int) (A : Option Addr) (n cc B : Nat) (l : List EntM) (w : World) (h : Rd w B [entD l] [.slice A n cc]) (hB : B ≤ w.heap.size) (hs : entSz l ≤ 1048577) (hok : bookB ⟨x0, x1, l⟩ = true) :
    Calls Try.prog 60 #[.agg #[.int .i64 x0, .int .i64 x1, .slice A n cc]] w fun e w' => ∃ (A2 : Option Addr) (n2 c2 : Nat), e = .returned (.agg #[.int .i64 x0, .int .i64 x1, .slice A2 n2 c2]) ∧ Has w' w.heap.size [entD l] [.slice A2 n2 c2] ∧ Below w.heap.size w w' := by
  have HH := Lib.hid h
  obtain ⟨_, _, _, e, hl, _, hcm, hel⟩ := h.ents
  injection e with e1 e2 e3
  subst e1 e2 e3
  have hn : n ≤ 1048577 := by unfold entSz at hs; omega
  have HL := Lib.hid hl
  have hbk := (bookB_mk' x0 x1 l).1 hok
  have HX := Lib.hid hbk.1
  have hn20 : n ≤ 1048576 := by have := hbk.2.2.2.1; omega
  have HA := Lib.hid (show selE l (x0 + 1) 2000 = l from sel_all hok)
  clear hbk hel hcm h hok hl
  have S := Sep.nil w w.heap.size
  have c := Below.refl w.heap.size w
  replace S := S.boxAt c.size (w.heap.size) rfl #[.int .i64 x0, .int .i64 x1, .slice A n cc] 29
  replace c := c.alloc c.size (.cells #[.int .i64 x0, .int .i64 x1, .slice A n cc] 29)
  replace S := S.boxAt c.size (w.heap.size + 1) (by simp) #[.int .i64 0, .int .i64 0, .slice none 0 0] 29
  replace c := c.alloc c.size (.cells #[.int .i64 0, .int .i64 0, .slice none 0 0] 29)
  go_enter Try.func60, Try.ntmps60
  have f0 : ((w.alloc (.cells #[.int .i64 x0, .int .i64 x1, .slice A n cc] 29)).alloc (.cells #[.int .i64 0, .int .i64 0, .slice none 0 0] 29)).cell? ⟨w.heap.size, 0, none⟩ = some (.int .i64 x0) := (S.at_ 1 rfl).cell 0
  have f1 : ((w.alloc (.cells #[.int .i64 x0, .int .i64 x1, .slice A n cc] 29)).alloc (.cells #[.int .i64 0, .int .i64 0, .slice none 0 0] 29)).cell? ⟨w.heap.size, 1, none⟩ = some (.int .i64 x1) := (S.at_ 1 rfl).cell 1
  have f2 : ((w.alloc (.cells #[.int .i64 x0, .int .i64 x1, .slice A n cc] 29)).alloc (.cells #[.int .i64 0, .int .i64 0, .slice none 0 0] 29)).cell? ⟨w.heap.size, 2, none⟩ = some (.slice A n cc) := (S.at_ 1 rfl).cell 2
  go_wp2_with fail
  generalize (w.alloc (.cells #[.int .i64 x0, .int .i64 x1, .slice A n cc] 29)).alloc (.cells #[.int .i64 0, .int .i64 0, .slice none 0 0] 29) = w1 at *
  refine (iBookTo_any x0 x1 A n cc B l 2000 _ (HH.out.keep (c.mono hB)) (Nat.le_trans hB c.size) hs hn20 HX.out).mono ?_
  rintro e w2 ⟨A2, n2, c2, rfl, o, b2⟩
  obtain ⟨fp_u, S'⟩ := S.has b2 o c.size
  replace c := c.trans (b2.mono c.size)
  clear S; have S := S'; clear S' o b2 f0 f1 f2
  rw [HA.out] at S
  have H := Lib.hid S.first
  have f3 : w2.cell? ⟨w.heap.size + 1, 0, none⟩ = some (.int .i64 0) := (S.at_ 1 rfl).cell 0
  have f4 := (S.at_ 1 rfl).free 0
  have f5 : w2.cell? ⟨w.heap.size + 1, 1, none⟩ = some (.int .i64 0) := (S.at_ 1 rfl).cell 1
  have f6 := (S.at_ 1 rfl).free 1
  have f7 : w2.cell? ⟨w.heap.size + 1, 2, none⟩ = some (.slice none 0 0) := (S.at_ 1 rfl).cell 2
  have f8 := (S.at_ 1 rfl).free 2
  replace S := S.put 1 rfl 0 (.int .i64 x0)
  replace c := c.setCell (p := ⟨w.heap.size + 1, 0, none⟩) (by show w.heap.size ≤ w.heap.size + 1; omega) (.int .i64 x0)
  replace S := S.put 1 rfl 1 (.int .i64 x1)
  replace c := c.setCell (p := ⟨w.heap.size + 1, 1, none⟩) (by show w.heap.size ≤ w.heap.size + 1; omega) (.int .i64 x1)
  replace S := S.put 1 rfl 2 (.slice A2 n2 c2)
  replace c := c.setCell (p := ⟨w.heap.size + 1, 2, none⟩) (by show w.heap.size ≤ w.heap.size + 1; omega) (.slice A2 n2 c2)
  have H := Lib.hid S.first
  have r0 := Lib.hid ((S.at_ 1 rfl).cell 0)
  have r1 := Lib.hid ((S.at_ 1 rfl).cell 1)
  have r2 := Lib.hid ((S.at_ 1 rfl).cell 2)
  have CC := Lib.hid c
  clear S c
  go_wp2
  exact bodyPost_ret (v := .agg #[.int .i64 x0, .int .i64 x1, .slice A2 n2 c2]) (by simp [results, Try.results60, go_sem, r0.out, r1.out, r2.out]) rfl ⟨_, _, _, rfl, H.out, CC.out⟩
set_option maxHeartbeats 12800000 in
theorem iBack_any (x0 x1 : Int) (A : Option Addr) (n cc B : Nat) (l : List EntM) (i : Int) (w : World) (h : Rd w B [entD l] [.slice A n cc]) (hB : B ≤ w.heap.size) (hs : entSz l ≤ 1048577) :
    Calls Try.prog 39 #[.agg #[.int .i64 x0, .int .i64 x1, .slice A n cc], .int .i64 i] w (MadeB w (backM ⟨x0, x1, l⟩ i)) := by
  have HH := Lib.hid h
  obtain ⟨_, _, _, e, hl, _, hcm, hel⟩ := h.ents
  injection e with e1 e2 e3
  subst e1 e2 e3
  have hn : n ≤ 1048577 := by unfold entSz at hs; omega
  have HL := Lib.hid hl
  clear hel h
  have S := Sep.nil w w.heap.size
  have c := Below.refl w.heap.size w
  replace S := S.boxAt c.size (w.heap.size) rfl #[.int .i64 x0, .int .i64 x1, .slice A n cc] 29
  replace c := c.alloc c.size (.cells #[.int .i64 x0, .int .i64 x1, .slice A n cc] 29)
  replace S := S.boxAt c.size (w.heap.size + 1) (by simp) #[.int .i64 0, .int .i64 0, .slice none 0 0] 29
  replace c := c.alloc c.size (.cells #[.int .i64 0, .int .i64 0, .slice none 0 0] 29)
  go_enter Try.func39, Try.ntmps39
  have f0 : ((w.alloc (.cells #[.int .i64 x0, .int .i64 x1, .slice A n cc] 29)).alloc (.cells #[.int .i64 0, .int .i64 0, .slice none 0 0] 29)).cell? ⟨w.heap.size, 0, none⟩ = some (.int .i64 x0) := (S.at_ 1 rfl).cell 0
  have f1 : ((w.alloc (.cells #[.int .i64 x0, .int .i64 x1, .slice A n cc] 29)).alloc (.cells #[.int .i64 0, .int .i64 0, .slice none 0 0] 29)).cell? ⟨w.heap.size, 1, none⟩ = some (.int .i64 x1) := (S.at_ 1 rfl).cell 1
  have f2 : ((w.alloc (.cells #[.int .i64 x0, .int .i64 x1, .slice A n cc] 29)).alloc (.cells #[.int .i64 0, .int .i64 0, .slice none 0 0] 29)).cell? ⟨w.heap.size, 2, none⟩ = some (.slice A n cc) := (S.at_ 1 rfl).cell 2
  go_wp2_with fail
  generalize (w.alloc (.cells #[.int .i64 x0, .int .i64 x1, .slice A n cc] 29)).alloc (.cells #[.int .i64 0, .int .i64 0, .slice none 0 0] 29) = w1 at *
  refine (iBookOk_any x0 x1 A n cc B l _ (HH.out.keep (c.mono hB)) (Nat.le_trans hB c.size) hs).mono ?_
  rintro e w2 ⟨rfl, b2⟩
  replace c := c.trans (b2.mono c.size)
  replace S := S.keep b2
  clear b2 f0 f1 f2
  cases hok : bookB ⟨x0, x1, l⟩
  case false =>
    have HV := Lib.hid (show backM ⟨x0, x1, l⟩ i = (book0, false) by unfold backM; rw [hok]; rfl)
    have f3 : w2.cell? ⟨w.heap.size + 1, 0, none⟩ = some (.int .i64 0) := (S.at_ 0 rfl).cell 0
    have f4 := (S.at_ 0 rfl).free 0
    have f5 : w2.cell? ⟨w.heap.size + 1, 1, none⟩ = some (.int .i64 0) := (S.at_ 0 rfl).cell 1
    have f6 := (S.at_ 0 rfl).free 1
    have f7 : w2.cell? ⟨w.heap.size + 1, 2, none⟩ = some (.slice none 0 0) := (S.at_ 0 rfl).cell 2
    have f8 := (S.at_ 0 rfl).free 2
    replace S := S.put 0 rfl 0 (.int .i64 0)
    replace c := c.setCell (p := ⟨w.heap.size + 1, 0, none⟩) (by show w.heap.size ≤ w.heap.size + 1; omega) (.int .i64 0)
    replace S := S.put 0 rfl 1 (.int .i64 0)
    replace c := c.setCell (p := ⟨w.heap.size + 1, 1, none⟩) (by show w.heap.size ≤ w.heap.size + 1; omega) (.int .i64 0)
    replace S := S.put 0 rfl 2 (.slice none 0 0)
    replace c := c.setCell (p := ⟨w.heap.size + 1, 2, none⟩) (by show w.heap.size ≤ w.heap.size + 1; omega) (.slice none 0 0)
    clear hok
    have r0 := Lib.hid ((S.at_ 0 rfl).cell 0)
    have r1 := Lib.hid ((S.at_ 0 rfl).cell 1)
    have r2 := Lib.hid ((S.at_ 0 rfl).cell 2)
    have CC := Lib.hid c
    clear S c
    go_wp2
    exact bodyPost_ret (v := .tuple #[.agg #[.int .i64 0, .int .i64 0, .slice none 0 0], .bool false]) (by simp [results, Try.results39, go_sem, r0.out, r1.out, r2.out]) rfl ⟨_, _, _, _, _, by rw [HV.out], by rw [HV.out]; exact has_book0 _ _, CC.out⟩
  case true =>
    have HOK := Lib.hid hok
    have hbk := (bookB_mk' x0 x1 l).1 hok
    have HX := Lib.hid hbk.1
    have hn20 : n ≤ 1048576 := by have := hbk.2.2.2.1; omega
    have hlast : lastB ⟨x0, x1, l⟩ = x0 + (n : Int) := by unfold lastB; rw [show (⟨x0, x1, l⟩ : BookM).ents.length = n from hl]
    have HM := Lib.hid (show ∀ q, inB i x0 (x0 + (n : Int)) = q → backM ⟨x0, x1, l⟩ i = if q = true then (⟨x0, x1, l.take (i - x0).toNat⟩, true) else (⟨x0, x1, l⟩, false) from fun q hq => by unfold backM inBook; rw [if_pos hok, hlast]; simp only [hq])
    have HLM := Lib.hid (show lastM ⟨x0, x1, l⟩ = x0 + (n : Int) by unfold lastM; rw [if_pos hok, hlast])
    have HA := Lib.hid (show selE l (x0 + 1) i = l.take (i - x0).toNat from sel_back hok i)
    clear hok hlast hbk hcm
    by_cases q0 : i < x0
    case pos =>
      have d0 : decide (i < x0) = true := decide_eq_true q0
      have HV := Lib.hid ((HM.out false (by rw [Bool.eq_false_iff]; intro h9; rw [inB_iff] at h9; omega)).trans (if_neg (by decide)))
      have f3 : w2.cell? ⟨w.heap.size, 0, none⟩ = some (.int .i64 x0) := (S.at_ 1 rfl).cell 0
      have f4 : w2.cell? ⟨w.heap.size, 1, none⟩ = some (.int .i64 x1) := (S.at_ 1 rfl).cell 1
      have f5 : w2.cell? ⟨w.heap.size, 2, none⟩ = some (.slice A n cc) := (S.at_ 1 rfl).cell 2
      go_wp2_with fail
      refine (iCopied_any x0 x1 A n cc B l _ (HH.out.keep (c.mono hB)) (Nat.le_trans hB c.size) hs HOK.out).mono ?_
      rintro e w3 ⟨A2, n2, c2, rfl, o, b2⟩
      obtain ⟨fp_u, S'⟩ := S.has b2 o c.size
      replace c := c.trans (b2.mono c.size)
      clear S; have S := S'; clear S' o b2 f3 f4 f5
      have f6 : w3.cell? ⟨w.heap.size + 1, 0, none⟩ = some (.int .i64 0) := (S.at_ 1 rfl).cell 0
      have f7 := (S.at_ 1 rfl).free 0
      have f8 : w3.cell? ⟨w.heap.size + 1, 1, none⟩ = some (.int .i64 0) := (S.at_ 1 rfl).cell 1
      have f9 := (S.at_ 1 rfl).free 1
      have f10 : w3.cell? ⟨w.heap.size + 1, 2, none⟩ = some (.slice none 0 0) := (S.at_ 1 rfl).cell 2
      have f11 := (S.at_ 1 rfl).free 2
      replace S := S.put 1 rfl 0 (.int .i64 x0)
      replace c := c.setCell (p := ⟨w.heap.size + 1, 0, none⟩) (by show w.heap.size ≤ w.heap.size + 1; omega) (.int .i64 x0)
      replace S := S.put 1 rfl 1 (.int .i64 x1)
      replace c := c.setCell (p := ⟨w.heap.size + 1, 1, none⟩) (by show w.heap.size ≤ w.heap.size + 1; omega) (.int .i64 x1)
      replace S := S.put 1 rfl 2 (.slice A2 n2 c2)
      replace c := c.setCell (p := ⟨w.heap.size + 1, 2, none⟩) (by show w.heap.size ≤ w.heap.size + 1; omega) (.slice A2 n2 c2)
      have H := Lib.hid S.first
      have r0 := Lib.hid ((S.at_ 1 rfl).cell 0)
      have r1 := Lib.hid ((S.at_ 1 rfl).cell 1)
      have r2 := Lib.hid ((S.at_ 1 rfl).cell 2)
      have CC := Lib.hid c
      clear S c
      go_wp2
      exact bodyPost_ret (v := .tuple #[.agg #[.int .i64 x0, .int .i64 x1, .slice A2 n2 c2], .bool false]) (by simp [results, Try.results39, go_sem, r0.out, r1.out, r2.out]) rfl ⟨_, _, _, _, _, by rw [HV.out], by rw [HV.out]; exact has_mk H.out, CC.out⟩
    have d0 : decide (i < x0) = false := decide_eq_false q0
    have f3 : w2.cell? ⟨w.heap.size, 0, none⟩ = some (.int .i64 x0) := (S.at_ 1 rfl).cell 0
    have f4 : w2.cell? ⟨w.heap.size, 1, none⟩ = some (.int .i64 x1) := (S.at_ 1 rfl).cell 1
    have f5 : w2.cell? ⟨w.heap.size, 2, none⟩ = some (.slice A n cc) := (S.at_ 1 rfl).cell 2
    go_wp2_with fail
    refine (iLastOf_any x0 x1 A n cc B l _ (HH.out.keep (c.mono hB)) (Nat.le_trans hB c.size) hs).mono ?_
    rintro e w3 ⟨rfl, b2⟩
    replace c := c.trans (b2.mono c.size)
    replace S := S.keep b2
    clear b2 f3 f4 f5
    rw [HLM.out]
    by_cases q1 : x0 + (n : Int) < i
    case pos =>
      have d1 : decide (i > x0 + (n : Int)) = true := decide_eq_true q1
      have d2 : decide (x0 + (n : Int) < i) = true := decide_eq_true q1
      have HV := Lib.hid ((HM.out false (by rw [Bool.eq_false_iff]; intro h9; rw [inB_iff] at h9; omega)).trans (if_neg (by decide)))
      have f6 : w3.cell? ⟨w.heap.size, 0, none⟩ = some (.int .i64 x0) := (S.at_ 1 rfl).cell 0
      have f7 : w3.cell? ⟨w.heap.size, 1, none⟩ = some (.int .i64 x1) := (S.at_ 1 rfl).cell 1
      have f8 : w3.cell? ⟨w.heap.size, 2, none⟩ = some (.slice A n cc) := (S.at_ 1 rfl).cell 2
      go_wp2_with fail
      refine (iCopied_any x0 x1 A n cc B l _ (HH.out.keep (c.mono hB)) (Nat.le_trans hB c.size) hs HOK.out).mono ?_
      rintro e w4 ⟨A2, n2, c2, rfl, o, b2⟩
      obtain ⟨fp_u, S'⟩ := S.has b2 o c.size
      replace c := c.trans (b2.mono c.size)
      clear S; have S := S'; clear S' o b2 f6 f7 f8
      have f9 : w4.cell? ⟨w.heap.size + 1, 0, none⟩ = some (.int .i64 0) := (S.at_ 1 rfl).cell 0
      have f10 := (S.at_ 1 rfl).free 0
      have f11 : w4.cell? ⟨w.heap.size + 1, 1, none⟩ = some (.int .i64 0) := (S.at_ 1 rfl).cell 1
      have f12 := (S.at_ 1 rfl).free 1
      have f13 : w4.cell? ⟨w.heap.size + 1, 2, none⟩ = some (.slice none 0 0) := (S.at_ 1 rfl).cell 2
      have f14 := (S.at_ 1 rfl).free 2
      replace S := S.put 1 rfl 0 (.int .i64 x0)
      replace c := c.setCell (p := ⟨w.heap.size + 1, 0, none⟩) (by show w.heap.size ≤ w.heap.size + 1; omega) (.int .i64 x0)
      replace S := S.put 1 rfl 1 (.int .i64 x1)
      replace c := c.setCell (p := ⟨w.heap.size + 1, 1, none⟩) (by show w.heap.size ≤ w.heap.size + 1; omega) (.int .i64 x1)
      replace S := S.put 1 rfl 2 (.slice A2 n2 c2)
      replace c := c.setCell (p := ⟨w.heap.size + 1, 2, none⟩) (by show w.heap.size ≤ w.heap.size + 1; omega) (.slice A2 n2 c2)
      have H := Lib.hid S.first
      have r0 := Lib.hid ((S.at_ 1 rfl).cell 0)
      have r1 := Lib.hid ((S.at_ 1 rfl).cell 1)
      have r2 := Lib.hid ((S.at_ 1 rfl).cell 2)
      have CC := Lib.hid c
      clear S c
      go_wp2
      exact bodyPost_ret (v := .tuple #[.agg #[.int .i64 x0, .int .i64 x1, .slice A2 n2 c2], .bool false]) (by simp [results, Try.results39, go_sem, r0.out, r1.out, r2.out]) rfl ⟨_, _, _, _, _, by rw [HV.out], by rw [HV.out]; exact has_mk H.out, CC.out⟩
    have d1 : decide (i > x0 + (n : Int)) = false := decide_eq_false q1
    have d2 : decide (x0 + (n : Int) < i) = false := decide_eq_false q1
    have HV := Lib.hid ((HM.out true (by rw [inB_iff]; omega)).trans (if_pos rfl))
    have f6 : w3.cell? ⟨w.heap.size, 0, none⟩ = some (.int .i64 x0) := (S.at_ 1 rfl).cell 0
    have f7 : w3.cell? ⟨w.heap.size, 1, none⟩ = some (.int .i64 x1) := (S.at_ 1 rfl).cell 1
    have f8 : w3.cell? ⟨w.heap.size, 2, none⟩ = some (.slice A n cc) := (S.at_ 1 rfl).cell 2
    go_wp2_with fail
    refine (iBookTo_any x0 x1 A n cc B l i _ (HH.out.keep (c.mono hB)) (Nat.le_trans hB c.size) hs hn20 HX.out).mono ?_
    rintro e w4 ⟨A2, n2, c2, rfl, o, b2⟩
    obtain ⟨fp_u, S'⟩ := S.has b2 o c.size
    replace c := c.trans (b2.mono c.size)
    clear S; have S := S'; clear S' o b2 f6 f7 f8
    rw [HA.out] at S
    have f9 : w4.cell? ⟨w.heap.size + 1, 0, none⟩ = some (.int .i64 0) := (S.at_ 1 rfl).cell 0
    have f10 := (S.at_ 1 rfl).free 0
    have f11 : w4.cell? ⟨w.heap.size + 1, 1, none⟩ = some (.int .i64 0) := (S.at_ 1 rfl).cell 1
    have f12 := (S.at_ 1 rfl).free 1
    have f13 : w4.cell? ⟨w.heap.size + 1, 2, none⟩ = some (.slice none 0 0) := (S.at_ 1 rfl).cell 2
    have f14 := (S.at_ 1 rfl).free 2
    replace S := S.put 1 rfl 0 (.int .i64 x0)
    replace c := c.setCell (p := ⟨w.heap.size + 1, 0, none⟩) (by show w.heap.size ≤ w.heap.size + 1; omega) (.int .i64 x0)
    replace S := S.put 1 rfl 1 (.int .i64 x1)
    replace c := c.setCell (p := ⟨w.heap.size + 1, 1, none⟩) (by show w.heap.size ≤ w.heap.size + 1; omega) (.int .i64 x1)
    replace S := S.put 1 rfl 2 (.slice A2 n2 c2)
    replace c := c.setCell (p := ⟨w.heap.size + 1, 2, none⟩) (by show w.heap.size ≤ w.heap.size + 1; omega) (.slice A2 n2 c2)
    have H := Lib.hid S.first
    have r0 := Lib.hid ((S.at_ 1 rfl).cell 0)
    have r1 := Lib.hid ((S.at_ 1 rfl).cell 1)
    have r2 := Lib.hid ((S.at_ 1 rfl).cell 2)
    have CC := Lib.hid c
    clear S c
    go_wp2
    exact bodyPost_ret (v := .tuple #[.agg #[.int .i64 x0, .int .i64 x1, .slice A2 n2 c2], .bool true]) (by simp [results, Try.results39, go_sem, r0.out, r1.out, r2.out]) rfl ⟨_, _, _, _, _, by rw [HV.out], by rw [HV.out]; exact has_mk H.out, CC.out⟩

end Go.Proofs.Ytnjfdnjakogpmaa
