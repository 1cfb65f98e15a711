/-
  Chapter 8: an entry appended to a book, of the program (by program, wip/gen/genbookia.py).
-/
import Derived.Test.YtnjfdnjakogpmaaBookI9
import Derived.RegionTactic
import Derived.BigQuiet
import Derived.Laws.EntriesVeiled
namespace Go.Proofs.Ytnjfdnjakogpmaa
set_option maxRecDepth 100000
open Go.RowKit

theorem grow_one (b : BookM) (e : EntM) : growM b [e] = appM b e := by
  unfold growM appM
  have h : growB b [e] = nextB b e := by
    unfold growB growAt
    simp [more_nil]
  rw [h, if_pos (show ([e] : List EntM).length ≤ 20 from by show 1 ≤ 20; decide)]
set_option maxHeartbeats 12800000 in
theorem iApp_any (x0 x1 : Int) (A : Option Addr) (n cc B : Nat) (l : List EntM) (e0 e1 e2 e3 e4 e5 e6 e7 e8 : Int) (w : World) (h : Rd w B [entD l] [.slice A n cc]) (hB : B ≤ w.heap.size) (hs : entSz l ≤ 1048577) :
    Calls Try.prog 27 #[.agg #[.int .i64 x0, .int .i64 x1, .slice A n cc], .agg #[.int .i64 e0, .int .i64 e1, .int .i64 e2, .int .i64 e3, .int .i64 e4, .int .i64 e5, .int .i64 e6, .int .i64 e7, .int .i64 e8]] w (MadeB w (appM ⟨x0, x1, l⟩ ⟨e0, e1, e2, e3, e4, e5, e6, e7, e8⟩)) := by
  have HH := Lib.hid h
  obtain ⟨_, _, _, e, hl, _, hcm, hel⟩ := h.ents
  injection e with e1 e2 e3
  subst e1 e2 e3
  have hn : n ≤ 1048577 := by unfold entSz at hs; omega
  have HL := Lib.hid hl
  clear hel hcm h hl hn
  rw [← grow_one]
  obtain ⟨bk, hbk⟩ : ∃ q, q = growM ⟨x0, x1, l⟩ [⟨e0, e1, e2, e3, e4, e5, e6, e7, e8⟩] := ⟨_, rfl⟩
  rw [← hbk]
  have HBK := Lib.hid hbk
  clear hbk
  have S := Sep.nil w w.heap.size
  have c := Below.refl w.heap.size w
  replace S := S.boxAt c.size (w.heap.size) rfl #[.int .i64 x0, .int .i64 x1, .slice A n cc] 29
  replace c := c.alloc c.size (.cells #[.int .i64 x0, .int .i64 x1, .slice A n cc] 29)
  replace S := S.boxAt c.size (w.heap.size + 1) (by simp) #[.int .i64 e0, .int .i64 e1, .int .i64 e2, .int .i64 e3, .int .i64 e4, .int .i64 e5, .int .i64 e6, .int .i64 e7, .int .i64 e8] 37
  replace c := c.alloc c.size (.cells #[.int .i64 e0, .int .i64 e1, .int .i64 e2, .int .i64 e3, .int .i64 e4, .int .i64 e5, .int .i64 e6, .int .i64 e7, .int .i64 e8] 37)
  replace S := S.boxAt c.size (w.heap.size + 1 + 1) (by simp) #[.int .i64 0, .int .i64 0, .slice none 0 0] 29
  replace c := c.alloc c.size (.cells #[.int .i64 0, .int .i64 0, .slice none 0 0] 29)
  replace S := S.boxAt c.size (w.heap.size + 1 + 1 + 1) (by simp) #[.int .i64 e0, .int .i64 e1, .int .i64 e2, .int .i64 e3, .int .i64 e4, .int .i64 e5, .int .i64 e6, .int .i64 e7, .int .i64 e8] 37
  replace c := c.alloc c.size (.cells #[.int .i64 e0, .int .i64 e1, .int .i64 e2, .int .i64 e3, .int .i64 e4, .int .i64 e5, .int .i64 e6, .int .i64 e7, .int .i64 e8] 37)
  have HR : Rd ((((w.alloc (.cells #[.int .i64 x0, .int .i64 x1, .slice A n cc] 29)).alloc (.cells #[.int .i64 e0, .int .i64 e1, .int .i64 e2, .int .i64 e3, .int .i64 e4, .int .i64 e5, .int .i64 e6, .int .i64 e7, .int .i64 e8] 37)).alloc (.cells #[.int .i64 0, .int .i64 0, .slice none 0 0] 29)).alloc (.cells #[.int .i64 e0, .int .i64 e1, .int .i64 e2, .int .i64 e3, .int .i64 e4, .int .i64 e5, .int .i64 e6, .int .i64 e7, .int .i64 e8] 37)) ((((w.alloc (.cells #[.int .i64 x0, .int .i64 x1, .slice A n cc] 29)).alloc (.cells #[.int .i64 e0, .int .i64 e1, .int .i64 e2, .int .i64 e3, .int .i64 e4, .int .i64 e5, .int .i64 e6, .int .i64 e7, .int .i64 e8] 37)).alloc (.cells #[.int .i64 0, .int .i64 0, .slice none 0 0] 29)).alloc (.cells #[.int .i64 e0, .int .i64 e1, .int .i64 e2, .int .i64 e3, .int .i64 e4, .int .i64 e5, .int .i64 e6, .int .i64 e7, .int .i64 e8] 37)).heap.size [entD [(⟨e0, e1, e2, e3, e4, e5, e6, e7, e8⟩ : EntM)]] [.slice (some ⟨w.heap.size + 1 + 1 + 1, 0, none⟩) 1 1] := by
    refine Rd.of_lst (us := [.int .i64 e0, .int .i64 e1, .int .i64 e2, .int .i64 e3, .int .i64 e4, .int .i64 e5, .int .i64 e6, .int .i64 e7, .int .i64 e8]) entC_len rfl (by decide) (by decide) (fun _ => ⟨_, 0, rfl, (S.at_ 0 rfl).lt, fun j hj => ?_⟩) (.int (.int (.int (.int (.int (.int (.int (.int (.int (.nil))))))))))
    rw [Nat.zero_add]
    rw [(S.at_ 0 rfl).cell j]
    simp
  have HR := Lib.hid HR
  go_enter Try.func27, Try.ntmps27
  go_wp2_with fail
  generalize (((w.alloc (.cells #[.int .i64 x0, .int .i64 x1, .slice A n cc] 29)).alloc (.cells #[.int .i64 e0, .int .i64 e1, .int .i64 e2, .int .i64 e3, .int .i64 e4, .int .i64 e5, .int .i64 e6, .int .i64 e7, .int .i64 e8] 37)).alloc (.cells #[.int .i64 0, .int .i64 0, .slice none 0 0] 29)).alloc (.cells #[.int .i64 e0, .int .i64 e1, .int .i64 e2, .int .i64 e3, .int .i64 e4, .int .i64 e5, .int .i64 e6, .int .i64 e7, .int .i64 e8] 37) = w1 at *
  refine (iGrown_any x0 x1 A n cc B l _ 1 1 _ [(⟨e0, e1, e2, e3, e4, e5, e6, e7, e8⟩ : EntM)] _ (HH.out.keep (c.mono hB)) (Nat.le_trans hB c.size) hs HR.out (Nat.le_refl _) (show (1 : Nat) ≤ 1048577 by decide)).mono ?_
  rintro e w2 ⟨y0, y1, A2, n2, c2, rfl, o, b2⟩
  rw [← HBK.out] at o ⊢
  clear HBK HR
  obtain ⟨fp_u, S'⟩ := S.has b2 o c.size
  replace c := c.trans (b2.mono c.size)
  clear S; have S := S'; clear S' o b2 
  obtain ⟨bb, fl⟩ := bk
  simp only at S ⊢
  have f0 : w2.cell? ⟨w.heap.size + 1 + 1, 0, none⟩ = some (.int .i64 0) := (S.at_ 2 rfl).cell 0
  have f1 := (S.at_ 2 rfl).free 0
  have f2 : w2.cell? ⟨w.heap.size + 1 + 1, 1, none⟩ = some (.int .i64 0) := (S.at_ 2 rfl).cell 1
  have f3 := (S.at_ 2 rfl).free 1
  have f4 : w2.cell? ⟨w.heap.size + 1 + 1, 2, none⟩ = some (.slice none 0 0) := (S.at_ 2 rfl).cell 2
  have f5 := (S.at_ 2 rfl).free 2
  replace S := S.put 2 rfl 0 (.int .i64 y0)
  replace c := c.setCell (p := ⟨w.heap.size + 1 + 1, 0, none⟩) (by show w.heap.size ≤ w.heap.size + 1 + 1; omega) (.int .i64 y0)
  replace S := S.put 2 rfl 1 (.int .i64 y1)
  replace c := c.setCell (p := ⟨w.heap.size + 1 + 1, 1, none⟩) (by show w.heap.size ≤ w.heap.size + 1 + 1; omega) (.int .i64 y1)
  replace S := S.put 2 rfl 2 (.slice A2 n2 c2)
  replace c := c.setCell (p := ⟨w.heap.size + 1 + 1, 2, none⟩) (by show w.heap.size ≤ w.heap.size + 1 + 1; omega) (.slice A2 n2 c2)
  have H := Lib.hid S.first
  have r0 := Lib.hid ((S.at_ 2 rfl).cell 0)
  have r1 := Lib.hid ((S.at_ 2 rfl).cell 1)
  have r2 := Lib.hid ((S.at_ 2 rfl).cell 2)
  have CC := Lib.hid c
  clear S c
  go_wp2
  exact bodyPost_ret (v := .tuple #[.agg #[.int .i64 y0, .int .i64 y1, .slice A2 n2 c2], .bool fl]) (by simp [results, Try.results27, go_sem, r0.out, r1.out, r2.out]) rfl ⟨_, _, _, _, _, rfl, H.out, CC.out⟩

end Go.Proofs.Ytnjfdnjakogpmaa
