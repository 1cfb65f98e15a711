/- Parts of my texts: EntI2. -/
import Derived.Test.YtmjifhjhialcbaaU12
import Derived.Test.YtmjifhjhialcbaaU27
namespace Go.Proofs.Ytmjifhjhialcbaa
set_option maxRecDepth 100000
set_option linter.unusedVariables false
open Go.RowKit
theorem iNums_any (x0 x1 x2 x3 x4 : Int) (w : World) :
    Calls Try.prog 65 #[.agg #[.int .i64 x0, .int .i64 x1, .int .i64 x2, .int .i64 x3, .int .i64 x4]] w fun e w' => ∃ (A : Option Addr) (n c : Nat), e = .returned (.slice A n c) ∧ Has w' w.heap.size (rowCells (opNs ⟨x0, x1, x2, x3, x4⟩)) [.slice A n c] ∧ Below w.heap.size w w' := by
 have S := Sep.nil w w.heap.size
 have c := Below.refl w.heap.size w
 replace S := S.boxAt c.size (w.heap.size) rfl #[.int .i64 x0, .int .i64 x1, .int .i64 x2, .int .i64 x3, .int .i64 x4] 33
 replace c := al c S
 have H := jd ((has_lit (w.alloc (.cells #[.int .i64 x0, .int .i64 x1, .int .i64 x2, .int .i64 x3, .int .i64 x4] 33)) [x0, x1, x2, x3, x4] (by simp)).up c.size)
 have C := jd (c.alloc c.size (.cells #[.int .i64 x0, .int .i64 x1, .int .i64 x2, .int .i64 x3, .int .i64 x4] 2))
 clear S c
 go_enter Try.func65, Try.ntmps65
 have h9 := H.out
 rw [show (w.alloc (.cells #[.int .i64 x0, .int .i64 x1, .int .i64 x2, .int .i64 x3, .int .i64 x4] 33)).heap.size = w.heap.size + 1 by simp] at h9
 have H9 := jd h9
 clear h9 H
 go_wp2
 go_ret
 exact ⟨_, _, _, rfl, H9.out, C.out⟩
theorem has_nil_rowE (w : World) (base : Nat) : Has w base (rowCells []) [.slice none 0 0] := ⟨[], ow_nil_row w, List.nodup_nil, fun p hp => by cases hp⟩
set_option maxHeartbeats 6400000 in
theorem iOpOf_any (b off cc B : Nat) (x0 x1 x2 x3 x4 : Int) (d : List Int) (hx : ofOp d = ⟨x0, x1, x2, x3, x4⟩) (w : World) (h : IRow w B (some ⟨b, off, none⟩) 5 d) (hB : B ≤ w.heap.size) :
    Calls Try.prog 73 #[.slice (some ⟨b, off, none⟩) 5 cc] w fun e w' => e = .returned (.agg #[.int .i64 x0, .int .i64 x1, .int .i64 x2, .int .i64 x3, .int .i64 x4]) ∧ Below w.heap.size w w' := by
 obtain ⟨b', off', e, hb, hc⟩ := h.2 (by omega)
 injection e with e
 injection e with e1 e2
 subst e1 e2
 unfold ofOp at hx
 injection hx with q0 q1 q2 q3 q4
 have k0 := hc 0 (by omega)
 rw [q0] at k0
 have k1 := hc 1 (by omega)
 rw [q1] at k1
 have k2 := hc 2 (by omega)
 rw [q2] at k2
 have k3 := hc 3 (by omega)
 rw [q3] at k3
 have k4 := hc 4 (by omega)
 rw [q4] at k4
 rw [Nat.add_zero] at k0
 clear hc h q0 q1 q2 q3 q4
 have S := Sep.nil w w.heap.size
 have c := Below.refl w.heap.size w
 replace S := S.boxAt c.size (w.heap.size) rfl #[.int .i64 0, .int .i64 0, .int .i64 0, .int .i64 0, .int .i64 0] 33
 replace c := al c S
 go_enter Try.func73, Try.ntmps73
 go_wp2_with fail
 generalize w.alloc (.cells #[.int .i64 0, .int .i64 0, .int .i64 0, .int .i64 0, .int .i64 0] 33) = w1 at *
 refine wp_region_L (fun v => v.cell? ⟨b, off, none⟩ = some (.int .i64 x0) ∧ v.cell? ⟨b, off + 1, none⟩ = some (.int .i64 x1) ∧ v.cell? ⟨b, off + 2, none⟩ = some (.int .i64 x2) ∧ v.cell? ⟨b, off + 3, none⟩ = some (.int .i64 x3) ∧ v.cell? ⟨b, off + 4, none⟩ = some (.int .i64 x4)) 16 (by kernel_rfl) ?_
 replace S := S.keep ((Below.refl _ _).drew)
 replace c := c.drew
 generalize w1.drew = w2 at *
 have HF : w2.cell? ⟨b, off, none⟩ = some (.int .i64 x0) ∧ w2.cell? ⟨b, off + 1, none⟩ = some (.int .i64 x1) ∧ w2.cell? ⟨b, off + 2, none⟩ = some (.int .i64 x2) ∧ w2.cell? ⟨b, off + 3, none⟩ = some (.int .i64 x3) ∧ w2.cell? ⟨b, off + 4, none⟩ = some (.int .i64 x4) := ⟨cu0z c k0 (show b < _ by omega), cu0z c k1 (show b < _ by omega), cu0z c k2 (show b < _ by omega), cu0z c k3 (show b < _ by omega), cu0z c k4 (show b < _ by omega)⟩
 refine tk 0 (v := ?_) rfl rfl HF (.inl ⟨by rfl, ?_⟩) ?_
 rotate_left 1
 · (rintro v ⟨a0, a1, a2, a3, a4⟩; go_simp; try with_reducible rfl)
 try simp only [Act.put]
 refine tk 1 (v := ?_) rfl rfl HF (.inl ⟨by rfl, ?_⟩) ?_
 rotate_left 1
 · (rintro v ⟨a0, a1, a2, a3, a4⟩; go_simp; try with_reducible rfl)
 try simp only [Act.put]
 refine tk 2 (v := ?_) rfl rfl HF (.inl ⟨by rfl, ?_⟩) ?_
 rotate_left 1
 · (rintro v ⟨a0, a1, a2, a3, a4⟩; go_simp; try with_reducible rfl)
 try simp only [Act.put]
 refine tk 3 (v := ?_) rfl rfl HF (.inl ⟨by rfl, ?_⟩) ?_
 rotate_left 1
 · (rintro v ⟨a0, a1, a2, a3, a4⟩; go_simp; try with_reducible rfl)
 try simp only [Act.put]
 refine tk 4 (v := ?_) rfl rfl HF (.inl ⟨by rfl, ?_⟩) ?_
 rotate_left 1
 · (rintro v ⟨a0, a1, a2, a3, a4⟩; go_simp; try with_reducible rfl)
 try simp only [Act.put]
 refine tk 5 (v := ?_) rfl rfl HF (.inl ⟨by rfl, ?_⟩) ?_
 rotate_left 1
 · (rintro v ⟨a0, a1, a2, a3, a4⟩; go_simp; try with_reducible rfl)
 try simp only [Act.put]
 refine tk 6 (v := ?_) rfl rfl HF (.inl ⟨by rfl, ?_⟩) ?_
 rotate_left 1
 · (rintro v ⟨a0, a1, a2, a3, a4⟩; go_simp; try with_reducible rfl)
 try simp only [Act.put]
 refine tk 7 (v := ?_) rfl rfl HF (.inl ⟨by rfl, ?_⟩) ?_
 rotate_left 1
 · (rintro v ⟨a0, a1, a2, a3, a4⟩; go_simp; try with_reducible rfl)
 try simp only [Act.put]
 refine tk 8 (v := ?_) rfl rfl HF (.inl ⟨by rfl, ?_⟩) ?_
 rotate_left 1
 · (rintro v ⟨a0, a1, a2, a3, a4⟩; go_simp; try with_reducible rfl)
 try simp only [Act.put]
 refine tk 9 (v := ?_) rfl rfl HF (.inl ⟨by rfl, ?_⟩) ?_
 rotate_left 1
 · (rintro v ⟨a0, a1, a2, a3, a4⟩; go_simp; try with_reducible rfl)
 try simp only [Act.put]
 refine tk 10 (v := ?_) rfl rfl HF (.inl ⟨by rfl, ?_⟩) ?_
 rotate_left 1
 · (rintro v ⟨a0, a1, a2, a3, a4⟩; go_simp; try with_reducible rfl)
 try simp only [Act.put]
 refine tk 11 (v := ?_) rfl rfl HF (.inl ⟨by rfl, ?_⟩) ?_
 rotate_left 1
 · (rintro v ⟨a0, a1, a2, a3, a4⟩; go_simp; try with_reducible rfl)
 try simp only [Act.put]
 refine tk 12 (v := ?_) rfl rfl HF (.inl ⟨by rfl, ?_⟩) ?_
 rotate_left 1
 · (rintro v ⟨a0, a1, a2, a3, a4⟩; go_simp; try with_reducible rfl)
 try simp only [Act.put]
 refine tk 13 (v := ?_) rfl rfl HF (.inl ⟨by rfl, ?_⟩) ?_
 rotate_left 1
 · (rintro v ⟨a0, a1, a2, a3, a4⟩; go_simp; try with_reducible rfl)
 try simp only [Act.put]
 refine tk 14 (v := ?_) rfl rfl HF (.inl ⟨by rfl, ?_⟩) ?_
 rotate_left 1
 · (rintro v ⟨a0, a1, a2, a3, a4⟩; go_simp; try with_reducible rfl)
 try simp only [Act.put]
 refine tk 15 (v := ?_) rfl rfl HF (.inl ⟨by rfl, ?_⟩) ?_
 rotate_left 1
 · (rintro v ⟨a0, a1, a2, a3, a4⟩; go_simp; try with_reducible rfl)
 try simp only [Act.put]
 have f0 := lk S 0 0 rfl rfl
 have f1 := (S.at_ 0 rfl).free 0
 have f2 := lk S 0 1 rfl rfl
 have f3 := (S.at_ 0 rfl).free 1
 have f4 := lk S 0 2 rfl rfl
 have f5 := (S.at_ 0 rfl).free 2
 have f6 := lk S 0 3 rfl rfl
 have f7 := (S.at_ 0 rfl).free 3
 have f8 := lk S 0 4 rfl rfl
 have f9 := (S.at_ 0 rfl).free 4
 refine wpAnyL_step (i := 16) (by kernel_rfl) rfl rfl ?_
 intro K hK
 go_simp
 refine hK _ _ (fun h => nomatch (show true = false from h)) ?_
 clear hK K
 try simp only [Act.put]
 refine wpAnyL_done (by kernel_rfl) ?_ _
 replace S := S.put 0 rfl 0 (.int .i64 x0)
 replace c := st c S (by omega)
 replace S := S.put 0 rfl 1 (.int .i64 x1)
 replace c := st c S (by omega)
 replace S := S.put 0 rfl 2 (.int .i64 x2)
 replace c := st c S (by omega)
 replace S := S.put 0 rfl 3 (.int .i64 x3)
 replace c := st c S (by omega)
 replace S := S.put 0 rfl 4 (.int .i64 x4)
 replace c := st c S (by omega)
 clear HF
 generalize ((((w2.setCell ⟨w.heap.size, 0, none⟩ (.int .i64 x0)).setCell ⟨w.heap.size, 1, none⟩ (.int .i64 x1)).setCell ⟨w.heap.size, 2, none⟩ (.int .i64 x2)).setCell ⟨w.heap.size, 3, none⟩ (.int .i64 x3)).setCell ⟨w.heap.size, 4, none⟩ (.int .i64 x4) = w3 at *
 clear f0 f1 f2 f3 f4 f5 f6 f7 f8 f9
 have r0 := jd ((S.at_ 0 rfl).cell 0)
 have r1 := jd ((S.at_ 0 rfl).cell 1)
 have r2 := jd ((S.at_ 0 rfl).cell 2)
 have r3 := jd ((S.at_ 0 rfl).cell 3)
 have r4 := jd ((S.at_ 0 rfl).cell 4)
 have C := jd c
 clear S c
 go_wp2
 exact bodyPost_ret (v := .agg #[.int .i64 x0, .int .i64 x1, .int .i64 x2, .int .i64 x3, .int .i64 x4]) (by simp [results, Try.results73, go_sem, r0.out, r1.out, r2.out, r3.out, r4.out]) rfl ⟨rfl, C.out⟩
end Go.Proofs.Ytmjifhjhialcbaa
