/- Parts of my texts: EntS3. -/
import Derived.Test.YtmjifhjhialcbaaGreatK9
namespace Go.Proofs.YtmjifhjhialcbaaGreat
set_option maxRecDepth 100000
set_option linter.unusedVariables false
open Go.RowKit
set_option maxHeartbeats 6400000 in
theorem sRowOp_any (A : Option Addr) (n cc B : Nat) (d : List Int) (w : World) (h : IRow w B A n d) (hB : B ≤ w.heap.size) (hm : n ≤ maxLen) :
    Calls Tryz.prog 227 #[.slice A n cc] w fun e w' => e = .returned (.tuple #[.agg #[.int .i64 (rowOpM d).1.kind, .int .i64 (rowOpM d).1.a, .int .i64 (rowOpM d).1.b, .int .i64 (rowOpM d).1.c, .int .i64 (rowOpM d).1.d], .bool (rowOpM d).2]) ∧ Below w.heap.size w w' := by
 unfold maxLen at hm
 by_cases hn : n = 5
 case neg =>
  have S := Sep.nil w w.heap.size
  have c := Below.refl w.heap.size w
  replace S := S.boxAt c.size (w.heap.size) rfl #[.int .i64 0, .int .i64 0, .int .i64 0, .int .i64 0, .int .i64 0] 85
  replace c := al c S
  have HD := jd (show rowOpM d = (op0, false) by unfold rowOpM; rw [if_neg (by rw [h.1]; exact hn)])
  have hn2 : ((n : Int) != 5) = true := by simp; omega
  have hn3 : ((n : Int) == 5) = false := by simp; omega
  clear h
  go_enter Tryz.func227, Tryz.ntmps227
  have C := jd c
  clear S c
  go_wp2
  exact bodyPost_ret (v := .tuple #[.agg #[.int .i64 0, .int .i64 0, .int .i64 0, .int .i64 0, .int .i64 0], .bool false]) (by simp [results, Tryz.results227, go_sem]) rfl ⟨by rw [HD.out]; rfl, C.out⟩
 case pos =>
  subst hn
  obtain ⟨b, off, rfl, hb, hc⟩ := h.2 (by omega)
  obtain ⟨x0, hx0⟩ : ∃ x, x = d.getD 0 0 := ⟨_, rfl⟩
  have k0 := hc 0 (by omega)
  rw [← hx0] at k0
  obtain ⟨x1, hx1⟩ : ∃ x, x = d.getD 1 0 := ⟨_, rfl⟩
  have k1 := hc 1 (by omega)
  rw [← hx1] at k1
  obtain ⟨x2, hx2⟩ : ∃ x, x = d.getD 2 0 := ⟨_, rfl⟩
  have k2 := hc 2 (by omega)
  rw [← hx2] at k2
  obtain ⟨x3, hx3⟩ : ∃ x, x = d.getD 3 0 := ⟨_, rfl⟩
  have k3 := hc 3 (by omega)
  rw [← hx3] at k3
  obtain ⟨x4, hx4⟩ : ∃ x, x = d.getD 4 0 := ⟨_, rfl⟩
  have k4 := hc 4 (by omega)
  rw [← hx4] at k4
  rw [Nat.add_zero] at k0
  have HO := jd (show ofOp d = ⟨x0, x1, x2, x3, x4⟩ by unfold ofOp; rw [hx0, hx1, hx2, hx3, hx4])
  have HL := jd h.1
  clear hc h hx0 hx1 hx2 hx3 hx4
  have S := Sep.nil w w.heap.size
  have c := Below.refl w.heap.size w
  replace S := S.boxAt c.size (w.heap.size) rfl #[.int .i64 0, .int .i64 0, .int .i64 0, .int .i64 0, .int .i64 0] 85
  replace c := al c S
  go_enter Tryz.func227, Tryz.ntmps227
  go_wp2_with fail
  generalize w.alloc (.cells #[.int .i64 0, .int .i64 0, .int .i64 0, .int .i64 0, .int .i64 0] 85) = w1 at *
  refine wp_region_L (fun v => v.cell? ⟨b, off, none⟩ = some (.int .i64 x0) ∧ v.cell? ⟨b, off + 1, none⟩ = some (.int .i64 x1) ∧ v.cell? ⟨b, off + 2, none⟩ = some (.int .i64 x2) ∧ v.cell? ⟨b, off + 3, none⟩ = some (.int .i64 x3) ∧ v.cell? ⟨b, off + 4, none⟩ = some (.int .i64 x4)) 17 (by kernel_rfl) ?_
  replace S := S.keep ((Below.refl _ _).drew)
  replace c := c.drew
  generalize w1.drew = w2 at *
  have HF : w2.cell? ⟨b, off, none⟩ = some (.int .i64 x0) ∧ w2.cell? ⟨b, off + 1, none⟩ = some (.int .i64 x1) ∧ w2.cell? ⟨b, off + 2, none⟩ = some (.int .i64 x2) ∧ w2.cell? ⟨b, off + 3, none⟩ = some (.int .i64 x3) ∧ w2.cell? ⟨b, off + 4, none⟩ = some (.int .i64 x4) := ⟨cu c k0 (show b < _ by omega), cu c k1 (show b < _ by omega), cu c k2 (show b < _ by omega), cu c k3 (show b < _ by omega), cu c k4 (show b < _ by omega)⟩
  refine tk 0 (v := ?_) rfl rfl HF (.inl ⟨by rfl, ?_⟩) ?_
  rotate_left 1
  · (rintro v ⟨a0, a1, a2, a3, a4⟩; go_simp; try with_reducible rfl)
  try simp only [Act.put]
  refine tk 1 (v := ?_) rfl rfl HF (.inl ⟨by rfl, ?_⟩) ?_
  rotate_left 1
  · (rintro v ⟨a0, a1, a2, a3, a4⟩; go_simp; try with_reducible rfl)
  try simp only [Act.put]
  refine tk 2 (v := ?_) rfl rfl HF (.inl ⟨by rfl, ?_⟩) ?_
  rotate_left 1
  · (rintro v ⟨a0, a1, a2, a3, a4⟩; go_simp; try with_reducible rfl)
  try simp only [Act.put]
  refine tk 3 (v := ?_) rfl rfl HF (.inl ⟨by rfl, ?_⟩) ?_
  rotate_left 1
  · (rintro v ⟨a0, a1, a2, a3, a4⟩; go_simp; try with_reducible rfl)
  try simp only [Act.put]
  refine tk 4 (v := ?_) rfl rfl HF (.inl ⟨by rfl, ?_⟩) ?_
  rotate_left 1
  · (rintro v ⟨a0, a1, a2, a3, a4⟩; go_simp; try with_reducible rfl)
  try simp only [Act.put]
  refine tk 5 (v := ?_) rfl rfl HF (.inl ⟨by rfl, ?_⟩) ?_
  rotate_left 1
  · (rintro v ⟨a0, a1, a2, a3, a4⟩; go_simp; try with_reducible rfl)
  try simp only [Act.put]
  refine tk 6 (v := ?_) rfl rfl HF (.inl ⟨by rfl, ?_⟩) ?_
  rotate_left 1
  · (rintro v ⟨a0, a1, a2, a3, a4⟩; go_simp; try with_reducible rfl)
  try simp only [Act.put]
  refine tk 7 (v := ?_) rfl rfl HF (.inl ⟨by rfl, ?_⟩) ?_
  rotate_left 1
  · (rintro v ⟨a0, a1, a2, a3, a4⟩; go_simp; try with_reducible rfl)
  try simp only [Act.put]
  refine tk 8 (v := ?_) rfl rfl HF (.inl ⟨by rfl, ?_⟩) ?_
  rotate_left 1
  · (rintro v ⟨a0, a1, a2, a3, a4⟩; go_simp; try with_reducible rfl)
  try simp only [Act.put]
  refine tk 9 (v := ?_) rfl rfl HF (.inl ⟨by rfl, ?_⟩) ?_
  rotate_left 1
  · (rintro v ⟨a0, a1, a2, a3, a4⟩; go_simp; try with_reducible rfl)
  try simp only [Act.put]
  refine tk 10 (v := ?_) rfl rfl HF (.inl ⟨by rfl, ?_⟩) ?_
  rotate_left 1
  · (rintro v ⟨a0, a1, a2, a3, a4⟩; go_simp; try with_reducible rfl)
  try simp only [Act.put]
  refine tk 11 (v := ?_) rfl rfl HF (.inl ⟨by rfl, ?_⟩) ?_
  rotate_left 1
  · (rintro v ⟨a0, a1, a2, a3, a4⟩; go_simp; try with_reducible rfl)
  try simp only [Act.put]
  refine tk 12 (v := ?_) rfl rfl HF (.inl ⟨by rfl, ?_⟩) ?_
  rotate_left 1
  · (rintro v ⟨a0, a1, a2, a3, a4⟩; go_simp; try with_reducible rfl)
  try simp only [Act.put]
  refine tk 13 (v := ?_) rfl rfl HF (.inl ⟨by rfl, ?_⟩) ?_
  rotate_left 1
  · (rintro v ⟨a0, a1, a2, a3, a4⟩; go_simp; try with_reducible rfl)
  try simp only [Act.put]
  refine tk 14 (v := ?_) rfl rfl HF (.inl ⟨by rfl, ?_⟩) ?_
  rotate_left 1
  · (rintro v ⟨a0, a1, a2, a3, a4⟩; go_simp; try with_reducible rfl)
  try simp only [Act.put]
  refine tk 15 (v := ?_) rfl rfl HF (.inl ⟨by rfl, ?_⟩) ?_
  rotate_left 1
  · (rintro v ⟨a0, a1, a2, a3, a4⟩; go_simp; try with_reducible rfl)
  try simp only [Act.put]
  refine wpAnyL_step (i := 16) (by kernel_rfl) rfl rfl ?_
  intro K hK
  go_simp
  replace S := S.boxAt c.size (w2.heap.size) rfl #[.int .i64 0, .int .i64 0, .int .i64 0, .int .i64 0, .int .i64 0] 85
  replace c := al c S
  clear HF
  have HF : (w2.alloc (.cells #[.int .i64 0, .int .i64 0, .int .i64 0, .int .i64 0, .int .i64 0] 85)).cell? ⟨b, off, none⟩ = some (.int .i64 x0) ∧ (w2.alloc (.cells #[.int .i64 0, .int .i64 0, .int .i64 0, .int .i64 0, .int .i64 0] 85)).cell? ⟨b, off + 1, none⟩ = some (.int .i64 x1) ∧ (w2.alloc (.cells #[.int .i64 0, .int .i64 0, .int .i64 0, .int .i64 0, .int .i64 0] 85)).cell? ⟨b, off + 2, none⟩ = some (.int .i64 x2) ∧ (w2.alloc (.cells #[.int .i64 0, .int .i64 0, .int .i64 0, .int .i64 0, .int .i64 0] 85)).cell? ⟨b, off + 3, none⟩ = some (.int .i64 x3) ∧ (w2.alloc (.cells #[.int .i64 0, .int .i64 0, .int .i64 0, .int .i64 0, .int .i64 0] 85)).cell? ⟨b, off + 4, none⟩ = some (.int .i64 x4) := ⟨cu c k0 (show b < _ by omega), cu c k1 (show b < _ by omega), cu c k2 (show b < _ by omega), cu c k3 (show b < _ by omega), cu c k4 (show b < _ by omega)⟩
  refine hK _ _ (fun _ => HF) ?_
  clear hK K
  try simp only [Act.put]
  generalize hw : w2.alloc (.cells #[.int .i64 0, .int .i64 0, .int .i64 0, .int .i64 0, .int .i64 0] 85) = w3 at *
  clear hw
  obtain ⟨qo, hqo⟩ : ∃ q, q = w2.heap.size := ⟨_, rfl⟩
  rw [← hqo] at S ⊢
  clear hqo
  have f0 := lk S 0 0 rfl rfl
  have f1 := (S.at_ 0 rfl).free 0
  have f2 := lk S 0 1 rfl rfl
  have f3 := (S.at_ 0 rfl).free 1
  have f4 := lk S 0 2 rfl rfl
  have f5 := (S.at_ 0 rfl).free 2
  have f6 := lk S 0 3 rfl rfl
  have f7 := (S.at_ 0 rfl).free 3
  have f8 := lk S 0 4 rfl rfl
  have f9 := (S.at_ 0 rfl).free 4
  refine wpAnyL_step (i := 17) (by kernel_rfl) rfl rfl ?_
  intro K hK
  go_simp
  refine hK _ _ (fun h => nomatch (show true = false from h)) ?_
  clear hK K
  try simp only [Act.put]
  refine wpAnyL_done (by kernel_rfl) ?_ _
  replace S := S.put 0 rfl 0 (.int .i64 x0)
  replace c := st c S (S.base_le 0 rfl)
  replace S := S.put 0 rfl 1 (.int .i64 x1)
  replace c := st c S (S.base_le 0 rfl)
  replace S := S.put 0 rfl 2 (.int .i64 x2)
  replace c := st c S (S.base_le 0 rfl)
  replace S := S.put 0 rfl 3 (.int .i64 x3)
  replace c := st c S (S.base_le 0 rfl)
  replace S := S.put 0 rfl 4 (.int .i64 x4)
  replace c := st c S (S.base_le 0 rfl)
  clear HF
  generalize ((((w3.setCell ⟨qo, 0, none⟩ (.int .i64 x0)).setCell ⟨qo, 1, none⟩ (.int .i64 x1)).setCell ⟨qo, 2, none⟩ (.int .i64 x2)).setCell ⟨qo, 3, none⟩ (.int .i64 x3)).setCell ⟨qo, 4, none⟩ (.int .i64 x4) = w4 at *
  clear f0 f1 f2 f3 f4 f5 f6 f7 f8 f9
  have f10 := lk S 0 0 rfl rfl
  have f11 := lk S 0 1 rfl rfl
  have f12 := lk S 0 2 rfl rfl
  have f13 := lk S 0 3 rfl rfl
  have f14 := lk S 0 4 rfl rfl
  go_wp2_with fail
  refine (sOpOk_any x0 x1 x2 x3 x4 _).mono ?_
  rintro e w5 ⟨rfl, b⟩
  replace c := c.trans (b.mono c.size)
  replace S := S.keep b
  clear b f10 f11 f12 f13 f14
  cases hok : opB ⟨x0, x1, x2, x3, x4⟩
  case false =>
   have HD := jd (show rowOpM d = (op0, false) by unfold rowOpM; rw [if_pos HL.out, HO.out, if_neg (by rw [hok]; decide)])
   clear hok
   have f15 := lk S 1 0 rfl rfl
   have f16 := (S.at_ 1 rfl).free 0
   have f17 := lk S 1 1 rfl rfl
   have f18 := (S.at_ 1 rfl).free 1
   have f19 := lk S 1 2 rfl rfl
   have f20 := (S.at_ 1 rfl).free 2
   have f21 := lk S 1 3 rfl rfl
   have f22 := (S.at_ 1 rfl).free 3
   have f23 := lk S 1 4 rfl rfl
   have f24 := (S.at_ 1 rfl).free 4
   replace S := S.put 1 rfl 0 (.int .i64 0)
   replace c := st c S (by omega)
   replace S := S.put 1 rfl 1 (.int .i64 0)
   replace c := st c S (by omega)
   replace S := S.put 1 rfl 2 (.int .i64 0)
   replace c := st c S (by omega)
   replace S := S.put 1 rfl 3 (.int .i64 0)
   replace c := st c S (by omega)
   replace S := S.put 1 rfl 4 (.int .i64 0)
   replace c := st c S (by omega)
   have r0 := jd ((S.at_ 1 rfl).cell 0)
   have r1 := jd ((S.at_ 1 rfl).cell 1)
   have r2 := jd ((S.at_ 1 rfl).cell 2)
   have r3 := jd ((S.at_ 1 rfl).cell 3)
   have r4 := jd ((S.at_ 1 rfl).cell 4)
   have C := jd c
   clear S c
   go_wp2
   exact bodyPost_ret (v := .tuple #[.agg #[.int .i64 0, .int .i64 0, .int .i64 0, .int .i64 0, .int .i64 0], .bool false]) (by simp [results, Tryz.results227, go_sem, r0.out, r1.out, r2.out, r3.out, r4.out]) rfl ⟨by first | (rw [HD.out]; done) | (rw [HD.out]; rfl), C.out⟩
  case true =>
   have HD := jd (show rowOpM d = (⟨x0, x1, x2, x3, x4⟩, true) by unfold rowOpM; rw [if_pos HL.out, HO.out, if_pos hok])
   clear hok
   have f15 := lk S 0 0 rfl rfl
   have f16 := lk S 0 1 rfl rfl
   have f17 := lk S 0 2 rfl rfl
   have f18 := lk S 0 3 rfl rfl
   have f19 := lk S 0 4 rfl rfl
   have f20 := lk S 1 0 rfl rfl
   have f21 := (S.at_ 1 rfl).free 0
   have f22 := lk S 1 1 rfl rfl
   have f23 := (S.at_ 1 rfl).free 1
   have f24 := lk S 1 2 rfl rfl
   have f25 := (S.at_ 1 rfl).free 2
   have f26 := lk S 1 3 rfl rfl
   have f27 := (S.at_ 1 rfl).free 3
   have f28 := lk S 1 4 rfl rfl
   have f29 := (S.at_ 1 rfl).free 4
   replace S := S.put 1 rfl 0 (.int .i64 x0)
   replace c := st c S (by omega)
   replace S := S.put 1 rfl 1 (.int .i64 x1)
   replace c := st c S (by omega)
   replace S := S.put 1 rfl 2 (.int .i64 x2)
   replace c := st c S (by omega)
   replace S := S.put 1 rfl 3 (.int .i64 x3)
   replace c := st c S (by omega)
   replace S := S.put 1 rfl 4 (.int .i64 x4)
   replace c := st c S (by omega)
   have r0 := jd ((S.at_ 1 rfl).cell 0)
   have r1 := jd ((S.at_ 1 rfl).cell 1)
   have r2 := jd ((S.at_ 1 rfl).cell 2)
   have r3 := jd ((S.at_ 1 rfl).cell 3)
   have r4 := jd ((S.at_ 1 rfl).cell 4)
   have C := jd c
   clear S c
   go_wp2
   exact bodyPost_ret (v := .tuple #[.agg #[.int .i64 x0, .int .i64 x1, .int .i64 x2, .int .i64 x3, .int .i64 x4], .bool true]) (by simp [results, Tryz.results227, go_sem, r0.out, r1.out, r2.out, r3.out, r4.out]) rfl ⟨by first | (rw [HD.out]; done) | (rw [HD.out]; rfl), C.out⟩
end Go.Proofs.YtmjifhjhialcbaaGreat
