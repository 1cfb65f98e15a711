/- Parts of my texts: HeadI4. -/
import Derived.Test.YtmjifhjhialcbaaT36
namespace Go.Proofs.Ytmjifhjhialcbaa
set_option maxRecDepth 100000
set_option linter.unusedVariables false
open Go.RowKit
set_option maxHeartbeats 12800000 in
theorem iMarksFrom_any (b off cc : Nat) (d : List Int) (w : World) (hb : b < w.heap.size) (hc : ∀ j, j < 13 → w.cell? ⟨b, off + j, none⟩ = some (.int .i64 (d.getD j 0))) (hcc : 13 ≤ cc) :
    Calls Try.prog 47 #[.slice (some ⟨b, off + 3, none⟩) 8 (cc - 3)] w fun e w' => ∃ (A2 : Option Addr) (n2 c2 : Nat), e = .returned (.slice A2 n2 c2) ∧ Has w' w.heap.size [mrkD (ofMarks d 4)] [.slice A2 n2 c2] ∧ Below w.heap.size w w' := by
 have HCC := jd hc
 have HC9 := jd hcc
 obtain ⟨cx, hcx⟩ : ∃ x, x = cc - 3 := ⟨_, rfl⟩
 have HCX := jd (show cx + 3 = cc by omega)
 rw [← hcx]
 clear hc hcc hcx
 have S := Sep.nil w w.heap.size
 have c := Below.refl w.heap.size w
 replace S := S.own0 (ow_nil_mrksH w)
 have S0 := jd S
 have B0 := jd c
 clear S c
 go_enter Try.func47, Try.ntmps47
 go_wp2
 go_loopw [0, 3, 4] (fun nv sv cv wr => ∃ (j : Nat) (G : Option Addr) (m gc : Nat) (fp : List Nat) (p k x : Nat), j ≤ 4 ∧ cv = .int .i64 (2 + (j : Int)) ∧ sv = .slice G m gc ∧ nv = .slice (some ⟨b, p, none⟩) k x ∧ p = off + (2 * j + 3) ∧ k + 2 * j = 8 ∧ x + (2 * j + 3) = cc ∧ m ≤ j ∧ Sep wr w.heap.size [.own [mrkD (ofMarks d j)] [.slice G m gc] fp] ∧ Below w.heap.size w wr) (fun _ _ cv _ => 6 - (intOf cv).toNat)
 case atStart => exact ⟨0, none, 0, 0, [], off + 3, 8, cx, Nat.zero_le _, rfl, rfl, rfl, rfl, rfl, HCX.out, Nat.le_refl _, S0.out, B0.out⟩
 case round =>
  obtain ⟨j, G, m, gc, fp, p, k, x, hj, rfl, rfl, rfl, hp, hk, hx, hm, S, c⟩ := hrel
  clear S0 B0
  by_cases hlt : j < 4
  case neg =>
   obtain rfl : j = 4 := by omega
   obtain rfl : k = 0 := by omega
   have H := jd S.first
   have CC := jd c
   clear S c hp hk hx hm hj hlt
   go_wp2
   go_ret
   exact ⟨_, _, _, rfl, H.out, CC.out⟩
  case pos =>
   have d0 : decide ((k : Int) ≥ 2) = true := decide_eq_true (by omega)
   have d1 : decide ((2 : Int) ≤ (k : Int)) = true := decide_eq_true (by omega)
   have d2 : decide (2 ≤ k) = true := decide_eq_true (by omega)
   have k0 : (0 : Int) < (k : Int) := by omega
   have k1 : (1 : Int) < (k : Int) := by omega
   have k3 : 0 < k := by omega
   have k4 : 1 < k := by omega
   have k2 : (2 : Int) ≤ (k : Int) := by omega
   have hx2 : ¬ x = 2 := by have := HC9.out; omega
   have kx : k ≤ x := by have := HC9.out; omega
   obtain ⟨u1, hu1⟩ : ∃ x, x = d.getD (2 * j + 3) 0 := ⟨_, rfl⟩
   obtain ⟨u2, hu2⟩ : ∃ x, x = d.getD (2 * j + 4) 0 := ⟨_, rfl⟩
   have t1 := HCC.out (2 * j + 3) (by omega)
   have t2 := HCC.out (2 * j + 4) (by omega)
   rw [← hu1, ← hp] at t1
   rw [← hu2, show off + (2 * j + 4) = p + 1 by omega] at t2
   have HMI := jd (show markIn d j = ⟨2 + (j : Int), u1, u2⟩ by unfold markIn; rw [hu1, hu2])
   have HP := jd hp
   have HK := jd hk
   have HX := jd hx
   have HM := jd hm
   have HLT := jd hlt
   have HB := jd hb
   have m20 : m ≤ 20 := by omega
   clear hp hk hx hm hu1 hu2
   go_wp2_with fail
   refine wp_region_L (fun v => v.cell? ⟨b, p, none⟩ = some (.int .i64 u1) ∧ v.cell? ⟨b, p + 1, none⟩ = some (.int .i64 u2)) 9 (by kernel_rfl) ?_
   replace S := S.keep ((Below.refl _ _).drew)
   replace c := c.drew
   generalize wr.drew = w1 at *
   have HF : w1.cell? ⟨b, p, none⟩ = some (.int .i64 u1) ∧ w1.cell? ⟨b, p + 1, none⟩ = some (.int .i64 u2) := ⟨(c.cell (p := ⟨b, p, none⟩) HB.out).trans t1, (c.cell (p := ⟨b, p + 1, none⟩) HB.out).trans t2⟩
   refine tk 0 (v := ?_) rfl rfl HF (.inl ⟨by rfl, ?_⟩) ?_
   rotate_left 1
   · (rintro v ⟨a0, a1⟩; go_simp; try with_reducible rfl)
   try simp only [Act.put]
   refine tk 1 (v := ?_) rfl rfl HF (.inl ⟨by rfl, ?_⟩) ?_
   rotate_left 1
   · (rintro v ⟨a0, a1⟩; go_simp; try with_reducible rfl)
   try simp only [Act.put]
   refine tk 2 (v := ?_) rfl rfl HF (.inl ⟨by rfl, ?_⟩) ?_
   rotate_left 1
   · (rintro v ⟨a0, a1⟩; go_simp; try with_reducible rfl)
   try simp only [Act.put]
   refine tk 3 (v := ?_) rfl rfl HF (.inl ⟨by rfl, ?_⟩) ?_
   rotate_left 1
   · (rintro v ⟨a0, a1⟩; go_simp; try with_reducible rfl)
   try simp only [Act.put]
   refine tk 4 (v := ?_) rfl rfl HF (.inl ⟨by rfl, ?_⟩) ?_
   rotate_left 1
   · (rintro v ⟨a0, a1⟩; go_simp; try with_reducible rfl)
   try simp only [Act.put]
   refine tk 5 (v := ?_) rfl rfl HF (.inl ⟨by rfl, ?_⟩) ?_
   rotate_left 1
   · (rintro v ⟨a0, a1⟩; go_simp; try with_reducible rfl)
   try simp only [Act.put]
   refine tk 6 (v := ?_) rfl rfl HF (.inl ⟨by rfl, ?_⟩) ?_
   rotate_left 1
   · (rintro v ⟨a0, a1⟩; go_simp; try with_reducible rfl)
   try simp only [Act.put]
   refine tk 7 (v := ?_) rfl rfl HF (.inl ⟨by rfl, ?_⟩) ?_
   rotate_left 1
   · (rintro v ⟨a0, a1⟩; go_simp; try with_reducible rfl)
   try simp only [Act.put]
   refine wpAnyL_step (i := 8) (by kernel_rfl) rfl rfl ?_
   intro K hK
   go_simp
   replace S := S.boxAt c.size (w1.heap.size) rfl #[.int .i64 0, .int .i64 0, .int .i64 0] 76
   replace c := al c S
   clear HF
   have HF : (w1.alloc (.cells #[.int .i64 0, .int .i64 0, .int .i64 0] 76)).cell? ⟨b, p, none⟩ = some (.int .i64 u1) ∧ (w1.alloc (.cells #[.int .i64 0, .int .i64 0, .int .i64 0] 76)).cell? ⟨b, p + 1, none⟩ = some (.int .i64 u2) := ⟨(c.cell (p := ⟨b, p, none⟩) HB.out).trans t1, (c.cell (p := ⟨b, p + 1, none⟩) HB.out).trans t2⟩
   refine hK _ _ (fun _ => HF) ?_
   clear hK K
   try simp only [Act.put]
   generalize hw : w1.alloc (.cells #[.int .i64 0, .int .i64 0, .int .i64 0] 76) = w2 at *
   clear hw
   obtain ⟨qm, hqm⟩ : ∃ q, q = w1.heap.size := ⟨_, rfl⟩
   rw [← hqm] at S ⊢
   clear hqm
   have f0 := lk S 0 0 rfl rfl
   have f1 := (S.at_ 0 rfl).free 0
   have f2 := lk S 0 1 rfl rfl
   have f3 := (S.at_ 0 rfl).free 1
   have f4 := lk S 0 2 rfl rfl
   have f5 := (S.at_ 0 rfl).free 2
   refine wpAnyL_step (i := 9) (by kernel_rfl) rfl rfl ?_
   intro K hK
   go_simp
   refine hK _ _ (fun h => nomatch (show true = false from h)) ?_
   clear hK K
   try simp only [Act.put]
   refine wpAnyL_done (by kernel_rfl) ?_ _
   replace S := S.put 0 rfl 0 (.int .i64 (2 + (j : Int)))
   replace c := st c S (S.base_le 0 rfl)
   replace S := S.put 0 rfl 1 (.int .i64 u1)
   replace c := st c S (S.base_le 0 rfl)
   replace S := S.put 0 rfl 2 (.int .i64 u2)
   replace c := st c S (S.base_le 0 rfl)
   clear HF
   generalize ((w2.setCell ⟨qm, 0, none⟩ (.int .i64 (2 + (j : Int)))).setCell ⟨qm, 1, none⟩ (.int .i64 u1)).setCell ⟨qm, 2, none⟩ (.int .i64 u2) = w3 at *
   clear f0 f1 f2 f3 f4 f5
   clear t1 t2
   by_cases hz : u1 = 0 ∧ u2 = 0
   case pos =>
    have e1 : (u1 != 0) = false := by simpa using hz.1
    have e2 : (u2 != 0) = false := by simpa using hz.2
    have e3 : (u1 == 0) = true := by simpa using hz.1
    have e4 : (u2 == 0) = true := by simpa using hz.2
    have HN := jd (ofMarks_no (r := d) (k := j) (by rw [HMI.out]; exact hz))
    clear hz
    have f6 := lk S 0 0 rfl rfl
    have f7 := lk S 0 1 rfl rfl
    have f8 := lk S 0 2 rfl rfl
    go_wp2_with fail
    have S2 := S.tail
    rw [← HN.out] at S2
    have SS := jd S2
    have CC := jd c
    clear S S2 c
    go_roundw
    case rel => exact ⟨j + 1, G, m, gc, fp, p + 2, k - 2, x - 2, (by have := HLT.out; omega), by go_num, rfl, rfl, by have := HP.out; omega, by have := HK.out; have := HLT.out; omega, by have := HX.out; have := HK.out; have := HLT.out; have := HC9.out; omega, by have := HM.out; omega, SS.out, CC.out⟩
    case measure => have := HLT.out; simp [intOf] <;> omega
   case neg =>
    have HN := jd (ofMarks_yes (r := d) (k := j) (by rw [HMI.out]; show u1 ≠ 0 ∨ u2 ≠ 0; omega))
    rw [HMI.out] at HN
    have hgs : ((u1 != 0) = true) ∨ ((u1 != 0) = false ∧ (u2 != 0) = true) := by simp only [bne_iff_ne, ne_eq, bne_eq_false_iff_eq]; omega
    have hgs2 : ((u1 == 0) = !(u1 != 0)) := by simp [bne]
    have hgs3 : ((u2 == 0) = !(u2 != 0)) := by simp [bne]
    clear hz
    rcases hgs with e1 | ⟨e1, e2⟩
    · rw [e1] at hgs2
      clear hgs3
      have f6 := lk S 0 0 rfl rfl
      have f7 := lk S 0 1 rfl rfl
      have f8 := lk S 0 2 rfl rfl
      replace S := S.pick 1 rfl
      replace S := S.boxAt c.size (w3.heap.size) rfl #[.int .i64 (2 + (j : Int)), .int .i64 u1, .int .i64 u2] 76
      replace c := al c S
      have HC : ∀ i, i < 3 → (w3.alloc (.cells #[.int .i64 (2 + (j : Int)), .int .i64 u1, .int .i64 u2] 76)).cell? ⟨w3.heap.size, i, none⟩ = [Value.int .i64 (2 + (j : Int)), Value.int .i64 u1, Value.int .i64 u2][i]? := fun i hi => by
       have h1 := (S.at_ 0 rfl).cell i
       rw [h1]
       simp
      replace S := (S.tail).own0 (ds := mrkC ⟨2 + (j : Int), u1, u2⟩) (vs := [.int .i64 (2 + (j : Int)), .int .i64 u1, .int .i64 u2]) (.int (.int (.int .nil)))
      replace S := S.swap
      have hgc := jd c
      go_wp2_with (first
       | (at_builtin
          refine wpList_append_elem (l := ofMarks d j) (y := ⟨2 + (j : Int), u1, u2⟩) rfl (.tmp 27) (.tmp 29) (by rfl) Try.underlying38 infoMark (by rfl) (by decide) mrkC_len (by rfl) (S.own_ 0 rfl) (S.nodup_own 0 rfl) (by rfl) HC (S.own_ 1 rfl) (S.nodup_own 1 rfl) S.apart (by omega) (by omega) ?_
          intro A3 c3 v3 fp3 o3 n3 s3 t3
          have S3 := jd (S.merge t3 o3 n3 s3 hgc.out.size)
          have C3 := jd (hgc.out.trans (S.below 0 rfl t3 hgc.out.size))
          clear S c o3 n3 s3 t3 HC hgc))
      have S4 := S3.out.sub (.cons_cons _ (List.nil_sublist _))
      rw [← HN.out] at S4
      have SS := jd S4
      clear S4
      go_roundw
      case rel => exact ⟨j + 1, A3, m + 1, c3, fp3, p + 2, k - 2, x - 2, (by have := HLT.out; omega), by go_num, rfl, rfl, by have := HP.out; omega, by have := HK.out; have := HLT.out; omega, by have := HX.out; have := HK.out; have := HLT.out; have := HC9.out; omega, by have := HM.out; omega, SS.out, C3.out⟩
      case measure => have := HLT.out; simp [intOf] <;> omega
    · rw [e1] at hgs2
      rw [e2] at hgs3
      have f6 := lk S 0 0 rfl rfl
      have f7 := lk S 0 1 rfl rfl
      have f8 := lk S 0 2 rfl rfl
      replace S := S.pick 1 rfl
      replace S := S.boxAt c.size (w3.heap.size) rfl #[.int .i64 (2 + (j : Int)), .int .i64 u1, .int .i64 u2] 76
      replace c := al c S
      have HC : ∀ i, i < 3 → (w3.alloc (.cells #[.int .i64 (2 + (j : Int)), .int .i64 u1, .int .i64 u2] 76)).cell? ⟨w3.heap.size, i, none⟩ = [Value.int .i64 (2 + (j : Int)), Value.int .i64 u1, Value.int .i64 u2][i]? := fun i hi => by
       have h1 := (S.at_ 0 rfl).cell i
       rw [h1]
       simp
      replace S := (S.tail).own0 (ds := mrkC ⟨2 + (j : Int), u1, u2⟩) (vs := [.int .i64 (2 + (j : Int)), .int .i64 u1, .int .i64 u2]) (.int (.int (.int .nil)))
      replace S := S.swap
      have hgc := jd c
      go_wp2_with (first
       | (at_builtin
          refine wpList_append_elem (l := ofMarks d j) (y := ⟨2 + (j : Int), u1, u2⟩) rfl (.tmp 27) (.tmp 29) (by rfl) Try.underlying38 infoMark (by rfl) (by decide) mrkC_len (by rfl) (S.own_ 0 rfl) (S.nodup_own 0 rfl) (by rfl) HC (S.own_ 1 rfl) (S.nodup_own 1 rfl) S.apart (by omega) (by omega) ?_
          intro A3 c3 v3 fp3 o3 n3 s3 t3
          have S3 := jd (S.merge t3 o3 n3 s3 hgc.out.size)
          have C3 := jd (hgc.out.trans (S.below 0 rfl t3 hgc.out.size))
          clear S c o3 n3 s3 t3 HC hgc))
      have S4 := S3.out.sub (.cons_cons _ (List.nil_sublist _))
      rw [← HN.out] at S4
      have SS := jd S4
      clear S4
      go_roundw
      case rel => exact ⟨j + 1, A3, m + 1, c3, fp3, p + 2, k - 2, x - 2, (by have := HLT.out; omega), by go_num, rfl, rfl, by have := HP.out; omega, by have := HK.out; have := HLT.out; omega, by have := HX.out; have := HK.out; have := HLT.out; have := HC9.out; omega, by have := HM.out; omega, SS.out, C3.out⟩
      case measure => have := HLT.out; simp [intOf] <;> omega
end Go.Proofs.Ytmjifhjhialcbaa
