/-
  The laws' helpers that mark every number of a disk in its turn, and that look whether the marks are there.
-/
import Derived.Test.YtejcpoidoekleaaDskEq
import Derived.Test.YtejcpoidoekleaaRepM
namespace Go.Proofs.Ytejcpoidoekleaa
set_option maxRecDepth 100000
open Go.RowKit

/-! ### Numbers that follow each other -/

theorem upFrom_add (k : Int) (a b : Nat) : upFrom k (a + b) = upFrom k a ++ upFrom (k + (a : Int)) b := by
  apply List.ext_getElem?
  intro j
  by_cases h1 : j < a
  · rw [List.getElem?_append_left (by rw [upFrom_length]; exact h1)]
    simp [upFrom, h1, show j < a + b by omega]
  · rw [List.getElem?_append_right (by rw [upFrom_length]; omega), upFrom_length]
    by_cases h2 : j < a + b
    · simp [upFrom, h2, show j - a < b by omega]
      omega
    · simp [upFrom, h2, show ¬ j - a < b by omega]

section
variable {α : Type} (g : α → List Int)

/-- How many numbers, the first j elements together. -/
def nums (l : List α) (j : Nat) : Nat := pre (fun x => (g x).length) l j

variable {g} {l : List α} {j : Nat}
theorem nums_all : nums g l l.length = (l.flatMap g).length := by
  unfold nums
  rw [pre_all, List.length_flatMap]
theorem nums_flat : ((l.take j).flatMap g).length = nums g l j := by
  rw [List.length_flatMap]
  rfl
theorem flat_at {k : Int} (h : l.flatMap g = upFrom k (l.flatMap g).length) (hj : j < l.length) : g l[j] = upFrom (k + (nums g l j : Int)) (g l[j]).length := by
  have e : l.flatMap g = (l.take j).flatMap g ++ (g l[j] ++ (l.drop (j + 1)).flatMap g) := by
    have e1 : l = l.take j ++ (l[j] :: l.drop (j + 1)) := by rw [← List.drop_eq_getElem_cons hj, List.take_append_drop]
    have e2 : l.flatMap g = (l.take j ++ (l[j] :: l.drop (j + 1))).flatMap g := congrArg (List.flatMap g) e1
    rw [e2, List.flatMap_append, List.flatMap_cons]
  rw [e] at h
  rw [List.length_append, List.length_append, upFrom_add, upFrom_add, nums_flat] at h
  have h1 := List.append_inj_right h (by rw [upFrom_length, nums_flat])
  exact List.append_inj_left h1 (by rw [upFrom_length])
theorem flat_step {k : Int} {x : α} (hj : j < l.length) (h : (l.take j).flatMap g = upFrom k (nums g l j)) (hx : g x = upFrom (k + (nums g l j : Int)) (g x).length) :
    ((l.set j x).take (j + 1)).flatMap g = upFrom k (nums g l j + (g x).length) := by
  have e : (l.set j x).take (j + 1) = l.take j ++ [x] := by
    have hlt : (l.take j).length = j := by simp; omega
    rw [List.set_eq_take_append_cons_drop, if_pos hj, List.take_append, hlt, show j + 1 - j = 1 by omega, List.take_of_length_le (by omega)]
    rfl
  rw [e, List.flatMap_append, h, upFrom_add, ← hx]
  simp
end

/-! ### Rows -/

def rowNs (r : List Int) : List Int := r
def wrNs (p : Int × List Int) : List Int := p.1 :: p.2

theorem nums_map {α : Type} {g : α → List Int} {l l' : List α} (h : l'.map (fun x => (g x).length) = l.map (fun x => (g x).length)) (j : Nat) : nums g l' j = nums g l j := by
  unfold nums pre
  rw [List.map_take, List.map_take, h]

theorem set_map {α β : Type} {f : α → β} {l : List α} {j : Nat} {x : α} (hj : j < l.length) (h : f x = f l[j]) : (l.set j x).map f = l.map f := by
  rw [List.map_set, h]
  have : (l.map f)[j]'(by simpa using hj) = f l[j] := by simp
  rw [← this, List.set_getElem_self]

set_option maxHeartbeats 1600000 in
theorem markRows_any (v : Value) (l : List (List Int)) (fp : List Nat) (w : World) (o : Ow w [keptD l] [v] fp) (hnd : fp.Nodup) (hs : rowsSz l ≤ 1048577) (k : Int) (k0 : 0 ≤ k) (k1 : k ≤ 1000000000000) :
    Calls Try.prog 43 #[v, .int .i64 k] w fun e w' => ∃ l', e = .returned (.int .i64 (k + (nums rowNs l l.length : Int))) ∧ Ow w' [keptD l'] [v] fp ∧ Touch fp w w' ∧ l'.map (fun r => (rowNs r).length) = l.map (fun r => (rowNs r).length) ∧ l'.flatMap rowNs = upFrom k (nums rowNs l l.length) := by
  obtain ⟨A, n, c, rfl, hl, _, _⟩ := o.rd.kept
  have HL := Lib.hid hl
  have hn : n ≤ 1048577 := by unfold rowsSz at hs; omega
  have HS := Lib.hid hs
  have O := Lib.hid o
  have HN := Lib.hid hnd
  clear o hs hnd hl
  go_enter Try.func43, Try.ntmps43
  go_wp2
  go_loopw [1, 5] (fun q i wr => ∃ (j : Nat) (l' : List (List Int)), j ≤ n ∧ i = .int .i64 (j : Int) ∧ q = .int .i64 (k + (nums rowNs l j : Int)) ∧ l'.map (fun r => (rowNs r).length) = l.map (fun r => (rowNs r).length) ∧ (l'.take j).flatMap rowNs = upFrom k (nums rowNs l j) ∧ Ow wr [keptD l'] [.slice A n c] fp ∧ Touch fp w wr) (fun _ i _ => n - (intOf i).toNat)
  case atStart => exact ⟨0, l, Nat.zero_le _, rfl, by simp [nums, pre_zero], rfl, by simp [nums, pre_zero, upFrom], O.out, Touch.refl _ _⟩
  case round =>
    obtain ⟨j, l', hj, rfl, rfl, hmap, hflat, hown, htch⟩ := hrel
    have hll : l'.length = l.length := by simpa using congrArg List.length hmap
    by_cases hlt : j < n
    · have hjl : j < l'.length := by have := HL.out; omega
      have hjl2 : j < l.length := by have := HL.out; omega
      obtain ⟨g, d, es, f2, e, _, _, he, hcell, hfr, hel, hn2, hg2, hgf, hsub, hin, _⟩ := Ow.elem (k := 1) rowC_len (by decide) hown HN.out (j := j) hjl
      injection e with e e2 e3
      subst e e3
      match es, he with
      | [y0], _ =>
      obtain ⟨A1, m1, d1, rfl, o1, rfl⟩ := hel.own
      have ck0 := hcell 0 (by decide)
      rw [Nat.add_zero, Nat.mul_one] at ck0
      have ck : wr.cell? ⟨g, j, none⟩ = some (.slice A1 m1 d1) := ck0
      have hlen : m1 = (rowNs l[j]).length := by
        have h1 := congrArg (fun q => q[j]?) hmap
        simp [List.getElem?_eq_getElem hjl, List.getElem?_eq_getElem hjl2] at h1
        rw [← h1]
        exact o1.len.symm
      have hnj : nums rowNs l (j + 1) = nums rowNs l j + m1 := by rw [hlen]; exact pre_succ hjl2
      have hb1 : nums rowNs l j + m1 ≤ 1048577 := by
        rw [hlen]
        have h1 : nums rowNs l j + (rowNs l[j]).length ≤ (l.map (fun r => (rowNs r).length)).sum := pre_at (g := fun r => (rowNs r).length) hjl2
        have h2 := HS.out
        unfold rowsSz at h2
        have h3 : (l.map (fun r => (rowNs r).length)).sum = (l.map List.length).sum := rfl
        omega
      have HJ := Lib.hid hnj
      have IN := Lib.hid hin
      have HM := Lib.hid hmap
      have HF := Lib.hid hflat
      have HT := Lib.hid htch
      have SB := Lib.hid hsub
      have HE := Lib.hid hlen
      have HLL := Lib.hid hll
      generalize hN : nums rowNs l j = N at *
      have HNN := Lib.hid hN
      clear hin hmap hflat htch hsub hcell ck0 hel hown hfr hgf hlen hnj hN hll e2
      go_wp2_with fail
      refine (mark_any A1 m1 d1 0 _ _ o1 (by omega) _ (by omega) (by omega)).mono ?_
      rintro e w1 ⟨rfl, o2, g2⟩
      have tt : Touch (Value.slice A1 m1 d1).ownBlock.toList wr w1 := Touch.of_grown g2 (fun p hp => by rw [hp]; simp)
      have R1 := Lib.hid (IN.out w1 _ tt o2.ow)
      have R2 := Lib.hid (HT.out.trans (tt.mono SB.out))
      clear IN tt o2 g2 o1
      go_wp2
      go_roundw
      case rel =>
        refine ⟨j + 1, _, by omega, by go_num, by rw [HJ.out]; go_num, ?_, ?_, R1.out, R2.out⟩
        · rw [set_map hjl ?_]
          · exact HM.out
          · show (upFrom _ m1).length = _
            rw [upFrom_length, HE.out]
            have h1 := congrArg (fun q => q[j]?) HM.out
            simp [List.getElem?_eq_getElem hjl, List.getElem?_eq_getElem hjl2] at h1
            exact h1.symm
        · have h1 := nums_map HM.out j
          have h2 := flat_step (g := rowNs) (l := l') (j := j) (k := k) (x := upFrom (k + (N : Int)) m1) hjl (by rw [h1, HNN.out]; exact HF.out) (by show upFrom _ m1 = upFrom _ (upFrom _ m1).length; rw [upFrom_length, h1, HNN.out])
          rw [h2, h1, HNN.out, HJ.out]
          show upFrom k (N + (upFrom _ m1).length) = _
          rw [upFrom_length]
      case measure => simp [intOf]; omega
    · go_wp2
      go_ret
      have hjn : j = l.length := by have := HL.out; omega
      subst hjn
      refine ⟨l', rfl, hown, htch, hmap, ?_⟩
      rw [List.take_of_length_le (by omega)] at hflat
      exact hflat

theorem Ow.write {w : World} {p : Int × List Int} {y0 y1 : Value} {f2 : List Nat} (h : Ow w (wrC p) [y0, y1] f2) : y0 = .int .i64 p.1 ∧ ∃ A m c, y1 = .slice A m c ∧ Own w 0 A m c p.2 ∧ f2 = (Value.slice A m c).ownBlock.toList := by
  cases h with
  | int h =>
    obtain ⟨A, m, c, rfl, o, rfl⟩ := Ow.own h
    exact ⟨rfl, A, m, c, rfl, o, rfl⟩

theorem Own.touch {w w' : World} {S : List Nat} {base : Nat} {A : Option Addr} {n c : Nat} {xs : List Int} (o : Own w base A n c xs) (h : Touch S w w') (hd : ∀ p ∈ (Value.slice A n c).ownBlock.toList, p ∉ S) : Own w' base A n c xs :=
  ownsRow_at o (fun g hg => h.block g (o.ge g hg).2 (hd g (by simp [hg]))) (fun g hg => (o.ge g hg).1)

theorem waitN_eq (l : List (Int × List Int)) : (l.map (fun r => (wrNs r).length)).sum = l.length + (l.map wrSz).sum := by
  induction l with
  | nil => rfl
  | cons x l ih =>
    rw [List.map_cons, List.sum_cons, ih, List.map_cons, List.sum_cons, List.length_cons]
    show x.2.length + 1 + _ = _ + (x.2.length + _)
    omega

set_option maxHeartbeats 1600000 in
theorem markWrites_any (v : Value) (l : List (Int × List Int)) (fp : List Nat) (w : World) (o : Ow w [waitD l] [v] fp) (hnd : fp.Nodup) (hs : waitSz l ≤ 1048577) (k : Int) (k0 : 0 ≤ k) (k1 : k ≤ 1000000000000) :
    Calls Try.prog 107 #[v, .int .i64 k] w fun e w' => ∃ l', e = .returned (.int .i64 (k + (nums wrNs l l.length : Int))) ∧ Ow w' [waitD l'] [v] fp ∧ Touch fp w w' ∧ l'.map (fun r => (wrNs r).length) = l.map (fun r => (wrNs r).length) ∧ l'.flatMap wrNs = upFrom k (nums wrNs l l.length) := by
  obtain ⟨A, n, c, rfl, hl, _, _⟩ := o.rd.wait
  have HL := Lib.hid hl
  have hn : n ≤ 1048577 := by unfold waitSz at hs; omega
  have HS := Lib.hid hs
  have O := Lib.hid o
  have HN := Lib.hid hnd
  clear o hs hnd hl
  go_enter Try.func107, Try.ntmps107
  go_wp2
  go_loopw [1, 5] (fun q i wr => ∃ (j : Nat) (l' : List (Int × List Int)), j ≤ n ∧ i = .int .i64 (j : Int) ∧ q = .int .i64 (k + (nums wrNs l j : Int)) ∧ l'.map (fun r => (wrNs r).length) = l.map (fun r => (wrNs r).length) ∧ (l'.take j).flatMap wrNs = upFrom k (nums wrNs l j) ∧ Ow wr [waitD l'] [.slice A n c] fp ∧ Touch fp w wr) (fun _ i _ => n - (intOf i).toNat)
  case atStart => exact ⟨0, l, Nat.zero_le _, rfl, by simp [nums, pre_zero], rfl, by simp [nums, pre_zero, upFrom], O.out, Touch.refl _ _⟩
  case round =>
    obtain ⟨j, l', hj, rfl, rfl, hmap, hflat, hown, htch⟩ := hrel
    have hll : l'.length = l.length := by simpa using congrArg List.length hmap
    by_cases hlt : j < n
    · have hjl : j < l'.length := by have := HL.out; omega
      have hjl2 : j < l.length := by have := HL.out; omega
      have hlen0 : (wrNs l'[j]).length = (wrNs l[j]).length := by
        have h1 := congrArg (fun q => q[j]?) hmap
        simp [List.getElem?_eq_getElem hjl, List.getElem?_eq_getElem hjl2] at h1
        exact h1
      obtain ⟨g, d, es, f2, e, _, _, he, hcell, hfr, hel, hn2, hg2, hgf, hsub, _, hset⟩ := Ow.elem (k := 2) wrC_len (by decide) hown HN.out (j := j) hjl
      injection e with e e2 e3
      subst e e3
      match es, he with
      | [y0, y1], _ =>
      obtain ⟨rfl, A1, m1, d1, rfl, o1, rfl⟩ := hel.write
      have ck0 := hcell 0 (by decide)
      rw [Nat.add_zero] at ck0
      have ck : wr.cell? ⟨g, j * 2, none⟩ = some (.int .i64 l'[j].1) := ck0
      have fk := hfr (j * 2)
      have hlen : m1 + 1 = (wrNs l[j]).length := by
        rw [← hlen0]
        show m1 + 1 = l'[j].2.length + 1
        rw [o1.len]
      have hnj : nums wrNs l (j + 1) = nums wrNs l j + (m1 + 1) := by rw [hlen]; exact pre_succ hjl2
      have hb1 : nums wrNs l j + (m1 + 1) ≤ 1048577 := by
        rw [hlen]
        have h1 : nums wrNs l j + (wrNs l[j]).length ≤ (l.map (fun r => (wrNs r).length)).sum := pre_at (g := fun r => (wrNs r).length) hjl2
        have h2 := HS.out
        unfold waitSz at h2
        have h3 := waitN_eq l
        omega
      generalize hN : nums wrNs l j = N at *
      generalize hx0 : l'[j].1 = x0 at *
      generalize hxr : l'[j].2 = xr at *
      -- the first store
      have tg : Touch [g] wr (wr.setCell ⟨g, j * 2, none⟩ (.int .i64 (k + (N : Int)))) := Touch.of_set (by simp)
      have o2 := o1.touch tg (fun p hp hm => hg2 (by have : p = g := by simpa using hm
                                                     rw [← this]; exact hp))
      have hown2 := hset 0 (.int .i64 (k + (N : Int))) (k + (N : Int), xr) (by decide) (by
        rw [Nat.add_zero]
        exact .int o2.ow)
      rw [Nat.add_zero] at hown2
      have t2 := htch.trans (tg.mono (fun p hp => by have : p = g := by simpa using hp
                                                     rw [this]; exact hgf))
      generalize hw2 : wr.setCell ⟨g, j * 2, none⟩ (.int .i64 (k + (N : Int))) = w2 at *
      obtain ⟨g', d', es', f2', e', _, _, he', hcell', _, hel', _, _, _, hsub', hin', _⟩ := Ow.elem (k := 2) wrC_len (by decide) hown2 HN.out (j := j) (by simpa using hjl)
      injection e' with e' e2' e3'
      injection e' with e'
      injection e' with e' _
      subst e' e3'
      match es', he' with
      | [z0, z1], _ =>
      have hget : (l'.set j (k + (N : Int), xr))[j]'(by simpa using hjl) = (k + (N : Int), xr) := by simp
      rw [hget] at hel'
      obtain ⟨hz0, A2, m2, d2, rfl, o3, rfl⟩ := hel'.write
      have cz := hcell' 1 (by decide)
      have cy := hcell 1 (by decide)
      have ck1 : wr.cell? ⟨g, j * 2 + 1, none⟩ = some (.slice A1 m1 d1) := cy
      have ck2 : w2.cell? ⟨g, j * 2 + 1, none⟩ = some (.slice A2 m2 d2) := cz
      have ck3 : w2.cell? ⟨g, j * 2 + 1, none⟩ = some (.slice A1 m1 d1) := by
        rw [← hw2]
        exact (World.cell?_setCell_other wr ⟨g, j * 2, none⟩ ⟨g, j * 2 + 1, none⟩ _ (by simp)).trans ck1
      rw [ck2] at ck3
      injection ck3 with ck3
      injection ck3 with a1 a2 a3
      subst a1 a2 a3
      have HJ := Lib.hid hnj
      have IN := Lib.hid hin'
      have HM := Lib.hid hmap
      have HF := Lib.hid hflat
      have HT := Lib.hid t2
      have SB := Lib.hid hsub'
      have HE := Lib.hid hlen
      have HLL := Lib.hid hll
      have HNN := Lib.hid hN
      have HL0 := Lib.hid hlen0
      have HZ := Lib.hid hz0
      have HW2 := Lib.hid hw2
      clear hin' hmap hflat htch hsub hsub' hcell hcell' ck0 hel hel' hown hown2 hfr hgf hlen hnj hN hll e2 e2' hset hget cz tg t2 o2 hlen0 hz0 hx0 hxr hw2 o1 cy ck2
      go_wp2_with fail
      rw [HW2.out]
      refine (mark_any A2 m2 d2 0 _ _ o3 (by omega) _ (by omega) (by omega)).mono ?_
      rintro e w3 ⟨rfl, o4, g4⟩
      have tt : Touch (Value.slice A2 m2 d2).ownBlock.toList w2 w3 := Touch.of_grown g4 (fun p hp => by rw [hp]; simp)
      have R1 := Lib.hid (show Ow w3 [waitD (l'.set j (k + (N : Int), upFrom (k + (N : Int) + 1) m2))] [.slice (some ⟨g, 0, none⟩) n c] fp by
        have h1 := IN.out w3 (k + (N : Int), upFrom (k + (N : Int) + 1) m2) tt (by
          rw [HZ.out]
          exact .int o4.ow)
        rw [List.set_set] at h1
        exact h1)
      have R2 := Lib.hid (HT.out.trans (tt.mono SB.out))
      clear IN tt o4 g4 o3
      go_wp2
      go_roundw
      case rel =>
        refine ⟨j + 1, _, by omega, by go_num, by rw [HJ.out]; go_num, ?_, ?_, R1.out, R2.out⟩
        · rw [set_map hjl ?_]
          · exact HM.out
          · show (upFrom _ m2).length + 1 = _
            rw [upFrom_length, HE.out, HL0.out]
        · have h1 := nums_map HM.out j
          have h2 := flat_step (g := wrNs) (l := l') (j := j) (k := k) (x := (k + (N : Int), upFrom (k + (N : Int) + 1) m2)) hjl (by rw [h1, HNN.out]; exact HF.out) (by
            rw [h1, HNN.out]
            show (k + (N : Int)) :: upFrom (k + (N : Int) + 1) m2 = upFrom (k + (N : Int)) ((upFrom (k + (N : Int) + 1) m2).length + 1)
            rw [upFrom_length, Nat.add_comm m2 1, upFrom_add]
            simp [upFrom])
          rw [h2, h1, HNN.out, HJ.out]
          show upFrom k (N + ((upFrom _ m2).length + 1)) = _
          rw [upFrom_length]
      case measure => simp [intOf]; omega
    · go_wp2
      go_ret
      have hjn : j = l.length := by have := HL.out; omega
      subst hjn
      refine ⟨l', rfl, hown, htch, hmap, ?_⟩
      rw [List.take_of_length_le (by omega)] at hflat
      exact hflat

set_option maxHeartbeats 1600000 in
theorem heldRows_any (v : Value) (l : List (List Int)) (B : Nat) (w : World) (h : Rd w B [keptD l] [v]) (hs : rowsSz l ≤ 1048577) (k : Int) (k0 : 0 ≤ k) (k1 : k ≤ 1000000000000) (hm : l.flatMap rowNs = upFrom k (l.flatMap rowNs).length) :
    Calls Try.prog 44 #[v, .int .i64 k] w fun e w' => e = .returned (.int .i64 (k + (nums rowNs l l.length : Int))) ∧ w = w' := by
  obtain ⟨A, n, c, rfl, hl, _, _, hel⟩ := h.kept
  have HL := Lib.hid hl
  have hn : n ≤ 1048577 := by unfold rowsSz at hs; omega
  have HS := Lib.hid hs
  have HM := Lib.hid hm
  clear hs hl hm h
  go_enter Try.func44, Try.ntmps44
  go_wp2
  go_loop [1, 5] (fun q i => ∃ j : Nat, j ≤ n ∧ i = .int .i64 (j : Int) ∧ q = .int .i64 (k + (nums rowNs l j : Int))) (fun _ i => n - (intOf i).toNat)
  case atStart => exact ⟨0, Nat.zero_le _, rfl, by simp [nums, pre_zero]⟩
  case round =>
    obtain ⟨j, hj, rfl, rfl⟩ := hrel
    by_cases hlt : j < n
    · obtain ⟨b, off, rfl, hb, hc⟩ := hel (by omega)
      have hjl : j < l.length := by have := HL.out; omega
      obtain ⟨A1, m1, d1, hcell, hrow, _⟩ := hc j hjl
      have hat := flat_at HM.out hjl
      have hml : m1 = (rowNs l[j]).length := hrow.1.symm
      have hr : IRow w B A1 m1 (upFrom (k + (nums rowNs l j : Int)) m1) := by
        have : l[j] = upFrom (k + (nums rowNs l j : Int)) m1 := by rw [hml]; exact hat
        rw [← this]
        exact hrow
      have hnj : nums rowNs l (j + 1) = nums rowNs l j + m1 := by rw [hml]; exact pre_succ hjl
      have hb1 : nums rowNs l j + m1 ≤ 1048577 := by
        rw [hml]
        have h1 : nums rowNs l j + (rowNs l[j]).length ≤ (l.map (fun r => (rowNs r).length)).sum := pre_at (g := fun r => (rowNs r).length) hjl
        have h2 := HS.out
        unfold rowsSz at h2
        have h3 : (l.map (fun r => (rowNs r).length)).sum = (l.map List.length).sum := rfl
        omega
      have HJ := Lib.hid hnj
      clear hc hat hml hrow hnj hel
      go_wp2_with fail
      refine (held_any A1 m1 d1 _ _ _ hr (by omega) (by omega) (by omega)).mono ?_
      rintro e w1 ⟨rfl, rfl⟩
      have q0 : ¬ (k + (nums rowNs l j : Int) + (m1 : Int) < 0) := by omega
      go_wp2
      go_round
      case rel => exact ⟨j + 1, by omega, by go_num, by rw [HJ.out]; go_num⟩
      case measure => simp [intOf]; omega
    · go_wp2
      go_ret
      have hjn : j = l.length := by have := HL.out; omega
      subst hjn
      exact ⟨rfl, rfl⟩

set_option maxHeartbeats 1600000 in
theorem heldWrites_any (v : Value) (l : List (Int × List Int)) (B : Nat) (w : World) (h : Rd w B [waitD l] [v]) (hs : waitSz l ≤ 1048577) (k : Int) (k0 : 0 ≤ k) (k1 : k ≤ 1000000000000) (hm : l.flatMap wrNs = upFrom k (l.flatMap wrNs).length) :
    Calls Try.prog 108 #[v, .int .i64 k] w fun e w' => e = .returned (.int .i64 (k + (nums wrNs l l.length : Int))) ∧ w = w' := by
  obtain ⟨A, n, c, rfl, hl, _, _, hel⟩ := h.wait
  have HL := Lib.hid hl
  have hn : n ≤ 1048577 := by unfold waitSz at hs; omega
  have HS := Lib.hid hs
  have HM := Lib.hid hm
  clear hs hl hm h
  go_enter Try.func108, Try.ntmps108
  go_wp2
  go_loop [1, 5] (fun q i => ∃ j : Nat, j ≤ n ∧ i = .int .i64 (j : Int) ∧ q = .int .i64 (k + (nums wrNs l j : Int))) (fun _ i => n - (intOf i).toNat)
  case atStart => exact ⟨0, Nat.zero_le _, rfl, by simp [nums, pre_zero]⟩
  case round =>
    obtain ⟨j, hj, rfl, rfl⟩ := hrel
    by_cases hlt : j < n
    · obtain ⟨b, off, rfl, hb, hc⟩ := hel (by omega)
      have hjl : j < l.length := by have := HL.out; omega
      obtain ⟨A1, m1, d1, hcell, hcell2, hrow, _⟩ := hc j hjl
      have hat := flat_at HM.out hjl
      have hml : m1 = l[j].2.length := hrow.1.symm
      have hat2 : l[j].1 :: l[j].2 = upFrom (k + (nums wrNs l j : Int)) (1 + l[j].2.length) := by
        have : (wrNs l[j]).length = 1 + l[j].2.length := Nat.add_comm _ _
        rw [← this]
        exact hat
      rw [upFrom_add] at hat2
      have hat3 : l[j].1 :: l[j].2 = (k + (nums wrNs l j : Int)) :: upFrom (k + (nums wrNs l j : Int) + 1) l[j].2.length := by
        rw [hat2]
        simp [upFrom]
      injection hat3 with ha1 ha2
      have hr : IRow w B A1 m1 (upFrom (k + (nums wrNs l j : Int) + 1) m1) := by
        rw [hml, ← ha2, ← hml]
        exact hrow
      rw [ha1] at hcell
      have hnj : nums wrNs l (j + 1) = nums wrNs l j + (m1 + 1) := by rw [hml]; exact pre_succ hjl
      have hb1 : nums wrNs l j + (m1 + 1) ≤ 1048577 := by
        rw [hml]
        have h1 : nums wrNs l j + (wrNs l[j]).length ≤ (l.map (fun r => (wrNs r).length)).sum := pre_at (g := fun r => (wrNs r).length) hjl
        have h2 := HS.out
        unfold waitSz at h2
        have h3 := waitN_eq l
        have h4 : (wrNs l[j]).length = l[j].2.length + 1 := rfl
        omega
      have HJ := Lib.hid hnj
      clear hc hat hat2 ha1 ha2 hml hrow hnj hel
      go_wp2_with fail
      refine (held_any A1 m1 d1 _ _ _ hr (by omega) (by omega) (by omega)).mono ?_
      rintro e w1 ⟨rfl, rfl⟩
      have q0 : ¬ (k + (nums wrNs l j : Int) + 1 + (m1 : Int) < 0) := by omega
      go_wp2
      go_round
      case rel => exact ⟨j + 1, by omega, by go_num, by rw [HJ.out]; go_num⟩
      case measure => simp [intOf]; omega
    · go_wp2
      go_ret
      have hjn : j = l.length := by have := HL.out; omega
      subst hjn
      exact ⟨rfl, rfl⟩

end Go.Proofs.Ytejcpoidoekleaa
