/-
  Chapter 6: a timer set, of the program (by program, wip/gen/gentimi.py).
-/
import Derived.Test.YthekcaahkokjfaaTimC8
import Derived.Test.YthekcaahkokjfaaTimC10
import Derived.RegionTactic
import Derived.BigQuiet
import Derived.Laws.EntriesVeiled
namespace Go.Proofs.Ythekcaahkokjfaa
set_option maxRecDepth 100000
open Go.RowKit

set_option maxHeartbeats 12800000 in
theorem iSet_any (A : Option Addr) (n cc : Nat) (l : List TimerM) (x0 x1 : Int) (w : World) (h : Rd w w.heap.size [timerD l] [.slice A n cc]) (hs : timerSz l ≤ 1048576) :
    Calls Try.prog 57 #[.agg #[.slice A n cc, .func (.func 72) #[] #[], .func (.func 73) #[] #[]], .agg #[.int .i64 x0, .int .i64 x1]] w (MadeTimerS w (putT (offM l x0) ⟨x0, x1⟩)) := by
  have HH := Lib.hid h
  obtain ⟨_, _, _, e, hl, _, hcm, _⟩ := h.timers
  injection e with e1 e2 e3
  subst e1 e2 e3
  have hn : n ≤ 1048576 := by unfold timerSz at hs; omega
  have hol := offM_len l x0
  have HL := Lib.hid hl
  clear h hl hcm
  have S := Sep.nil w w.heap.size
  have c := Below.refl w.heap.size w
  replace S := S.boxAt c.size (w.heap.size) rfl #[.slice A n cc, .func (.func 72) #[] #[], .func (.func 73) #[] #[]] 60
  replace c := c.alloc c.size (.cells #[.slice A n cc, .func (.func 72) #[] #[], .func (.func 73) #[] #[]] 60)
  replace S := S.boxAt c.size (w.heap.size + 1) (by simp) #[.int .i64 x0, .int .i64 x1] 64
  replace c := c.alloc c.size (.cells #[.int .i64 x0, .int .i64 x1] 64)
  go_enter Try.func57, Try.ntmps57
  go_wp2_with fail
  generalize (w.alloc (.cells #[.slice A n cc, .func (.func 72) #[] #[], .func (.func 73) #[] #[]] 60)).alloc (.cells #[.int .i64 x0, .int .i64 x1] 64) = w1 at *
  refine wp_region_L (fun v => v.cell? ⟨w.heap.size, 0, none⟩ = some (.slice A n cc) ∧ v.cell? ⟨w.heap.size, 1, none⟩ = some (.func (.func 72) #[] #[]) ∧ v.cell? ⟨w.heap.size, 2, none⟩ = some (.func (.func 73) #[] #[]) ∧ v.cell? ⟨w.heap.size + 1, 0, none⟩ = some (.int .i64 x0) ∧ v.cell? ⟨w.heap.size + 1, 1, none⟩ = some (.int .i64 x1)) 6 (by kernel_rfl) ?_
  replace S := S.keep ((Below.refl _ _).drew)
  replace c := c.drew
  generalize w1.drew = w2 at *
  have HF : w2.cell? ⟨w.heap.size, 0, none⟩ = some (.slice A n cc) ∧ w2.cell? ⟨w.heap.size, 1, none⟩ = some (.func (.func 72) #[] #[]) ∧ w2.cell? ⟨w.heap.size, 2, none⟩ = some (.func (.func 73) #[] #[]) ∧ w2.cell? ⟨w.heap.size + 1, 0, none⟩ = some (.int .i64 x0) ∧ w2.cell? ⟨w.heap.size + 1, 1, none⟩ = some (.int .i64 x1) := ⟨(S.at_ 1 rfl).cell 0, (S.at_ 1 rfl).cell 1, (S.at_ 1 rfl).cell 2, (S.at_ 0 rfl).cell 0, (S.at_ 0 rfl).cell 1⟩
  refine wpAnyL_take (i := 0) (v := ?_) rfl rfl (by kernel_rfl) (by kernel_rfl) (by kernel_rfl) (by kernel_rfl) (by kernel_rfl) (fun _ _ _ h => h) HF (Or.inl ⟨by rfl, ?_⟩) ?_
  rotate_left 1
  · (rintro v ⟨a0, a1, a2, a3, a4⟩; go_simp; try with_reducible rfl)
  try simp only [Act.put]
  refine wpAnyL_pure (i := 1) (v := ?_) rfl rfl (by kernel_rfl) (by kernel_rfl) (by kernel_rfl) (fun _ _ _ h => h) HF (Or.inl ⟨by rfl, ?_⟩) ?_
  rotate_left 1
  · (intro v _; go_simp; try with_reducible rfl)
  try simp only [Act.put]
  refine wpAnyL_take (i := 2) (v := ?_) rfl rfl (by kernel_rfl) (by kernel_rfl) (by kernel_rfl) (by kernel_rfl) (by kernel_rfl) (fun _ _ _ h => h) HF (Or.inl ⟨by rfl, ?_⟩) ?_
  rotate_left 1
  · (rintro v ⟨a0, a1, a2, a3, a4⟩; go_simp; try with_reducible rfl)
  try simp only [Act.put]
  refine wpAnyL_take (i := 3) (v := ?_) rfl rfl (by kernel_rfl) (by kernel_rfl) (by kernel_rfl) (by kernel_rfl) (by kernel_rfl) (fun _ _ _ h => h) HF (Or.inl ⟨by rfl, ?_⟩) ?_
  rotate_left 1
  · (rintro v ⟨a0, a1, a2, a3, a4⟩; go_simp; try with_reducible rfl)
  try simp only [Act.put]
  refine wpAnyL_step (i := 4) (by kernel_rfl) rfl rfl ?_
  intro K hK
  go_simp
  refine (iIdOf_any x0 x1 _).mono ?_
  rintro e w3 ⟨rfl, b⟩
  replace c := c.trans (b.mono c.size)
  replace S := S.keep b
  clear b
  clear HF
  have HF : w3.cell? ⟨w.heap.size, 0, none⟩ = some (.slice A n cc) ∧ w3.cell? ⟨w.heap.size, 1, none⟩ = some (.func (.func 72) #[] #[]) ∧ w3.cell? ⟨w.heap.size, 2, none⟩ = some (.func (.func 73) #[] #[]) ∧ w3.cell? ⟨w.heap.size + 1, 0, none⟩ = some (.int .i64 x0) ∧ w3.cell? ⟨w.heap.size + 1, 1, none⟩ = some (.int .i64 x1) := ⟨(S.at_ 1 rfl).cell 0, (S.at_ 1 rfl).cell 1, (S.at_ 1 rfl).cell 2, (S.at_ 0 rfl).cell 0, (S.at_ 0 rfl).cell 1⟩
  refine hK _ _ (fun _ => HF) ?_
  clear hK K
  try simp only [Act.put]
  refine wpAnyL_step (i := 5) (by kernel_rfl) rfl rfl ?_
  intro K hK
  go_simp
  refine (iOff_any A n cc w.heap.size l x0 _ (HH.out.keep c) c.size (by omega)).mono ?_
  rintro e w4 ⟨G, m, gc, rfl, o, b⟩
  obtain ⟨fp_left, S'⟩ := S.has b o c.size
  replace c := c.trans (b.mono c.size)
  clear S; have S := S'; clear S' o b
  clear HF
  have HF : w4.cell? ⟨w.heap.size, 0, none⟩ = some (.slice A n cc) ∧ w4.cell? ⟨w.heap.size, 1, none⟩ = some (.func (.func 72) #[] #[]) ∧ w4.cell? ⟨w.heap.size, 2, none⟩ = some (.func (.func 73) #[] #[]) ∧ w4.cell? ⟨w.heap.size + 1, 0, none⟩ = some (.int .i64 x0) ∧ w4.cell? ⟨w.heap.size + 1, 1, none⟩ = some (.int .i64 x1) := ⟨(S.at_ 2 rfl).cell 0, (S.at_ 2 rfl).cell 1, (S.at_ 2 rfl).cell 2, (S.at_ 1 rfl).cell 0, (S.at_ 1 rfl).cell 1⟩
  refine hK _ _ (fun _ => HF) ?_
  clear hK K
  try simp only [Act.put]
  refine wpAnyL_step (i := 6) (by kernel_rfl) rfl rfl ?_
  intro K hK
  go_simp
  refine hK _ _ (fun h => nomatch (show true = false from h)) ?_
  clear hK K
  try simp only [Act.put]
  refine wpAnyL_done (by kernel_rfl) ?_ _
  clear HF
  have hlm : (offM l x0).length = m := by
    obtain ⟨_, _, _, e, hl9, _⟩ := (S.own_ 0 rfl).rd.timers
    injection e with e1 e2 e3
    rw [hl9, e2]
  have hmn : m ≤ 1048576 := by have := HL.out; omega
  obtain ⟨r, hr⟩ : ∃ r, r = offM l x0 := ⟨_, rfl⟩
  rw [← hr] at S hlm
  have HR := Lib.hid hr
  clear hr hol
  have S0 := Lib.hid S
  have C0 := Lib.hid c
  clear S c
  go_wp2_with fail
  go_loopw [6] (fun i wr => ∃ k : Nat, k ≤ m ∧ i = .int .i64 (k : Int) ∧ (∀ q (hq : q < r.length), q < k → timLess r[q] ⟨x0, x1⟩ = true) ∧ Sep wr w.heap.size [.own [timerD r] [.slice G m gc] fp_left, .blk (w.heap.size + 1) #[.int .i64 x0, .int .i64 x1] 64, .blk w.heap.size #[.slice A n cc, .func (.func 72) #[] #[], .func (.func 73) #[] #[]] 60] ∧ Below w.heap.size w wr) (fun i _ => m - (intOf i).toNat)
  case atStart => exact ⟨0, Nat.zero_le _, rfl, fun q _ hq => absurd hq (by omega), S0.out, C0.out⟩
  case round =>
    obtain ⟨k, hk, rfl, hall, S, c⟩ := hrel
    clear S0 C0
    have HA := Lib.hid hall
    clear hall
    by_cases hlt : k < m
    · obtain ⟨_, _, _, e, _, _, hcm, hel⟩ := (S.own_ 0 rfl).rd.timers
      injection e with e1 e2 e3
      subst e1 e2 e3
      obtain ⟨b, off, rfl, hb, hc⟩ := hel (by omega)
      have hkl : k < r.length := by omega
      obtain ⟨cs0, cs1⟩ := hc k hkl
      obtain ⟨y0, hy0⟩ : ∃ q, q = r[k].tid := ⟨_, rfl⟩
      obtain ⟨y1, hy1⟩ : ∃ q, q = r[k].due := ⟨_, rfl⟩
      rw [← hy0] at cs0
      rw [← hy1] at cs1
      have HY := Lib.hid (show r[k] = ⟨y0, y1⟩ by rw [hy0, hy1])
      have d0 : wr.cell? ⟨w.heap.size + 1, 0, none⟩ = some (.int .i64 x0) := (S.at_ 1 rfl).cell 0
      have d1 : wr.cell? ⟨w.heap.size + 1, 1, none⟩ = some (.int .i64 x1) := (S.at_ 1 rfl).cell 1
      have e2 : wr.cell? ⟨w.heap.size, 2, none⟩ = some (.func (.func 73) #[] #[]) := (S.at_ 2 rfl).cell 2
      have g1 : decide ((k : Int) < (m : Int)) = true := decide_eq_true (by omega)
      have g2 : decide (k < m) = true := decide_eq_true hlt
      have SH := Lib.hid S
      have CH := Lib.hid c
      clear hel hc hb hy0 hy1 S c hcm
      go_wp2_with fail
      refine wp_region_cls (fun v => v.cell? ⟨w.heap.size + 1, 0, none⟩ = some (.int .i64 x0) ∧ v.cell? ⟨w.heap.size + 1, 1, none⟩ = some (.int .i64 x1) ∧ v.cell? ⟨w.heap.size, 2, none⟩ = some (.func (.func 73) #[] #[]) ∧ v.cell? ⟨b, off + k * 2, none⟩ = some (.int .i64 y0) ∧ v.cell? ⟨b, off + k * 2 + 1, none⟩ = some (.int .i64 y1)) (by kernel_rfl) (by kernel_rfl) (fun v hv => ⟨(hv.cell (p := ⟨w.heap.size + 1, 0, none⟩) (lt_of_cell d0)).trans d0, (hv.cell (p := ⟨w.heap.size + 1, 1, none⟩) (lt_of_cell d1)).trans d1, (hv.cell (p := ⟨w.heap.size, 2, none⟩) (lt_of_cell e2)).trans e2, (hv.cell (p := ⟨b, off + k * 2, none⟩) (lt_of_cell cs0)).trans cs0, (hv.cell (p := ⟨b, off + k * 2 + 1, none⟩) (lt_of_cell cs1)).trans cs1⟩) ?_
      intro CL HF HC
      repeat
        (refine wpQuiet_step (fun K hK => ?_)
         go_simp
         first
           | (refine hK _ ?_; clear hK K)
           | (apply Exists.intro
              refine ⟨fun v hv => ?_, hK _ ?_⟩
              · obtain ⟨a0, a1, a2, a3, a4⟩ := HF v hv
                first
                  | (go_at_call 73; exact Calls.cls HC hv (iBefore_any y0 y1 x0 x1 v) rfl)
                  | exact rfl
                  | (go_simp; exact rfl)
                  | (go_simp; exact ⟨rfl, hv⟩)
              clear hK K))
      refine wpQuiet_nil ?_
      intro w3 b3
      have CC := Lib.hid (CH.out.trans (b3.mono CH.out.size))
      have SS := Lib.hid (SH.out.keep b3)
      clear SH CH d0 d1 e2 cs0 cs1 b3
      all_goals
        cases hok : timLess ⟨y0, y1⟩ ⟨x0, x1⟩
        case true =>
          have HN := Lib.hid (show ∀ q (hq : q < r.length), q < k + 1 → timLess r[q] ⟨x0, x1⟩ = true from fun q hq hqk => by
            rcases Nat.lt_or_ge q k with h1 | h1
            · exact HA.out q hq h1
            · have : q = k := by omega
              subst this
              rw [HY.out]
              exact hok)
          clear hok HA
          go_wp2
          go_roundw
          case rel => exact ⟨k + 1, by omega, by go_num, HN.out, SS.out, CC.out⟩
          case measure => simp [intOf]; omega
        case false =>
          have S := SS.out
          have c := CC.out
          clear SS CC
          have HOK := Lib.hid hok
          clear hok
          have HIX := Lib.hid (show setIx r ⟨x0, x1⟩ = k from firstNot_eq _ r k (by omega) (fun i hi hlt => HA.out i hi hlt) (fun hj => by rw [HY.out]; exact HOK.out))
          clear HA
          have f0 : w3.cell? ⟨w.heap.size + 1, 0, none⟩ = some (.int .i64 x0) := (S.at_ 1 rfl).cell 0
          have f1 : w3.cell? ⟨w.heap.size + 1, 1, none⟩ = some (.int .i64 x1) := (S.at_ 1 rfl).cell 1
          replace S := S.boxAt c.size (w3.heap.size) rfl #[.int .i64 x0, .int .i64 x1] 64
          replace c := c.alloc c.size (.cells #[.int .i64 x0, .int .i64 x1] 64)
          have hv : Blk (w3.alloc (.cells #[.int .i64 x0, .int .i64 x1] 64)) w3.heap.size #[.int .i64 x0, .int .i64 x1] 64 := S.at_ 0 rfl
          have hvf : w3.heap.size ∉ fp_left := fun hm => by have h9 := S.nodup; simp only [foots, List.flatMap_cons, Item.foot, List.singleton_append, List.nodup_cons] at h9; exact h9.1 (List.mem_append_left _ hm)
          go_wp2_with fail
          generalize w3.alloc (.cells #[.int .i64 x0, .int .i64 x1] 64) = w5 at *
          refine (iInsert_any (some ⟨b, off, none⟩) m gc k w3.heap.size r x0 x1 fp_left _ (S.own_ 1 rfl) (S.nodup_own 1 rfl) hv hvf hk hmn).mono ?_
          rintro e w7 ⟨A3, c3, fp3, rfl, o3, n3, s3, t3⟩
          have hpt : r.take k ++ [(⟨x0, x1⟩ : TimerM)] ++ r.drop k = putT (offM l x0) ⟨x0, x1⟩ := by unfold putT; rw [← HR.out, HIX.out]
          rw [hpt] at o3
          have H := Lib.hid (show Has w7 w.heap.size [timerD (putT (offM l x0) ⟨x0, x1⟩)] [.slice A3 (m + 1) c3] from ⟨fp3, o3, n3, fun p hp => by
            rcases s3 p hp with h9 | h9 | h9
            · exact S.ge p (foot_mem (n := 1) (i := .own _ _ fp_left) rfl h9)
            · simp at h9
            · have := c.size; omega⟩)
          have C := Lib.hid (c.trans (S.below 1 rfl t3 c.size))
          clear S c o3 n3 s3 t3 hpt hv hvf
          go_wp2
          go_ret
          exact ⟨_, _, _, rfl, H.out, C.out⟩
    · have g1 : decide ((k : Int) < (m : Int)) = false := decide_eq_false (by omega)
      have g2 : decide (k < m) = false := decide_eq_false hlt
      have d0 : wr.cell? ⟨w.heap.size + 1, 0, none⟩ = some (.int .i64 x0) := (S.at_ 1 rfl).cell 0
      have HLM := Lib.hid hlm
      have SH := Lib.hid S
      have CH := Lib.hid c
      clear S c
      go_wp2_with fail
      go_quiet (fail)
      have S := SH.out.keep (below_drewN (Below.refl wr.heap.size wr) nq)
      have c := below_drewN CH.out nq
      generalize wr.drewN nq = w3 at *
      clear d0 SH CH
      have HIX := Lib.hid (show setIx r ⟨x0, x1⟩ = k from firstNot_eq _ r k (by omega) (fun i hi hlt => HA.out i hi hlt) (fun hj => absurd hj (by have := HLM.out; omega)))
      clear HA
      have f0 : w3.cell? ⟨w.heap.size + 1, 0, none⟩ = some (.int .i64 x0) := (S.at_ 1 rfl).cell 0
      have f1 : w3.cell? ⟨w.heap.size + 1, 1, none⟩ = some (.int .i64 x1) := (S.at_ 1 rfl).cell 1
      replace S := S.boxAt c.size (w3.heap.size) rfl #[.int .i64 x0, .int .i64 x1] 64
      replace c := c.alloc c.size (.cells #[.int .i64 x0, .int .i64 x1] 64)
      have hv : Blk (w3.alloc (.cells #[.int .i64 x0, .int .i64 x1] 64)) w3.heap.size #[.int .i64 x0, .int .i64 x1] 64 := S.at_ 0 rfl
      have hvf : w3.heap.size ∉ fp_left := fun hm => by have h9 := S.nodup; simp only [foots, List.flatMap_cons, Item.foot, List.singleton_append, List.nodup_cons] at h9; exact h9.1 (List.mem_append_left _ hm)
      go_wp2_with fail
      generalize w3.alloc (.cells #[.int .i64 x0, .int .i64 x1] 64) = w5 at *
      refine (iInsert_any G m gc k w3.heap.size r x0 x1 fp_left _ (S.own_ 1 rfl) (S.nodup_own 1 rfl) hv hvf hk hmn).mono ?_
      rintro e w7 ⟨A3, c3, fp3, rfl, o3, n3, s3, t3⟩
      have hpt : r.take k ++ [(⟨x0, x1⟩ : TimerM)] ++ r.drop k = putT (offM l x0) ⟨x0, x1⟩ := by unfold putT; rw [← HR.out, HIX.out]
      rw [hpt] at o3
      have H := Lib.hid (show Has w7 w.heap.size [timerD (putT (offM l x0) ⟨x0, x1⟩)] [.slice A3 (m + 1) c3] from ⟨fp3, o3, n3, fun p hp => by
        rcases s3 p hp with h9 | h9 | h9
        · exact S.ge p (foot_mem (n := 1) (i := .own _ _ fp_left) rfl h9)
        · simp at h9
        · have := c.size; omega⟩)
      have C := Lib.hid (c.trans (S.below 1 rfl t3 c.size))
      clear S c o3 n3 s3 t3 hpt hv hvf
      go_wp2
      go_ret
      exact ⟨_, _, _, rfl, H.out, C.out⟩

set_option maxHeartbeats 3200000 in
theorem iTSet_any (A : Option Addr) (n cc : Nat) (l : List TimerM) (x y : Int) (w : World) (h : Rd w w.heap.size [timerD l] [.slice A n cc]) (hs : timerSz l ≤ 1048576) :
    Calls Try.prog 25 #[.slice A n cc, .int .i64 x, .int .i64 y] w (MadeTB w (timerSetM l x y)) := by
  have hs1 : timerSz l ≤ 1048577 := by omega
  go_enter Try.func25, Try.ntmps25
  go_wp2_with fail
  refine (iTimers_any A n cc w.heap.size l _ h (Nat.le_refl _) hs1).mono ?_
  rintro e w1 ⟨rfl, b⟩
  cases hok : timersB l
  case false =>
    have HD := Lib.hid (show timerSetM l x y = ([], false) by unfold timerSetM; rw [hok]; rfl)
    have H := Lib.hid (has_nilT w1 w.heap.size)
    have C := Lib.hid b
    clear hok b h
    go_wp2
    go_ret2
    exact ⟨_, _, _, by rw [HD.out]; rfl, by rw [HD.out]; exact H.out, C.out⟩
  case true =>
    have hl16 := timersB_len hok
    have HOK := Lib.hid hok
    clear hok
    go_wp2_with fail
    refine (iTimersOf_any A n cc _).mono ?_
    rintro e w2 ⟨rfl, b2⟩
    have b3 := b.trans (b2.mono b.size)
    go_wp2_with fail
    refine (iSet_any A n cc l x y _ ((h.keep b3).up b3.size) hs).mono ?_
    rintro e w3 ⟨G, m, gc, rfl, o, b4⟩
    have b5 := b3.trans (b4.mono b3.size)
    have H := Lib.hid (o.up b3.size)
    obtain ⟨r, hr⟩ : ∃ r, r = putT (offM l x) ⟨x, y⟩ := ⟨_, rfl⟩
    have hrs : timerSz r ≤ 1048577 := by
      have h1 := offM_len l x
      rw [hr]
      unfold timerSz
      rw [putT_len]
      omega
    rw [← hr] at H o
    have HR := Lib.hid hr
    clear hr
    go_wp2_with fail
    refine (iTimers_any G m gc w3.heap.size r _ o.rd (Nat.le_refl _) hrs).mono ?_
    rintro e w4 ⟨rfl, b6⟩
    have b7 := b5.trans (b6.mono b5.size)
    have H2 := Lib.hid (H.out.below b6)
    cases hok : timersB r
    case false =>
      have HD := Lib.hid (show timerSetM l x y = (l, false) by unfold timerSetM; rw [if_pos HOK.out, if_neg (by rw [← HR.out, hok]; decide)])
      clear hok
      go_wp2_with fail
      refine (iCopyT_any A n cc l _ ((h.keep b7).up b7.size) hs1).mono ?_
      rintro e w5 ⟨A5, n5, c5, rfl, o5, b8⟩
      have H5 := Lib.hid (o5.up b7.size)
      have C := Lib.hid (b7.trans (b8.mono b7.size))
      clear b b2 b3 b4 b5 b6 b7 b8 o o5 h
      go_wp2
      go_ret2
      exact ⟨_, _, _, by rw [HD.out]; rfl, by rw [HD.out]; exact H5.out, C.out⟩
    case true =>
      have HD := Lib.hid (show timerSetM l x y = (r, true) by unfold timerSetM; rw [if_pos HOK.out, if_pos (by rw [← HR.out, hok]), ← HR.out])
      have C := Lib.hid b7
      clear hok b b2 b3 b4 b5 b6 b7 o h
      go_wp2
      go_ret2
      exact ⟨_, _, _, by rw [HD.out]; rfl, by rw [HD.out]; exact H2.out, C.out⟩

end Go.Proofs.Ythekcaahkokjfaa
