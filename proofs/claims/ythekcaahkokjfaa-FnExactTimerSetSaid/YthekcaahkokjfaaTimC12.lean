/-
  Chapter 6: a timer set, of the model (by program, wip/gen/gentimj.py).
-/
import Derived.Test.YthekcaahkokjfaaTimC8
import Derived.Test.YthekcaahkokjfaaTimC9
import Derived.Test.YthekcaahkokjfaaParts
import Derived.RegionTactic
import Derived.BigQuiet
import Derived.Laws.EntriesVeiled
namespace Go.Proofs.Ythekcaahkokjfaa
set_option maxRecDepth 100000
open Go.RowKit

theorem own_addr {α : Type} {w : World} {e : TypeId} {k n c : Nat} {f : α → List Dat} {l : List α} {A : Option Addr} {fp : List Nat} (hk : ∀ x, (f x).length = k) (k0 : 0 < k) (h : Ow w [lst e k f l] [.slice A n c] fp) (hn : 0 < n) : ∃ g, A = some ⟨g, 0, none⟩ := by
  obtain ⟨us, fp1, h1, _, _⟩ := h.lst hk k0
  rcases h1.2 with ⟨hv, h0⟩ | ⟨g, cap, cur, hv, _⟩
  · injection hv; omega
  · injection hv with a1 _ _
    exact ⟨g, a1⟩

set_option maxHeartbeats 12800000 in
theorem sTSet_any (A : Option Addr) (n cc : Nat) (l : List TimerM) (x y : Int) (w : World) (h : Rd w w.heap.size [timerD l] [.slice A n cc]) (hs : timerSz l ≤ 1048576) :
    Calls Try.prog 45 #[.slice A n cc, .int .i64 x, .int .i64 y] w (MadeTB w (timerSetM l x y)) := by
  have hs1 : timerSz l ≤ 1048577 := by omega
  have HH := Lib.hid h
  go_enter Try.func45, Try.ntmps45
  go_wp2_with fail
  refine (sTimers_any A n cc w.heap.size l _ h (Nat.le_refl _) hs1).mono ?_
  rintro e w1 ⟨rfl, b⟩
  cases hok : timersB l
  case false =>
    have HD := Lib.hid (show timerSetM l x y = ([], false) by unfold timerSetM; rw [hok]; rfl)
    have H := Lib.hid ((has_emptyT w1).up b.size)
    have C := Lib.hid (b.alloc b.size (.cells #[] 64))
    clear hok b h
    go_wp2
    go_ret2
    exact ⟨_, _, _, by rw [HD.out]; rfl, by rw [HD.out]; exact H.out, C.out⟩
  case true =>
    have hl16 := timersB_len hok
    have HOK := Lib.hid hok
    clear hok h
    have S := Sep.nil w1 w.heap.size
    have c := b
    clear b
    obtain ⟨q_x, hq⟩ : ∃ q, q = w1.heap.size := ⟨_, rfl⟩
    replace S := S.boxAt c.size (w1.heap.size) rfl #[.int .i64 x, .int .i64 y] 64
    replace c := c.alloc c.size (.cells #[.int .i64 x, .int .i64 y] 64)
    go_wp2_with fail
    generalize w1.alloc (.cells #[.int .i64 x, .int .i64 y] 64) = w2 at *
    rw [← hq] at S ⊢
    clear hq
    refine (sOff_any A n cc w.heap.size l x _ (HH.out.keep c) c.size hs1).mono ?_
    rintro e w3 ⟨G, m, gc, rfl, o, b⟩
    obtain ⟨fp_rest, S'⟩ := S.has b o c.size
    replace c := c.trans (b.mono c.size)
    clear S; have S := S'; clear S' o b
    have hol := offM_len l x
    have hlm : (offM l x).length = m := by
      obtain ⟨_, _, _, e, hl9, _⟩ := (S.own_ 0 rfl).rd.timers
      injection e with e1 e2 e3
      rw [hl9, e2]
    have hm16 : m ≤ 16 := by omega
    obtain ⟨r, hr⟩ : ∃ r, r = offM l x := ⟨_, rfl⟩
    rw [← hr] at S hlm
    have HR := Lib.hid hr
    clear hr hol
    have S0 := Lib.hid S
    have C0 := Lib.hid c
    clear S c
    go_wp2_with fail
    go_loopw [10] (fun i wr => ∃ k : Nat, k ≤ m ∧ i = .int .i64 (k : Int) ∧ (∀ q (hq : q < r.length), q < k → timLess r[q] ⟨x, y⟩ = true) ∧ Sep wr w.heap.size [.own [timerD r] [.slice G m gc] fp_rest, .blk q_x #[.int .i64 x, .int .i64 y] 64] ∧ Below w.heap.size w wr) (fun i _ => m - (intOf i).toNat)
    case atStart => exact ⟨0, Nat.zero_le _, rfl, fun q _ hq => absurd hq (by omega), S0.out, C0.out⟩
    case round =>
      obtain ⟨k, hk, rfl, hall, S, c⟩ := hrel
      clear S0 C0
      have HA := Lib.hid hall
      clear hall
      by_cases hlt : k < m
      · obtain ⟨gb, rfl⟩ := own_addr timerC_len (by decide) (S.own_ 0 rfl) (show 0 < m by omega)
        obtain ⟨_, _, _, e, _, hmc, hcm, hel⟩ := (S.own_ 0 rfl).rd.timers
        injection e with e1 e2 e3
        subst e1 e2 e3
        obtain ⟨b, off, e, hb, hc⟩ := hel (by omega)
        injection e with e
        injection e with e1 e2
        subst e1 e2
        have hkl : k < r.length := by omega
        obtain ⟨cs0, cs1⟩ := hc k hkl
        rw [Nat.zero_add] at cs0 cs1
        obtain ⟨y0, hy0⟩ : ∃ q, q = r[k].tid := ⟨_, rfl⟩
        obtain ⟨y1, hy1⟩ : ∃ q, q = r[k].due := ⟨_, rfl⟩
        rw [← hy0] at cs0
        rw [← hy1] at cs1
        have HY := Lib.hid (show r[k] = ⟨y0, y1⟩ by rw [hy0, hy1])
        have d0 : wr.cell? ⟨q_x, 0, none⟩ = some (.int .i64 x) := (S.at_ 1 rfl).cell 0
        have d1 : wr.cell? ⟨q_x, 1, none⟩ = some (.int .i64 y) := (S.at_ 1 rfl).cell 1
        have g1 : decide ((k : Int) < (m : Int)) = true := decide_eq_true (by omega)
        have g2 : decide (k < m) = true := decide_eq_true hlt
        have SH := Lib.hid S
        have CH := Lib.hid c
        clear hel hc hb hy0 hy1 S c
        go_wp2_with fail
        refine wp_region_cls (fun v => v.cell? ⟨q_x, 0, none⟩ = some (.int .i64 x) ∧ v.cell? ⟨q_x, 1, none⟩ = some (.int .i64 y) ∧ v.cell? ⟨gb, k * 2, none⟩ = some (.int .i64 y0) ∧ v.cell? ⟨gb, k * 2 + 1, none⟩ = some (.int .i64 y1)) (by kernel_rfl) (by kernel_rfl) (fun v hv => ⟨(hv.cell (p := ⟨q_x, 0, none⟩) (lt_of_cell d0)).trans d0, (hv.cell (p := ⟨q_x, 1, none⟩) (lt_of_cell d1)).trans d1, (hv.cell (p := ⟨gb, k * 2, none⟩) (lt_of_cell cs0)).trans cs0, (hv.cell (p := ⟨gb, k * 2 + 1, none⟩) (lt_of_cell cs1)).trans cs1⟩) ?_
        intro CL HF HC
        repeat
          (refine wpQuiet_step (fun K hK => ?_)
           go_simp
           first
             | (refine hK _ ?_; clear hK K)
             | (apply Exists.intro
                refine ⟨fun v hv => ?_, hK _ ?_⟩
                · obtain ⟨a0, a1, a2, a3⟩ := HF v hv
                  first
                    | (go_at_call 67; exact Calls.cls HC hv (sTLess_any y0 y1 x y v) rfl)
                    | exact rfl
                    | (go_simp; exact rfl)
                    | (go_simp; exact ⟨rfl, hv⟩)
                clear hK K))
        refine wpQuiet_nil ?_
        intro w3 b3
        have CC := Lib.hid (CH.out.trans (b3.mono CH.out.size))
        have SS := Lib.hid (SH.out.keep b3)
        clear SH CH d0 d1 cs0 cs1 b3
        cases hok : timLess ⟨y0, y1⟩ ⟨x, y⟩
        case true =>
          have HN := Lib.hid (show ∀ q (hq : q < r.length), q < k + 1 → timLess r[q] ⟨x, y⟩ = true from fun q hq hqk => by
            rcases Nat.lt_or_ge q k with h1 | h1
            · exact HA.out q hq h1
            · have : q = k := by omega
              subst this
              rw [HY.out]
              exact hok)
          clear hok HA
          go_wp2
          go_roundw
          case rel => exact ⟨k + 1, by omega, by go_num, HN.out, SS.out, CC.out⟩
          case measure => simp [intOf]; omega
        case false =>
          have S := SS.out
          have c := CC.out
          clear SS CC
          have hgk : ¬ (gc = k) := by omega
          have HIX := Lib.hid (show setIx r ⟨x, y⟩ = k from firstNot_eq _ r k (by omega) (fun i hi hlt => HA.out i hi hlt) (fun hj => by rw [HY.out]; exact hok))
          clear HA
          have HPT := Lib.hid (show r.take k ++ [(⟨x, y⟩ : TimerM)] ++ r.drop k = putT (offM l x) (⟨x, y⟩ : TimerM) by unfold putT; rw [← HR.out, HIX.out])
          go_wp2_with fail
          have i0 : (0 : Int) ≤ (k : Int) := by omega
          have i1 : (k : Int) ≤ (m : Int) := by omega
          have i2 : k ≤ gc := by omega
          have i3 : (k : Int) ≤ (gc : Int) := by omega
          refine wp_region_L (fun v => v.cell? ⟨q_x, 0, none⟩ = some (.int .i64 x) ∧ v.cell? ⟨q_x, 1, none⟩ = some (.int .i64 y)) 8 (by kernel_rfl) ?_
          replace S := S.keep ((Below.refl _ _).drew)
          replace c := c.drew
          generalize w3.drew = w4 at *
          have HF : w4.cell? ⟨q_x, 0, none⟩ = some (.int .i64 x) ∧ w4.cell? ⟨q_x, 1, none⟩ = some (.int .i64 y) := ⟨(S.at_ 1 rfl).cell 0, (S.at_ 1 rfl).cell 1⟩
          refine wpAnyL_take (i := 1) (v := ?_) rfl rfl (by kernel_rfl) (by kernel_rfl) (by kernel_rfl) (by kernel_rfl) (by kernel_rfl) (fun _ _ _ h => h) HF (Or.inl ⟨by rfl, ?_⟩) ?_
          rotate_left 1
          · (rintro v ⟨a0, a1⟩; go_simp; try with_reducible rfl)
          try simp only [Act.put]
          refine wpAnyL_take (i := 2) (v := ?_) rfl rfl (by kernel_rfl) (by kernel_rfl) (by kernel_rfl) (by kernel_rfl) (by kernel_rfl) (fun _ _ _ h => h) HF (Or.inl ⟨by rfl, ?_⟩) ?_
          rotate_left 1
          · (rintro v ⟨a0, a1⟩; go_simp; try with_reducible rfl)
          try simp only [Act.put]
          refine wpAnyL_pure (i := 3) (v := ?_) rfl rfl (by kernel_rfl) (by kernel_rfl) (by kernel_rfl) (fun _ _ _ h => h) HF (Or.inl ⟨by rfl, ?_⟩) ?_
          rotate_left 1
          · (intro v _; go_simp; try with_reducible rfl)
          try simp only [Act.put]
          refine wpAnyL_take (i := 5) (v := ?_) rfl rfl (by kernel_rfl) (by kernel_rfl) (by kernel_rfl) (by kernel_rfl) (by kernel_rfl) (fun _ _ _ h => h) HF (Or.inl ⟨by rfl, ?_⟩) ?_
          rotate_left 1
          · (rintro v ⟨a0, a1⟩; go_simp; try with_reducible rfl)
          try simp only [Act.put]
          refine wpAnyL_two (i := 0) (k := 6) (by kernel_rfl) rfl rfl rfl rfl ?_ ?_
          · intro K hK
            go_simp
            replace S := S.boxAt c.size (w4.heap.size) rfl #[] 64
            replace c := c.alloc c.size (.cells #[] 64)
            clear HF
            have HF : (w4.alloc (.cells #[] 64)).cell? ⟨q_x, 0, none⟩ = some (.int .i64 x) ∧ (w4.alloc (.cells #[] 64)).cell? ⟨q_x, 1, none⟩ = some (.int .i64 y) := ⟨(S.at_ 2 rfl).cell 0, (S.at_ 2 rfl).cell 1⟩
            refine hK _ _ (fun _ => HF) ?_
            clear hK K
            try simp only [Act.put]
            generalize hw : w4.alloc (.cells #[] 64) = w5 at *
            clear hw
            obtain ⟨q_lit, hq_lit⟩ : ∃ z, z = w4.heap.size := ⟨_, rfl⟩
            rw [← hq_lit] at S ⊢
            clear hq_lit
            refine wpAnyL_two (i := 4) (k := 6) (by kernel_rfl) rfl rfl rfl rfl ?_ ?_
            · intro K hK
              replace S := S.blk0 (k := 2) (f := timerC)
              have hsr := (Rd.front timerC_len (by decide) (S.own_ 1 rfl).rd (show k ≤ m by omega) (show k ≤ gc by omega) hcm).src timer_flat timerC_len (by decide)
              replace S := (S.flat timer_flat (r.take k)).swap
              refine wp_append_fresh (l2 := r.take k) _ _ (by rfl) Try.underlying33 infoTimer (by rfl) (by decide) timerC_len (by rfl) (S.own_ 0 rfl) (S.nodup_own 0 rfl) (by rfl) hsr.1 (S.own_ 1 rfl) hsr.2 (S.nodup_own 1 rfl) S.apart (by omega) (by omega) ?_
              intro A3 c3 w6 fp3 o3 n3 s3 t3
              have S' := S.merge t3 o3 n3 s3 c.size
              replace c := c.trans (S.below 0 rfl t3 c.size)
              clear S; have S := S'; clear S' o3 n3 s3 t3 hsr
              clear HF
              have HF : w6.cell? ⟨q_x, 0, none⟩ = some (.int .i64 x) ∧ w6.cell? ⟨q_x, 1, none⟩ = some (.int .i64 y) := ⟨(S.at_ 2 rfl).cell 0, (S.at_ 2 rfl).cell 1⟩
              refine hK _ _ (fun _ => HF) ?_
              clear hK K
              try simp only [Act.put]
              refine wpAnyL_step (i := 6) (by kernel_rfl) rfl rfl ?_
              intro K hK
              go_simp
              replace S := S.boxAt c.size (w6.heap.size) rfl #[.int .i64 x, .int .i64 y] 64
              replace c := c.alloc c.size (.cells #[.int .i64 x, .int .i64 y] 64)
              clear HF
              have HF : (w6.alloc (.cells #[.int .i64 x, .int .i64 y] 64)).cell? ⟨q_x, 0, none⟩ = some (.int .i64 x) ∧ (w6.alloc (.cells #[.int .i64 x, .int .i64 y] 64)).cell? ⟨q_x, 1, none⟩ = some (.int .i64 y) := ⟨(S.at_ 3 rfl).cell 0, (S.at_ 3 rfl).cell 1⟩
              refine hK _ _ (fun _ => HF) ?_
              clear hK K
              try simp only [Act.put]
              generalize hw : w6.alloc (.cells #[.int .i64 x, .int .i64 y] 64) = w7 at *
              clear hw
              obtain ⟨q_el, hq_el⟩ : ∃ z, z = w6.heap.size := ⟨_, rfl⟩
              rw [← hq_el] at S ⊢
              clear hq_el
              have HC : ∀ i, i < 2 → w7.cell? ⟨q_el, i, none⟩ = [Value.int .i64 x, Value.int .i64 y][i]? := fun i hi => by
                have h1 := (S.at_ 0 rfl).cell i
                rw [h1]
                simp
              replace S := (S.tail).own0 (ds := timerC ⟨x, y⟩) (vs := [.int .i64 x, .int .i64 y]) (.int (.int .nil))
              replace S := S.pick 1 rfl
              refine wpAnyL_step (i := 7) (by kernel_rfl) rfl rfl ?_
              intro K hK
              refine wp_append_elem (l := r.take k) (y := (⟨x, y⟩ : TimerM)) (hb := q_el) _ _ (by rfl) Try.underlying33 infoTimer (by rfl) (by decide) timerC_len (by rfl) (S.own_ 0 rfl) (S.nodup_own 0 rfl) (by rfl) HC (S.own_ 1 rfl) (S.nodup_own 1 rfl) S.apart (by omega) (by omega) ?_
              intro A4 c4 w8 fp4 o3 n3 s3 t3
              have S' := S.merge t3 o3 n3 s3 c.size
              replace c := c.trans (S.below 0 rfl t3 c.size)
              clear S; have S := S'; clear S' o3 n3 s3 t3 HC
              clear HF
              have HF : w8.cell? ⟨q_x, 0, none⟩ = some (.int .i64 x) ∧ w8.cell? ⟨q_x, 1, none⟩ = some (.int .i64 y) := ⟨(S.at_ 2 rfl).cell 0, (S.at_ 2 rfl).cell 1⟩
              refine hK _ _ (fun _ => HF) ?_
              clear hK K
              try simp only [Act.put]
              refine wpAnyL_step (i := 8) (by kernel_rfl) rfl rfl ?_
              intro K hK
              go_simp
              refine hK _ _ (fun h => nomatch (show true = false from h)) ?_
              clear hK K
              try simp only [Act.put]
              refine wpAnyL_done (by kernel_rfl) ?_ _
              clear HF
              have hsr := (Rd.back (A2 := (some ⟨gb, k * 2, none⟩)) (c' := gc - k) timerC_len (by decide) (S.own_ 1 rfl).rd (show k ≤ m by omega) (fun b' off' e hl => by
                first
                  | (exfalso; omega)
                  | (injection e with e
                     injection e with e1 e2
                     rw [← e1, ← e2, Nat.zero_add])) (by omega) (by omega)).src timer_flat timerC_len (by decide)
              replace S := (S.flat timer_flat (r.drop k)).swap
              have hgc := Lib.hid c
              go_wp2_with (first
                | (at_builtin
                   refine wpList_append_many (l := r.take k ++ [(⟨x, y⟩ : TimerM)]) (l2 := r.drop k) rfl (.tmp 44) (.tmp 47) (by rfl) Try.underlying33 infoTimer (by rfl) (by decide) timerC_len (by rfl) (S.own_ 0 rfl) (S.nodup_own 0 rfl) (by rfl) hsr.1 (S.own_ 1 rfl) hsr.2 (S.nodup_own 1 rfl) S.apart (by omega) (by omega) ?_
                   intro A5 c5 w9 fp5 o3 n3 s3 t3))
              have hgs := hgc.out.size
              have hbc := S.below 0 rfl t3 hgs
              replace S := (S.merge t3 o3 n3 s3 hgs).sub (.cons_cons _ (List.nil_sublist _))
              replace c := hgc.out.trans hbc
              clear hbc o3 n3 s3 t3 hsr hgs
              rw [HPT.out] at S
              obtain ⟨p, hp⟩ : ∃ p, p = putT (offM l x) (⟨x, y⟩ : TimerM) := ⟨_, rfl⟩
              have hps : timerSz p ≤ 1048577 := by
                have h1 := offM_len l x
                rw [hp]
                unfold timerSz
                rw [putT_len]
                omega
              rw [← hp] at S
              have HP := Lib.hid hp
              clear hp
              go_wp2_with fail
              refine (sTimers_any A5 (k + 1 + (m - k)) c5 w9.heap.size p _ (S.own_ 0 rfl).rd (Nat.le_refl _) hps).mono ?_
              rintro e w10 ⟨rfl, b⟩
              replace c := c.trans (b.mono c.size)
              replace S := S.keep b
              clear b
              cases hok2 : timersB p
              case false =>
                have HD := Lib.hid (show timerSetM l x y = (l, false) by unfold timerSetM; rw [if_pos HOK.out, if_neg (by rw [← HP.out, hok2]; decide)])
                clear hok2
                replace S := S.sub (List.nil_sublist _)
                replace S := S.boxAt c.size (w10.heap.size) rfl #[] 64
                replace c := c.alloc c.size (.cells #[] 64)
                replace S := S.blk0 (k := 2) (f := timerC)
                have hsr := (HH.out.keep c).src timer_flat timerC_len (by decide)
                replace S := (S.flat timer_flat l).swap
                have hgc := Lib.hid c
                go_wp2_with (first
                  | (at_builtin
                     refine wpList_append_fresh (l2 := l) rfl (.tmp 52) (.tmp 53) (by rfl) Try.underlying33 infoTimer (by rfl) (by decide) timerC_len (by rfl) (S.own_ 0 rfl) (S.nodup_own 0 rfl) (by rfl) hsr.1 (S.own_ 1 rfl) hsr.2 (S.nodup_own 1 rfl) S.apart (by have := hsr.2; omega) (by omega) ?_
                     intro A7 c7 w9 fp7 o3 n3 s3 t3))
                have hgs := hgc.out.size
                have hbc := S.below 0 rfl t3 hgs
                have H := Lib.hid (S.merge t3 o3 n3 s3 hgs).first
                have C := Lib.hid (hgc.out.trans hbc)
                clear S c hbc o3 n3 s3 t3 hsr hgs hgc
                go_wp2
                go_ret2
                exact ⟨_, _, _, by rw [HD.out]; rfl, by rw [HD.out]; exact H.out, C.out⟩
              case true =>
                have HD := Lib.hid (show timerSetM l x y = (p, true) by unfold timerSetM; rw [if_pos HOK.out, if_pos (by rw [← HP.out, hok2]), ← HP.out])
                have H := Lib.hid S.first
                have C := Lib.hid c
                clear S c hok2
                go_wp2
                go_ret2
                exact ⟨_, _, _, by rw [HD.out]; rfl, by rw [HD.out]; exact H.out, C.out⟩
            · intro K hK
              go_simp
              replace S := S.boxAt c.size (w5.heap.size) rfl #[.int .i64 x, .int .i64 y] 64
              replace c := c.alloc c.size (.cells #[.int .i64 x, .int .i64 y] 64)
              clear HF
              have HF : (w5.alloc (.cells #[.int .i64 x, .int .i64 y] 64)).cell? ⟨q_x, 0, none⟩ = some (.int .i64 x) ∧ (w5.alloc (.cells #[.int .i64 x, .int .i64 y] 64)).cell? ⟨q_x, 1, none⟩ = some (.int .i64 y) := ⟨(S.at_ 3 rfl).cell 0, (S.at_ 3 rfl).cell 1⟩
              refine hK _ _ (fun _ => HF) ?_
              clear hK K
              try simp only [Act.put]
              generalize hw : w5.alloc (.cells #[.int .i64 x, .int .i64 y] 64) = w6 at *
              clear hw
              obtain ⟨q_el, hq_el⟩ : ∃ z, z = w5.heap.size := ⟨_, rfl⟩
              rw [← hq_el] at S ⊢
              clear hq_el
              replace S := S.pick 1 rfl
              replace S := S.blk0 (k := 2) (f := timerC)
              have hsr := (Rd.front timerC_len (by decide) (S.own_ 2 rfl).rd (show k ≤ m by omega) (show k ≤ gc by omega) hcm).src timer_flat timerC_len (by decide)
              replace S := (S.flat timer_flat (r.take k)).swap
              refine wpAnyL_step (i := 4) (by kernel_rfl) rfl rfl ?_
              intro K hK
              refine wp_append_fresh (l2 := r.take k) _ _ (by rfl) Try.underlying33 infoTimer (by rfl) (by decide) timerC_len (by rfl) (S.own_ 0 rfl) (S.nodup_own 0 rfl) (by rfl) hsr.1 (S.own_ 1 rfl) hsr.2 (S.nodup_own 1 rfl) S.apart (by omega) (by omega) ?_
              intro A3 c3 w7 fp3 o3 n3 s3 t3
              have S' := S.merge t3 o3 n3 s3 c.size
              replace c := c.trans (S.below 0 rfl t3 c.size)
              clear S; have S := S'; clear S' o3 n3 s3 t3 hsr
              clear HF
              have HF : w7.cell? ⟨q_x, 0, none⟩ = some (.int .i64 x) ∧ w7.cell? ⟨q_x, 1, none⟩ = some (.int .i64 y) := ⟨(S.at_ 3 rfl).cell 0, (S.at_ 3 rfl).cell 1⟩
              refine hK _ _ (fun _ => HF) ?_
              clear hK K
              try simp only [Act.put]
              replace S := S.pick 1 rfl
              have HC : ∀ i, i < 2 → w7.cell? ⟨q_el, i, none⟩ = [Value.int .i64 x, Value.int .i64 y][i]? := fun i hi => by
                have h1 := (S.at_ 0 rfl).cell i
                rw [h1]
                simp
              replace S := (S.tail).own0 (ds := timerC ⟨x, y⟩) (vs := [.int .i64 x, .int .i64 y]) (.int (.int .nil))
              replace S := S.pick 1 rfl
              refine wpAnyL_step (i := 7) (by kernel_rfl) rfl rfl ?_
              intro K hK
              refine wp_append_elem (l := r.take k) (y := (⟨x, y⟩ : TimerM)) (hb := q_el) _ _ (by rfl) Try.underlying33 infoTimer (by rfl) (by decide) timerC_len (by rfl) (S.own_ 0 rfl) (S.nodup_own 0 rfl) (by rfl) HC (S.own_ 1 rfl) (S.nodup_own 1 rfl) S.apart (by omega) (by omega) ?_
              intro A4 c4 w8 fp4 o3 n3 s3 t3
              have S' := S.merge t3 o3 n3 s3 c.size
              replace c := c.trans (S.below 0 rfl t3 c.size)
              clear S; have S := S'; clear S' o3 n3 s3 t3 HC
              clear HF
              have HF : w8.cell? ⟨q_x, 0, none⟩ = some (.int .i64 x) ∧ w8.cell? ⟨q_x, 1, none⟩ = some (.int .i64 y) := ⟨(S.at_ 2 rfl).cell 0, (S.at_ 2 rfl).cell 1⟩
              refine hK _ _ (fun _ => HF) ?_
              clear hK K
              try simp only [Act.put]
              refine wpAnyL_step (i := 8) (by kernel_rfl) rfl rfl ?_
              intro K hK
              go_simp
              refine hK _ _ (fun h => nomatch (show true = false from h)) ?_
              clear hK K
              try simp only [Act.put]
              refine wpAnyL_done (by kernel_rfl) ?_ _
              clear HF
              have hsr := (Rd.back (A2 := (some ⟨gb, k * 2, none⟩)) (c' := gc - k) timerC_len (by decide) (S.own_ 1 rfl).rd (show k ≤ m by omega) (fun b' off' e hl => by
                first
                  | (exfalso; omega)
                  | (injection e with e
                     injection e with e1 e2
                     rw [← e1, ← e2, Nat.zero_add])) (by omega) (by omega)).src timer_flat timerC_len (by decide)
              replace S := (S.flat timer_flat (r.drop k)).swap
              have hgc := Lib.hid c
              go_wp2_with (first
                | (at_builtin
                   refine wpList_append_many (l := r.take k ++ [(⟨x, y⟩ : TimerM)]) (l2 := r.drop k) rfl (.tmp 44) (.tmp 47) (by rfl) Try.underlying33 infoTimer (by rfl) (by decide) timerC_len (by rfl) (S.own_ 0 rfl) (S.nodup_own 0 rfl) (by rfl) hsr.1 (S.own_ 1 rfl) hsr.2 (S.nodup_own 1 rfl) S.apart (by omega) (by omega) ?_
                   intro A5 c5 w9 fp5 o3 n3 s3 t3))
              have hgs := hgc.out.size
              have hbc := S.below 0 rfl t3 hgs
              replace S := (S.merge t3 o3 n3 s3 hgs).sub (.cons_cons _ (List.nil_sublist _))
              replace c := hgc.out.trans hbc
              clear hbc o3 n3 s3 t3 hsr hgs
              rw [HPT.out] at S
              obtain ⟨p, hp⟩ : ∃ p, p = putT (offM l x) (⟨x, y⟩ : TimerM) := ⟨_, rfl⟩
              have hps : timerSz p ≤ 1048577 := by
                have h1 := offM_len l x
                rw [hp]
                unfold timerSz
                rw [putT_len]
                omega
              rw [← hp] at S
              have HP := Lib.hid hp
              clear hp
              go_wp2_with fail
              refine (sTimers_any A5 (k + 1 + (m - k)) c5 w9.heap.size p _ (S.own_ 0 rfl).rd (Nat.le_refl _) hps).mono ?_
              rintro e w10 ⟨rfl, b⟩
              replace c := c.trans (b.mono c.size)
              replace S := S.keep b
              clear b
              cases hok2 : timersB p
              case false =>
                have HD := Lib.hid (show timerSetM l x y = (l, false) by unfold timerSetM; rw [if_pos HOK.out, if_neg (by rw [← HP.out, hok2]; decide)])
                clear hok2
                replace S := S.sub (List.nil_sublist _)
                replace S := S.boxAt c.size (w10.heap.size) rfl #[] 64
                replace c := c.alloc c.size (.cells #[] 64)
                replace S := S.blk0 (k := 2) (f := timerC)
                have hsr := (HH.out.keep c).src timer_flat timerC_len (by decide)
                replace S := (S.flat timer_flat l).swap
                have hgc := Lib.hid c
                go_wp2_with (first
                  | (at_builtin
                     refine wpList_append_fresh (l2 := l) rfl (.tmp 52) (.tmp 53) (by rfl) Try.underlying33 infoTimer (by rfl) (by decide) timerC_len (by rfl) (S.own_ 0 rfl) (S.nodup_own 0 rfl) (by rfl) hsr.1 (S.own_ 1 rfl) hsr.2 (S.nodup_own 1 rfl) S.apart (by have := hsr.2; omega) (by omega) ?_
                     intro A7 c7 w9 fp7 o3 n3 s3 t3))
                have hgs := hgc.out.size
                have hbc := S.below 0 rfl t3 hgs
                have H := Lib.hid (S.merge t3 o3 n3 s3 hgs).first
                have C := Lib.hid (hgc.out.trans hbc)
                clear S c hbc o3 n3 s3 t3 hsr hgs hgc
                go_wp2
                go_ret2
                exact ⟨_, _, _, by rw [HD.out]; rfl, by rw [HD.out]; exact H.out, C.out⟩
              case true =>
                have HD := Lib.hid (show timerSetM l x y = (p, true) by unfold timerSetM; rw [if_pos HOK.out, if_pos (by rw [← HP.out, hok2]), ← HP.out])
                have H := Lib.hid S.first
                have C := Lib.hid c
                clear S c hok2
                go_wp2
                go_ret2
                exact ⟨_, _, _, by rw [HD.out]; rfl, by rw [HD.out]; exact H.out, C.out⟩
          · intro K hK
            go_simp
            replace S := S.boxAt c.size (w4.heap.size) rfl #[.int .i64 x, .int .i64 y] 64
            replace c := c.alloc c.size (.cells #[.int .i64 x, .int .i64 y] 64)
            clear HF
            have HF : (w4.alloc (.cells #[.int .i64 x, .int .i64 y] 64)).cell? ⟨q_x, 0, none⟩ = some (.int .i64 x) ∧ (w4.alloc (.cells #[.int .i64 x, .int .i64 y] 64)).cell? ⟨q_x, 1, none⟩ = some (.int .i64 y) := ⟨(S.at_ 2 rfl).cell 0, (S.at_ 2 rfl).cell 1⟩
            refine hK _ _ (fun _ => HF) ?_
            clear hK K
            try simp only [Act.put]
            generalize hw : w4.alloc (.cells #[.int .i64 x, .int .i64 y] 64) = w5 at *
            clear hw
            obtain ⟨q_el, hq_el⟩ : ∃ z, z = w4.heap.size := ⟨_, rfl⟩
            rw [← hq_el] at S ⊢
            clear hq_el
            refine wpAnyL_step (i := 0) (by kernel_rfl) rfl rfl ?_
            intro K hK
            go_simp
            replace S := S.boxAt c.size (w5.heap.size) rfl #[] 64
            replace c := c.alloc c.size (.cells #[] 64)
            clear HF
            have HF : (w5.alloc (.cells #[] 64)).cell? ⟨q_x, 0, none⟩ = some (.int .i64 x) ∧ (w5.alloc (.cells #[] 64)).cell? ⟨q_x, 1, none⟩ = some (.int .i64 y) := ⟨(S.at_ 3 rfl).cell 0, (S.at_ 3 rfl).cell 1⟩
            refine hK _ _ (fun _ => HF) ?_
            clear hK K
            try simp only [Act.put]
            generalize hw : w5.alloc (.cells #[] 64) = w6 at *
            clear hw
            obtain ⟨q_lit, hq_lit⟩ : ∃ z, z = w5.heap.size := ⟨_, rfl⟩
            rw [← hq_lit] at S ⊢
            clear hq_lit
            replace S := S.blk0 (k := 2) (f := timerC)
            have hsr := (Rd.front timerC_len (by decide) (S.own_ 2 rfl).rd (show k ≤ m by omega) (show k ≤ gc by omega) hcm).src timer_flat timerC_len (by decide)
            replace S := (S.flat timer_flat (r.take k)).swap
            refine wpAnyL_step (i := 4) (by kernel_rfl) rfl rfl ?_
            intro K hK
            refine wp_append_fresh (l2 := r.take k) _ _ (by rfl) Try.underlying33 infoTimer (by rfl) (by decide) timerC_len (by rfl) (S.own_ 0 rfl) (S.nodup_own 0 rfl) (by rfl) hsr.1 (S.own_ 1 rfl) hsr.2 (S.nodup_own 1 rfl) S.apart (by omega) (by omega) ?_
            intro A3 c3 w7 fp3 o3 n3 s3 t3
            have S' := S.merge t3 o3 n3 s3 c.size
            replace c := c.trans (S.below 0 rfl t3 c.size)
            clear S; have S := S'; clear S' o3 n3 s3 t3 hsr
            clear HF
            have HF : w7.cell? ⟨q_x, 0, none⟩ = some (.int .i64 x) ∧ w7.cell? ⟨q_x, 1, none⟩ = some (.int .i64 y) := ⟨(S.at_ 3 rfl).cell 0, (S.at_ 3 rfl).cell 1⟩
            refine hK _ _ (fun _ => HF) ?_
            clear hK K
            try simp only [Act.put]
            replace S := S.pick 1 rfl
            have HC : ∀ i, i < 2 → w7.cell? ⟨q_el, i, none⟩ = [Value.int .i64 x, Value.int .i64 y][i]? := fun i hi => by
              have h1 := (S.at_ 0 rfl).cell i
              rw [h1]
              simp
            replace S := (S.tail).own0 (ds := timerC ⟨x, y⟩) (vs := [.int .i64 x, .int .i64 y]) (.int (.int .nil))
            replace S := S.pick 1 rfl
            refine wpAnyL_step (i := 7) (by kernel_rfl) rfl rfl ?_
            intro K hK
            refine wp_append_elem (l := r.take k) (y := (⟨x, y⟩ : TimerM)) (hb := q_el) _ _ (by rfl) Try.underlying33 infoTimer (by rfl) (by decide) timerC_len (by rfl) (S.own_ 0 rfl) (S.nodup_own 0 rfl) (by rfl) HC (S.own_ 1 rfl) (S.nodup_own 1 rfl) S.apart (by omega) (by omega) ?_
            intro A4 c4 w8 fp4 o3 n3 s3 t3
            have S' := S.merge t3 o3 n3 s3 c.size
            replace c := c.trans (S.below 0 rfl t3 c.size)
            clear S; have S := S'; clear S' o3 n3 s3 t3 HC
            clear HF
            have HF : w8.cell? ⟨q_x, 0, none⟩ = some (.int .i64 x) ∧ w8.cell? ⟨q_x, 1, none⟩ = some (.int .i64 y) := ⟨(S.at_ 2 rfl).cell 0, (S.at_ 2 rfl).cell 1⟩
            refine hK _ _ (fun _ => HF) ?_
            clear hK K
            try simp only [Act.put]
            refine wpAnyL_step (i := 8) (by kernel_rfl) rfl rfl ?_
            intro K hK
            go_simp
            refine hK _ _ (fun h => nomatch (show true = false from h)) ?_
            clear hK K
            try simp only [Act.put]
            refine wpAnyL_done (by kernel_rfl) ?_ _
            clear HF
            have hsr := (Rd.back (A2 := (some ⟨gb, k * 2, none⟩)) (c' := gc - k) timerC_len (by decide) (S.own_ 1 rfl).rd (show k ≤ m by omega) (fun b' off' e hl => by
              first
                | (exfalso; omega)
                | (injection e with e
                   injection e with e1 e2
                   rw [← e1, ← e2, Nat.zero_add])) (by omega) (by omega)).src timer_flat timerC_len (by decide)
            replace S := (S.flat timer_flat (r.drop k)).swap
            have hgc := Lib.hid c
            go_wp2_with (first
              | (at_builtin
                 refine wpList_append_many (l := r.take k ++ [(⟨x, y⟩ : TimerM)]) (l2 := r.drop k) rfl (.tmp 44) (.tmp 47) (by rfl) Try.underlying33 infoTimer (by rfl) (by decide) timerC_len (by rfl) (S.own_ 0 rfl) (S.nodup_own 0 rfl) (by rfl) hsr.1 (S.own_ 1 rfl) hsr.2 (S.nodup_own 1 rfl) S.apart (by omega) (by omega) ?_
                 intro A5 c5 w9 fp5 o3 n3 s3 t3))
            have hgs := hgc.out.size
            have hbc := S.below 0 rfl t3 hgs
            replace S := (S.merge t3 o3 n3 s3 hgs).sub (.cons_cons _ (List.nil_sublist _))
            replace c := hgc.out.trans hbc
            clear hbc o3 n3 s3 t3 hsr hgs
            rw [HPT.out] at S
            obtain ⟨p, hp⟩ : ∃ p, p = putT (offM l x) (⟨x, y⟩ : TimerM) := ⟨_, rfl⟩
            have hps : timerSz p ≤ 1048577 := by
              have h1 := offM_len l x
              rw [hp]
              unfold timerSz
              rw [putT_len]
              omega
            rw [← hp] at S
            have HP := Lib.hid hp
            clear hp
            go_wp2_with fail
            refine (sTimers_any A5 (k + 1 + (m - k)) c5 w9.heap.size p _ (S.own_ 0 rfl).rd (Nat.le_refl _) hps).mono ?_
            rintro e w10 ⟨rfl, b⟩
            replace c := c.trans (b.mono c.size)
            replace S := S.keep b
            clear b
            cases hok2 : timersB p
            case false =>
              have HD := Lib.hid (show timerSetM l x y = (l, false) by unfold timerSetM; rw [if_pos HOK.out, if_neg (by rw [← HP.out, hok2]; decide)])
              clear hok2
              replace S := S.sub (List.nil_sublist _)
              replace S := S.boxAt c.size (w10.heap.size) rfl #[] 64
              replace c := c.alloc c.size (.cells #[] 64)
              replace S := S.blk0 (k := 2) (f := timerC)
              have hsr := (HH.out.keep c).src timer_flat timerC_len (by decide)
              replace S := (S.flat timer_flat l).swap
              have hgc := Lib.hid c
              go_wp2_with (first
                | (at_builtin
                   refine wpList_append_fresh (l2 := l) rfl (.tmp 52) (.tmp 53) (by rfl) Try.underlying33 infoTimer (by rfl) (by decide) timerC_len (by rfl) (S.own_ 0 rfl) (S.nodup_own 0 rfl) (by rfl) hsr.1 (S.own_ 1 rfl) hsr.2 (S.nodup_own 1 rfl) S.apart (by have := hsr.2; omega) (by omega) ?_
                   intro A7 c7 w9 fp7 o3 n3 s3 t3))
              have hgs := hgc.out.size
              have hbc := S.below 0 rfl t3 hgs
              have H := Lib.hid (S.merge t3 o3 n3 s3 hgs).first
              have C := Lib.hid (hgc.out.trans hbc)
              clear S c hbc o3 n3 s3 t3 hsr hgs hgc
              go_wp2
              go_ret2
              exact ⟨_, _, _, by rw [HD.out]; rfl, by rw [HD.out]; exact H.out, C.out⟩
            case true =>
              have HD := Lib.hid (show timerSetM l x y = (p, true) by unfold timerSetM; rw [if_pos HOK.out, if_pos (by rw [← HP.out, hok2]), ← HP.out])
              have H := Lib.hid S.first
              have C := Lib.hid c
              clear S c hok2
              go_wp2
              go_ret2
              exact ⟨_, _, _, by rw [HD.out]; rfl, by rw [HD.out]; exact H.out, C.out⟩
      · obtain rfl : k = m := by omega
        have g1 : decide ((k : Int) < (k : Int)) = false := decide_eq_false (by omega)
        have g2 : decide (k < k) = false := decide_eq_false (by omega)
        have HLM := Lib.hid hlm
        have SH := Lib.hid S
        have CH := Lib.hid c
        clear S c hlt
        go_wp2_with fail
        go_quiet (fail)
        have S := SH.out.keep (below_drewN (Below.refl wr.heap.size wr) nq)
        have c := below_drewN CH.out nq
        generalize wr.drewN nq = w3 at *
        clear SH CH
        obtain ⟨_, _, _, e, _, hmc, hcm, _⟩ := (S.own_ 0 rfl).rd.timers
        injection e with e1 e2 e3
        subst e1 e2 e3
        have HIX := Lib.hid (show setIx r ⟨x, y⟩ = k from firstNot_eq _ r k (by omega) (fun i hi hlt => HA.out i hi hlt) (fun hj => absurd hj (by have := HLM.out; omega)))
        clear HA
        have HPT := Lib.hid (show r.take k ++ [(⟨x, y⟩ : TimerM)] ++ r.drop k = putT (offM l x) (⟨x, y⟩ : TimerM) by unfold putT; rw [← HR.out, HIX.out])
        rcases (ow_timV (S.own_ 0 rfl)).1.2 with ⟨h0, h9⟩ | ⟨gb, cap, cur, hv', _, _, hnc, _⟩
        · subst h9
          injection h0 with a1 a2 a3
          subst a1 a3
          go_wp2_with fail
          have i0 : (0 : Int) ≤ (0 : Int) := by omega
          have i1 : (0 : Int) ≤ (0 : Int) := by omega
          have i2 : 0 ≤ 0 := by omega
          have i3 : (0 : Int) ≤ (0 : Int) := by omega
          refine wp_region_L (fun v => v.cell? ⟨q_x, 0, none⟩ = some (.int .i64 x) ∧ v.cell? ⟨q_x, 1, none⟩ = some (.int .i64 y)) 8 (by kernel_rfl) ?_
          replace S := S.keep ((Below.refl _ _).drew)
          replace c := c.drew
          generalize w3.drew = w4 at *
          have HF : w4.cell? ⟨q_x, 0, none⟩ = some (.int .i64 x) ∧ w4.cell? ⟨q_x, 1, none⟩ = some (.int .i64 y) := ⟨(S.at_ 1 rfl).cell 0, (S.at_ 1 rfl).cell 1⟩
          refine wpAnyL_take (i := 1) (v := ?_) rfl rfl (by kernel_rfl) (by kernel_rfl) (by kernel_rfl) (by kernel_rfl) (by kernel_rfl) (fun _ _ _ h => h) HF (Or.inl ⟨by rfl, ?_⟩) ?_
          rotate_left 1
          · (rintro v ⟨a0, a1⟩; go_simp; try with_reducible rfl)
          try simp only [Act.put]
          refine wpAnyL_take (i := 2) (v := ?_) rfl rfl (by kernel_rfl) (by kernel_rfl) (by kernel_rfl) (by kernel_rfl) (by kernel_rfl) (fun _ _ _ h => h) HF (Or.inl ⟨by rfl, ?_⟩) ?_
          rotate_left 1
          · (rintro v ⟨a0, a1⟩; go_simp; try with_reducible rfl)
          try simp only [Act.put]
          refine wpAnyL_pure (i := 3) (v := ?_) rfl rfl (by kernel_rfl) (by kernel_rfl) (by kernel_rfl) (fun _ _ _ h => h) HF (Or.inl ⟨by rfl, ?_⟩) ?_
          rotate_left 1
          · (intro v _; go_simp; try with_reducible rfl)
          try simp only [Act.put]
          refine wpAnyL_take (i := 5) (v := ?_) rfl rfl (by kernel_rfl) (by kernel_rfl) (by kernel_rfl) (by kernel_rfl) (by kernel_rfl) (fun _ _ _ h => h) HF (Or.inl ⟨by rfl, ?_⟩) ?_
          rotate_left 1
          · (rintro v ⟨a0, a1⟩; go_simp; try with_reducible rfl)
          try simp only [Act.put]
          refine wpAnyL_two (i := 0) (k := 6) (by kernel_rfl) rfl rfl rfl rfl ?_ ?_
          · intro K hK
            go_simp
            replace S := S.boxAt c.size (w4.heap.size) rfl #[] 64
            replace c := c.alloc c.size (.cells #[] 64)
            clear HF
            have HF : (w4.alloc (.cells #[] 64)).cell? ⟨q_x, 0, none⟩ = some (.int .i64 x) ∧ (w4.alloc (.cells #[] 64)).cell? ⟨q_x, 1, none⟩ = some (.int .i64 y) := ⟨(S.at_ 2 rfl).cell 0, (S.at_ 2 rfl).cell 1⟩
            refine hK _ _ (fun _ => HF) ?_
            clear hK K
            try simp only [Act.put]
            generalize hw : w4.alloc (.cells #[] 64) = w5 at *
            clear hw
            obtain ⟨q_lit, hq_lit⟩ : ∃ z, z = w4.heap.size := ⟨_, rfl⟩
            rw [← hq_lit] at S ⊢
            clear hq_lit
            refine wpAnyL_two (i := 4) (k := 6) (by kernel_rfl) rfl rfl rfl rfl ?_ ?_
            · intro K hK
              replace S := S.blk0 (k := 2) (f := timerC)
              have hsr := (Rd.front timerC_len (by decide) (S.own_ 1 rfl).rd (show 0 ≤ 0 by omega) (show 0 ≤ 0 by omega) hcm).src timer_flat timerC_len (by decide)
              replace S := (S.flat timer_flat (r.take 0)).swap
              refine wp_append_fresh (l2 := r.take 0) _ _ (by rfl) Try.underlying33 infoTimer (by rfl) (by decide) timerC_len (by rfl) (S.own_ 0 rfl) (S.nodup_own 0 rfl) (by rfl) hsr.1 (S.own_ 1 rfl) hsr.2 (S.nodup_own 1 rfl) S.apart (by omega) (by omega) ?_
              intro A3 c3 w6 fp3 o3 n3 s3 t3
              have S' := S.merge t3 o3 n3 s3 c.size
              replace c := c.trans (S.below 0 rfl t3 c.size)
              clear S; have S := S'; clear S' o3 n3 s3 t3 hsr
              clear HF
              have HF : w6.cell? ⟨q_x, 0, none⟩ = some (.int .i64 x) ∧ w6.cell? ⟨q_x, 1, none⟩ = some (.int .i64 y) := ⟨(S.at_ 2 rfl).cell 0, (S.at_ 2 rfl).cell 1⟩
              refine hK _ _ (fun _ => HF) ?_
              clear hK K
              try simp only [Act.put]
              refine wpAnyL_step (i := 6) (by kernel_rfl) rfl rfl ?_
              intro K hK
              go_simp
              replace S := S.boxAt c.size (w6.heap.size) rfl #[.int .i64 x, .int .i64 y] 64
              replace c := c.alloc c.size (.cells #[.int .i64 x, .int .i64 y] 64)
              clear HF
              have HF : (w6.alloc (.cells #[.int .i64 x, .int .i64 y] 64)).cell? ⟨q_x, 0, none⟩ = some (.int .i64 x) ∧ (w6.alloc (.cells #[.int .i64 x, .int .i64 y] 64)).cell? ⟨q_x, 1, none⟩ = some (.int .i64 y) := ⟨(S.at_ 3 rfl).cell 0, (S.at_ 3 rfl).cell 1⟩
              refine hK _ _ (fun _ => HF) ?_
              clear hK K
              try simp only [Act.put]
              generalize hw : w6.alloc (.cells #[.int .i64 x, .int .i64 y] 64) = w7 at *
              clear hw
              obtain ⟨q_el, hq_el⟩ : ∃ z, z = w6.heap.size := ⟨_, rfl⟩
              rw [← hq_el] at S ⊢
              clear hq_el
              have HC : ∀ i, i < 2 → w7.cell? ⟨q_el, i, none⟩ = [Value.int .i64 x, Value.int .i64 y][i]? := fun i hi => by
                have h1 := (S.at_ 0 rfl).cell i
                rw [h1]
                simp
              replace S := (S.tail).own0 (ds := timerC ⟨x, y⟩) (vs := [.int .i64 x, .int .i64 y]) (.int (.int .nil))
              replace S := S.pick 1 rfl
              refine wpAnyL_step (i := 7) (by kernel_rfl) rfl rfl ?_
              intro K hK
              refine wp_append_elem (l := r.take 0) (y := (⟨x, y⟩ : TimerM)) (hb := q_el) _ _ (by rfl) Try.underlying33 infoTimer (by rfl) (by decide) timerC_len (by rfl) (S.own_ 0 rfl) (S.nodup_own 0 rfl) (by rfl) HC (S.own_ 1 rfl) (S.nodup_own 1 rfl) S.apart (by omega) (by omega) ?_
              intro A4 c4 w8 fp4 o3 n3 s3 t3
              have S' := S.merge t3 o3 n3 s3 c.size
              replace c := c.trans (S.below 0 rfl t3 c.size)
              clear S; have S := S'; clear S' o3 n3 s3 t3 HC
              clear HF
              have HF : w8.cell? ⟨q_x, 0, none⟩ = some (.int .i64 x) ∧ w8.cell? ⟨q_x, 1, none⟩ = some (.int .i64 y) := ⟨(S.at_ 2 rfl).cell 0, (S.at_ 2 rfl).cell 1⟩
              refine hK _ _ (fun _ => HF) ?_
              clear hK K
              try simp only [Act.put]
              refine wpAnyL_step (i := 8) (by kernel_rfl) rfl rfl ?_
              intro K hK
              go_simp
              refine hK _ _ (fun h => nomatch (show true = false from h)) ?_
              clear hK K
              try simp only [Act.put]
              refine wpAnyL_done (by kernel_rfl) ?_ _
              clear HF
              have hsr := (Rd.back (A2 := none) (c' := 0 - 0) timerC_len (by decide) (S.own_ 1 rfl).rd (show 0 ≤ 0 by omega) (fun b' off' e hl => by
                first
                  | (exfalso; omega)
                  | (injection e with e
                     injection e with e1 e2
                     rw [← e1, ← e2, Nat.zero_add])) (by omega) (by omega)).src timer_flat timerC_len (by decide)
              replace S := (S.flat timer_flat (r.drop 0)).swap
              have hgc := Lib.hid c
              go_wp2_with (first
                | (at_builtin
                   refine wpList_append_many (l := r.take 0 ++ [(⟨x, y⟩ : TimerM)]) (l2 := r.drop 0) rfl (.tmp 44) (.tmp 47) (by rfl) Try.underlying33 infoTimer (by rfl) (by decide) timerC_len (by rfl) (S.own_ 0 rfl) (S.nodup_own 0 rfl) (by rfl) hsr.1 (S.own_ 1 rfl) hsr.2 (S.nodup_own 1 rfl) S.apart (by omega) (by omega) ?_
                   intro A5 c5 w9 fp5 o3 n3 s3 t3))
              have hgs := hgc.out.size
              have hbc := S.below 0 rfl t3 hgs
              replace S := (S.merge t3 o3 n3 s3 hgs).sub (.cons_cons _ (List.nil_sublist _))
              replace c := hgc.out.trans hbc
              clear hbc o3 n3 s3 t3 hsr hgs
              rw [HPT.out] at S
              obtain ⟨p, hp⟩ : ∃ p, p = putT (offM l x) (⟨x, y⟩ : TimerM) := ⟨_, rfl⟩
              have hps : timerSz p ≤ 1048577 := by
                have h1 := offM_len l x
                rw [hp]
                unfold timerSz
                rw [putT_len]
                omega
              rw [← hp] at S
              have HP := Lib.hid hp
              clear hp
              go_wp2_with fail
              refine (sTimers_any A5 (0 + 1 + (0 - 0)) c5 w9.heap.size p _ (S.own_ 0 rfl).rd (Nat.le_refl _) hps).mono ?_
              rintro e w10 ⟨rfl, b⟩
              replace c := c.trans (b.mono c.size)
              replace S := S.keep b
              clear b
              cases hok2 : timersB p
              case false =>
                have HD := Lib.hid (show timerSetM l x y = (l, false) by unfold timerSetM; rw [if_pos HOK.out, if_neg (by rw [← HP.out, hok2]; decide)])
                clear hok2
                replace S := S.sub (List.nil_sublist _)
                replace S := S.boxAt c.size (w10.heap.size) rfl #[] 64
                replace c := c.alloc c.size (.cells #[] 64)
                replace S := S.blk0 (k := 2) (f := timerC)
                have hsr := (HH.out.keep c).src timer_flat timerC_len (by decide)
                replace S := (S.flat timer_flat l).swap
                have hgc := Lib.hid c
                go_wp2_with (first
                  | (at_builtin
                     refine wpList_append_fresh (l2 := l) rfl (.tmp 52) (.tmp 53) (by rfl) Try.underlying33 infoTimer (by rfl) (by decide) timerC_len (by rfl) (S.own_ 0 rfl) (S.nodup_own 0 rfl) (by rfl) hsr.1 (S.own_ 1 rfl) hsr.2 (S.nodup_own 1 rfl) S.apart (by have := hsr.2; omega) (by omega) ?_
                     intro A7 c7 w9 fp7 o3 n3 s3 t3))
                have hgs := hgc.out.size
                have hbc := S.below 0 rfl t3 hgs
                have H := Lib.hid (S.merge t3 o3 n3 s3 hgs).first
                have C := Lib.hid (hgc.out.trans hbc)
                clear S c hbc o3 n3 s3 t3 hsr hgs hgc
                go_wp2
                go_ret2
                exact ⟨_, _, _, by rw [HD.out]; rfl, by rw [HD.out]; exact H.out, C.out⟩
              case true =>
                have HD := Lib.hid (show timerSetM l x y = (p, true) by unfold timerSetM; rw [if_pos HOK.out, if_pos (by rw [← HP.out, hok2]), ← HP.out])
                have H := Lib.hid S.first
                have C := Lib.hid c
                clear S c hok2
                go_wp2
                go_ret2
                exact ⟨_, _, _, by rw [HD.out]; rfl, by rw [HD.out]; exact H.out, C.out⟩
            · intro K hK
              go_simp
              replace S := S.boxAt c.size (w5.heap.size) rfl #[.int .i64 x, .int .i64 y] 64
              replace c := c.alloc c.size (.cells #[.int .i64 x, .int .i64 y] 64)
              clear HF
              have HF : (w5.alloc (.cells #[.int .i64 x, .int .i64 y] 64)).cell? ⟨q_x, 0, none⟩ = some (.int .i64 x) ∧ (w5.alloc (.cells #[.int .i64 x, .int .i64 y] 64)).cell? ⟨q_x, 1, none⟩ = some (.int .i64 y) := ⟨(S.at_ 3 rfl).cell 0, (S.at_ 3 rfl).cell 1⟩
              refine hK _ _ (fun _ => HF) ?_
              clear hK K
              try simp only [Act.put]
              generalize hw : w5.alloc (.cells #[.int .i64 x, .int .i64 y] 64) = w6 at *
              clear hw
              obtain ⟨q_el, hq_el⟩ : ∃ z, z = w5.heap.size := ⟨_, rfl⟩
              rw [← hq_el] at S ⊢
              clear hq_el
              replace S := S.pick 1 rfl
              replace S := S.blk0 (k := 2) (f := timerC)
              have hsr := (Rd.front timerC_len (by decide) (S.own_ 2 rfl).rd (show 0 ≤ 0 by omega) (show 0 ≤ 0 by omega) hcm).src timer_flat timerC_len (by decide)
              replace S := (S.flat timer_flat (r.take 0)).swap
              refine wpAnyL_step (i := 4) (by kernel_rfl) rfl rfl ?_
              intro K hK
              refine wp_append_fresh (l2 := r.take 0) _ _ (by rfl) Try.underlying33 infoTimer (by rfl) (by decide) timerC_len (by rfl) (S.own_ 0 rfl) (S.nodup_own 0 rfl) (by rfl) hsr.1 (S.own_ 1 rfl) hsr.2 (S.nodup_own 1 rfl) S.apart (by omega) (by omega) ?_
              intro A3 c3 w7 fp3 o3 n3 s3 t3
              have S' := S.merge t3 o3 n3 s3 c.size
              replace c := c.trans (S.below 0 rfl t3 c.size)
              clear S; have S := S'; clear S' o3 n3 s3 t3 hsr
              clear HF
              have HF : w7.cell? ⟨q_x, 0, none⟩ = some (.int .i64 x) ∧ w7.cell? ⟨q_x, 1, none⟩ = some (.int .i64 y) := ⟨(S.at_ 3 rfl).cell 0, (S.at_ 3 rfl).cell 1⟩
              refine hK _ _ (fun _ => HF) ?_
              clear hK K
              try simp only [Act.put]
              replace S := S.pick 1 rfl
              have HC : ∀ i, i < 2 → w7.cell? ⟨q_el, i, none⟩ = [Value.int .i64 x, Value.int .i64 y][i]? := fun i hi => by
                have h1 := (S.at_ 0 rfl).cell i
                rw [h1]
                simp
              replace S := (S.tail).own0 (ds := timerC ⟨x, y⟩) (vs := [.int .i64 x, .int .i64 y]) (.int (.int .nil))
              replace S := S.pick 1 rfl
              refine wpAnyL_step (i := 7) (by kernel_rfl) rfl rfl ?_
              intro K hK
              refine wp_append_elem (l := r.take 0) (y := (⟨x, y⟩ : TimerM)) (hb := q_el) _ _ (by rfl) Try.underlying33 infoTimer (by rfl) (by decide) timerC_len (by rfl) (S.own_ 0 rfl) (S.nodup_own 0 rfl) (by rfl) HC (S.own_ 1 rfl) (S.nodup_own 1 rfl) S.apart (by omega) (by omega) ?_
              intro A4 c4 w8 fp4 o3 n3 s3 t3
              have S' := S.merge t3 o3 n3 s3 c.size
              replace c := c.trans (S.below 0 rfl t3 c.size)
              clear S; have S := S'; clear S' o3 n3 s3 t3 HC
              clear HF
              have HF : w8.cell? ⟨q_x, 0, none⟩ = some (.int .i64 x) ∧ w8.cell? ⟨q_x, 1, none⟩ = some (.int .i64 y) := ⟨(S.at_ 2 rfl).cell 0, (S.at_ 2 rfl).cell 1⟩
              refine hK _ _ (fun _ => HF) ?_
              clear hK K
              try simp only [Act.put]
              refine wpAnyL_step (i := 8) (by kernel_rfl) rfl rfl ?_
              intro K hK
              go_simp
              refine hK _ _ (fun h => nomatch (show true = false from h)) ?_
              clear hK K
              try simp only [Act.put]
              refine wpAnyL_done (by kernel_rfl) ?_ _
              clear HF
              have hsr := (Rd.back (A2 := none) (c' := 0 - 0) timerC_len (by decide) (S.own_ 1 rfl).rd (show 0 ≤ 0 by omega) (fun b' off' e hl => by
                first
                  | (exfalso; omega)
                  | (injection e with e
                     injection e with e1 e2
                     rw [← e1, ← e2, Nat.zero_add])) (by omega) (by omega)).src timer_flat timerC_len (by decide)
              replace S := (S.flat timer_flat (r.drop 0)).swap
              have hgc := Lib.hid c
              go_wp2_with (first
                | (at_builtin
                   refine wpList_append_many (l := r.take 0 ++ [(⟨x, y⟩ : TimerM)]) (l2 := r.drop 0) rfl (.tmp 44) (.tmp 47) (by rfl) Try.underlying33 infoTimer (by rfl) (by decide) timerC_len (by rfl) (S.own_ 0 rfl) (S.nodup_own 0 rfl) (by rfl) hsr.1 (S.own_ 1 rfl) hsr.2 (S.nodup_own 1 rfl) S.apart (by omega) (by omega) ?_
                   intro A5 c5 w9 fp5 o3 n3 s3 t3))
              have hgs := hgc.out.size
              have hbc := S.below 0 rfl t3 hgs
              replace S := (S.merge t3 o3 n3 s3 hgs).sub (.cons_cons _ (List.nil_sublist _))
              replace c := hgc.out.trans hbc
              clear hbc o3 n3 s3 t3 hsr hgs
              rw [HPT.out] at S
              obtain ⟨p, hp⟩ : ∃ p, p = putT (offM l x) (⟨x, y⟩ : TimerM) := ⟨_, rfl⟩
              have hps : timerSz p ≤ 1048577 := by
                have h1 := offM_len l x
                rw [hp]
                unfold timerSz
                rw [putT_len]
                omega
              rw [← hp] at S
              have HP := Lib.hid hp
              clear hp
              go_wp2_with fail
              refine (sTimers_any A5 (0 + 1 + (0 - 0)) c5 w9.heap.size p _ (S.own_ 0 rfl).rd (Nat.le_refl _) hps).mono ?_
              rintro e w10 ⟨rfl, b⟩
              replace c := c.trans (b.mono c.size)
              replace S := S.keep b
              clear b
              cases hok2 : timersB p
              case false =>
                have HD := Lib.hid (show timerSetM l x y = (l, false) by unfold timerSetM; rw [if_pos HOK.out, if_neg (by rw [← HP.out, hok2]; decide)])
                clear hok2
                replace S := S.sub (List.nil_sublist _)
                replace S := S.boxAt c.size (w10.heap.size) rfl #[] 64
                replace c := c.alloc c.size (.cells #[] 64)
                replace S := S.blk0 (k := 2) (f := timerC)
                have hsr := (HH.out.keep c).src timer_flat timerC_len (by decide)
                replace S := (S.flat timer_flat l).swap
                have hgc := Lib.hid c
                go_wp2_with (first
                  | (at_builtin
                     refine wpList_append_fresh (l2 := l) rfl (.tmp 52) (.tmp 53) (by rfl) Try.underlying33 infoTimer (by rfl) (by decide) timerC_len (by rfl) (S.own_ 0 rfl) (S.nodup_own 0 rfl) (by rfl) hsr.1 (S.own_ 1 rfl) hsr.2 (S.nodup_own 1 rfl) S.apart (by have := hsr.2; omega) (by omega) ?_
                     intro A7 c7 w9 fp7 o3 n3 s3 t3))
                have hgs := hgc.out.size
                have hbc := S.below 0 rfl t3 hgs
                have H := Lib.hid (S.merge t3 o3 n3 s3 hgs).first
                have C := Lib.hid (hgc.out.trans hbc)
                clear S c hbc o3 n3 s3 t3 hsr hgs hgc
                go_wp2
                go_ret2
                exact ⟨_, _, _, by rw [HD.out]; rfl, by rw [HD.out]; exact H.out, C.out⟩
              case true =>
                have HD := Lib.hid (show timerSetM l x y = (p, true) by unfold timerSetM; rw [if_pos HOK.out, if_pos (by rw [← HP.out, hok2]), ← HP.out])
                have H := Lib.hid S.first
                have C := Lib.hid c
                clear S c hok2
                go_wp2
                go_ret2
                exact ⟨_, _, _, by rw [HD.out]; rfl, by rw [HD.out]; exact H.out, C.out⟩
          · intro K hK
            go_simp
            replace S := S.boxAt c.size (w4.heap.size) rfl #[.int .i64 x, .int .i64 y] 64
            replace c := c.alloc c.size (.cells #[.int .i64 x, .int .i64 y] 64)
            clear HF
            have HF : (w4.alloc (.cells #[.int .i64 x, .int .i64 y] 64)).cell? ⟨q_x, 0, none⟩ = some (.int .i64 x) ∧ (w4.alloc (.cells #[.int .i64 x, .int .i64 y] 64)).cell? ⟨q_x, 1, none⟩ = some (.int .i64 y) := ⟨(S.at_ 2 rfl).cell 0, (S.at_ 2 rfl).cell 1⟩
            refine hK _ _ (fun _ => HF) ?_
            clear hK K
            try simp only [Act.put]
            generalize hw : w4.alloc (.cells #[.int .i64 x, .int .i64 y] 64) = w5 at *
            clear hw
            obtain ⟨q_el, hq_el⟩ : ∃ z, z = w4.heap.size := ⟨_, rfl⟩
            rw [← hq_el] at S ⊢
            clear hq_el
            refine wpAnyL_step (i := 0) (by kernel_rfl) rfl rfl ?_
            intro K hK
            go_simp
            replace S := S.boxAt c.size (w5.heap.size) rfl #[] 64
            replace c := c.alloc c.size (.cells #[] 64)
            clear HF
            have HF : (w5.alloc (.cells #[] 64)).cell? ⟨q_x, 0, none⟩ = some (.int .i64 x) ∧ (w5.alloc (.cells #[] 64)).cell? ⟨q_x, 1, none⟩ = some (.int .i64 y) := ⟨(S.at_ 3 rfl).cell 0, (S.at_ 3 rfl).cell 1⟩
            refine hK _ _ (fun _ => HF) ?_
            clear hK K
            try simp only [Act.put]
            generalize hw : w5.alloc (.cells #[] 64) = w6 at *
            clear hw
            obtain ⟨q_lit, hq_lit⟩ : ∃ z, z = w5.heap.size := ⟨_, rfl⟩
            rw [← hq_lit] at S ⊢
            clear hq_lit
            replace S := S.blk0 (k := 2) (f := timerC)
            have hsr := (Rd.front timerC_len (by decide) (S.own_ 2 rfl).rd (show 0 ≤ 0 by omega) (show 0 ≤ 0 by omega) hcm).src timer_flat timerC_len (by decide)
            replace S := (S.flat timer_flat (r.take 0)).swap
            refine wpAnyL_step (i := 4) (by kernel_rfl) rfl rfl ?_
            intro K hK
            refine wp_append_fresh (l2 := r.take 0) _ _ (by rfl) Try.underlying33 infoTimer (by rfl) (by decide) timerC_len (by rfl) (S.own_ 0 rfl) (S.nodup_own 0 rfl) (by rfl) hsr.1 (S.own_ 1 rfl) hsr.2 (S.nodup_own 1 rfl) S.apart (by omega) (by omega) ?_
            intro A3 c3 w7 fp3 o3 n3 s3 t3
            have S' := S.merge t3 o3 n3 s3 c.size
            replace c := c.trans (S.below 0 rfl t3 c.size)
            clear S; have S := S'; clear S' o3 n3 s3 t3 hsr
            clear HF
            have HF : w7.cell? ⟨q_x, 0, none⟩ = some (.int .i64 x) ∧ w7.cell? ⟨q_x, 1, none⟩ = some (.int .i64 y) := ⟨(S.at_ 3 rfl).cell 0, (S.at_ 3 rfl).cell 1⟩
            refine hK _ _ (fun _ => HF) ?_
            clear hK K
            try simp only [Act.put]
            replace S := S.pick 1 rfl
            have HC : ∀ i, i < 2 → w7.cell? ⟨q_el, i, none⟩ = [Value.int .i64 x, Value.int .i64 y][i]? := fun i hi => by
              have h1 := (S.at_ 0 rfl).cell i
              rw [h1]
              simp
            replace S := (S.tail).own0 (ds := timerC ⟨x, y⟩) (vs := [.int .i64 x, .int .i64 y]) (.int (.int .nil))
            replace S := S.pick 1 rfl
            refine wpAnyL_step (i := 7) (by kernel_rfl) rfl rfl ?_
            intro K hK
            refine wp_append_elem (l := r.take 0) (y := (⟨x, y⟩ : TimerM)) (hb := q_el) _ _ (by rfl) Try.underlying33 infoTimer (by rfl) (by decide) timerC_len (by rfl) (S.own_ 0 rfl) (S.nodup_own 0 rfl) (by rfl) HC (S.own_ 1 rfl) (S.nodup_own 1 rfl) S.apart (by omega) (by omega) ?_
            intro A4 c4 w8 fp4 o3 n3 s3 t3
            have S' := S.merge t3 o3 n3 s3 c.size
            replace c := c.trans (S.below 0 rfl t3 c.size)
            clear S; have S := S'; clear S' o3 n3 s3 t3 HC
            clear HF
            have HF : w8.cell? ⟨q_x, 0, none⟩ = some (.int .i64 x) ∧ w8.cell? ⟨q_x, 1, none⟩ = some (.int .i64 y) := ⟨(S.at_ 2 rfl).cell 0, (S.at_ 2 rfl).cell 1⟩
            refine hK _ _ (fun _ => HF) ?_
            clear hK K
            try simp only [Act.put]
            refine wpAnyL_step (i := 8) (by kernel_rfl) rfl rfl ?_
            intro K hK
            go_simp
            refine hK _ _ (fun h => nomatch (show true = false from h)) ?_
            clear hK K
            try simp only [Act.put]
            refine wpAnyL_done (by kernel_rfl) ?_ _
            clear HF
            have hsr := (Rd.back (A2 := none) (c' := 0 - 0) timerC_len (by decide) (S.own_ 1 rfl).rd (show 0 ≤ 0 by omega) (fun b' off' e hl => by
              first
                | (exfalso; omega)
                | (injection e with e
                   injection e with e1 e2
                   rw [← e1, ← e2, Nat.zero_add])) (by omega) (by omega)).src timer_flat timerC_len (by decide)
            replace S := (S.flat timer_flat (r.drop 0)).swap
            have hgc := Lib.hid c
            go_wp2_with (first
              | (at_builtin
                 refine wpList_append_many (l := r.take 0 ++ [(⟨x, y⟩ : TimerM)]) (l2 := r.drop 0) rfl (.tmp 44) (.tmp 47) (by rfl) Try.underlying33 infoTimer (by rfl) (by decide) timerC_len (by rfl) (S.own_ 0 rfl) (S.nodup_own 0 rfl) (by rfl) hsr.1 (S.own_ 1 rfl) hsr.2 (S.nodup_own 1 rfl) S.apart (by omega) (by omega) ?_
                 intro A5 c5 w9 fp5 o3 n3 s3 t3))
            have hgs := hgc.out.size
            have hbc := S.below 0 rfl t3 hgs
            replace S := (S.merge t3 o3 n3 s3 hgs).sub (.cons_cons _ (List.nil_sublist _))
            replace c := hgc.out.trans hbc
            clear hbc o3 n3 s3 t3 hsr hgs
            rw [HPT.out] at S
            obtain ⟨p, hp⟩ : ∃ p, p = putT (offM l x) (⟨x, y⟩ : TimerM) := ⟨_, rfl⟩
            have hps : timerSz p ≤ 1048577 := by
              have h1 := offM_len l x
              rw [hp]
              unfold timerSz
              rw [putT_len]
              omega
            rw [← hp] at S
            have HP := Lib.hid hp
            clear hp
            go_wp2_with fail
            refine (sTimers_any A5 (0 + 1 + (0 - 0)) c5 w9.heap.size p _ (S.own_ 0 rfl).rd (Nat.le_refl _) hps).mono ?_
            rintro e w10 ⟨rfl, b⟩
            replace c := c.trans (b.mono c.size)
            replace S := S.keep b
            clear b
            cases hok2 : timersB p
            case false =>
              have HD := Lib.hid (show timerSetM l x y = (l, false) by unfold timerSetM; rw [if_pos HOK.out, if_neg (by rw [← HP.out, hok2]; decide)])
              clear hok2
              replace S := S.sub (List.nil_sublist _)
              replace S := S.boxAt c.size (w10.heap.size) rfl #[] 64
              replace c := c.alloc c.size (.cells #[] 64)
              replace S := S.blk0 (k := 2) (f := timerC)
              have hsr := (HH.out.keep c).src timer_flat timerC_len (by decide)
              replace S := (S.flat timer_flat l).swap
              have hgc := Lib.hid c
              go_wp2_with (first
                | (at_builtin
                   refine wpList_append_fresh (l2 := l) rfl (.tmp 52) (.tmp 53) (by rfl) Try.underlying33 infoTimer (by rfl) (by decide) timerC_len (by rfl) (S.own_ 0 rfl) (S.nodup_own 0 rfl) (by rfl) hsr.1 (S.own_ 1 rfl) hsr.2 (S.nodup_own 1 rfl) S.apart (by have := hsr.2; omega) (by omega) ?_
                   intro A7 c7 w9 fp7 o3 n3 s3 t3))
              have hgs := hgc.out.size
              have hbc := S.below 0 rfl t3 hgs
              have H := Lib.hid (S.merge t3 o3 n3 s3 hgs).first
              have C := Lib.hid (hgc.out.trans hbc)
              clear S c hbc o3 n3 s3 t3 hsr hgs hgc
              go_wp2
              go_ret2
              exact ⟨_, _, _, by rw [HD.out]; rfl, by rw [HD.out]; exact H.out, C.out⟩
            case true =>
              have HD := Lib.hid (show timerSetM l x y = (p, true) by unfold timerSetM; rw [if_pos HOK.out, if_pos (by rw [← HP.out, hok2]), ← HP.out])
              have H := Lib.hid S.first
              have C := Lib.hid c
              clear S c hok2
              go_wp2
              go_ret2
              exact ⟨_, _, _, by rw [HD.out]; rfl, by rw [HD.out]; exact H.out, C.out⟩
        · injection hv' with a1 a2 a3
          subst a1 a3
          by_cases hgk : gc = k
          · obtain rfl : k = gc := hgk.symm
            go_wp2_with fail
            have i0 : (0 : Int) ≤ (k : Int) := by omega
            have i1 : (k : Int) ≤ (k : Int) := by omega
            have i2 : k ≤ k := by omega
            have i3 : (k : Int) ≤ (k : Int) := by omega
            refine wp_region_L (fun v => v.cell? ⟨q_x, 0, none⟩ = some (.int .i64 x) ∧ v.cell? ⟨q_x, 1, none⟩ = some (.int .i64 y)) 8 (by kernel_rfl) ?_
            replace S := S.keep ((Below.refl _ _).drew)
            replace c := c.drew
            generalize w3.drew = w4 at *
            have HF : w4.cell? ⟨q_x, 0, none⟩ = some (.int .i64 x) ∧ w4.cell? ⟨q_x, 1, none⟩ = some (.int .i64 y) := ⟨(S.at_ 1 rfl).cell 0, (S.at_ 1 rfl).cell 1⟩
            refine wpAnyL_take (i := 1) (v := ?_) rfl rfl (by kernel_rfl) (by kernel_rfl) (by kernel_rfl) (by kernel_rfl) (by kernel_rfl) (fun _ _ _ h => h) HF (Or.inl ⟨by rfl, ?_⟩) ?_
            rotate_left 1
            · (rintro v ⟨a0, a1⟩; go_simp; try with_reducible rfl)
            try simp only [Act.put]
            refine wpAnyL_take (i := 2) (v := ?_) rfl rfl (by kernel_rfl) (by kernel_rfl) (by kernel_rfl) (by kernel_rfl) (by kernel_rfl) (fun _ _ _ h => h) HF (Or.inl ⟨by rfl, ?_⟩) ?_
            rotate_left 1
            · (rintro v ⟨a0, a1⟩; go_simp; try with_reducible rfl)
            try simp only [Act.put]
            refine wpAnyL_pure (i := 3) (v := ?_) rfl rfl (by kernel_rfl) (by kernel_rfl) (by kernel_rfl) (fun _ _ _ h => h) HF (Or.inl ⟨by rfl, ?_⟩) ?_
            rotate_left 1
            · (intro v _; go_simp; try with_reducible rfl)
            try simp only [Act.put]
            refine wpAnyL_take (i := 5) (v := ?_) rfl rfl (by kernel_rfl) (by kernel_rfl) (by kernel_rfl) (by kernel_rfl) (by kernel_rfl) (fun _ _ _ h => h) HF (Or.inl ⟨by rfl, ?_⟩) ?_
            rotate_left 1
            · (rintro v ⟨a0, a1⟩; go_simp; try with_reducible rfl)
            try simp only [Act.put]
            refine wpAnyL_two (i := 0) (k := 6) (by kernel_rfl) rfl rfl rfl rfl ?_ ?_
            · intro K hK
              go_simp
              replace S := S.boxAt c.size (w4.heap.size) rfl #[] 64
              replace c := c.alloc c.size (.cells #[] 64)
              clear HF
              have HF : (w4.alloc (.cells #[] 64)).cell? ⟨q_x, 0, none⟩ = some (.int .i64 x) ∧ (w4.alloc (.cells #[] 64)).cell? ⟨q_x, 1, none⟩ = some (.int .i64 y) := ⟨(S.at_ 2 rfl).cell 0, (S.at_ 2 rfl).cell 1⟩
              refine hK _ _ (fun _ => HF) ?_
              clear hK K
              try simp only [Act.put]
              generalize hw : w4.alloc (.cells #[] 64) = w5 at *
              clear hw
              obtain ⟨q_lit, hq_lit⟩ : ∃ z, z = w4.heap.size := ⟨_, rfl⟩
              rw [← hq_lit] at S ⊢
              clear hq_lit
              refine wpAnyL_two (i := 4) (k := 6) (by kernel_rfl) rfl rfl rfl rfl ?_ ?_
              · intro K hK
                replace S := S.blk0 (k := 2) (f := timerC)
                have hsr := (Rd.front timerC_len (by decide) (S.own_ 1 rfl).rd (show k ≤ k by omega) (show k ≤ k by omega) hcm).src timer_flat timerC_len (by decide)
                replace S := (S.flat timer_flat (r.take k)).swap
                refine wp_append_fresh (l2 := r.take k) _ _ (by rfl) Try.underlying33 infoTimer (by rfl) (by decide) timerC_len (by rfl) (S.own_ 0 rfl) (S.nodup_own 0 rfl) (by rfl) hsr.1 (S.own_ 1 rfl) hsr.2 (S.nodup_own 1 rfl) S.apart (by omega) (by omega) ?_
                intro A3 c3 w6 fp3 o3 n3 s3 t3
                have S' := S.merge t3 o3 n3 s3 c.size
                replace c := c.trans (S.below 0 rfl t3 c.size)
                clear S; have S := S'; clear S' o3 n3 s3 t3 hsr
                clear HF
                have HF : w6.cell? ⟨q_x, 0, none⟩ = some (.int .i64 x) ∧ w6.cell? ⟨q_x, 1, none⟩ = some (.int .i64 y) := ⟨(S.at_ 2 rfl).cell 0, (S.at_ 2 rfl).cell 1⟩
                refine hK _ _ (fun _ => HF) ?_
                clear hK K
                try simp only [Act.put]
                refine wpAnyL_step (i := 6) (by kernel_rfl) rfl rfl ?_
                intro K hK
                go_simp
                replace S := S.boxAt c.size (w6.heap.size) rfl #[.int .i64 x, .int .i64 y] 64
                replace c := c.alloc c.size (.cells #[.int .i64 x, .int .i64 y] 64)
                clear HF
                have HF : (w6.alloc (.cells #[.int .i64 x, .int .i64 y] 64)).cell? ⟨q_x, 0, none⟩ = some (.int .i64 x) ∧ (w6.alloc (.cells #[.int .i64 x, .int .i64 y] 64)).cell? ⟨q_x, 1, none⟩ = some (.int .i64 y) := ⟨(S.at_ 3 rfl).cell 0, (S.at_ 3 rfl).cell 1⟩
                refine hK _ _ (fun _ => HF) ?_
                clear hK K
                try simp only [Act.put]
                generalize hw : w6.alloc (.cells #[.int .i64 x, .int .i64 y] 64) = w7 at *
                clear hw
                obtain ⟨q_el, hq_el⟩ : ∃ z, z = w6.heap.size := ⟨_, rfl⟩
                rw [← hq_el] at S ⊢
                clear hq_el
                have HC : ∀ i, i < 2 → w7.cell? ⟨q_el, i, none⟩ = [Value.int .i64 x, Value.int .i64 y][i]? := fun i hi => by
                  have h1 := (S.at_ 0 rfl).cell i
                  rw [h1]
                  simp
                replace S := (S.tail).own0 (ds := timerC ⟨x, y⟩) (vs := [.int .i64 x, .int .i64 y]) (.int (.int .nil))
                replace S := S.pick 1 rfl
                refine wpAnyL_step (i := 7) (by kernel_rfl) rfl rfl ?_
                intro K hK
                refine wp_append_elem (l := r.take k) (y := (⟨x, y⟩ : TimerM)) (hb := q_el) _ _ (by rfl) Try.underlying33 infoTimer (by rfl) (by decide) timerC_len (by rfl) (S.own_ 0 rfl) (S.nodup_own 0 rfl) (by rfl) HC (S.own_ 1 rfl) (S.nodup_own 1 rfl) S.apart (by omega) (by omega) ?_
                intro A4 c4 w8 fp4 o3 n3 s3 t3
                have S' := S.merge t3 o3 n3 s3 c.size
                replace c := c.trans (S.below 0 rfl t3 c.size)
                clear S; have S := S'; clear S' o3 n3 s3 t3 HC
                clear HF
                have HF : w8.cell? ⟨q_x, 0, none⟩ = some (.int .i64 x) ∧ w8.cell? ⟨q_x, 1, none⟩ = some (.int .i64 y) := ⟨(S.at_ 2 rfl).cell 0, (S.at_ 2 rfl).cell 1⟩
                refine hK _ _ (fun _ => HF) ?_
                clear hK K
                try simp only [Act.put]
                refine wpAnyL_step (i := 8) (by kernel_rfl) rfl rfl ?_
                intro K hK
                go_simp
                refine hK _ _ (fun h => nomatch (show true = false from h)) ?_
                clear hK K
                try simp only [Act.put]
                refine wpAnyL_done (by kernel_rfl) ?_ _
                clear HF
                have hsr := (Rd.back (A2 := (some ⟨gb, 0, none⟩)) (c' := k - k) timerC_len (by decide) (S.own_ 1 rfl).rd (show k ≤ k by omega) (fun b' off' e hl => by
                  first
                    | (exfalso; omega)
                    | (injection e with e
                       injection e with e1 e2
                       rw [← e1, ← e2, Nat.zero_add])) (by omega) (by omega)).src timer_flat timerC_len (by decide)
                rw [Nat.sub_self] at hsr
                replace S := (S.flat timer_flat (r.drop k)).swap
                have hgc := Lib.hid c
                go_wp2_with (first
                  | (at_builtin
                     refine wpList_append_many (l := r.take k ++ [(⟨x, y⟩ : TimerM)]) (l2 := r.drop k) rfl (.tmp 44) (.tmp 47) (by rfl) Try.underlying33 infoTimer (by rfl) (by decide) timerC_len (by rfl) (S.own_ 0 rfl) (S.nodup_own 0 rfl) (by rfl) hsr.1 (S.own_ 1 rfl) hsr.2 (S.nodup_own 1 rfl) S.apart (by omega) (by omega) ?_
                     intro A5 c5 w9 fp5 o3 n3 s3 t3))
                have hgs := hgc.out.size
                have hbc := S.below 0 rfl t3 hgs
                replace S := (S.merge t3 o3 n3 s3 hgs).sub (.cons_cons _ (List.nil_sublist _))
                replace c := hgc.out.trans hbc
                clear hbc o3 n3 s3 t3 hsr hgs
                rw [HPT.out] at S
                obtain ⟨p, hp⟩ : ∃ p, p = putT (offM l x) (⟨x, y⟩ : TimerM) := ⟨_, rfl⟩
                have hps : timerSz p ≤ 1048577 := by
                  have h1 := offM_len l x
                  rw [hp]
                  unfold timerSz
                  rw [putT_len]
                  omega
                rw [← hp] at S
                have HP := Lib.hid hp
                clear hp
                go_wp2_with fail
                refine (sTimers_any A5 (k + 1 + 0) c5 w9.heap.size p _ (S.own_ 0 rfl).rd (Nat.le_refl _) hps).mono ?_
                rintro e w10 ⟨rfl, b⟩
                replace c := c.trans (b.mono c.size)
                replace S := S.keep b
                clear b
                cases hok2 : timersB p
                case false =>
                  have HD := Lib.hid (show timerSetM l x y = (l, false) by unfold timerSetM; rw [if_pos HOK.out, if_neg (by rw [← HP.out, hok2]; decide)])
                  clear hok2
                  replace S := S.sub (List.nil_sublist _)
                  replace S := S.boxAt c.size (w10.heap.size) rfl #[] 64
                  replace c := c.alloc c.size (.cells #[] 64)
                  replace S := S.blk0 (k := 2) (f := timerC)
                  have hsr := (HH.out.keep c).src timer_flat timerC_len (by decide)
                  replace S := (S.flat timer_flat l).swap
                  have hgc := Lib.hid c
                  go_wp2_with (first
                    | (at_builtin
                       refine wpList_append_fresh (l2 := l) rfl (.tmp 52) (.tmp 53) (by rfl) Try.underlying33 infoTimer (by rfl) (by decide) timerC_len (by rfl) (S.own_ 0 rfl) (S.nodup_own 0 rfl) (by rfl) hsr.1 (S.own_ 1 rfl) hsr.2 (S.nodup_own 1 rfl) S.apart (by have := hsr.2; omega) (by omega) ?_
                       intro A7 c7 w9 fp7 o3 n3 s3 t3))
                  have hgs := hgc.out.size
                  have hbc := S.below 0 rfl t3 hgs
                  have H := Lib.hid (S.merge t3 o3 n3 s3 hgs).first
                  have C := Lib.hid (hgc.out.trans hbc)
                  clear S c hbc o3 n3 s3 t3 hsr hgs hgc
                  go_wp2
                  go_ret2
                  exact ⟨_, _, _, by rw [HD.out]; rfl, by rw [HD.out]; exact H.out, C.out⟩
                case true =>
                  have HD := Lib.hid (show timerSetM l x y = (p, true) by unfold timerSetM; rw [if_pos HOK.out, if_pos (by rw [← HP.out, hok2]), ← HP.out])
                  have H := Lib.hid S.first
                  have C := Lib.hid c
                  clear S c hok2
                  go_wp2
                  go_ret2
                  exact ⟨_, _, _, by rw [HD.out]; rfl, by rw [HD.out]; exact H.out, C.out⟩
              · intro K hK
                go_simp
                replace S := S.boxAt c.size (w5.heap.size) rfl #[.int .i64 x, .int .i64 y] 64
                replace c := c.alloc c.size (.cells #[.int .i64 x, .int .i64 y] 64)
                clear HF
                have HF : (w5.alloc (.cells #[.int .i64 x, .int .i64 y] 64)).cell? ⟨q_x, 0, none⟩ = some (.int .i64 x) ∧ (w5.alloc (.cells #[.int .i64 x, .int .i64 y] 64)).cell? ⟨q_x, 1, none⟩ = some (.int .i64 y) := ⟨(S.at_ 3 rfl).cell 0, (S.at_ 3 rfl).cell 1⟩
                refine hK _ _ (fun _ => HF) ?_
                clear hK K
                try simp only [Act.put]
                generalize hw : w5.alloc (.cells #[.int .i64 x, .int .i64 y] 64) = w6 at *
                clear hw
                obtain ⟨q_el, hq_el⟩ : ∃ z, z = w5.heap.size := ⟨_, rfl⟩
                rw [← hq_el] at S ⊢
                clear hq_el
                replace S := S.pick 1 rfl
                replace S := S.blk0 (k := 2) (f := timerC)
                have hsr := (Rd.front timerC_len (by decide) (S.own_ 2 rfl).rd (show k ≤ k by omega) (show k ≤ k by omega) hcm).src timer_flat timerC_len (by decide)
                replace S := (S.flat timer_flat (r.take k)).swap
                refine wpAnyL_step (i := 4) (by kernel_rfl) rfl rfl ?_
                intro K hK
                refine wp_append_fresh (l2 := r.take k) _ _ (by rfl) Try.underlying33 infoTimer (by rfl) (by decide) timerC_len (by rfl) (S.own_ 0 rfl) (S.nodup_own 0 rfl) (by rfl) hsr.1 (S.own_ 1 rfl) hsr.2 (S.nodup_own 1 rfl) S.apart (by omega) (by omega) ?_
                intro A3 c3 w7 fp3 o3 n3 s3 t3
                have S' := S.merge t3 o3 n3 s3 c.size
                replace c := c.trans (S.below 0 rfl t3 c.size)
                clear S; have S := S'; clear S' o3 n3 s3 t3 hsr
                clear HF
                have HF : w7.cell? ⟨q_x, 0, none⟩ = some (.int .i64 x) ∧ w7.cell? ⟨q_x, 1, none⟩ = some (.int .i64 y) := ⟨(S.at_ 3 rfl).cell 0, (S.at_ 3 rfl).cell 1⟩
                refine hK _ _ (fun _ => HF) ?_
                clear hK K
                try simp only [Act.put]
                replace S := S.pick 1 rfl
                have HC : ∀ i, i < 2 → w7.cell? ⟨q_el, i, none⟩ = [Value.int .i64 x, Value.int .i64 y][i]? := fun i hi => by
                  have h1 := (S.at_ 0 rfl).cell i
                  rw [h1]
                  simp
                replace S := (S.tail).own0 (ds := timerC ⟨x, y⟩) (vs := [.int .i64 x, .int .i64 y]) (.int (.int .nil))
                replace S := S.pick 1 rfl
                refine wpAnyL_step (i := 7) (by kernel_rfl) rfl rfl ?_
                intro K hK
                refine wp_append_elem (l := r.take k) (y := (⟨x, y⟩ : TimerM)) (hb := q_el) _ _ (by rfl) Try.underlying33 infoTimer (by rfl) (by decide) timerC_len (by rfl) (S.own_ 0 rfl) (S.nodup_own 0 rfl) (by rfl) HC (S.own_ 1 rfl) (S.nodup_own 1 rfl) S.apart (by omega) (by omega) ?_
                intro A4 c4 w8 fp4 o3 n3 s3 t3
                have S' := S.merge t3 o3 n3 s3 c.size
                replace c := c.trans (S.below 0 rfl t3 c.size)
                clear S; have S := S'; clear S' o3 n3 s3 t3 HC
                clear HF
                have HF : w8.cell? ⟨q_x, 0, none⟩ = some (.int .i64 x) ∧ w8.cell? ⟨q_x, 1, none⟩ = some (.int .i64 y) := ⟨(S.at_ 2 rfl).cell 0, (S.at_ 2 rfl).cell 1⟩
                refine hK _ _ (fun _ => HF) ?_
                clear hK K
                try simp only [Act.put]
                refine wpAnyL_step (i := 8) (by kernel_rfl) rfl rfl ?_
                intro K hK
                go_simp
                refine hK _ _ (fun h => nomatch (show true = false from h)) ?_
                clear hK K
                try simp only [Act.put]
                refine wpAnyL_done (by kernel_rfl) ?_ _
                clear HF
                have hsr := (Rd.back (A2 := (some ⟨gb, 0, none⟩)) (c' := k - k) timerC_len (by decide) (S.own_ 1 rfl).rd (show k ≤ k by omega) (fun b' off' e hl => by
                  first
                    | (exfalso; omega)
                    | (injection e with e
                       injection e with e1 e2
                       rw [← e1, ← e2, Nat.zero_add])) (by omega) (by omega)).src timer_flat timerC_len (by decide)
                rw [Nat.sub_self] at hsr
                replace S := (S.flat timer_flat (r.drop k)).swap
                have hgc := Lib.hid c
                go_wp2_with (first
                  | (at_builtin
                     refine wpList_append_many (l := r.take k ++ [(⟨x, y⟩ : TimerM)]) (l2 := r.drop k) rfl (.tmp 44) (.tmp 47) (by rfl) Try.underlying33 infoTimer (by rfl) (by decide) timerC_len (by rfl) (S.own_ 0 rfl) (S.nodup_own 0 rfl) (by rfl) hsr.1 (S.own_ 1 rfl) hsr.2 (S.nodup_own 1 rfl) S.apart (by omega) (by omega) ?_
                     intro A5 c5 w9 fp5 o3 n3 s3 t3))
                have hgs := hgc.out.size
                have hbc := S.below 0 rfl t3 hgs
                replace S := (S.merge t3 o3 n3 s3 hgs).sub (.cons_cons _ (List.nil_sublist _))
                replace c := hgc.out.trans hbc
                clear hbc o3 n3 s3 t3 hsr hgs
                rw [HPT.out] at S
                obtain ⟨p, hp⟩ : ∃ p, p = putT (offM l x) (⟨x, y⟩ : TimerM) := ⟨_, rfl⟩
                have hps : timerSz p ≤ 1048577 := by
                  have h1 := offM_len l x
                  rw [hp]
                  unfold timerSz
                  rw [putT_len]
                  omega
                rw [← hp] at S
                have HP := Lib.hid hp
                clear hp
                go_wp2_with fail
                refine (sTimers_any A5 (k + 1 + 0) c5 w9.heap.size p _ (S.own_ 0 rfl).rd (Nat.le_refl _) hps).mono ?_
                rintro e w10 ⟨rfl, b⟩
                replace c := c.trans (b.mono c.size)
                replace S := S.keep b
                clear b
                cases hok2 : timersB p
                case false =>
                  have HD := Lib.hid (show timerSetM l x y = (l, false) by unfold timerSetM; rw [if_pos HOK.out, if_neg (by rw [← HP.out, hok2]; decide)])
                  clear hok2
                  replace S := S.sub (List.nil_sublist _)
                  replace S := S.boxAt c.size (w10.heap.size) rfl #[] 64
                  replace c := c.alloc c.size (.cells #[] 64)
                  replace S := S.blk0 (k := 2) (f := timerC)
                  have hsr := (HH.out.keep c).src timer_flat timerC_len (by decide)
                  replace S := (S.flat timer_flat l).swap
                  have hgc := Lib.hid c
                  go_wp2_with (first
                    | (at_builtin
                       refine wpList_append_fresh (l2 := l) rfl (.tmp 52) (.tmp 53) (by rfl) Try.underlying33 infoTimer (by rfl) (by decide) timerC_len (by rfl) (S.own_ 0 rfl) (S.nodup_own 0 rfl) (by rfl) hsr.1 (S.own_ 1 rfl) hsr.2 (S.nodup_own 1 rfl) S.apart (by have := hsr.2; omega) (by omega) ?_
                       intro A7 c7 w9 fp7 o3 n3 s3 t3))
                  have hgs := hgc.out.size
                  have hbc := S.below 0 rfl t3 hgs
                  have H := Lib.hid (S.merge t3 o3 n3 s3 hgs).first
                  have C := Lib.hid (hgc.out.trans hbc)
                  clear S c hbc o3 n3 s3 t3 hsr hgs hgc
                  go_wp2
                  go_ret2
                  exact ⟨_, _, _, by rw [HD.out]; rfl, by rw [HD.out]; exact H.out, C.out⟩
                case true =>
                  have HD := Lib.hid (show timerSetM l x y = (p, true) by unfold timerSetM; rw [if_pos HOK.out, if_pos (by rw [← HP.out, hok2]), ← HP.out])
                  have H := Lib.hid S.first
                  have C := Lib.hid c
                  clear S c hok2
                  go_wp2
                  go_ret2
                  exact ⟨_, _, _, by rw [HD.out]; rfl, by rw [HD.out]; exact H.out, C.out⟩
            · intro K hK
              go_simp
              replace S := S.boxAt c.size (w4.heap.size) rfl #[.int .i64 x, .int .i64 y] 64
              replace c := c.alloc c.size (.cells #[.int .i64 x, .int .i64 y] 64)
              clear HF
              have HF : (w4.alloc (.cells #[.int .i64 x, .int .i64 y] 64)).cell? ⟨q_x, 0, none⟩ = some (.int .i64 x) ∧ (w4.alloc (.cells #[.int .i64 x, .int .i64 y] 64)).cell? ⟨q_x, 1, none⟩ = some (.int .i64 y) := ⟨(S.at_ 2 rfl).cell 0, (S.at_ 2 rfl).cell 1⟩
              refine hK _ _ (fun _ => HF) ?_
              clear hK K
              try simp only [Act.put]
              generalize hw : w4.alloc (.cells #[.int .i64 x, .int .i64 y] 64) = w5 at *
              clear hw
              obtain ⟨q_el, hq_el⟩ : ∃ z, z = w4.heap.size := ⟨_, rfl⟩
              rw [← hq_el] at S ⊢
              clear hq_el
              refine wpAnyL_step (i := 0) (by kernel_rfl) rfl rfl ?_
              intro K hK
              go_simp
              replace S := S.boxAt c.size (w5.heap.size) rfl #[] 64
              replace c := c.alloc c.size (.cells #[] 64)
              clear HF
              have HF : (w5.alloc (.cells #[] 64)).cell? ⟨q_x, 0, none⟩ = some (.int .i64 x) ∧ (w5.alloc (.cells #[] 64)).cell? ⟨q_x, 1, none⟩ = some (.int .i64 y) := ⟨(S.at_ 3 rfl).cell 0, (S.at_ 3 rfl).cell 1⟩
              refine hK _ _ (fun _ => HF) ?_
              clear hK K
              try simp only [Act.put]
              generalize hw : w5.alloc (.cells #[] 64) = w6 at *
              clear hw
              obtain ⟨q_lit, hq_lit⟩ : ∃ z, z = w5.heap.size := ⟨_, rfl⟩
              rw [← hq_lit] at S ⊢
              clear hq_lit
              replace S := S.blk0 (k := 2) (f := timerC)
              have hsr := (Rd.front timerC_len (by decide) (S.own_ 2 rfl).rd (show k ≤ k by omega) (show k ≤ k by omega) hcm).src timer_flat timerC_len (by decide)
              replace S := (S.flat timer_flat (r.take k)).swap
              refine wpAnyL_step (i := 4) (by kernel_rfl) rfl rfl ?_
              intro K hK
              refine wp_append_fresh (l2 := r.take k) _ _ (by rfl) Try.underlying33 infoTimer (by rfl) (by decide) timerC_len (by rfl) (S.own_ 0 rfl) (S.nodup_own 0 rfl) (by rfl) hsr.1 (S.own_ 1 rfl) hsr.2 (S.nodup_own 1 rfl) S.apart (by omega) (by omega) ?_
              intro A3 c3 w7 fp3 o3 n3 s3 t3
              have S' := S.merge t3 o3 n3 s3 c.size
              replace c := c.trans (S.below 0 rfl t3 c.size)
              clear S; have S := S'; clear S' o3 n3 s3 t3 hsr
              clear HF
              have HF : w7.cell? ⟨q_x, 0, none⟩ = some (.int .i64 x) ∧ w7.cell? ⟨q_x, 1, none⟩ = some (.int .i64 y) := ⟨(S.at_ 3 rfl).cell 0, (S.at_ 3 rfl).cell 1⟩
              refine hK _ _ (fun _ => HF) ?_
              clear hK K
              try simp only [Act.put]
              replace S := S.pick 1 rfl
              have HC : ∀ i, i < 2 → w7.cell? ⟨q_el, i, none⟩ = [Value.int .i64 x, Value.int .i64 y][i]? := fun i hi => by
                have h1 := (S.at_ 0 rfl).cell i
                rw [h1]
                simp
              replace S := (S.tail).own0 (ds := timerC ⟨x, y⟩) (vs := [.int .i64 x, .int .i64 y]) (.int (.int .nil))
              replace S := S.pick 1 rfl
              refine wpAnyL_step (i := 7) (by kernel_rfl) rfl rfl ?_
              intro K hK
              refine wp_append_elem (l := r.take k) (y := (⟨x, y⟩ : TimerM)) (hb := q_el) _ _ (by rfl) Try.underlying33 infoTimer (by rfl) (by decide) timerC_len (by rfl) (S.own_ 0 rfl) (S.nodup_own 0 rfl) (by rfl) HC (S.own_ 1 rfl) (S.nodup_own 1 rfl) S.apart (by omega) (by omega) ?_
              intro A4 c4 w8 fp4 o3 n3 s3 t3
              have S' := S.merge t3 o3 n3 s3 c.size
              replace c := c.trans (S.below 0 rfl t3 c.size)
              clear S; have S := S'; clear S' o3 n3 s3 t3 HC
              clear HF
              have HF : w8.cell? ⟨q_x, 0, none⟩ = some (.int .i64 x) ∧ w8.cell? ⟨q_x, 1, none⟩ = some (.int .i64 y) := ⟨(S.at_ 2 rfl).cell 0, (S.at_ 2 rfl).cell 1⟩
              refine hK _ _ (fun _ => HF) ?_
              clear hK K
              try simp only [Act.put]
              refine wpAnyL_step (i := 8) (by kernel_rfl) rfl rfl ?_
              intro K hK
              go_simp
              refine hK _ _ (fun h => nomatch (show true = false from h)) ?_
              clear hK K
              try simp only [Act.put]
              refine wpAnyL_done (by kernel_rfl) ?_ _
              clear HF
              have hsr := (Rd.back (A2 := (some ⟨gb, 0, none⟩)) (c' := k - k) timerC_len (by decide) (S.own_ 1 rfl).rd (show k ≤ k by omega) (fun b' off' e hl => by
                first
                  | (exfalso; omega)
                  | (injection e with e
                     injection e with e1 e2
                     rw [← e1, ← e2, Nat.zero_add])) (by omega) (by omega)).src timer_flat timerC_len (by decide)
              rw [Nat.sub_self] at hsr
              replace S := (S.flat timer_flat (r.drop k)).swap
              have hgc := Lib.hid c
              go_wp2_with (first
                | (at_builtin
                   refine wpList_append_many (l := r.take k ++ [(⟨x, y⟩ : TimerM)]) (l2 := r.drop k) rfl (.tmp 44) (.tmp 47) (by rfl) Try.underlying33 infoTimer (by rfl) (by decide) timerC_len (by rfl) (S.own_ 0 rfl) (S.nodup_own 0 rfl) (by rfl) hsr.1 (S.own_ 1 rfl) hsr.2 (S.nodup_own 1 rfl) S.apart (by omega) (by omega) ?_
                   intro A5 c5 w9 fp5 o3 n3 s3 t3))
              have hgs := hgc.out.size
              have hbc := S.below 0 rfl t3 hgs
              replace S := (S.merge t3 o3 n3 s3 hgs).sub (.cons_cons _ (List.nil_sublist _))
              replace c := hgc.out.trans hbc
              clear hbc o3 n3 s3 t3 hsr hgs
              rw [HPT.out] at S
              obtain ⟨p, hp⟩ : ∃ p, p = putT (offM l x) (⟨x, y⟩ : TimerM) := ⟨_, rfl⟩
              have hps : timerSz p ≤ 1048577 := by
                have h1 := offM_len l x
                rw [hp]
                unfold timerSz
                rw [putT_len]
                omega
              rw [← hp] at S
              have HP := Lib.hid hp
              clear hp
              go_wp2_with fail
              refine (sTimers_any A5 (k + 1 + 0) c5 w9.heap.size p _ (S.own_ 0 rfl).rd (Nat.le_refl _) hps).mono ?_
              rintro e w10 ⟨rfl, b⟩
              replace c := c.trans (b.mono c.size)
              replace S := S.keep b
              clear b
              cases hok2 : timersB p
              case false =>
                have HD := Lib.hid (show timerSetM l x y = (l, false) by unfold timerSetM; rw [if_pos HOK.out, if_neg (by rw [← HP.out, hok2]; decide)])
                clear hok2
                replace S := S.sub (List.nil_sublist _)
                replace S := S.boxAt c.size (w10.heap.size) rfl #[] 64
                replace c := c.alloc c.size (.cells #[] 64)
                replace S := S.blk0 (k := 2) (f := timerC)
                have hsr := (HH.out.keep c).src timer_flat timerC_len (by decide)
                replace S := (S.flat timer_flat l).swap
                have hgc := Lib.hid c
                go_wp2_with (first
                  | (at_builtin
                     refine wpList_append_fresh (l2 := l) rfl (.tmp 52) (.tmp 53) (by rfl) Try.underlying33 infoTimer (by rfl) (by decide) timerC_len (by rfl) (S.own_ 0 rfl) (S.nodup_own 0 rfl) (by rfl) hsr.1 (S.own_ 1 rfl) hsr.2 (S.nodup_own 1 rfl) S.apart (by have := hsr.2; omega) (by omega) ?_
                     intro A7 c7 w9 fp7 o3 n3 s3 t3))
                have hgs := hgc.out.size
                have hbc := S.below 0 rfl t3 hgs
                have H := Lib.hid (S.merge t3 o3 n3 s3 hgs).first
                have C := Lib.hid (hgc.out.trans hbc)
                clear S c hbc o3 n3 s3 t3 hsr hgs hgc
                go_wp2
                go_ret2
                exact ⟨_, _, _, by rw [HD.out]; rfl, by rw [HD.out]; exact H.out, C.out⟩
              case true =>
                have HD := Lib.hid (show timerSetM l x y = (p, true) by unfold timerSetM; rw [if_pos HOK.out, if_pos (by rw [← HP.out, hok2]), ← HP.out])
                have H := Lib.hid S.first
                have C := Lib.hid c
                clear S c hok2
                go_wp2
                go_ret2
                exact ⟨_, _, _, by rw [HD.out]; rfl, by rw [HD.out]; exact H.out, C.out⟩
          · go_wp2_with fail
            have i0 : (0 : Int) ≤ (k : Int) := by omega
            have i1 : (k : Int) ≤ (k : Int) := by omega
            have i2 : k ≤ gc := by omega
            have i3 : (k : Int) ≤ (gc : Int) := by omega
            refine wp_region_L (fun v => v.cell? ⟨q_x, 0, none⟩ = some (.int .i64 x) ∧ v.cell? ⟨q_x, 1, none⟩ = some (.int .i64 y)) 8 (by kernel_rfl) ?_
            replace S := S.keep ((Below.refl _ _).drew)
            replace c := c.drew
            generalize w3.drew = w4 at *
            have HF : w4.cell? ⟨q_x, 0, none⟩ = some (.int .i64 x) ∧ w4.cell? ⟨q_x, 1, none⟩ = some (.int .i64 y) := ⟨(S.at_ 1 rfl).cell 0, (S.at_ 1 rfl).cell 1⟩
            refine wpAnyL_take (i := 1) (v := ?_) rfl rfl (by kernel_rfl) (by kernel_rfl) (by kernel_rfl) (by kernel_rfl) (by kernel_rfl) (fun _ _ _ h => h) HF (Or.inl ⟨by rfl, ?_⟩) ?_
            rotate_left 1
            · (rintro v ⟨a0, a1⟩; go_simp; try with_reducible rfl)
            try simp only [Act.put]
            refine wpAnyL_take (i := 2) (v := ?_) rfl rfl (by kernel_rfl) (by kernel_rfl) (by kernel_rfl) (by kernel_rfl) (by kernel_rfl) (fun _ _ _ h => h) HF (Or.inl ⟨by rfl, ?_⟩) ?_
            rotate_left 1
            · (rintro v ⟨a0, a1⟩; go_simp; try with_reducible rfl)
            try simp only [Act.put]
            refine wpAnyL_pure (i := 3) (v := ?_) rfl rfl (by kernel_rfl) (by kernel_rfl) (by kernel_rfl) (fun _ _ _ h => h) HF (Or.inl ⟨by rfl, ?_⟩) ?_
            rotate_left 1
            · (intro v _; go_simp; try with_reducible rfl)
            try simp only [Act.put]
            refine wpAnyL_take (i := 5) (v := ?_) rfl rfl (by kernel_rfl) (by kernel_rfl) (by kernel_rfl) (by kernel_rfl) (by kernel_rfl) (fun _ _ _ h => h) HF (Or.inl ⟨by rfl, ?_⟩) ?_
            rotate_left 1
            · (rintro v ⟨a0, a1⟩; go_simp; try with_reducible rfl)
            try simp only [Act.put]
            refine wpAnyL_two (i := 0) (k := 6) (by kernel_rfl) rfl rfl rfl rfl ?_ ?_
            · intro K hK
              go_simp
              replace S := S.boxAt c.size (w4.heap.size) rfl #[] 64
              replace c := c.alloc c.size (.cells #[] 64)
              clear HF
              have HF : (w4.alloc (.cells #[] 64)).cell? ⟨q_x, 0, none⟩ = some (.int .i64 x) ∧ (w4.alloc (.cells #[] 64)).cell? ⟨q_x, 1, none⟩ = some (.int .i64 y) := ⟨(S.at_ 2 rfl).cell 0, (S.at_ 2 rfl).cell 1⟩
              refine hK _ _ (fun _ => HF) ?_
              clear hK K
              try simp only [Act.put]
              generalize hw : w4.alloc (.cells #[] 64) = w5 at *
              clear hw
              obtain ⟨q_lit, hq_lit⟩ : ∃ z, z = w4.heap.size := ⟨_, rfl⟩
              rw [← hq_lit] at S ⊢
              clear hq_lit
              refine wpAnyL_two (i := 4) (k := 6) (by kernel_rfl) rfl rfl rfl rfl ?_ ?_
              · intro K hK
                replace S := S.blk0 (k := 2) (f := timerC)
                have hsr := (Rd.front timerC_len (by decide) (S.own_ 1 rfl).rd (show k ≤ k by omega) (show k ≤ gc by omega) hcm).src timer_flat timerC_len (by decide)
                replace S := (S.flat timer_flat (r.take k)).swap
                refine wp_append_fresh (l2 := r.take k) _ _ (by rfl) Try.underlying33 infoTimer (by rfl) (by decide) timerC_len (by rfl) (S.own_ 0 rfl) (S.nodup_own 0 rfl) (by rfl) hsr.1 (S.own_ 1 rfl) hsr.2 (S.nodup_own 1 rfl) S.apart (by omega) (by omega) ?_
                intro A3 c3 w6 fp3 o3 n3 s3 t3
                have S' := S.merge t3 o3 n3 s3 c.size
                replace c := c.trans (S.below 0 rfl t3 c.size)
                clear S; have S := S'; clear S' o3 n3 s3 t3 hsr
                clear HF
                have HF : w6.cell? ⟨q_x, 0, none⟩ = some (.int .i64 x) ∧ w6.cell? ⟨q_x, 1, none⟩ = some (.int .i64 y) := ⟨(S.at_ 2 rfl).cell 0, (S.at_ 2 rfl).cell 1⟩
                refine hK _ _ (fun _ => HF) ?_
                clear hK K
                try simp only [Act.put]
                refine wpAnyL_step (i := 6) (by kernel_rfl) rfl rfl ?_
                intro K hK
                go_simp
                replace S := S.boxAt c.size (w6.heap.size) rfl #[.int .i64 x, .int .i64 y] 64
                replace c := c.alloc c.size (.cells #[.int .i64 x, .int .i64 y] 64)
                clear HF
                have HF : (w6.alloc (.cells #[.int .i64 x, .int .i64 y] 64)).cell? ⟨q_x, 0, none⟩ = some (.int .i64 x) ∧ (w6.alloc (.cells #[.int .i64 x, .int .i64 y] 64)).cell? ⟨q_x, 1, none⟩ = some (.int .i64 y) := ⟨(S.at_ 3 rfl).cell 0, (S.at_ 3 rfl).cell 1⟩
                refine hK _ _ (fun _ => HF) ?_
                clear hK K
                try simp only [Act.put]
                generalize hw : w6.alloc (.cells #[.int .i64 x, .int .i64 y] 64) = w7 at *
                clear hw
                obtain ⟨q_el, hq_el⟩ : ∃ z, z = w6.heap.size := ⟨_, rfl⟩
                rw [← hq_el] at S ⊢
                clear hq_el
                have HC : ∀ i, i < 2 → w7.cell? ⟨q_el, i, none⟩ = [Value.int .i64 x, Value.int .i64 y][i]? := fun i hi => by
                  have h1 := (S.at_ 0 rfl).cell i
                  rw [h1]
                  simp
                replace S := (S.tail).own0 (ds := timerC ⟨x, y⟩) (vs := [.int .i64 x, .int .i64 y]) (.int (.int .nil))
                replace S := S.pick 1 rfl
                refine wpAnyL_step (i := 7) (by kernel_rfl) rfl rfl ?_
                intro K hK
                refine wp_append_elem (l := r.take k) (y := (⟨x, y⟩ : TimerM)) (hb := q_el) _ _ (by rfl) Try.underlying33 infoTimer (by rfl) (by decide) timerC_len (by rfl) (S.own_ 0 rfl) (S.nodup_own 0 rfl) (by rfl) HC (S.own_ 1 rfl) (S.nodup_own 1 rfl) S.apart (by omega) (by omega) ?_
                intro A4 c4 w8 fp4 o3 n3 s3 t3
                have S' := S.merge t3 o3 n3 s3 c.size
                replace c := c.trans (S.below 0 rfl t3 c.size)
                clear S; have S := S'; clear S' o3 n3 s3 t3 HC
                clear HF
                have HF : w8.cell? ⟨q_x, 0, none⟩ = some (.int .i64 x) ∧ w8.cell? ⟨q_x, 1, none⟩ = some (.int .i64 y) := ⟨(S.at_ 2 rfl).cell 0, (S.at_ 2 rfl).cell 1⟩
                refine hK _ _ (fun _ => HF) ?_
                clear hK K
                try simp only [Act.put]
                refine wpAnyL_step (i := 8) (by kernel_rfl) rfl rfl ?_
                intro K hK
                go_simp
                refine hK _ _ (fun h => nomatch (show true = false from h)) ?_
                clear hK K
                try simp only [Act.put]
                refine wpAnyL_done (by kernel_rfl) ?_ _
                clear HF
                have hsr := (Rd.back (A2 := (some ⟨gb, k * 2, none⟩)) (c' := gc - k) timerC_len (by decide) (S.own_ 1 rfl).rd (show k ≤ k by omega) (fun b' off' e hl => by
                  first
                    | (exfalso; omega)
                    | (injection e with e
                       injection e with e1 e2
                       rw [← e1, ← e2, Nat.zero_add])) (by omega) (by omega)).src timer_flat timerC_len (by decide)
                rw [Nat.sub_self] at hsr
                replace S := (S.flat timer_flat (r.drop k)).swap
                have hgc := Lib.hid c
                go_wp2_with (first
                  | (at_builtin
                     refine wpList_append_many (l := r.take k ++ [(⟨x, y⟩ : TimerM)]) (l2 := r.drop k) rfl (.tmp 44) (.tmp 47) (by rfl) Try.underlying33 infoTimer (by rfl) (by decide) timerC_len (by rfl) (S.own_ 0 rfl) (S.nodup_own 0 rfl) (by rfl) hsr.1 (S.own_ 1 rfl) hsr.2 (S.nodup_own 1 rfl) S.apart (by omega) (by omega) ?_
                     intro A5 c5 w9 fp5 o3 n3 s3 t3))
                have hgs := hgc.out.size
                have hbc := S.below 0 rfl t3 hgs
                replace S := (S.merge t3 o3 n3 s3 hgs).sub (.cons_cons _ (List.nil_sublist _))
                replace c := hgc.out.trans hbc
                clear hbc o3 n3 s3 t3 hsr hgs
                rw [HPT.out] at S
                obtain ⟨p, hp⟩ : ∃ p, p = putT (offM l x) (⟨x, y⟩ : TimerM) := ⟨_, rfl⟩
                have hps : timerSz p ≤ 1048577 := by
                  have h1 := offM_len l x
                  rw [hp]
                  unfold timerSz
                  rw [putT_len]
                  omega
                rw [← hp] at S
                have HP := Lib.hid hp
                clear hp
                go_wp2_with fail
                refine (sTimers_any A5 (k + 1 + 0) c5 w9.heap.size p _ (S.own_ 0 rfl).rd (Nat.le_refl _) hps).mono ?_
                rintro e w10 ⟨rfl, b⟩
                replace c := c.trans (b.mono c.size)
                replace S := S.keep b
                clear b
                cases hok2 : timersB p
                case false =>
                  have HD := Lib.hid (show timerSetM l x y = (l, false) by unfold timerSetM; rw [if_pos HOK.out, if_neg (by rw [← HP.out, hok2]; decide)])
                  clear hok2
                  replace S := S.sub (List.nil_sublist _)
                  replace S := S.boxAt c.size (w10.heap.size) rfl #[] 64
                  replace c := c.alloc c.size (.cells #[] 64)
                  replace S := S.blk0 (k := 2) (f := timerC)
                  have hsr := (HH.out.keep c).src timer_flat timerC_len (by decide)
                  replace S := (S.flat timer_flat l).swap
                  have hgc := Lib.hid c
                  go_wp2_with (first
                    | (at_builtin
                       refine wpList_append_fresh (l2 := l) rfl (.tmp 52) (.tmp 53) (by rfl) Try.underlying33 infoTimer (by rfl) (by decide) timerC_len (by rfl) (S.own_ 0 rfl) (S.nodup_own 0 rfl) (by rfl) hsr.1 (S.own_ 1 rfl) hsr.2 (S.nodup_own 1 rfl) S.apart (by have := hsr.2; omega) (by omega) ?_
                       intro A7 c7 w9 fp7 o3 n3 s3 t3))
                  have hgs := hgc.out.size
                  have hbc := S.below 0 rfl t3 hgs
                  have H := Lib.hid (S.merge t3 o3 n3 s3 hgs).first
                  have C := Lib.hid (hgc.out.trans hbc)
                  clear S c hbc o3 n3 s3 t3 hsr hgs hgc
                  go_wp2
                  go_ret2
                  exact ⟨_, _, _, by rw [HD.out]; rfl, by rw [HD.out]; exact H.out, C.out⟩
                case true =>
                  have HD := Lib.hid (show timerSetM l x y = (p, true) by unfold timerSetM; rw [if_pos HOK.out, if_pos (by rw [← HP.out, hok2]), ← HP.out])
                  have H := Lib.hid S.first
                  have C := Lib.hid c
                  clear S c hok2
                  go_wp2
                  go_ret2
                  exact ⟨_, _, _, by rw [HD.out]; rfl, by rw [HD.out]; exact H.out, C.out⟩
              · intro K hK
                go_simp
                replace S := S.boxAt c.size (w5.heap.size) rfl #[.int .i64 x, .int .i64 y] 64
                replace c := c.alloc c.size (.cells #[.int .i64 x, .int .i64 y] 64)
                clear HF
                have HF : (w5.alloc (.cells #[.int .i64 x, .int .i64 y] 64)).cell? ⟨q_x, 0, none⟩ = some (.int .i64 x) ∧ (w5.alloc (.cells #[.int .i64 x, .int .i64 y] 64)).cell? ⟨q_x, 1, none⟩ = some (.int .i64 y) := ⟨(S.at_ 3 rfl).cell 0, (S.at_ 3 rfl).cell 1⟩
                refine hK _ _ (fun _ => HF) ?_
                clear hK K
                try simp only [Act.put]
                generalize hw : w5.alloc (.cells #[.int .i64 x, .int .i64 y] 64) = w6 at *
                clear hw
                obtain ⟨q_el, hq_el⟩ : ∃ z, z = w5.heap.size := ⟨_, rfl⟩
                rw [← hq_el] at S ⊢
                clear hq_el
                replace S := S.pick 1 rfl
                replace S := S.blk0 (k := 2) (f := timerC)
                have hsr := (Rd.front timerC_len (by decide) (S.own_ 2 rfl).rd (show k ≤ k by omega) (show k ≤ gc by omega) hcm).src timer_flat timerC_len (by decide)
                replace S := (S.flat timer_flat (r.take k)).swap
                refine wpAnyL_step (i := 4) (by kernel_rfl) rfl rfl ?_
                intro K hK
                refine wp_append_fresh (l2 := r.take k) _ _ (by rfl) Try.underlying33 infoTimer (by rfl) (by decide) timerC_len (by rfl) (S.own_ 0 rfl) (S.nodup_own 0 rfl) (by rfl) hsr.1 (S.own_ 1 rfl) hsr.2 (S.nodup_own 1 rfl) S.apart (by omega) (by omega) ?_
                intro A3 c3 w7 fp3 o3 n3 s3 t3
                have S' := S.merge t3 o3 n3 s3 c.size
                replace c := c.trans (S.below 0 rfl t3 c.size)
                clear S; have S := S'; clear S' o3 n3 s3 t3 hsr
                clear HF
                have HF : w7.cell? ⟨q_x, 0, none⟩ = some (.int .i64 x) ∧ w7.cell? ⟨q_x, 1, none⟩ = some (.int .i64 y) := ⟨(S.at_ 3 rfl).cell 0, (S.at_ 3 rfl).cell 1⟩
                refine hK _ _ (fun _ => HF) ?_
                clear hK K
                try simp only [Act.put]
                replace S := S.pick 1 rfl
                have HC : ∀ i, i < 2 → w7.cell? ⟨q_el, i, none⟩ = [Value.int .i64 x, Value.int .i64 y][i]? := fun i hi => by
                  have h1 := (S.at_ 0 rfl).cell i
                  rw [h1]
                  simp
                replace S := (S.tail).own0 (ds := timerC ⟨x, y⟩) (vs := [.int .i64 x, .int .i64 y]) (.int (.int .nil))
                replace S := S.pick 1 rfl
                refine wpAnyL_step (i := 7) (by kernel_rfl) rfl rfl ?_
                intro K hK
                refine wp_append_elem (l := r.take k) (y := (⟨x, y⟩ : TimerM)) (hb := q_el) _ _ (by rfl) Try.underlying33 infoTimer (by rfl) (by decide) timerC_len (by rfl) (S.own_ 0 rfl) (S.nodup_own 0 rfl) (by rfl) HC (S.own_ 1 rfl) (S.nodup_own 1 rfl) S.apart (by omega) (by omega) ?_
                intro A4 c4 w8 fp4 o3 n3 s3 t3
                have S' := S.merge t3 o3 n3 s3 c.size
                replace c := c.trans (S.below 0 rfl t3 c.size)
                clear S; have S := S'; clear S' o3 n3 s3 t3 HC
                clear HF
                have HF : w8.cell? ⟨q_x, 0, none⟩ = some (.int .i64 x) ∧ w8.cell? ⟨q_x, 1, none⟩ = some (.int .i64 y) := ⟨(S.at_ 2 rfl).cell 0, (S.at_ 2 rfl).cell 1⟩
                refine hK _ _ (fun _ => HF) ?_
                clear hK K
                try simp only [Act.put]
                refine wpAnyL_step (i := 8) (by kernel_rfl) rfl rfl ?_
                intro K hK
                go_simp
                refine hK _ _ (fun h => nomatch (show true = false from h)) ?_
                clear hK K
                try simp only [Act.put]
                refine wpAnyL_done (by kernel_rfl) ?_ _
                clear HF
                have hsr := (Rd.back (A2 := (some ⟨gb, k * 2, none⟩)) (c' := gc - k) timerC_len (by decide) (S.own_ 1 rfl).rd (show k ≤ k by omega) (fun b' off' e hl => by
                  first
                    | (exfalso; omega)
                    | (injection e with e
                       injection e with e1 e2
                       rw [← e1, ← e2, Nat.zero_add])) (by omega) (by omega)).src timer_flat timerC_len (by decide)
                rw [Nat.sub_self] at hsr
                replace S := (S.flat timer_flat (r.drop k)).swap
                have hgc := Lib.hid c
                go_wp2_with (first
                  | (at_builtin
                     refine wpList_append_many (l := r.take k ++ [(⟨x, y⟩ : TimerM)]) (l2 := r.drop k) rfl (.tmp 44) (.tmp 47) (by rfl) Try.underlying33 infoTimer (by rfl) (by decide) timerC_len (by rfl) (S.own_ 0 rfl) (S.nodup_own 0 rfl) (by rfl) hsr.1 (S.own_ 1 rfl) hsr.2 (S.nodup_own 1 rfl) S.apart (by omega) (by omega) ?_
                     intro A5 c5 w9 fp5 o3 n3 s3 t3))
                have hgs := hgc.out.size
                have hbc := S.below 0 rfl t3 hgs
                replace S := (S.merge t3 o3 n3 s3 hgs).sub (.cons_cons _ (List.nil_sublist _))
                replace c := hgc.out.trans hbc
                clear hbc o3 n3 s3 t3 hsr hgs
                rw [HPT.out] at S
                obtain ⟨p, hp⟩ : ∃ p, p = putT (offM l x) (⟨x, y⟩ : TimerM) := ⟨_, rfl⟩
                have hps : timerSz p ≤ 1048577 := by
                  have h1 := offM_len l x
                  rw [hp]
                  unfold timerSz
                  rw [putT_len]
                  omega
                rw [← hp] at S
                have HP := Lib.hid hp
                clear hp
                go_wp2_with fail
                refine (sTimers_any A5 (k + 1 + 0) c5 w9.heap.size p _ (S.own_ 0 rfl).rd (Nat.le_refl _) hps).mono ?_
                rintro e w10 ⟨rfl, b⟩
                replace c := c.trans (b.mono c.size)
                replace S := S.keep b
                clear b
                cases hok2 : timersB p
                case false =>
                  have HD := Lib.hid (show timerSetM l x y = (l, false) by unfold timerSetM; rw [if_pos HOK.out, if_neg (by rw [← HP.out, hok2]; decide)])
                  clear hok2
                  replace S := S.sub (List.nil_sublist _)
                  replace S := S.boxAt c.size (w10.heap.size) rfl #[] 64
                  replace c := c.alloc c.size (.cells #[] 64)
                  replace S := S.blk0 (k := 2) (f := timerC)
                  have hsr := (HH.out.keep c).src timer_flat timerC_len (by decide)
                  replace S := (S.flat timer_flat l).swap
                  have hgc := Lib.hid c
                  go_wp2_with (first
                    | (at_builtin
                       refine wpList_append_fresh (l2 := l) rfl (.tmp 52) (.tmp 53) (by rfl) Try.underlying33 infoTimer (by rfl) (by decide) timerC_len (by rfl) (S.own_ 0 rfl) (S.nodup_own 0 rfl) (by rfl) hsr.1 (S.own_ 1 rfl) hsr.2 (S.nodup_own 1 rfl) S.apart (by have := hsr.2; omega) (by omega) ?_
                       intro A7 c7 w9 fp7 o3 n3 s3 t3))
                  have hgs := hgc.out.size
                  have hbc := S.below 0 rfl t3 hgs
                  have H := Lib.hid (S.merge t3 o3 n3 s3 hgs).first
                  have C := Lib.hid (hgc.out.trans hbc)
                  clear S c hbc o3 n3 s3 t3 hsr hgs hgc
                  go_wp2
                  go_ret2
                  exact ⟨_, _, _, by rw [HD.out]; rfl, by rw [HD.out]; exact H.out, C.out⟩
                case true =>
                  have HD := Lib.hid (show timerSetM l x y = (p, true) by unfold timerSetM; rw [if_pos HOK.out, if_pos (by rw [← HP.out, hok2]), ← HP.out])
                  have H := Lib.hid S.first
                  have C := Lib.hid c
                  clear S c hok2
                  go_wp2
                  go_ret2
                  exact ⟨_, _, _, by rw [HD.out]; rfl, by rw [HD.out]; exact H.out, C.out⟩
            · intro K hK
              go_simp
              replace S := S.boxAt c.size (w4.heap.size) rfl #[.int .i64 x, .int .i64 y] 64
              replace c := c.alloc c.size (.cells #[.int .i64 x, .int .i64 y] 64)
              clear HF
              have HF : (w4.alloc (.cells #[.int .i64 x, .int .i64 y] 64)).cell? ⟨q_x, 0, none⟩ = some (.int .i64 x) ∧ (w4.alloc (.cells #[.int .i64 x, .int .i64 y] 64)).cell? ⟨q_x, 1, none⟩ = some (.int .i64 y) := ⟨(S.at_ 2 rfl).cell 0, (S.at_ 2 rfl).cell 1⟩
              refine hK _ _ (fun _ => HF) ?_
              clear hK K
              try simp only [Act.put]
              generalize hw : w4.alloc (.cells #[.int .i64 x, .int .i64 y] 64) = w5 at *
              clear hw
              obtain ⟨q_el, hq_el⟩ : ∃ z, z = w4.heap.size := ⟨_, rfl⟩
              rw [← hq_el] at S ⊢
              clear hq_el
              refine wpAnyL_step (i := 0) (by kernel_rfl) rfl rfl ?_
              intro K hK
              go_simp
              replace S := S.boxAt c.size (w5.heap.size) rfl #[] 64
              replace c := c.alloc c.size (.cells #[] 64)
              clear HF
              have HF : (w5.alloc (.cells #[] 64)).cell? ⟨q_x, 0, none⟩ = some (.int .i64 x) ∧ (w5.alloc (.cells #[] 64)).cell? ⟨q_x, 1, none⟩ = some (.int .i64 y) := ⟨(S.at_ 3 rfl).cell 0, (S.at_ 3 rfl).cell 1⟩
              refine hK _ _ (fun _ => HF) ?_
              clear hK K
              try simp only [Act.put]
              generalize hw : w5.alloc (.cells #[] 64) = w6 at *
              clear hw
              obtain ⟨q_lit, hq_lit⟩ : ∃ z, z = w5.heap.size := ⟨_, rfl⟩
              rw [← hq_lit] at S ⊢
              clear hq_lit
              replace S := S.blk0 (k := 2) (f := timerC)
              have hsr := (Rd.front timerC_len (by decide) (S.own_ 2 rfl).rd (show k ≤ k by omega) (show k ≤ gc by omega) hcm).src timer_flat timerC_len (by decide)
              replace S := (S.flat timer_flat (r.take k)).swap
              refine wpAnyL_step (i := 4) (by kernel_rfl) rfl rfl ?_
              intro K hK
              refine wp_append_fresh (l2 := r.take k) _ _ (by rfl) Try.underlying33 infoTimer (by rfl) (by decide) timerC_len (by rfl) (S.own_ 0 rfl) (S.nodup_own 0 rfl) (by rfl) hsr.1 (S.own_ 1 rfl) hsr.2 (S.nodup_own 1 rfl) S.apart (by omega) (by omega) ?_
              intro A3 c3 w7 fp3 o3 n3 s3 t3
              have S' := S.merge t3 o3 n3 s3 c.size
              replace c := c.trans (S.below 0 rfl t3 c.size)
              clear S; have S := S'; clear S' o3 n3 s3 t3 hsr
              clear HF
              have HF : w7.cell? ⟨q_x, 0, none⟩ = some (.int .i64 x) ∧ w7.cell? ⟨q_x, 1, none⟩ = some (.int .i64 y) := ⟨(S.at_ 3 rfl).cell 0, (S.at_ 3 rfl).cell 1⟩
              refine hK _ _ (fun _ => HF) ?_
              clear hK K
              try simp only [Act.put]
              replace S := S.pick 1 rfl
              have HC : ∀ i, i < 2 → w7.cell? ⟨q_el, i, none⟩ = [Value.int .i64 x, Value.int .i64 y][i]? := fun i hi => by
                have h1 := (S.at_ 0 rfl).cell i
                rw [h1]
                simp
              replace S := (S.tail).own0 (ds := timerC ⟨x, y⟩) (vs := [.int .i64 x, .int .i64 y]) (.int (.int .nil))
              replace S := S.pick 1 rfl
              refine wpAnyL_step (i := 7) (by kernel_rfl) rfl rfl ?_
              intro K hK
              refine wp_append_elem (l := r.take k) (y := (⟨x, y⟩ : TimerM)) (hb := q_el) _ _ (by rfl) Try.underlying33 infoTimer (by rfl) (by decide) timerC_len (by rfl) (S.own_ 0 rfl) (S.nodup_own 0 rfl) (by rfl) HC (S.own_ 1 rfl) (S.nodup_own 1 rfl) S.apart (by omega) (by omega) ?_
              intro A4 c4 w8 fp4 o3 n3 s3 t3
              have S' := S.merge t3 o3 n3 s3 c.size
              replace c := c.trans (S.below 0 rfl t3 c.size)
              clear S; have S := S'; clear S' o3 n3 s3 t3 HC
              clear HF
              have HF : w8.cell? ⟨q_x, 0, none⟩ = some (.int .i64 x) ∧ w8.cell? ⟨q_x, 1, none⟩ = some (.int .i64 y) := ⟨(S.at_ 2 rfl).cell 0, (S.at_ 2 rfl).cell 1⟩
              refine hK _ _ (fun _ => HF) ?_
              clear hK K
              try simp only [Act.put]
              refine wpAnyL_step (i := 8) (by kernel_rfl) rfl rfl ?_
              intro K hK
              go_simp
              refine hK _ _ (fun h => nomatch (show true = false from h)) ?_
              clear hK K
              try simp only [Act.put]
              refine wpAnyL_done (by kernel_rfl) ?_ _
              clear HF
              have hsr := (Rd.back (A2 := (some ⟨gb, k * 2, none⟩)) (c' := gc - k) timerC_len (by decide) (S.own_ 1 rfl).rd (show k ≤ k by omega) (fun b' off' e hl => by
                first
                  | (exfalso; omega)
                  | (injection e with e
                     injection e with e1 e2
                     rw [← e1, ← e2, Nat.zero_add])) (by omega) (by omega)).src timer_flat timerC_len (by decide)
              rw [Nat.sub_self] at hsr
              replace S := (S.flat timer_flat (r.drop k)).swap
              have hgc := Lib.hid c
              go_wp2_with (first
                | (at_builtin
                   refine wpList_append_many (l := r.take k ++ [(⟨x, y⟩ : TimerM)]) (l2 := r.drop k) rfl (.tmp 44) (.tmp 47) (by rfl) Try.underlying33 infoTimer (by rfl) (by decide) timerC_len (by rfl) (S.own_ 0 rfl) (S.nodup_own 0 rfl) (by rfl) hsr.1 (S.own_ 1 rfl) hsr.2 (S.nodup_own 1 rfl) S.apart (by omega) (by omega) ?_
                   intro A5 c5 w9 fp5 o3 n3 s3 t3))
              have hgs := hgc.out.size
              have hbc := S.below 0 rfl t3 hgs
              replace S := (S.merge t3 o3 n3 s3 hgs).sub (.cons_cons _ (List.nil_sublist _))
              replace c := hgc.out.trans hbc
              clear hbc o3 n3 s3 t3 hsr hgs
              rw [HPT.out] at S
              obtain ⟨p, hp⟩ : ∃ p, p = putT (offM l x) (⟨x, y⟩ : TimerM) := ⟨_, rfl⟩
              have hps : timerSz p ≤ 1048577 := by
                have h1 := offM_len l x
                rw [hp]
                unfold timerSz
                rw [putT_len]
                omega
              rw [← hp] at S
              have HP := Lib.hid hp
              clear hp
              go_wp2_with fail
              refine (sTimers_any A5 (k + 1 + 0) c5 w9.heap.size p _ (S.own_ 0 rfl).rd (Nat.le_refl _) hps).mono ?_
              rintro e w10 ⟨rfl, b⟩
              replace c := c.trans (b.mono c.size)
              replace S := S.keep b
              clear b
              cases hok2 : timersB p
              case false =>
                have HD := Lib.hid (show timerSetM l x y = (l, false) by unfold timerSetM; rw [if_pos HOK.out, if_neg (by rw [← HP.out, hok2]; decide)])
                clear hok2
                replace S := S.sub (List.nil_sublist _)
                replace S := S.boxAt c.size (w10.heap.size) rfl #[] 64
                replace c := c.alloc c.size (.cells #[] 64)
                replace S := S.blk0 (k := 2) (f := timerC)
                have hsr := (HH.out.keep c).src timer_flat timerC_len (by decide)
                replace S := (S.flat timer_flat l).swap
                have hgc := Lib.hid c
                go_wp2_with (first
                  | (at_builtin
                     refine wpList_append_fresh (l2 := l) rfl (.tmp 52) (.tmp 53) (by rfl) Try.underlying33 infoTimer (by rfl) (by decide) timerC_len (by rfl) (S.own_ 0 rfl) (S.nodup_own 0 rfl) (by rfl) hsr.1 (S.own_ 1 rfl) hsr.2 (S.nodup_own 1 rfl) S.apart (by have := hsr.2; omega) (by omega) ?_
                     intro A7 c7 w9 fp7 o3 n3 s3 t3))
                have hgs := hgc.out.size
                have hbc := S.below 0 rfl t3 hgs
                have H := Lib.hid (S.merge t3 o3 n3 s3 hgs).first
                have C := Lib.hid (hgc.out.trans hbc)
                clear S c hbc o3 n3 s3 t3 hsr hgs hgc
                go_wp2
                go_ret2
                exact ⟨_, _, _, by rw [HD.out]; rfl, by rw [HD.out]; exact H.out, C.out⟩
              case true =>
                have HD := Lib.hid (show timerSetM l x y = (p, true) by unfold timerSetM; rw [if_pos HOK.out, if_pos (by rw [← HP.out, hok2]), ← HP.out])
                have H := Lib.hid S.first
                have C := Lib.hid c
                clear S c hok2
                go_wp2
                go_ret2
                exact ⟨_, _, _, by rw [HD.out]; rfl, by rw [HD.out]; exact H.out, C.out⟩

end Go.Proofs.Ythekcaahkokjfaa
