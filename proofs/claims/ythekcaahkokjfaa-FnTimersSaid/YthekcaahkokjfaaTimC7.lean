/-
  Chapter 6: timers without one id, of the model and of the program (by program, wip/gen/gentimg.py).
-/
import Derived.Test.YthekcaahkokjfaaTimC4
import Derived.Test.YthekcaahkokjfaaMove
import Derived.RegionTactic
import Derived.BigQuiet
import Derived.Laws.EntriesVeiled
import Derived.Laws.MakeOwn
namespace Go.Proofs.Ythekcaahkokjfaa
set_option maxRecDepth 100000
open Go.RowKit

/-- 'make([]T, 0, n)', n a variable, T of k cells. -/
theorem run_make0 {P : Program} (t e : TypeId) (z : Value) (zc : Array Value) (k bytes : Nat) (ht : P.underlying t = some (.slice e)) (hinfo : (P.info? e).map (fun i => (i.zero, i.size, i.bytes)) = some (some z, k, bytes)) (hz1 : z.cells = zc)
    (kl kc : IntKind) (n : Nat) (hbytes : bytes * n ≤ 281474976710656) (h63 : n ≤ 9223372036854775807) (w : World) :
    (Instr.makeSlice t (.int kl 0) (.int kc (n : Int))).run P w = .ok (.slice (some ⟨w.heap.size, 0, none⟩) 0 n) (w.alloc (.cells (madeCells zc (n * k)) e)) := by
  obtain ⟨i, hi, hzz⟩ := Option.map_eq_some_iff.1 hinfo
  simp only [Prod.mk.injEq] at hzz
  obtain ⟨hz, hs, hb⟩ := hzz
  have hb' : (i.bytes : Int) * (n : Int) ≤ 281474976710656 := by
    have h : ((i.bytes * n : Nat) : Int) ≤ 281474976710656 := by rw [hb]; omega
    rwa [Int.natCast_mul] at h
  have hr := run_make (P := P) w t e i z ht hi hz kl kc 0 n (Int.le_refl _) (by omega) hb' (by omega)
  simp only [Int.toNat_zero, Int.toNat_natCast, hs, hz1] at hr
  exact hr

theorem Sep.made0 {α : Type} {w : World} {base : Nat} {is : List Item} {e : TypeId} {k : Nat} {f : α → List Dat} {zc : Array Value} (h : Sep w base is) (hle : base ≤ w.heap.size) (n : Nat) (hm : n ≤ maxLen) {p : Nat} (hp : w.heap.size = p) :
    Sep (w.alloc (.cells (madeCells zc (n * k)) e)) base (.own [lst e k f []] [.slice (some ⟨p, 0, none⟩) 0 n] [p] :: is) := by
  subst hp
  have h1 := World.ownsRow_made (e := e) (size := k) (base := 0) w (madeCells zc (n * k)) n (Nat.zero_le _) hm (size_madeCells _ _)
  have o : Ow (w.alloc (.cells (madeCells zc (n * k)) e)) [lst e k f []] [.slice (some ⟨w.heap.size, 0, none⟩) 0 n] [w.heap.size] := by
    have := Ow.of_lst (e := e) (k := k) (f := f) (l := []) h1 .nil
    simpa [Value.ownBlock] using this
  refine (h.keep ((Below.refl _ _).alloc (Nat.le_refl _) _)).addAt o ?_ (by simp; exact hle)
  rw [List.singleton_append, List.nodup_cons]
  exact ⟨fun hm => absurd (h.lt _ hm) (Nat.lt_irrefl _), h.nodup⟩

set_option maxHeartbeats 6400000 in
theorem sOff_any (A : Option Addr) (n cc B : Nat) (l : List TimerM) (x : Int) (w : World) (h : Rd w B [timerD l] [.slice A n cc]) (hB : B ≤ w.heap.size) (hs : timerSz l ≤ 1048577) :
    Calls Try.prog 71 #[.slice A n cc, .int .i64 x] w (MadeTimerS w (offM l x)) := by
  obtain ⟨_, _, _, e, hl, _, hcm, hel⟩ := h.timers
  injection e with e1 e2 e3
  subst e1 e2 e3
  have HL := Lib.hid hl
  have hn : n ≤ 1048577 := by unfold timerSz at hs; omega
  clear h hl hs hcm
  have S0 := Lib.hid ((Sep.nil (w.alloc (.cells #[] 64)) w.heap.size).addAt (ow_empty (e := 64) (k := 2) (f := timerC) w) (by simp [foots]) (by simp))
  have B0 := Lib.hid ((Below.refl w.heap.size w).alloc (Nat.le_refl _) (.cells #[] 64))
  go_enter Try.func71, Try.ntmps71
  go_wp2
  go_loopw [5, 6] (fun u i wr => ∃ (j : Nat) (G : Option Addr) (m gc : Nat) (fp : List Nat), j ≤ n ∧ i = .int .i64 (j : Int) ∧ u = .slice G m gc ∧ m ≤ j ∧ Sep wr w.heap.size [.own [timerD (offN l x j)] [.slice G m gc] fp] ∧ Below w.heap.size w wr) (fun _ i _ => n - (intOf i).toNat)
  case atStart => exact ⟨0, _, _, _, _, Nat.zero_le _, rfl, rfl, Nat.le_refl _, S0.out, B0.out⟩
  case round =>
    obtain ⟨j, G, m, gc, fp, hj, rfl, rfl, hm, S, c⟩ := hrel
    clear S0 B0
    by_cases hlt : j < n
    · obtain ⟨b, off, rfl, hb, hc⟩ := hel (by omega)
      have hjl : j < l.length := by have := HL.out; omega
      obtain ⟨hc0, hc1⟩ := hc j hjl
      have cs0 := (c.cell (p := ⟨b, off + j * 2, none⟩) (show b < _ by omega)).trans hc0
      have cs1 := (c.cell (p := ⟨b, off + j * 2 + 1, none⟩) (show b < _ by omega)).trans hc1
      obtain ⟨x0, hx0⟩ : ∃ q, q = l[j].tid := ⟨_, rfl⟩
      obtain ⟨x1, hx1⟩ : ∃ q, q = l[j].due := ⟨_, rfl⟩
      rw [← hx0] at cs0
      rw [← hx1] at cs1
      have hmk : l[j] = ⟨x0, x1⟩ := by rw [hx0, hx1]
      have HM := Lib.hid hmk
      have HA := Lib.hid (fun h : ¬ x0 = x => offN_yes (i := x) hjl (by rw [hmk]; exact h))
      have HB := Lib.hid (fun h : x0 = x => offN_no (i := x) hjl (by rw [hmk]; exact h))
      have zb := c.size
      clear hx0 hx1 hmk hc hc0 hc1 hel
      by_cases hd : x0 = x
      case pos =>
        have HN := Lib.hid (HB.out hd)
        subst hd
        have SS := Lib.hid S
        have CC := Lib.hid c
        clear S c
        go_wp2
        go_roundw
        case rel => exact ⟨j + 1, G, m, gc, fp, by omega, by go_num, rfl, by omega, by rw [HN.out]; exact SS.out, CC.out⟩
        case measure => simp [intOf]; omega
      case neg =>
        have HN := Lib.hid (show offN l x (j + 1) = offN l x j ++ [⟨x0, x1⟩] by rw [HA.out hd, HM.out])
        replace S := S.boxAt c.size (wr.heap.size) rfl #[.int .i64 x0, .int .i64 x1] 64
        replace c := c.alloc c.size (.cells #[.int .i64 x0, .int .i64 x1] 64)
        have HC : ∀ i, i < 2 → (wr.alloc (.cells #[.int .i64 x0, .int .i64 x1] 64)).cell? ⟨wr.heap.size, i, none⟩ = [Value.int .i64 x0, Value.int .i64 x1][i]? := fun i hi => by
          have h1 := (S.at_ 0 rfl).cell i
          rw [h1]
          simp
        replace S := (S.tail).own0 (ds := timerC ⟨x0, x1⟩) (vs := [.int .i64 x0, .int .i64 x1]) (.int (.int .nil))
        replace S := S.swap
        have hgc := Lib.hid c
        go_wp2_with (first
          | (at_builtin
             refine wpList_append_elem (l := offN l x j) (y := (⟨x0, x1⟩ : TimerM)) rfl (.tmp 21) (.tmp 26) (by rfl) Try.underlying33 infoTimer (by rfl) (by decide) timerC_len (by rfl) (S.own_ 0 rfl) (S.nodup_own 0 rfl) (by rfl) HC (S.own_ 1 rfl) (S.nodup_own 1 rfl) S.apart (by omega) (by omega) ?_
             intro A3 c3 w3 fp3 o3 n3 s3 t3))
        have S3 := Lib.hid (S.merge t3 o3 n3 s3 hgc.out.size)
        have C3 := Lib.hid (hgc.out.trans (S.below 0 rfl t3 hgc.out.size))
        clear S c o3 n3 s3 t3 HC hgc
        go_roundw
        case rel => exact ⟨j + 1, A3, m + 1, c3, fp3, by omega, by go_num, rfl, by omega, by rw [HN.out]; exact S3.out, C3.out⟩
        case measure => simp [intOf]; omega
    · have e : offN l x j = offM l x := by
        have : j = l.length := by have := HL.out; omega
        rw [this, offN_all]
      rw [e] at S
      have H := Lib.hid S.first
      have C := Lib.hid c
      clear hel S c e
      go_wp2
      go_ret
      exact ⟨_, _, _, rfl, H.out, C.out⟩

set_option maxHeartbeats 6400000 in
theorem iOff_any (A : Option Addr) (n cc B : Nat) (l : List TimerM) (x : Int) (w : World) (h : Rd w B [timerD l] [.slice A n cc]) (hB : B ≤ w.heap.size) (hs : timerSz l ≤ 1048577) :
    Calls Try.prog 56 #[.agg #[.slice A n cc, .func (.func 72) #[] #[], .func (.func 73) #[] #[]], .int .i64 x] w (MadeTimerS w (offM l x)) := by
  obtain ⟨_, _, _, e, hl, _, hcm, hel⟩ := h.timers
  injection e with e1 e2 e3
  subst e1 e2 e3
  have HL := Lib.hid hl
  have hn : n ≤ 1048577 := by unfold timerSz at hs; omega
  clear h hl hs hcm
  have S := (Sep.nil w w.heap.size).boxAt (Nat.le_refl _) w.heap.size rfl #[.slice A n cc, .func (.func 72) #[] #[], .func (.func 73) #[] #[]] 60
  have c := (Below.refl w.heap.size w).alloc (Nat.le_refl _) (.cells #[.slice A n cc, .func (.func 72) #[] #[], .func (.func 73) #[] #[]] 60)
  have hmk := run_make0 (P := Try.prog) 33 64 (.agg #[.int .i64 0, .int .i64 0]) #[.int .i64 0, .int .i64 0] 2 16 Try.underlying33 infoTimer rfl .i64 .i64 n (by omega) (by omega) (w.alloc (.cells #[.slice A n cc, .func (.func 72) #[] #[], .func (.func 73) #[] #[]] 60))
  rw [show (w.alloc (.cells #[.slice A n cc, .func (.func 72) #[] #[], .func (.func 73) #[] #[]] 60)).heap.size = w.heap.size + 1 by simp] at hmk
  have S0 := Lib.hid (S.made0 (e := 64) (f := timerC) (k := 2) (zc := #[.int .i64 0, .int .i64 0]) c.size n (by simp only [maxLen]; omega) (p := w.heap.size + 1) (by simp))
  have B0 := Lib.hid (c.alloc c.size (.cells (madeCells #[.int .i64 0, .int .i64 0] (n * 2)) 64))
  have e0 : (w.alloc (.cells #[.slice A n cc, .func (.func 72) #[] #[], .func (.func 73) #[] #[]] 60)).cell? ⟨w.heap.size, 0, none⟩ = some (.slice A n cc) := (S.at_ 0 rfl).cell 0
  have e1 : ((w.alloc (.cells #[.slice A n cc, .func (.func 72) #[] #[], .func (.func 73) #[] #[]] 60)).alloc (.cells (madeCells #[.int .i64 0, .int .i64 0] (n * 2)) 64)).cell? ⟨w.heap.size, 0, none⟩ = some (.slice A n cc) := (S0.out.at_ 1 rfl).cell 0
  clear S c
  go_enter Try.func56, Try.ntmps56
  go_wp2
  go_loopw [5, 15] (fun u i wr => ∃ (j : Nat) (G : Option Addr) (m gc : Nat) (fp : List Nat), j ≤ n ∧ i = .int .i64 (j : Int) ∧ u = .slice G m gc ∧ m ≤ j ∧ Sep wr w.heap.size [.own [timerD (offN l x j)] [.slice G m gc] fp, .blk w.heap.size #[.slice A n cc, .func (.func 72) #[] #[], .func (.func 73) #[] #[]] 60] ∧ Below w.heap.size w wr) (fun _ i _ => n - (intOf i).toNat)
  case atStart => exact ⟨0, _, _, _, _, Nat.zero_le _, rfl, rfl, Nat.le_refl _, S0.out, B0.out⟩
  case round =>
    obtain ⟨j, G, m, gc, fp, hj, rfl, rfl, hm, S, c⟩ := hrel
    clear S0 B0 e0 e1 hmk
    by_cases hlt : j < n
    · obtain ⟨b, off, rfl, hb, hc⟩ := hel (by omega)
      have hjl : j < l.length := by have := HL.out; omega
      obtain ⟨hc0, hc1⟩ := hc j hjl
      have cs0 := (c.cell (p := ⟨b, off + j * 2, none⟩) (show b < _ by omega)).trans hc0
      have cs1 := (c.cell (p := ⟨b, off + j * 2 + 1, none⟩) (show b < _ by omega)).trans hc1
      obtain ⟨x0, hx0⟩ : ∃ q, q = l[j].tid := ⟨_, rfl⟩
      obtain ⟨x1, hx1⟩ : ∃ q, q = l[j].due := ⟨_, rfl⟩
      rw [← hx0] at cs0
      rw [← hx1] at cs1
      have hmk : l[j] = ⟨x0, x1⟩ := by rw [hx0, hx1]
      have HM := Lib.hid hmk
      have HA := Lib.hid (fun h : ¬ x0 = x => offN_yes (i := x) hjl (by rw [hmk]; exact h))
      have HB := Lib.hid (fun h : x0 = x => offN_no (i := x) hjl (by rw [hmk]; exact h))
      have zb := c.size
      have k1 : wr.cell? ⟨w.heap.size, 1, none⟩ = some (.func (.func 72) #[] #[]) := (S.at_ 1 rfl).cell 1
      replace S := S.boxAt c.size wr.heap.size rfl #[.int .i64 x0, .int .i64 x1] 64
      replace c := c.alloc c.size (.cells #[.int .i64 x0, .int .i64 x1] 64)
      have hlt1 : w.heap.size < wr.heap.size := lt_of_cell k1
      have k2 : (wr.alloc (.cells #[.int .i64 x0, .int .i64 x1] 64)).cell? ⟨w.heap.size, 1, none⟩ = some (.func (.func 72) #[] #[]) := (S.at_ 2 rfl).cell 1
      clear hx0 hx1 hmk hc hc0 hc1 hel
      go_wp2_with fail
      generalize wr.alloc (.cells #[.int .i64 x0, .int .i64 x1] 64) = w1 at *
      refine (iIdOf_any x0 x1 _).mono ?_
      rintro e w2 ⟨rfl, b2⟩
      have q0 : w2.cell? ⟨wr.heap.size, 0, none⟩ = some (.int .i64 x0) := (b2.cell (p := ⟨wr.heap.size, 0, none⟩) (S.at_ 0 rfl).lt).trans ((S.at_ 0 rfl).cell 0)
      have q1 : w2.cell? ⟨wr.heap.size, 1, none⟩ = some (.int .i64 x1) := (b2.cell (p := ⟨wr.heap.size, 1, none⟩) (S.at_ 0 rfl).lt).trans ((S.at_ 0 rfl).cell 1)
      replace c := c.trans (b2.mono c.size)
      replace S := (S.tail).keep b2
      clear b2 cs0 cs1 k1 k2
      by_cases hd : x0 = x
      case pos =>
        have HN := Lib.hid (HB.out hd)
        subst hd
        have SS := Lib.hid S
        have CC := Lib.hid c
        clear S c
        go_wp2
        go_roundw
        case rel => exact ⟨j + 1, G, m, gc, fp, by omega, by go_num, rfl, by omega, by rw [HN.out]; exact SS.out, CC.out⟩
        case measure => simp [intOf]; omega
      case neg =>
        have HN := Lib.hid (show offN l x (j + 1) = offN l x j ++ [⟨x0, x1⟩] by rw [HA.out hd, HM.out])
        replace S := S.boxAt c.size (w2.heap.size) rfl #[.int .i64 x0, .int .i64 x1] 64
        replace c := c.alloc c.size (.cells #[.int .i64 x0, .int .i64 x1] 64)
        have HC : ∀ i, i < 2 → (w2.alloc (.cells #[.int .i64 x0, .int .i64 x1] 64)).cell? ⟨w2.heap.size, i, none⟩ = [Value.int .i64 x0, Value.int .i64 x1][i]? := fun i hi => by
          have h1 := (S.at_ 0 rfl).cell i
          rw [h1]
          simp
        replace S := (S.tail).own0 (ds := timerC ⟨x0, x1⟩) (vs := [.int .i64 x0, .int .i64 x1]) (.int (.int .nil))
        replace S := S.swap
        have hgc := Lib.hid c
        go_wp2_with (first
          | (at_builtin
             refine wpList_append_elem (l := offN l x j) (y := (⟨x0, x1⟩ : TimerM)) rfl (.tmp 25) (.tmp 27) (by rfl) Try.underlying33 infoTimer (by rfl) (by decide) timerC_len (by rfl) (S.own_ 0 rfl) (S.nodup_own 0 rfl) (by rfl) HC (S.own_ 1 rfl) (S.nodup_own 1 rfl) S.apart (by omega) (by omega) ?_
             intro A3 c3 w3 fp3 o3 n3 s3 t3))
        have S3 := Lib.hid (S.merge t3 o3 n3 s3 hgc.out.size)
        have C3 := Lib.hid (hgc.out.trans (S.below 0 rfl t3 hgc.out.size))
        clear S c o3 n3 s3 t3 HC hgc
        go_roundw
        case rel => exact ⟨j + 1, A3, m + 1, c3, fp3, by omega, by go_num, rfl, by omega, by rw [HN.out]; exact S3.out, C3.out⟩
        case measure => simp [intOf]; omega
    · have e : offN l x j = offM l x := by
        have : j = l.length := by have := HL.out; omega
        rw [this, offN_all]
      rw [e] at S
      have H := Lib.hid S.first
      have C := Lib.hid c
      clear hel S c e
      go_wp2
      go_ret
      exact ⟨_, _, _, rfl, H.out, C.out⟩

end Go.Proofs.Ythekcaahkokjfaa
