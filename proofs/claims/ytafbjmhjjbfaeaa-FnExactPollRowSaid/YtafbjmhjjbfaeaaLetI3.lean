/-
  Chapter 11: rows of messages, of the program (by program, wip/gen/genleti2.py).
-/
import Derived.Test.YtafbjmhjjbfaeaaLetI2
import Derived.RegionTactic
import Derived.BigQuiet
import Derived.Laws.EntriesVeiled
namespace Go.Proofs.Ytafbjmhjjbfaeaa
set_option maxRecDepth 100000
open Go.RowKit

set_option maxHeartbeats 6400000 in
theorem iLetRow_ask (x0 x1 x2 x3 x4 x5 x6 : Int) (w : World) :
    Calls Try.prog 35 #[.iface 107 (.agg #[.int .i64 x0, .int .i64 x1, .int .i64 x2, .int .i64 x3, .int .i64 x4, .int .i64 x5, .int .i64 x6])] w fun e w' => ∃ (A : Option Addr) (n c : Nat), e = .returned (.slice A n c) ∧ Has w' w.heap.size (rowCells (askRowM ⟨x0, x1, x2, x3, x4, x5, x6⟩)) [.slice A n c] ∧ Below w.heap.size w w' := by
  have hm1 : ∀ w9, (method 246 107 (.agg #[.int .i64 x0, .int .i64 x1, .int .i64 x2, .int .i64 x3, .int .i64 x4, .int .i64 x5, .int .i64 x6]) "loop.example/g00851/impl.fits").run Try.prog w9 = .ok (127, .agg #[.int .i64 x0, .int .i64 x1, .int .i64 x2, .int .i64 x3, .int .i64 x4, .int .i64 x5, .int .i64 x6]) w9 := fun _ => by kernel_rfl
  have hm2 : ∀ w9, (method 246 107 (.agg #[.int .i64 x0, .int .i64 x1, .int .i64 x2, .int .i64 x3, .int .i64 x4, .int .i64 x5, .int .i64 x6]) "loop.example/g00851/impl.fields").run Try.prog w9 = .ok (126, .agg #[.int .i64 x0, .int .i64 x1, .int .i64 x2, .int .i64 x3, .int .i64 x4, .int .i64 x5, .int .i64 x6]) w9 := fun _ => by kernel_rfl
  have S := Sep.nil w w.heap.size
  have c := Below.refl w.heap.size w
  go_enter Try.func35, Try.ntmps35
  go_wp2_with fail
  refine (iAskFits_any x0 x1 x2 x3 x4 x5 x6 _).mono ?_
  rintro e w1 ⟨rfl, b⟩
  replace c := c.trans (b.mono c.size)
  replace S := S.keep b
  clear b
  cases hok : askOkB ⟨x0, x1, x2, x3, x4, x5, x6⟩
  case false =>
    have HV := Lib.hid (show askRowM ⟨x0, x1, x2, x3, x4, x5, x6⟩ = [] by unfold askRowM; rw [hok]; rfl)
    have CC := Lib.hid c
    clear S c hok
    go_wp2
    go_ret
    exact ⟨_, _, _, rfl, by rw [HV.out]; exact has_nil_rowE _ _, CC.out⟩
  case true =>
    have HV := Lib.hid (show askRowM ⟨x0, x1, x2, x3, x4, x5, x6⟩ = [1] ++ askNs ⟨x0, x1, x2, x3, x4, x5, x6⟩ by unfold askRowM; rw [if_pos hok]; rfl)
    have HO := Lib.hid (show opB ⟨x2, x3, x4, x5, x6⟩ = true from askOk_op hok)
    clear hok
    go_wp2_with (first | (go_at_call 53; refine (iKind_ask _ _).mono ?_; rintro e w' ⟨rfl, rfl⟩))
    obtain ⟨fp_lit, S'⟩ := S.has ((Below.refl _ _).alloc (Nat.le_refl _) _) (show Has (w1.alloc (.cells #[.int .i64 1] 2)) w1.heap.size (rowCells [1]) [.slice (some ⟨w1.heap.size, 0, none⟩) 1 1] from has_lit w1 [1] (by simp)) c.size
    replace c := c.alloc c.size (.cells #[.int .i64 1] 2)
    clear S; have S := S'; clear S'
    generalize hw : w1.alloc (.cells #[.int .i64 1] 2) = w2 at *
    clear hw
    refine (iAskFields_any x0 x1 x2 x3 x4 x5 x6 _ HO.out).mono ?_
    rintro e w3 ⟨A2, n2, c2, rfl, o, b⟩
    obtain ⟨fp_u, S'⟩ := S.has b o c.size
    replace c := c.trans (b.mono c.size)
    clear S; have S := S'; clear S' o b
    have hsr := Rd.src (f := fun y : Int => [Dat.int y]) (g := fun y : Int => [y]) (l := askNs ⟨x0, x1, x2, x3, x4, x5, x6⟩) (e := 2) (k := 1) int_flat (fun _ => rfl) (by decide) (S.own_ 0 rfl).rd
    have hl2 : n2 ≤ 1000 := by have h9 := hsr.2; have h8 := (show (askNs ⟨x0, x1, x2, x3, x4, x5, x6⟩).length = 7 from rfl); omega
    replace S := S.pick 1 rfl
    replace S := (S.flat (f := fun y : Int => [Dat.int y]) (g := fun y : Int => [y]) int_flat (askNs ⟨x0, x1, x2, x3, x4, x5, x6⟩)).swap
    have hgc := Lib.hid c
    go_wp2_with (first
      | (at_builtin
         refine wpList_append_many (f := fun y : Int => [Dat.int y]) (k := 1) (l := [1]) (l2 := askNs ⟨x0, x1, x2, x3, x4, x5, x6⟩) rfl (.tmp 8) (.tmp 10) (by rfl) Try.underlying22 info64 (by rfl) (by decide) (fun _ => rfl) (by rfl) (S.own_ 0 rfl) (S.nodup_own 0 rfl) (by rfl) hsr.1 (S.own_ 1 rfl) hsr.2 (S.nodup_own 1 rfl) S.apart (by omega) (by omega) ?_
         intro A3 c3 w9 fp3 o3 n3 s3 t3))
    have S3 := S.merge t3 o3 n3 s3 hgc.out.size
    have C3 := Lib.hid (hgc.out.trans (S.below 0 rfl t3 hgc.out.size))
    have H := Lib.hid S3.first
    clear S c o3 n3 s3 t3 hgc hsr S3
    go_ret
    exact ⟨_, _, _, rfl, by rw [HV.out]; exact H.out, C3.out⟩

set_option maxHeartbeats 6400000 in
theorem iLetRow_ack (x0 x1 x2 x3 : Int) (w : World) :
    Calls Try.prog 35 #[.iface 109 (.agg #[.int .i64 x0, .int .i64 x1, .int .i64 x2, .int .i64 x3])] w fun e w' => ∃ (A : Option Addr) (n c : Nat), e = .returned (.slice A n c) ∧ Has w' w.heap.size (rowCells (ackRowM ⟨x0, x1, x2, x3⟩)) [.slice A n c] ∧ Below w.heap.size w w' := by
  have hm1 : ∀ w9, (method 246 109 (.agg #[.int .i64 x0, .int .i64 x1, .int .i64 x2, .int .i64 x3]) "loop.example/g00851/impl.fits").run Try.prog w9 = .ok (132, .agg #[.int .i64 x0, .int .i64 x1, .int .i64 x2, .int .i64 x3]) w9 := fun _ => by kernel_rfl
  have hm2 : ∀ w9, (method 246 109 (.agg #[.int .i64 x0, .int .i64 x1, .int .i64 x2, .int .i64 x3]) "loop.example/g00851/impl.fields").run Try.prog w9 = .ok (131, .agg #[.int .i64 x0, .int .i64 x1, .int .i64 x2, .int .i64 x3]) w9 := fun _ => by kernel_rfl
  have S := Sep.nil w w.heap.size
  have c := Below.refl w.heap.size w
  go_enter Try.func35, Try.ntmps35
  go_wp2_with fail
  refine (iAckFits_any x0 x1 x2 x3 _).mono ?_
  rintro e w1 ⟨rfl, b⟩
  replace c := c.trans (b.mono c.size)
  replace S := S.keep b
  clear b
  cases hok : ackOkB ⟨x0, x1, x2, x3⟩
  case false =>
    have HV := Lib.hid (show ackRowM ⟨x0, x1, x2, x3⟩ = [] by unfold ackRowM; rw [hok]; rfl)
    have CC := Lib.hid c
    clear S c hok
    go_wp2
    go_ret
    exact ⟨_, _, _, rfl, by rw [HV.out]; exact has_nil_rowE _ _, CC.out⟩
  case true =>
    have HV := Lib.hid (show ackRowM ⟨x0, x1, x2, x3⟩ = [2] ++ ackNs ⟨x0, x1, x2, x3⟩ by unfold ackRowM; rw [if_pos hok]; rfl)
    clear hok
    go_wp2_with (first | (go_at_call 53; refine (iKind_ack _ _).mono ?_; rintro e w' ⟨rfl, rfl⟩))
    obtain ⟨fp_lit, S'⟩ := S.has ((Below.refl _ _).alloc (Nat.le_refl _) _) (show Has (w1.alloc (.cells #[.int .i64 2] 2)) w1.heap.size (rowCells [2]) [.slice (some ⟨w1.heap.size, 0, none⟩) 1 1] from has_lit w1 [2] (by simp)) c.size
    replace c := c.alloc c.size (.cells #[.int .i64 2] 2)
    clear S; have S := S'; clear S'
    generalize hw : w1.alloc (.cells #[.int .i64 2] 2) = w2 at *
    clear hw
    refine (iAckFields_any x0 x1 x2 x3 _).mono ?_
    rintro e w3 ⟨A2, n2, c2, rfl, o, b⟩
    obtain ⟨fp_u, S'⟩ := S.has b o c.size
    replace c := c.trans (b.mono c.size)
    clear S; have S := S'; clear S' o b
    have hsr := Rd.src (f := fun y : Int => [Dat.int y]) (g := fun y : Int => [y]) (l := ackNs ⟨x0, x1, x2, x3⟩) (e := 2) (k := 1) int_flat (fun _ => rfl) (by decide) (S.own_ 0 rfl).rd
    have hl2 : n2 ≤ 1000 := by have h9 := hsr.2; have h8 := (show (ackNs ⟨x0, x1, x2, x3⟩).length = 4 from rfl); omega
    replace S := S.pick 1 rfl
    replace S := (S.flat (f := fun y : Int => [Dat.int y]) (g := fun y : Int => [y]) int_flat (ackNs ⟨x0, x1, x2, x3⟩)).swap
    have hgc := Lib.hid c
    go_wp2_with (first
      | (at_builtin
         refine wpList_append_many (f := fun y : Int => [Dat.int y]) (k := 1) (l := [2]) (l2 := ackNs ⟨x0, x1, x2, x3⟩) rfl (.tmp 8) (.tmp 10) (by rfl) Try.underlying22 info64 (by rfl) (by decide) (fun _ => rfl) (by rfl) (S.own_ 0 rfl) (S.nodup_own 0 rfl) (by rfl) hsr.1 (S.own_ 1 rfl) hsr.2 (S.nodup_own 1 rfl) S.apart (by omega) (by omega) ?_
         intro A3 c3 w9 fp3 o3 n3 s3 t3))
    have S3 := S.merge t3 o3 n3 s3 hgc.out.size
    have C3 := Lib.hid (hgc.out.trans (S.below 0 rfl t3 hgc.out.size))
    have H := Lib.hid S3.first
    clear S c o3 n3 s3 t3 hgc hsr S3
    go_ret
    exact ⟨_, _, _, rfl, by rw [HV.out]; exact H.out, C3.out⟩

set_option maxHeartbeats 6400000 in
theorem iLetRow_read (x0 x1 x2 x3 : Int) (w : World) :
    Calls Try.prog 35 #[.iface 113 (.agg #[.int .i64 x0, .int .i64 x1, .int .i64 x2, .int .i64 x3])] w fun e w' => ∃ (A : Option Addr) (n c : Nat), e = .returned (.slice A n c) ∧ Has w' w.heap.size (rowCells (readRowM ⟨x0, x1, x2, x3⟩)) [.slice A n c] ∧ Below w.heap.size w w' := by
  have hm1 : ∀ w9, (method 246 113 (.agg #[.int .i64 x0, .int .i64 x1, .int .i64 x2, .int .i64 x3]) "loop.example/g00851/impl.fits").run Try.prog w9 = .ok (138, .agg #[.int .i64 x0, .int .i64 x1, .int .i64 x2, .int .i64 x3]) w9 := fun _ => by kernel_rfl
  have hm2 : ∀ w9, (method 246 113 (.agg #[.int .i64 x0, .int .i64 x1, .int .i64 x2, .int .i64 x3]) "loop.example/g00851/impl.fields").run Try.prog w9 = .ok (137, .agg #[.int .i64 x0, .int .i64 x1, .int .i64 x2, .int .i64 x3]) w9 := fun _ => by kernel_rfl
  have S := Sep.nil w w.heap.size
  have c := Below.refl w.heap.size w
  go_enter Try.func35, Try.ntmps35
  go_wp2_with fail
  refine (iReadFits_any x0 x1 x2 x3 _).mono ?_
  rintro e w1 ⟨rfl, b⟩
  replace c := c.trans (b.mono c.size)
  replace S := S.keep b
  clear b
  cases hok : readOkB ⟨x0, x1, x2, x3⟩
  case false =>
    have HV := Lib.hid (show readRowM ⟨x0, x1, x2, x3⟩ = [] by unfold readRowM; rw [hok]; rfl)
    have CC := Lib.hid c
    clear S c hok
    go_wp2
    go_ret
    exact ⟨_, _, _, rfl, by rw [HV.out]; exact has_nil_rowE _ _, CC.out⟩
  case true =>
    have HV := Lib.hid (show readRowM ⟨x0, x1, x2, x3⟩ = [6] ++ readNs ⟨x0, x1, x2, x3⟩ by unfold readRowM; rw [if_pos hok]; rfl)
    clear hok
    go_wp2_with (first | (go_at_call 53; refine (iKind_read _ _).mono ?_; rintro e w' ⟨rfl, rfl⟩))
    obtain ⟨fp_lit, S'⟩ := S.has ((Below.refl _ _).alloc (Nat.le_refl _) _) (show Has (w1.alloc (.cells #[.int .i64 6] 2)) w1.heap.size (rowCells [6]) [.slice (some ⟨w1.heap.size, 0, none⟩) 1 1] from has_lit w1 [6] (by simp)) c.size
    replace c := c.alloc c.size (.cells #[.int .i64 6] 2)
    clear S; have S := S'; clear S'
    generalize hw : w1.alloc (.cells #[.int .i64 6] 2) = w2 at *
    clear hw
    refine (iReadFields_any x0 x1 x2 x3 _).mono ?_
    rintro e w3 ⟨A2, n2, c2, rfl, o, b⟩
    obtain ⟨fp_u, S'⟩ := S.has b o c.size
    replace c := c.trans (b.mono c.size)
    clear S; have S := S'; clear S' o b
    have hsr := Rd.src (f := fun y : Int => [Dat.int y]) (g := fun y : Int => [y]) (l := readNs ⟨x0, x1, x2, x3⟩) (e := 2) (k := 1) int_flat (fun _ => rfl) (by decide) (S.own_ 0 rfl).rd
    have hl2 : n2 ≤ 1000 := by have h9 := hsr.2; have h8 := (show (readNs ⟨x0, x1, x2, x3⟩).length = 4 from rfl); omega
    replace S := S.pick 1 rfl
    replace S := (S.flat (f := fun y : Int => [Dat.int y]) (g := fun y : Int => [y]) int_flat (readNs ⟨x0, x1, x2, x3⟩)).swap
    have hgc := Lib.hid c
    go_wp2_with (first
      | (at_builtin
         refine wpList_append_many (f := fun y : Int => [Dat.int y]) (k := 1) (l := [6]) (l2 := readNs ⟨x0, x1, x2, x3⟩) rfl (.tmp 8) (.tmp 10) (by rfl) Try.underlying22 info64 (by rfl) (by decide) (fun _ => rfl) (by rfl) (S.own_ 0 rfl) (S.nodup_own 0 rfl) (by rfl) hsr.1 (S.own_ 1 rfl) hsr.2 (S.nodup_own 1 rfl) S.apart (by omega) (by omega) ?_
         intro A3 c3 w9 fp3 o3 n3 s3 t3))
    have S3 := S.merge t3 o3 n3 s3 hgc.out.size
    have C3 := Lib.hid (hgc.out.trans (S.below 0 rfl t3 hgc.out.size))
    have H := Lib.hid S3.first
    clear S c o3 n3 s3 t3 hgc hsr S3
    go_ret
    exact ⟨_, _, _, rfl, by rw [HV.out]; exact H.out, C3.out⟩

set_option maxHeartbeats 6400000 in
theorem iLetRow_value (x0 x1 x2 x3 x4 : Int) (w : World) :
    Calls Try.prog 35 #[.iface 115 (.agg #[.int .i64 x0, .int .i64 x1, .int .i64 x2, .int .i64 x3, .int .i64 x4])] w fun e w' => ∃ (A : Option Addr) (n c : Nat), e = .returned (.slice A n c) ∧ Has w' w.heap.size (rowCells (valueRowM ⟨x0, x1, x2, x3, x4⟩)) [.slice A n c] ∧ Below w.heap.size w w' := by
  have hm1 : ∀ w9, (method 246 115 (.agg #[.int .i64 x0, .int .i64 x1, .int .i64 x2, .int .i64 x3, .int .i64 x4]) "loop.example/g00851/impl.fits").run Try.prog w9 = .ok (140, .agg #[.int .i64 x0, .int .i64 x1, .int .i64 x2, .int .i64 x3, .int .i64 x4]) w9 := fun _ => by kernel_rfl
  have hm2 : ∀ w9, (method 246 115 (.agg #[.int .i64 x0, .int .i64 x1, .int .i64 x2, .int .i64 x3, .int .i64 x4]) "loop.example/g00851/impl.fields").run Try.prog w9 = .ok (139, .agg #[.int .i64 x0, .int .i64 x1, .int .i64 x2, .int .i64 x3, .int .i64 x4]) w9 := fun _ => by kernel_rfl
  have S := Sep.nil w w.heap.size
  have c := Below.refl w.heap.size w
  go_enter Try.func35, Try.ntmps35
  go_wp2_with fail
  refine (iValueFits_any x0 x1 x2 x3 x4 _).mono ?_
  rintro e w1 ⟨rfl, b⟩
  replace c := c.trans (b.mono c.size)
  replace S := S.keep b
  clear b
  cases hok : valueOkB ⟨x0, x1, x2, x3, x4⟩
  case false =>
    have HV := Lib.hid (show valueRowM ⟨x0, x1, x2, x3, x4⟩ = [] by unfold valueRowM; rw [hok]; rfl)
    have CC := Lib.hid c
    clear S c hok
    go_wp2
    go_ret
    exact ⟨_, _, _, rfl, by rw [HV.out]; exact has_nil_rowE _ _, CC.out⟩
  case true =>
    have HV := Lib.hid (show valueRowM ⟨x0, x1, x2, x3, x4⟩ = [7] ++ valueNs ⟨x0, x1, x2, x3, x4⟩ by unfold valueRowM; rw [if_pos hok]; rfl)
    clear hok
    go_wp2_with (first | (go_at_call 53; refine (iKind_value _ _).mono ?_; rintro e w' ⟨rfl, rfl⟩))
    obtain ⟨fp_lit, S'⟩ := S.has ((Below.refl _ _).alloc (Nat.le_refl _) _) (show Has (w1.alloc (.cells #[.int .i64 7] 2)) w1.heap.size (rowCells [7]) [.slice (some ⟨w1.heap.size, 0, none⟩) 1 1] from has_lit w1 [7] (by simp)) c.size
    replace c := c.alloc c.size (.cells #[.int .i64 7] 2)
    clear S; have S := S'; clear S'
    generalize hw : w1.alloc (.cells #[.int .i64 7] 2) = w2 at *
    clear hw
    refine (iValueFields_any x0 x1 x2 x3 x4 _).mono ?_
    rintro e w3 ⟨A2, n2, c2, rfl, o, b⟩
    obtain ⟨fp_u, S'⟩ := S.has b o c.size
    replace c := c.trans (b.mono c.size)
    clear S; have S := S'; clear S' o b
    have hsr := Rd.src (f := fun y : Int => [Dat.int y]) (g := fun y : Int => [y]) (l := valueNs ⟨x0, x1, x2, x3, x4⟩) (e := 2) (k := 1) int_flat (fun _ => rfl) (by decide) (S.own_ 0 rfl).rd
    have hl2 : n2 ≤ 1000 := by have h9 := hsr.2; have h8 := (show (valueNs ⟨x0, x1, x2, x3, x4⟩).length = 5 from rfl); omega
    replace S := S.pick 1 rfl
    replace S := (S.flat (f := fun y : Int => [Dat.int y]) (g := fun y : Int => [y]) int_flat (valueNs ⟨x0, x1, x2, x3, x4⟩)).swap
    have hgc := Lib.hid c
    go_wp2_with (first
      | (at_builtin
         refine wpList_append_many (f := fun y : Int => [Dat.int y]) (k := 1) (l := [7]) (l2 := valueNs ⟨x0, x1, x2, x3, x4⟩) rfl (.tmp 8) (.tmp 10) (by rfl) Try.underlying22 info64 (by rfl) (by decide) (fun _ => rfl) (by rfl) (S.own_ 0 rfl) (S.nodup_own 0 rfl) (by rfl) hsr.1 (S.own_ 1 rfl) hsr.2 (S.nodup_own 1 rfl) S.apart (by omega) (by omega) ?_
         intro A3 c3 w9 fp3 o3 n3 s3 t3))
    have S3 := S.merge t3 o3 n3 s3 hgc.out.size
    have C3 := Lib.hid (hgc.out.trans (S.below 0 rfl t3 hgc.out.size))
    have H := Lib.hid S3.first
    clear S c o3 n3 s3 t3 hgc hsr S3
    go_ret
    exact ⟨_, _, _, rfl, by rw [HV.out]; exact H.out, C3.out⟩

set_option maxHeartbeats 6400000 in
theorem iLetRow_fetch (x : Int) (w : World) :
    Calls Try.prog 35 #[.iface 110 (.int .i64 x)] w fun e w' => ∃ (A : Option Addr) (n c : Nat), e = .returned (.slice A n c) ∧ Has w' w.heap.size (rowCells (fetchRowM x)) [.slice A n c] ∧ Below w.heap.size w w' := by
  have hm1 : ∀ w9, (method 246 110 (.int .i64 x) "loop.example/g00851/impl.fits").run Try.prog w9 = .ok (134, .int .i64 x) w9 := fun _ => by kernel_rfl
  have hm2 : ∀ w9, (method 246 110 (.int .i64 x) "loop.example/g00851/impl.fields").run Try.prog w9 = .ok (133, .int .i64 x) w9 := fun _ => by kernel_rfl
  have S := Sep.nil w w.heap.size
  have c := Below.refl w.heap.size w
  go_enter Try.func35, Try.ntmps35
  go_wp2_with fail
  refine (iFetchFits_any x _).mono ?_
  rintro e w1 ⟨rfl, b⟩
  replace c := c.trans (b.mono c.size)
  replace S := S.keep b
  clear b
  cases hok : inB x 1 2001
  case false =>
    have HV := Lib.hid (show fetchRowM x = [] by unfold fetchRowM; rw [hok]; rfl)
    have CC := Lib.hid c
    clear S c hok
    go_wp2
    go_ret
    exact ⟨_, _, _, rfl, by rw [HV.out]; exact has_nil_rowE _ _, CC.out⟩
  case true =>
    have HV := Lib.hid (show fetchRowM x = [3] ++ [x] by unfold fetchRowM; rw [if_pos hok]; rfl)
    clear hok
    go_wp2_with (first | (go_at_call 53; refine (iKind_fetch _ _).mono ?_; rintro e w' ⟨rfl, rfl⟩))
    obtain ⟨fp_lit, S'⟩ := S.has ((Below.refl _ _).alloc (Nat.le_refl _) _) (show Has (w1.alloc (.cells #[.int .i64 3] 2)) w1.heap.size (rowCells [3]) [.slice (some ⟨w1.heap.size, 0, none⟩) 1 1] from has_lit w1 [3] (by simp)) c.size
    replace c := c.alloc c.size (.cells #[.int .i64 3] 2)
    clear S; have S := S'; clear S'
    generalize hw : w1.alloc (.cells #[.int .i64 3] 2) = w2 at *
    clear hw
    refine (iFetchFields_any x _).mono ?_
    rintro e w3 ⟨A2, n2, c2, rfl, o, b⟩
    obtain ⟨fp_u, S'⟩ := S.has b o c.size
    replace c := c.trans (b.mono c.size)
    clear S; have S := S'; clear S' o b
    have hsr := Rd.src (f := fun y : Int => [Dat.int y]) (g := fun y : Int => [y]) (l := [x]) (e := 2) (k := 1) int_flat (fun _ => rfl) (by decide) (S.own_ 0 rfl).rd
    have hl2 : n2 ≤ 1000 := by have h9 := hsr.2; have h8 := (show [x].length = 1 from rfl); omega
    replace S := S.pick 1 rfl
    replace S := (S.flat (f := fun y : Int => [Dat.int y]) (g := fun y : Int => [y]) int_flat ([x])).swap
    have hgc := Lib.hid c
    go_wp2_with (first
      | (at_builtin
         refine wpList_append_many (f := fun y : Int => [Dat.int y]) (k := 1) (l := [3]) (l2 := [x]) rfl (.tmp 8) (.tmp 10) (by rfl) Try.underlying22 info64 (by rfl) (by decide) (fun _ => rfl) (by rfl) (S.own_ 0 rfl) (S.nodup_own 0 rfl) (by rfl) hsr.1 (S.own_ 1 rfl) hsr.2 (S.nodup_own 1 rfl) S.apart (by omega) (by omega) ?_
         intro A3 c3 w9 fp3 o3 n3 s3 t3))
    have S3 := S.merge t3 o3 n3 s3 hgc.out.size
    have C3 := Lib.hid (hgc.out.trans (S.below 0 rfl t3 hgc.out.size))
    have H := Lib.hid S3.first
    clear S c o3 n3 s3 t3 hgc hsr S3
    go_ret
    exact ⟨_, _, _, rfl, by rw [HV.out]; exact H.out, C3.out⟩

set_option maxHeartbeats 6400000 in
theorem iLetRow_trim (x : Int) (w : World) :
    Calls Try.prog 35 #[.iface 111 (.int .i64 x)] w fun e w' => ∃ (A : Option Addr) (n c : Nat), e = .returned (.slice A n c) ∧ Has w' w.heap.size (rowCells (trimRowM x)) [.slice A n c] ∧ Below w.heap.size w w' := by
  have hm1 : ∀ w9, (method 246 111 (.int .i64 x) "loop.example/g00851/impl.fits").run Try.prog w9 = .ok (136, .int .i64 x) w9 := fun _ => by kernel_rfl
  have hm2 : ∀ w9, (method 246 111 (.int .i64 x) "loop.example/g00851/impl.fields").run Try.prog w9 = .ok (135, .int .i64 x) w9 := fun _ => by kernel_rfl
  have S := Sep.nil w w.heap.size
  have c := Below.refl w.heap.size w
  go_enter Try.func35, Try.ntmps35
  go_wp2_with fail
  refine (iTrimFits_any x _).mono ?_
  rintro e w1 ⟨rfl, b⟩
  replace c := c.trans (b.mono c.size)
  replace S := S.keep b
  clear b
  cases hok : inB x 1 2000
  case false =>
    have HV := Lib.hid (show trimRowM x = [] by unfold trimRowM; rw [hok]; rfl)
    have CC := Lib.hid c
    clear S c hok
    go_wp2
    go_ret
    exact ⟨_, _, _, rfl, by rw [HV.out]; exact has_nil_rowE _ _, CC.out⟩
  case true =>
    have HV := Lib.hid (show trimRowM x = [5] ++ [x] by unfold trimRowM; rw [if_pos hok]; rfl)
    clear hok
    go_wp2_with (first | (go_at_call 53; refine (iKind_trim _ _).mono ?_; rintro e w' ⟨rfl, rfl⟩))
    obtain ⟨fp_lit, S'⟩ := S.has ((Below.refl _ _).alloc (Nat.le_refl _) _) (show Has (w1.alloc (.cells #[.int .i64 5] 2)) w1.heap.size (rowCells [5]) [.slice (some ⟨w1.heap.size, 0, none⟩) 1 1] from has_lit w1 [5] (by simp)) c.size
    replace c := c.alloc c.size (.cells #[.int .i64 5] 2)
    clear S; have S := S'; clear S'
    generalize hw : w1.alloc (.cells #[.int .i64 5] 2) = w2 at *
    clear hw
    refine (iTrimFields_any x _).mono ?_
    rintro e w3 ⟨A2, n2, c2, rfl, o, b⟩
    obtain ⟨fp_u, S'⟩ := S.has b o c.size
    replace c := c.trans (b.mono c.size)
    clear S; have S := S'; clear S' o b
    have hsr := Rd.src (f := fun y : Int => [Dat.int y]) (g := fun y : Int => [y]) (l := [x]) (e := 2) (k := 1) int_flat (fun _ => rfl) (by decide) (S.own_ 0 rfl).rd
    have hl2 : n2 ≤ 1000 := by have h9 := hsr.2; have h8 := (show [x].length = 1 from rfl); omega
    replace S := S.pick 1 rfl
    replace S := (S.flat (f := fun y : Int => [Dat.int y]) (g := fun y : Int => [y]) int_flat ([x])).swap
    have hgc := Lib.hid c
    go_wp2_with (first
      | (at_builtin
         refine wpList_append_many (f := fun y : Int => [Dat.int y]) (k := 1) (l := [5]) (l2 := [x]) rfl (.tmp 8) (.tmp 10) (by rfl) Try.underlying22 info64 (by rfl) (by decide) (fun _ => rfl) (by rfl) (S.own_ 0 rfl) (S.nodup_own 0 rfl) (by rfl) hsr.1 (S.own_ 1 rfl) hsr.2 (S.nodup_own 1 rfl) S.apart (by omega) (by omega) ?_
         intro A3 c3 w9 fp3 o3 n3 s3 t3))
    have S3 := S.merge t3 o3 n3 s3 hgc.out.size
    have C3 := Lib.hid (hgc.out.trans (S.below 0 rfl t3 hgc.out.size))
    have H := Lib.hid S3.first
    clear S c o3 n3 s3 t3 hgc hsr S3
    go_ret
    exact ⟨_, _, _, rfl, by rw [HV.out]; exact H.out, C3.out⟩

set_option maxHeartbeats 6400000 in
theorem iLetRow_poll (x : Int) (w : World) :
    Calls Try.prog 35 #[.iface 60 (.int .i64 x)] w fun e w' => ∃ (A : Option Addr) (n c : Nat), e = .returned (.slice A n c) ∧ Has w' w.heap.size (rowCells (pollRowM x)) [.slice A n c] ∧ Below w.heap.size w w' := by
  have hm1 : ∀ w9, (method 246 60 (.int .i64 x) "loop.example/g00851/impl.fits").run Try.prog w9 = .ok (125, .int .i64 x) w9 := fun _ => by kernel_rfl
  have hm2 : ∀ w9, (method 246 60 (.int .i64 x) "loop.example/g00851/impl.fields").run Try.prog w9 = .ok (124, .int .i64 x) w9 := fun _ => by kernel_rfl
  have S := Sep.nil w w.heap.size
  have c := Below.refl w.heap.size w
  go_enter Try.func35, Try.ntmps35
  go_wp2_with fail
  refine (iPollFits_any x _).mono ?_
  rintro e w1 ⟨rfl, b⟩
  replace c := c.trans (b.mono c.size)
  replace S := S.keep b
  clear b
  cases hok : schedB x
  case false =>
    have HV := Lib.hid (show pollRowM x = [] by unfold pollRowM; rw [hok]; rfl)
    have CC := Lib.hid c
    clear S c hok
    go_wp2
    go_ret
    exact ⟨_, _, _, rfl, by rw [HV.out]; exact has_nil_rowE _ _, CC.out⟩
  case true =>
    have HV := Lib.hid (show pollRowM x = [8] ++ [x] by unfold pollRowM; rw [if_pos hok]; rfl)
    clear hok
    go_wp2_with (first | (go_at_call 53; refine (iKind_poll _ _).mono ?_; rintro e w' ⟨rfl, rfl⟩))
    obtain ⟨fp_lit, S'⟩ := S.has ((Below.refl _ _).alloc (Nat.le_refl _) _) (show Has (w1.alloc (.cells #[.int .i64 8] 2)) w1.heap.size (rowCells [8]) [.slice (some ⟨w1.heap.size, 0, none⟩) 1 1] from has_lit w1 [8] (by simp)) c.size
    replace c := c.alloc c.size (.cells #[.int .i64 8] 2)
    clear S; have S := S'; clear S'
    generalize hw : w1.alloc (.cells #[.int .i64 8] 2) = w2 at *
    clear hw
    refine (iPollFields_any x _).mono ?_
    rintro e w3 ⟨A2, n2, c2, rfl, o, b⟩
    obtain ⟨fp_u, S'⟩ := S.has b o c.size
    replace c := c.trans (b.mono c.size)
    clear S; have S := S'; clear S' o b
    have hsr := Rd.src (f := fun y : Int => [Dat.int y]) (g := fun y : Int => [y]) (l := [x]) (e := 2) (k := 1) int_flat (fun _ => rfl) (by decide) (S.own_ 0 rfl).rd
    have hl2 : n2 ≤ 1000 := by have h9 := hsr.2; have h8 := (show [x].length = 1 from rfl); omega
    replace S := S.pick 1 rfl
    replace S := (S.flat (f := fun y : Int => [Dat.int y]) (g := fun y : Int => [y]) int_flat ([x])).swap
    have hgc := Lib.hid c
    go_wp2_with (first
      | (at_builtin
         refine wpList_append_many (f := fun y : Int => [Dat.int y]) (k := 1) (l := [8]) (l2 := [x]) rfl (.tmp 8) (.tmp 10) (by rfl) Try.underlying22 info64 (by rfl) (by decide) (fun _ => rfl) (by rfl) (S.own_ 0 rfl) (S.nodup_own 0 rfl) (by rfl) hsr.1 (S.own_ 1 rfl) hsr.2 (S.nodup_own 1 rfl) S.apart (by omega) (by omega) ?_
         intro A3 c3 w9 fp3 o3 n3 s3 t3))
    have S3 := S.merge t3 o3 n3 s3 hgc.out.size
    have C3 := Lib.hid (hgc.out.trans (S.below 0 rfl t3 hgc.out.size))
    have H := Lib.hid S3.first
    clear S c o3 n3 s3 t3 hgc hsr S3
    go_ret
    exact ⟨_, _, _, rfl, by rw [HV.out]; exact H.out, C3.out⟩

theorem iPollRow_any (x : Int) (w : World) :
    Calls Try.prog 10 #[.int .i64 x] w fun e w' => ∃ (A : Option Addr) (n c : Nat), e = .returned (.slice A n c) ∧ Has w' w.heap.size (rowCells (pollRowM x)) [.slice A n c] ∧ Below w.heap.size w w' := by
  go_enter Try.func10, Try.ntmps10
  go_wp2_with fail
  refine (iLetRow_poll x _).mono ?_
  rintro e w' ⟨A, n, c, rfl, o, b⟩
  have H := Lib.hid o
  have CC := Lib.hid b
  clear o b
  go_wp2
  go_ret
  exact ⟨_, _, _, rfl, H.out, CC.out⟩


end Go.Proofs.Ytafbjmhjjbfaeaa
