/-
  Chapter 11: RowPoll of the program (by program, wip/gen/genleti7.py).
-/
import Derived.Test.YtafbjmhjjbfaeaaLetI6
import Derived.RegionTactic
import Derived.BigQuiet
import Derived.Laws.EntriesVeiled
namespace Go.Proofs.Ytafbjmhjjbfaeaa
set_option maxRecDepth 100000
open Go.RowKit

set_option linter.unusedVariables false
set_option linter.unusedSimpArgs false
set_option maxHeartbeats 12800000 in
theorem iRowPoll_at (A : Option Addr) (n c : Nat) (d0 : List Int) (w : World) (h : Rd w w.heap.size (rowCells d0) [.slice A n c]) (hs : d0.length ≤ 1048576) :
    Calls Try.prog 16 #[.slice A n c] w fun e w' => e = .returned (.tuple #[.int .i64 (rowPollM d0).1, .bool (rowPollM d0).2]) ∧ Below w.heap.size w w' := by
  obtain ⟨_, _, _, e, hi, hnc, hcm⟩ := h.irow
  injection e with e1 e2 e3
  subst e1 e2 e3
  have hn : n ≤ 1048577 := by have := hi.1; omega
  have HI := Lib.hid hi
  rw [rowPoll_in d0]
  have hnc2 := hnc
  obtain ⟨cc, hcc⟩ : ∃ q, q = c := ⟨_, rfl⟩
  rw [← hcc] at hnc hcm ⊢
  clear h hs hi hnc2 hcc c
  have S := Sep.nil w w.heap.size
  have c := Below.refl w.heap.size w
  go_enter Try.func16, Try.ntmps16
  go_wp2_with fail
  refine (iLetIn_any A n cc w.heap.size d0 _ (HI.out.below c) c.size hn hnc hcm).mono ?_
  rintro e w1 ⟨v, rfl, hv, b⟩
  clear hn hnc hcm
  rcases ho : letInM d0 with _ | m
  · rw [ho] at hv
    have HEO := Lib.hid ho
    clear ho
    have hv' : v = .nilIface := hv
    subst hv'
    clear hv
    have q1 : ∀ w9, (Instr.typeAssert (.nilIface) 64 60 true).run Try.prog w9 = .ok (.tuple #[.int .i64 0, .bool false]) w9 := fun _ => by kernel_rfl
    replace c := c.trans (b.mono c.size)
    replace S := S.keep b
    clear b
    have CC := Lib.hid c
    clear S c
    go_wp2
    exact bodyPost_ret (v := .tuple #[.int .i64 0, .bool false]) (by simp [results, Try.results16, go_sem]) rfl ⟨by rw [HEO.out] <;> rfl, CC.out⟩
  · rcases m with a | a | a | a | a | a | a | a | a
    · rw [ho] at hv
      have HEO := Lib.hid ho
      clear ho
      obtain ⟨u, hu⟩ : ∃ u, v = .iface 107 u := ⟨_, hv⟩
      subst hu
      clear hv
      have q1 : ∀ w9, (Instr.typeAssert (.iface 107 u) 64 60 true).run Try.prog w9 = .ok (.tuple #[.int .i64 0, .bool false]) w9 := fun _ => by kernel_rfl
      replace c := c.trans (b.mono c.size)
      replace S := S.keep b
      clear b
      have CC := Lib.hid c
      clear S c
      go_wp2
      exact bodyPost_ret (v := .tuple #[.int .i64 0, .bool false]) (by simp [results, Try.results16, go_sem]) rfl ⟨by rw [HEO.out] <;> rfl, CC.out⟩
    · rw [ho] at hv
      have HEO := Lib.hid ho
      clear ho
      obtain ⟨u, hu⟩ : ∃ u, v = .iface 109 u := ⟨_, hv⟩
      subst hu
      clear hv
      have q1 : ∀ w9, (Instr.typeAssert (.iface 109 u) 64 60 true).run Try.prog w9 = .ok (.tuple #[.int .i64 0, .bool false]) w9 := fun _ => by kernel_rfl
      replace c := c.trans (b.mono c.size)
      replace S := S.keep b
      clear b
      have CC := Lib.hid c
      clear S c
      go_wp2
      exact bodyPost_ret (v := .tuple #[.int .i64 0, .bool false]) (by simp [results, Try.results16, go_sem]) rfl ⟨by rw [HEO.out] <;> rfl, CC.out⟩
    · rw [ho] at hv
      have HEO := Lib.hid ho
      clear ho
      obtain ⟨u, hu⟩ : ∃ u, v = .iface 110 u := ⟨_, hv⟩
      subst hu
      clear hv
      have q1 : ∀ w9, (Instr.typeAssert (.iface 110 u) 64 60 true).run Try.prog w9 = .ok (.tuple #[.int .i64 0, .bool false]) w9 := fun _ => by kernel_rfl
      replace c := c.trans (b.mono c.size)
      replace S := S.keep b
      clear b
      have CC := Lib.hid c
      clear S c
      go_wp2
      exact bodyPost_ret (v := .tuple #[.int .i64 0, .bool false]) (by simp [results, Try.results16, go_sem]) rfl ⟨by rw [HEO.out] <;> rfl, CC.out⟩
    · rw [ho] at hv
      have HEO := Lib.hid ho
      clear ho
      obtain ⟨_, _, _, hv, _⟩ := hv
      obtain ⟨u, hu⟩ : ∃ u, v = .iface 38 u := ⟨_, hv⟩
      subst hu
      clear hv
      have q1 : ∀ w9, (Instr.typeAssert (.iface 38 u) 64 60 true).run Try.prog w9 = .ok (.tuple #[.int .i64 0, .bool false]) w9 := fun _ => by kernel_rfl
      replace c := c.trans (b.mono c.size)
      replace S := S.keep b
      clear b
      have CC := Lib.hid c
      clear S c
      go_wp2
      exact bodyPost_ret (v := .tuple #[.int .i64 0, .bool false]) (by simp [results, Try.results16, go_sem]) rfl ⟨by rw [HEO.out] <;> rfl, CC.out⟩
    · rw [ho] at hv
      have HEO := Lib.hid ho
      clear ho
      obtain ⟨u, hu⟩ : ∃ u, v = .iface 111 u := ⟨_, hv⟩
      subst hu
      clear hv
      have q1 : ∀ w9, (Instr.typeAssert (.iface 111 u) 64 60 true).run Try.prog w9 = .ok (.tuple #[.int .i64 0, .bool false]) w9 := fun _ => by kernel_rfl
      replace c := c.trans (b.mono c.size)
      replace S := S.keep b
      clear b
      have CC := Lib.hid c
      clear S c
      go_wp2
      exact bodyPost_ret (v := .tuple #[.int .i64 0, .bool false]) (by simp [results, Try.results16, go_sem]) rfl ⟨by rw [HEO.out] <;> rfl, CC.out⟩
    · rw [ho] at hv
      have HEO := Lib.hid ho
      clear ho
      obtain ⟨u, hu⟩ : ∃ u, v = .iface 113 u := ⟨_, hv⟩
      subst hu
      clear hv
      have q1 : ∀ w9, (Instr.typeAssert (.iface 113 u) 64 60 true).run Try.prog w9 = .ok (.tuple #[.int .i64 0, .bool false]) w9 := fun _ => by kernel_rfl
      replace c := c.trans (b.mono c.size)
      replace S := S.keep b
      clear b
      have CC := Lib.hid c
      clear S c
      go_wp2
      exact bodyPost_ret (v := .tuple #[.int .i64 0, .bool false]) (by simp [results, Try.results16, go_sem]) rfl ⟨by rw [HEO.out] <;> rfl, CC.out⟩
    · rw [ho] at hv
      have HEO := Lib.hid ho
      clear ho
      obtain ⟨u, hu⟩ : ∃ u, v = .iface 115 u := ⟨_, hv⟩
      subst hu
      clear hv
      have q1 : ∀ w9, (Instr.typeAssert (.iface 115 u) 64 60 true).run Try.prog w9 = .ok (.tuple #[.int .i64 0, .bool false]) w9 := fun _ => by kernel_rfl
      replace c := c.trans (b.mono c.size)
      replace S := S.keep b
      clear b
      have CC := Lib.hid c
      clear S c
      go_wp2
      exact bodyPost_ret (v := .tuple #[.int .i64 0, .bool false]) (by simp [results, Try.results16, go_sem]) rfl ⟨by rw [HEO.out] <;> rfl, CC.out⟩
    · rw [ho] at hv
      have HEO := Lib.hid ho
      clear ho
      have hv' : v = .iface 60 (.int .i64 a) := hv
      subst hv'
      clear hv
      have q1 : ∀ w9, (Instr.typeAssert (.iface 60 (.int .i64 a)) 64 60 true).run Try.prog w9 = .ok (.tuple #[.int .i64 a, .bool true]) w9 := fun _ => by kernel_rfl
      replace c := c.trans (b.mono c.size)
      replace S := S.keep b
      clear b
      have CC := Lib.hid c
      clear S c
      go_wp2
      exact bodyPost_ret (v := .tuple #[.int .i64 a, .bool true]) (by simp [results, Try.results16, go_sem]) rfl ⟨by rw [HEO.out] <;> rfl, CC.out⟩
    · rw [ho] at hv
      have HEO := Lib.hid ho
      clear ho
      obtain ⟨_, _, _, hv, _⟩ := hv
      obtain ⟨u, hu⟩ : ∃ u, v = .iface 51 u := ⟨_, hv⟩
      subst hu
      clear hv
      have q1 : ∀ w9, (Instr.typeAssert (.iface 51 u) 64 60 true).run Try.prog w9 = .ok (.tuple #[.int .i64 0, .bool false]) w9 := fun _ => by kernel_rfl
      replace c := c.trans (b.mono c.size)
      replace S := S.keep b
      clear b
      have CC := Lib.hid c
      clear S c
      go_wp2
      exact bodyPost_ret (v := .tuple #[.int .i64 0, .bool false]) (by simp [results, Try.results16, go_sem]) rfl ⟨by rw [HEO.out] <;> rfl, CC.out⟩

end Go.Proofs.Ytafbjmhjjbfaeaa
