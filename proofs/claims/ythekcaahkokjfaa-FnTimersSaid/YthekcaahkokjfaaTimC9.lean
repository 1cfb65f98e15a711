/-
  Chapter 6: slices.Insert at timers, one element.
-/
import Derived.Test.YthekcaahkokjfaaTimC8
import Derived.RegionTactic
import Derived.Deep.RegionLaw
import Derived.BigQuiet
import Derived.Lib.AppendZerosOnto
import Derived.Lib.Overlaps
import Derived.Laws.Externs
import Derived.Laws.IdiomCopy
import Derived.Laws.NewBlocks
namespace Go.Proofs.Ythekcaahkokjfaa
set_option maxRecDepth 100000
open Go.RowKit

section
variable {P : Program} {w w' : World} {op : Oper} {a : Act} {v' : Value} {K : Act → World → Prop} {Q : Exit → Act → World → Prop}
/-- A copy whose run is known. -/
theorem wp_copied (s x : Operand) (t t' : TypeId) (hop : op.op = .call { callee := .builtin .copy, args := #[s, x], argTypes := #[t, t'] }) (v u : Value) (hs : a.eval s = v) (hx : a.eval x = u)
    (hr : (Builtin.copy_ #[t, t'] op.type #[v, u]).run P w = .ok v' w') (h : K (a.put op.dst v') w') : op.wp P a w K Q := by
  unfold Oper.wp execOp
  simp only [hop, resolve, invoke, builtin, Sem.run_bind, Sem.run_pure, Result.andThen_ok, List.map_toArray, List.map_cons, List.map_nil, hs, hx, hr]
  exact h
theorem wpList_copied {ops : Array Oper} {rest : List Oper} (hgd : op.guard = none) (s x : Operand) (t t' : TypeId) (hop : op.op = .call { callee := .builtin .copy, args := #[s, x], argTypes := #[t, t'] }) (v u : Value) (hs : a.eval s = v) (hx : a.eval x = u)
    (hr : (Builtin.copy_ #[t, t'] op.type #[v, u]).run P w = .ok v' w') (h : wpList P ops Q rest (a.put op.dst v') w') : wpList P ops Q (op :: rest) a w :=
  wpList_plain hgd fun _ hK => wp_copied s x t t' hop v u hs hx hr (hK _ _ h)
theorem step_copied {ops : Array Oper} {E : Prop} (hg : op.guard = none) (s x : Operand) (t t' : TypeId) (hop : op.op = .call { callee := .builtin .copy, args := #[s, x], argTypes := #[t, t'] }) (v u : Value) (hs : a.eval s = v) (hx : a.eval x = u)
    (hr : (Builtin.copy_ #[t, t'] op.type #[v, u]).run P w = .ok v' w') (hK : K (a.put op.dst v') w') : if Region.wanted op (yielded ops a.tmps) = true then Oper.wp P op a w K Q else E := by
  rw [if_pos (by simp [Region.wanted, hg])]
  exact wp_copied s x t t' hop v u hs hx hr hK
end

section
variable {w : World} {e : TypeId} {k g n c : Nat} {us : List Value}
/-- An own slice with room is one element longer: a spare one. -/
theorem own_spare (h : w.ownsRow 0 e k (.slice (some ⟨g, 0, none⟩) n c) n us) (hc : n + 1 ≤ c) : ∃ ts : List Value, ts.length = k ∧ w.ownsRow 0 e k (.slice (some ⟨g, 0, none⟩) (n + 1) c) (n + 1) (us ++ ts) := by
  obtain ⟨hl, h2⟩ := h
  rcases h2 with ⟨h0, _⟩ | ⟨g', cap, cur, hv, hb, hcell, hn, hm, hz, ht⟩
  · cases h0
  · injection hv with a1 a2 a3
    injection a1 with a1
    injection a1 with b1 b2 b3
    subst b1 a3
    have hk1 : (n + 1) * k ≤ cur.toList.length := by
      rw [Array.length_toList, hz]
      exact Nat.mul_le_mul_right k hc
    rw [Nat.succ_mul] at hk1
    refine ⟨(cur.toList.drop (n * k)).take k, by rw [List.length_take, List.length_drop]; omega, ?_, .inr ⟨g, c, cur, rfl, hb, hcell, hc, hm, hz, ?_⟩⟩
    · rw [List.length_append, hl, List.length_take, List.length_drop, Nat.succ_mul]
      omega
    · rw [Nat.succ_mul, List.take_add, ht]
/-- What an own row's cells are. -/
theorem own_cells (h : w.ownsRow 0 e k (.slice (some ⟨g, 0, none⟩) n c) n us) : (∀ j v, us[j]? = some v → w.cell? ⟨g, j, none⟩ = some v) ∧ (∀ j, j < n * k → (w.cell? ⟨g, j, none⟩).isSome = true) ∧ (∀ j, w.frozen? ⟨g, j, none⟩ = false) ∧ us.length = n * k := by
  have hl := h.1
  have hc := fun j (hj : j < n * k) => World.ownsRow.cellAt h j hj
  refine ⟨fun j v hj => ?_, fun j hj => ?_, fun j => World.ownsRow.frozenAt h j, hl⟩
  · have hlt : j < n * k := by
      rcases Nat.lt_or_ge j us.length with h1 | h1
      · omega
      · rw [List.getElem?_eq_none h1] at hj; cases hj
    rw [hc j hlt, hj]
  · rw [hc j hj, List.getElem?_eq_getElem (by omega)]
    rfl
end

theorem timers_flat_len (l : List TimerM) : (ivals (l.flatMap fun x => [x.tid, x.due])).length = l.length * 2 := by
  rw [ivals_length]
  induction l with
  | nil => rfl
  | cons x l ih => rw [List.flatMap_cons, List.length_append, ih]; simp; omega
/-- The cells of timers. -/
def timV (l : List TimerM) : List Value := ivals (l.flatMap fun x => [x.tid, x.due])
theorem timV_len (l : List TimerM) : (timV l).length = l.length * 2 := timers_flat_len l
theorem timV_append (l l' : List TimerM) : timV (l ++ l') = timV l ++ timV l' := by
  unfold timV ivals
  rw [List.flatMap_append, List.map_append]
theorem timV_one (x : TimerM) : timV [x] = [.int .i64 x.tid, .int .i64 x.due] := rfl
theorem timV_take (l : List TimerM) (i : Nat) (hi : i ≤ l.length) : timV (l.take i) = (timV l).take (i * 2) := by
  have e : timV l = timV (l.take i) ++ timV (l.drop i) := by rw [← timV_append, List.take_append_drop]
  rw [e]
  exact (List.take_left' (by rw [timV_len, List.length_take, Nat.min_eq_left hi])).symm
theorem timV_drop (l : List TimerM) (i : Nat) (hi : i ≤ l.length) : timV (l.drop i) = (timV l).drop (i * 2) := by
  have e : timV l = timV (l.take i) ++ timV (l.drop i) := by rw [← timV_append, List.take_append_drop]
  rw [e]
  exact (List.drop_left' (by rw [timV_len, List.length_take, Nat.min_eq_left hi])).symm
theorem timV_cell (l : List TimerM) : ∀ u ∈ timV l, u.oneCell' = true := ivals_one _
theorem ow_timV {w : World} {A : Option Addr} {n c : Nat} {l : List TimerM} {fp : List Nat} (o : Ow w [timerD l] [.slice A n c] fp) : w.ownsRow 0 64 2 (.slice A n c) n (timV l) ∧ l.length = n ∧ fp = (Value.slice A n c).ownBlock.toList := by
  obtain ⟨us, fp1, h1, h2, hfp⟩ := o.lst timerC_len (by decide)
  rw [flat_flat timer_flat] at h2
  obtain ⟨rfl, rfl⟩ := ow_ints h2
  rw [List.append_nil] at hfp
  have hl : l.length = n := by
    rcases h1.2 with ⟨h0, h9⟩ | ⟨_, _, _, h0, _⟩
    · injection h0 with _ h5 _; omega
    · injection h0 with _ h5 _; exact h5.symm
  rw [hl] at h1
  exact ⟨h1, hl, hfp⟩
theorem timV_ow {w : World} {v : Value} {n : Nat} {l : List TimerM} (h : w.ownsRow 0 64 2 v n (timV l)) : Ow w [timerD l] [v] v.ownBlock.toList := by
  have := Ow.of_lst (f := timerC) (l := l) (n := n) h (ow_flat timer_flat w l)
  rw [List.append_nil] at this
  exact this

def InsD (w : World) (l : List TimerM) (n i : Nat) (x : TimerM) (fp : List Nat) (e : Ending) (w' : World) : Prop :=
  ∃ A3 c3 fp3, e = .returned (.slice A3 (n + 1) c3) ∧ Ow w' [timerD (l.take i ++ [x] ++ l.drop i)] [.slice A3 (n + 1) c3] fp3 ∧ fp3.Nodup ∧ (∀ p ∈ fp3, p ∈ fp ∨ p ∈ ([] : List Nat) ∨ p = w.heap.size) ∧ Touch fp w w'

set_option maxHeartbeats 6400000 in
/-- At the end. -/
theorem iInsEnd_any (A : Option Addr) (n c vb : Nat) (l : List TimerM) (x0 x1 : Int) (fp : List Nat) (w : World) (o : Ow w [timerD l] [.slice A n c] fp) (hnd : fp.Nodup)
    (hv : Blk w vb #[.int .i64 x0, .int .i64 x1] 64) (hn : n ≤ 1048576) :
    Calls Try.prog 74 #[.slice A n c, .int .i64 n, .slice (some ⟨vb, 0, none⟩) 1 1] w (InsD w l n n ⟨x0, x1⟩ fp) := by
  obtain ⟨h1, hl, hfp⟩ := ow_timV o
  have hcn : n ≤ c := by
    obtain ⟨_, _, _, e, _, h2, _⟩ := o.rd.timers
    injection e with e1 e2 e3
    omega
  have HC : ∀ i, i < 2 → w.cell? ⟨vb, i, none⟩ = [Value.int .i64 x0, Value.int .i64 x1][i]? := fun i hi => by
    rw [hv.cell i]
    simp
  have HE := Lib.hid (show l.take n ++ [(⟨x0, x1⟩ : TimerM)] ++ l.drop n = l ++ [⟨x0, x1⟩] by rw [List.take_of_length_le (by omega), List.drop_of_length_le (by omega), List.append_nil])
  have HL := Lib.hid hl
  have HF := Lib.hid hfp
  clear h1 hl hfp
  have hnn : (n : Int) ≤ (n : Int) := Int.le_refl _
  by_cases hc : c = n
  all_goals
    go_enter Try.func74, Try.ntmps74
    go_wp2_with (first
      | (at_builtin
         refine wpList_append_elem (l := l) (y := (⟨x0, x1⟩ : TimerM)) (f2 := []) rfl (.tmp 23) (.tmp 24) (by rfl) Try.underlying33 infoTimer (by rfl) (by decide) timerC_len (by rfl) o hnd (by rfl) HC (.int (.int .nil)) List.nodup_nil (by simp) (by omega) (by omega) ?_
         intro A3 c3 w3 fp3 o3 n3 s3 t3))
    go_ret
    exact ⟨A3, c3, fp3, rfl, by rw [HE.out]; exact o3, n3, s3, t3⟩

theorem owns_heap {w w' : World} {e : TypeId} {k n base : Nat} {v : Value} {us : List Value} (h : w.ownsRow base e k v n us) (hw : w'.heap = w.heap) : w'.ownsRow base e k v n us := by
  unfold World.ownsRow at *
  rw [hw]
  exact h

set_option maxHeartbeats 12800000 in
/-- In the middle, with room: in place. -/
theorem iInsShift_any (g n c i vb : Nat) (l : List TimerM) (x0 x1 : Int) (fp : List Nat) (w : World) (o : Ow w [timerD l] [.slice (some ⟨g, 0, none⟩) n c] fp)
    (hv : Blk w vb #[.int .i64 x0, .int .i64 x1] 64) (hvg : vb ≠ g) (hi : i < n) (hc : n + 1 ≤ c) (hn : n ≤ 1048576) :
    Calls Try.prog 74 #[.slice (some ⟨g, 0, none⟩) n c, .int .i64 i, .slice (some ⟨vb, 0, none⟩) 1 1] w (InsD w l n i ⟨x0, x1⟩ fp) := by
  obtain ⟨h1, hl, hfp⟩ := ow_timV o
  have hfg : fp = [g] := by rw [hfp]; simp [Value.ownBlock]
  subst hfg
  have hcm : c ≤ maxLen := by
    obtain ⟨_, _, _, e, _, _, h3, _⟩ := o.rd.timers
    injection e with e1 e2 e3
    omega
  unfold maxLen at hcm
  obtain ⟨ts, ht, h2⟩ := own_spare h1 hc
  obtain ⟨hcell, hsome, hfz, hlen⟩ := own_cells h2
  have hul : (timV l).length = n * 2 := by rw [timV_len, hl]
  have hsz : (Try.prog.info? 64).map (·.size) = some 2 := size_timer
  -- the first copy
  have e1 : timV l ++ ts = (timV l).take ((i + 1) * 2) ++ (((timV l).drop ((i + 1) * 2) ++ ts) ++ []) := by rw [List.append_nil, ← List.append_assoc, List.take_append_drop]
  have lt1 : ((timV l).take ((i + 1) * 2)).length = (i + 1) * 2 := by rw [List.length_take]; omega
  have ld0 : ((timV l).drop (i * 2)).length = (n - i) * 2 := by rw [List.length_drop]; omega
  have hp1 := puts_own ((timV l).drop (i * 2)) ((timV l).drop ((i + 1) * 2) ++ ts) ((timV l).take ((i + 1) * 2)) w.drew (by rw [← e1]; exact owns_heap h2 rfl) (by rw [List.length_append, List.length_drop, ld0]; omega)
  rw [lt1, ← setCells_puts] at hp1
  have hr1 : ∀ ty, (Builtin.copy_ #[33, 33] ty #[.slice (some ⟨g, (i + 1) * 2, none⟩) (n + 1 - (i + 1)) (c - (i + 1)), .slice (some ⟨g, i * 2, none⟩) (n + 1 - i) (c - i)]).run Try.prog w.drew = .ok (goInt (Nat.min (n + 1 - i) (n + 1 - (i + 1)))) (w.drew.setCells g ((i + 1) * 2) ((timV l).drop (i * 2))) := fun ty =>
    run_copy_k (P := Try.prog) w.drew 33 33 ty 64 g ((i + 1) * 2) (n + 1 - (i + 1)) (c - (i + 1)) ⟨g, i * 2, none⟩ (n + 1 - i) (c - i) ((timV l).drop (i * 2)) Try.underlying33 hsz (by rw [ld0]; simp only [Nat.min_def]; split <;> omega)
      (fun j v hj => by
        rw [Addr.add_lit]
        refine hcell _ v ?_
        rw [List.getElem?_drop] at hj
        rw [List.getElem?_append_left (by
          rcases Nat.lt_or_ge (i * 2 + j) (timV l).length with h | h
          · exact h
          · rw [List.getElem?_eq_none h] at hj; cases hj)]
        exact hj)
      (fun j hj => hsome _ (by rw [ld0] at hj; omega)) (fun j _ => hfz _) (fun v hv => timV_cell l v (List.mem_of_mem_drop hv))
  obtain ⟨W1, hW1⟩ : ∃ W1, W1 = w.drew.setCells g ((i + 1) * 2) ((timV l).drop (i * 2)) := ⟨_, rfl⟩
  rw [← hW1] at hr1 hp1
  obtain ⟨h3, t1⟩ := hp1
  rw [List.append_nil] at h3
  -- the second
  have e2 : (timV l).take ((i + 1) * 2) ++ (timV l).drop (i * 2) = (timV l).take (i * 2) ++ (((timV l).take ((i + 1) * 2)).drop (i * 2) ++ (timV l).drop (i * 2)) := by
    rw [← List.append_assoc]
    congr 1
    have h4 := List.take_append_drop (i * 2) ((timV l).take ((i + 1) * 2))
    rw [List.take_take, Nat.min_eq_left (by omega)] at h4
    exact h4.symm
  rw [e2] at h3
  have lt0 : ((timV l).take (i * 2)).length = i * 2 := by rw [List.length_take]; omega
  obtain ⟨_, hsome3, hfz3, _⟩ := own_cells h3
  have hp2 := puts_own [Value.int .i64 x0, Value.int .i64 x1] (((timV l).take ((i + 1) * 2)).drop (i * 2)) ((timV l).take (i * 2)) W1 h3 (by rw [List.length_drop, lt1]; simp; omega)
  rw [lt0, ← setCells_puts] at hp2
  have hv1 : Blk W1 vb #[.int .i64 x0, .int .i64 x1] 64 := hv.touch (Touch.trans (Touch.refl _ _).drew t1) (by simpa using hvg)
  have hr2 : ∀ ty, (Builtin.copy_ #[33, 33] ty #[.slice (some ⟨g, i * 2, none⟩) (n + 1 - i) (c - i), .slice (some ⟨vb, 0, none⟩) 1 1]).run Try.prog W1 = .ok (goInt (Nat.min 1 (n + 1 - i))) (W1.setCells g (i * 2) [Value.int .i64 x0, Value.int .i64 x1]) := fun ty =>
    run_copy_k (P := Try.prog) W1 33 33 ty 64 g (i * 2) (n + 1 - i) (c - i) ⟨vb, 0, none⟩ 1 1 [Value.int .i64 x0, Value.int .i64 x1] Try.underlying33 hsz (by rw [show Nat.min 1 (n + 1 - i) = 1 by simp only [Nat.min_def]; split <;> omega]; rfl)
      (fun j v hj => by
        rw [Addr.add_lit, Nat.zero_add, hv1.cell j, ← hj]
        simp)
      (fun j hj => hsome3 _ (by simp only [List.length_cons, List.length_nil] at hj; omega)) (fun j _ => hfz3 _) (by intro v hv; simp at hv; rcases hv with rfl | rfl <;> rfl)
  have HO := Lib.hid (show Ow (W1.setCells g (i * 2) [Value.int .i64 x0, Value.int .i64 x1]) [timerD (l.take i ++ [⟨x0, x1⟩] ++ l.drop i)] [.slice (some ⟨g, 0, none⟩) (n + 1) c] [g] by
    have h5 := hp2.1
    have e5 : (timV l).take (i * 2) ++ ([Value.int .i64 x0, Value.int .i64 x1] ++ (timV l).drop (i * 2)) = timV (l.take i ++ [⟨x0, x1⟩] ++ l.drop i) := by
      rw [timV_append, timV_append, timV_one, timV_take l i (by omega), timV_drop l i (by omega), List.append_assoc]
    rw [e5] at h5
    have := timV_ow h5
    simpa [Value.ownBlock] using this)
  have HT := Lib.hid (show Touch [g] w (W1.setCells g (i * 2) [Value.int .i64 x0, Value.int .i64 x1]) from Touch.trans (Touch.trans (Touch.refl _ _).drew t1) hp2.2)
  obtain ⟨hb1, hb2⟩ : ∃ cur : Array Value, w.heap[g]? = some (.cells cur 64 (0, 0)) ∧ cur.size = c * 2 := by
    rcases h1.2 with ⟨h0, _⟩ | ⟨g', cap, cur, hv', _, hcell', _, _, hz, _⟩
    · cases h0
    · injection hv' with a1 a2 a3
      injection a1 with a1
      injection a1 with b1 b2 b3
      subst b1 a3
      exact ⟨cur, hcell', hz⟩
  have hsa : w.shape? vb = some (64, 2) := by
    have h6 : w.heap[vb]? = _ := hv
    unfold World.shape?
    rw [h6]
    rfl
  have hsb : w.shape? g = some (64, c * 2) := by
    unfold World.shape?
    rw [hb2.1]
    exact congrArg (fun q => some (64, q)) hb2.2
  have hov : ∀ lb cb, (callFunc 75 #[.slice (some ⟨vb, 0, none⟩) 1 1, .slice (some ⟨g, (i + 1) * 2, none⟩) lb cb]).run Try.prog w = .ok (.value (.bool false)) w := fun lb cb => by
    rw [run_callFunc_extern Try.func75 (by kernel_rfl) (by kernel_rfl) (by kernel_rfl) (e := Extern.SlicesOverlaps.overlaps #[33, 33] #[4]) (by kernel_rfl),
      Lib.run_overlaps_apart w 33 4 64 Try.underlying33 2 (fun w => by kernel_rfl) ⟨vb, 0, none⟩ ⟨g, (i + 1) * 2, none⟩ 1 1 lb cb hvg 64 64 2 (c * 2) hsa hsb (by omega) (hv.free 0) (hv.free 2)]
    rfl
  have hz2 : ¬ ((i : Int) = (n : Int)) := by omega
  have hb0 : (i : Int) ≤ (n : Int) := by omega
  have hw1 : IntKind.i64.wrap ((i : Int) + 1) = (i : Int) + 1 := by rw [IntKind.wrap_i64]; omega
  have htn : ((i : Int) + 1).toNat = i + 1 := by omega
  have hbi : (0 : Int) ≤ (i : Int) + 1 := by omega
  have hb2' : ¬ (c = i + 1) := by omega
  have hb4 : ¬ (c = i) := by omega
  have hb5 : (i : Int) + 1 ≤ (n : Int) + 1 := by omega
  have hb6 : (i : Int) ≤ (n : Int) + 1 := by omega
  have H1 := Lib.hid hr1
  have H2 := Lib.hid hr2
  clear hW1 h1 h2 h3 hp2 hr1 hr2 hcell hsome hfz hlen e1 e2 lt0 lt1 ld0 hsome3 hfz3 t1 hb2 hsa hsb hul ht hl hfp o
  go_enter Try.func74, Try.ntmps74
  go_wp2_with (simp only [hov])
  go_region_law (refine step_copied rfl _ _ 33 33 rfl _ _ (by simp [Act.eval, Act.put]) (by simp [Act.eval, Act.put]) (H1.out _) ?_)
  go_wp2_with (refine wpList_copied rfl _ _ 33 33 rfl _ _ rfl rfl (H2.out _) ?_)
  go_ret
  exact ⟨_, _, [g], rfl, HO.out, by simp, fun p hp => .inl hp, HT.out⟩

end Go.Proofs.Ythekcaahkokjfaa
