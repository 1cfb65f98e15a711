/-
  Chapter 6: slices.Insert at timers, one element: where there is no room; together.
-/
import Derived.Test.YthekcaahkokjfaaTimC9
import Derived.RegionTactic
import Derived.Deep.RegionLaw
import Derived.BigQuiet
import Derived.Lib.AppendZerosOnto
import Derived.Laws.Externs
import Derived.Laws.IdiomCopy
import Derived.Laws.NewBlocks
namespace Go.Proofs.Ythekcaahkokjfaa
set_option maxRecDepth 100000
open Go.RowKit

theorem Touch.fresh {S : List Nat} {w w' : World} {p : Nat} (h : Touch (p :: S) w w') (hp : w.heap.size ≤ p) : Touch S w w' :=
  ⟨h.os, h.tape, h.output, h.size, fun i hi hn => h.block i hi (by
    intro hm
    rcases List.mem_cons.1 hm with rfl | h9
    · omega
    · exact hn h9)⟩

set_option maxHeartbeats 12800000 in
/-- In the middle, with no room: anew. -/
theorem iInsGrow_any (g n i vb : Nat) (l : List TimerM) (x0 x1 : Int) (fp : List Nat) (w : World) (o : Ow w [timerD l] [.slice (some ⟨g, 0, none⟩) n n] fp)
    (hv : Blk w vb #[.int .i64 x0, .int .i64 x1] 64) (hi : i < n) (hn : n ≤ 1048576) :
    Calls Try.prog 74 #[.slice (some ⟨g, 0, none⟩) n n, .int .i64 i, .slice (some ⟨vb, 0, none⟩) 1 1] w (InsD w l n i ⟨x0, x1⟩ fp) := by
  obtain ⟨h1, hl, hfp⟩ := ow_timV o
  have hfg : fp = [g] := by rw [hfp]; simp [Value.ownBlock]
  subst hfg
  have hgl : g < w.heap.size := (h1.lt g rfl).2
  have hvl : vb < w.heap.size := hv.lt
  obtain ⟨hcell, hsome, hfz, hlen⟩ := own_cells h1
  have hul : (timV l).length = n * 2 := by rw [timV_len, hl]
  have hsz : (Try.prog.info? 64).map (·.size) = some 2 := size_timer
  obtain ⟨i0, hi0, hz⟩ := Option.map_eq_some_iff.1 infoTimer
  simp only [Prod.mk.injEq] at hz
  obtain ⟨hz0, hz1, hz2⟩ := hz
  have lt0 : ((timV l).take (i * 2)).length = i * 2 := by rw [List.length_take]; omega
  have ld0 : ((timV l).drop (i * 2)).length = (n - i) * 2 := by rw [List.length_drop]; omega
  -- append
  have hr0 : ∀ ty, (Builtin.append_ #[33, 3] ty #[.slice (some ⟨g, 0, none⟩) i n, .int .i64 ((n + 1 - i : Nat) : Int)]).run Try.prog w = .ok _ _ := fun ty =>
    Lib.run_append_grow_zeros (P := Try.prog) w 33 3 ty 64 i0 _ .i64 .i64 Try.underlying33 (by kernel_rfl) hi0 hz0 (some ⟨g, 0, none⟩) i n ((timV l).take (i * 2))
      (run_firstCells_some (P := Try.prog) w.drew i0.size i ⟨g, 0, none⟩ i n ((timV l).take (i * 2)) (by rw [lt0, hz1]) (fun j v hj => by
        rw [Addr.add_lit, Nat.zero_add]
        refine hcell j v ?_
        rw [List.getElem?_take] at hj
        split at hj
        · exact hj
        · cases hj))
      (n + 1 - i) (by omega) (by omega) (by omega) (by omega) (by rw [hz2]; omega) (growslice_fits (by omega) (by rw [hz2]; omega))
  rw [show i + (n + 1 - i) = n + 1 by omega] at hr0
  obtain ⟨G, hG⟩ : ∃ G, G = grownCap w (n + 1) n 64 := ⟨_, rfl⟩
  have hG1 : n + 1 ≤ G := hG ▸ grownCap_ge w (n + 1) n _
  have hG2 : G ≤ maxLen := hG ▸ grownCap_le_maxLen w (n + 1) n _ (by unfold maxLen; omega)
  rw [← hG] at hr0
  have hz1' : ∀ m, (Builtin.zeroCells (Value.agg #[.int .i64 0, .int .i64 0]).cells m).size = m * 2 := fun m => by rw [size_zeroCells]; rfl
  obtain ⟨W0, hW0⟩ : ∃ W0, W0 = w.drew.alloc (.cells (((timV l).take (i * 2)).toArray ++ Builtin.zeroCells (Value.agg #[.int .i64 0, .int .i64 0]).cells (n + 1 - i) ++ Builtin.zeroCells (Value.agg #[.int .i64 0, .int .i64 0]).cells (G - (n + 1))) 64) := ⟨_, rfl⟩
  have hh0 : ∃ zs : List Value, zs.length = (n + 1 - i) * 2 ∧ W0.ownsRow 0 64 2 (.slice (some ⟨w.heap.size, 0, none⟩) (n + 1) G) (n + 1) ((timV l).take (i * 2) ++ zs) := by
    have hzl : (Builtin.zeroCells (Value.agg #[.int .i64 0, .int .i64 0]).cells (n + 1 - i)).toList.length = (n + 1 - i) * 2 := by rw [Array.length_toList]; exact hz1' _
    have hlen2 : ((timV l).take (i * 2) ++ (Builtin.zeroCells (Value.agg #[.int .i64 0, .int .i64 0]).cells (n + 1 - i)).toList).length = (n + 1) * 2 := by rw [List.length_append, lt0, hzl]; omega
    refine ⟨(Builtin.zeroCells (Value.agg #[.int .i64 0, .int .i64 0]).cells (n + 1 - i)).toList, hzl, hlen2, .inr ⟨w.heap.size, G, _, rfl, Nat.zero_le _, by rw [hW0]; exact heap_alloc_new w.drew _, hG1, hG2, ?_, ?_⟩⟩
    · simp only [Array.size_append, List.size_toArray, hz1', lt0]
      omega
    · simp only [Array.toList_append]
      rw [← hlen2]
      exact List.take_left
  rw [← hW0] at hr0
  obtain ⟨zs, hzl, ho0⟩ := hh0
  have t0 : Touch [g] w W0 := by
    rw [hW0]
    exact Touch.of_below (((Below.refl w.heap.size w).drew).alloc (Nat.le_refl _) _) _
  have hs0 : W0.heap.size = w.heap.size + 1 := by rw [hW0]; simp
  have og0 : Ow W0 [timerD l] [.slice (some ⟨g, 0, none⟩) n n] [g] := o.keep ((by rw [hW0]; exact ((Below.refl w.heap.size w).drew).alloc (Nat.le_refl _) _) : Below w.heap.size w W0)
  have hv0 : Blk W0 vb #[.int .i64 x0, .int .i64 x1] 64 := by
    rw [hW0]
    exact (heap_alloc_old w.drew _ hvl).trans hv
  obtain ⟨h0, hh0⟩ : ∃ h0, h0 = w.heap.size := ⟨_, rfl⟩
  rw [← hh0] at hr0 ho0
  clear hW0
  -- the first copy: the new element
  have hz2' : zs = zs.take 2 ++ zs.drop 2 := (List.take_append_drop 2 zs).symm
  rw [hz2'] at ho0
  obtain ⟨_, hsome0, hfz0, _⟩ := own_cells ho0
  have hp1 := puts_own [Value.int .i64 x0, Value.int .i64 x1] (zs.take 2) ((timV l).take (i * 2)) W0 ho0 (by rw [List.length_take]; simp; omega)
  rw [lt0, ← setCells_puts] at hp1
  have hr1 : ∀ ty, (Builtin.copy_ #[33, 33] ty #[.slice (some ⟨h0, i * 2, none⟩) (n + 1 - i) (G - i), .slice (some ⟨vb, 0, none⟩) 1 1]).run Try.prog W0 = .ok (goInt (Nat.min 1 (n + 1 - i))) (W0.setCells h0 (i * 2) [Value.int .i64 x0, Value.int .i64 x1]) := fun ty =>
    run_copy_k (P := Try.prog) W0 33 33 ty 64 h0 (i * 2) (n + 1 - i) (G - i) ⟨vb, 0, none⟩ 1 1 [Value.int .i64 x0, Value.int .i64 x1] Try.underlying33 hsz (by rw [show Nat.min 1 (n + 1 - i) = 1 by simp only [Nat.min_def]; split <;> omega]; rfl)
      (fun j v hj => by
        rw [Addr.add_lit, Nat.zero_add, hv0.cell j, ← hj]
        simp)
      (fun j hj => hsome0 _ (by simp only [List.length_cons, List.length_nil] at hj; omega)) (fun j _ => hfz0 _) (by intro v hv; simp at hv; rcases hv with rfl | rfl <;> rfl)
  obtain ⟨W1, hW1⟩ : ∃ W1, W1 = W0.setCells h0 (i * 2) [Value.int .i64 x0, Value.int .i64 x1] := ⟨_, rfl⟩
  rw [← hW1] at hr1 hp1
  clear hW1
  obtain ⟨ho1, t1⟩ := hp1
  have hg1 : W1.ownsRow 0 64 2 (.slice (some ⟨g, 0, none⟩) n n) n (timV l) := (ow_timV (og0.touch t1 (by simp; omega))).1
  -- the second: what stood behind
  have hg2 : W1.drew.ownsRow 0 64 2 (.slice (some ⟨g, 0, none⟩) n n) n (timV l) := hg1
  have ho2 : W1.drew.ownsRow 0 64 2 (.slice (some ⟨h0, 0, none⟩) (n + 1) G) (n + 1) ((timV l).take (i * 2) ++ ([Value.int .i64 x0, Value.int .i64 x1] ++ zs.drop 2)) := ho1
  have e3 : (timV l).take (i * 2) ++ ([Value.int .i64 x0, Value.int .i64 x1] ++ zs.drop 2) = ((timV l).take (i * 2) ++ [Value.int .i64 x0, Value.int .i64 x1]) ++ (zs.drop 2 ++ []) := by rw [List.append_nil, List.append_assoc]
  rw [e3] at ho2
  have lt1 : ((timV l).take (i * 2) ++ [Value.int .i64 x0, Value.int .i64 x1]).length = (i + 1) * 2 := by rw [List.length_append, lt0]; simp; omega
  obtain ⟨hcell2, _, _, _⟩ := own_cells hg2
  obtain ⟨_, hsome2, hfz2, _⟩ := own_cells ho2
  have hp2 := puts_own ((timV l).drop (i * 2)) (zs.drop 2) ((timV l).take (i * 2) ++ [Value.int .i64 x0, Value.int .i64 x1]) W1.drew ho2 (by rw [List.length_drop, hzl, ld0]; omega)
  rw [lt1, ← setCells_puts] at hp2
  have hr2 : ∀ ty, (Builtin.copy_ #[33, 33] ty #[.slice (some ⟨h0, (i + 1) * 2, none⟩) (n + 1 - (i + 1)) (G - (i + 1)), .slice (some ⟨g, i * 2, none⟩) (n - i) (n - i)]).run Try.prog W1.drew = .ok (goInt (Nat.min (n - i) (n + 1 - (i + 1)))) (W1.drew.setCells h0 ((i + 1) * 2) ((timV l).drop (i * 2))) := fun ty =>
    run_copy_k (P := Try.prog) W1.drew 33 33 ty 64 h0 ((i + 1) * 2) (n + 1 - (i + 1)) (G - (i + 1)) ⟨g, i * 2, none⟩ (n - i) (n - i) ((timV l).drop (i * 2)) Try.underlying33 hsz (by rw [ld0]; simp only [Nat.min_def]; split <;> omega)
      (fun j v hj => by
        rw [Addr.add_lit]
        refine hcell2 _ v ?_
        rw [List.getElem?_drop] at hj
        exact hj)
      (fun j hj => hsome2 _ (by rw [ld0] at hj; omega)) (fun j _ => hfz2 _) (fun v hv => timV_cell l v (List.mem_of_mem_drop hv))
  have HO := Lib.hid (show Ow (W1.drew.setCells h0 ((i + 1) * 2) ((timV l).drop (i * 2))) [timerD (l.take i ++ [⟨x0, x1⟩] ++ l.drop i)] [.slice (some ⟨h0, 0, none⟩) (n + 1) G] [h0] by
    have h5 := hp2.1
    have e5 : ((timV l).take (i * 2) ++ [Value.int .i64 x0, Value.int .i64 x1]) ++ ((timV l).drop (i * 2) ++ []) = timV (l.take i ++ [⟨x0, x1⟩] ++ l.drop i) := by
      rw [timV_append, timV_append, timV_one, timV_take l i (by omega), timV_drop l i (by omega), List.append_nil]
    rw [e5] at h5
    have := timV_ow h5
    simpa [Value.ownBlock] using this)
  have HT := Lib.hid (show Touch [g] w (W1.drew.setCells h0 ((i + 1) * 2) ((timV l).drop (i * 2))) from
    Touch.fresh (p := h0) (Touch.trans (Touch.trans (t0.mono (fun p hp => List.mem_cons_of_mem _ hp)) (t1.drew.mono (fun p hp => by simp at hp; simp [hp]))) (hp2.2.mono (fun p hp => by simp at hp; simp [hp]))) (by omega))
  have HH := Lib.hid hh0
  have hz2 : ¬ ((i : Int) = (n : Int)) := by omega
  have hb0 : (i : Int) ≤ (n : Int) := by omega
  have hw1 : IntKind.i64.wrap ((i : Int) + 1) = (i : Int) + 1 := by rw [IntKind.wrap_i64]; omega
  have htn : ((i : Int) + 1).toNat = i + 1 := by omega
  have hbi : (0 : Int) ≤ (i : Int) + 1 := by omega
  have hb2' : ¬ (G = i + 1) := by omega
  have hb4 : ¬ (G = i) := by omega
  have hb7 : ¬ (n = i) := by omega
  have hb5 : (i : Int) + 1 ≤ (n : Int) + 1 := by omega
  have hb6 : (i : Int) ≤ (n : Int) + 1 := by omega
  have H0 := Lib.hid hr0
  have H1 := Lib.hid hr1
  have H2 := Lib.hid hr2
  clear h1 hr0 hr1 hr2 hcell hsome hfz hlen lt0 lt1 ld0 hsome0 hfz0 hsome2 hfz2 hcell2 og0 hg1 hg2 ho0 ho1 ho2 hp2 t0 t1 hul hl hfp o hh0 e3 hz2' hzl hG hz1 hz0 hz1' hi0
  go_enter Try.func74, Try.ntmps74
  go_wp2_with (first
    | (at_builtin
       refine Lib.wpList_append_run _ rfl (.tmp 34) (.tmp 39) 33 3 rfl (.slice (some ⟨g, 0, none⟩) i n) (.int .i64 ((n + 1 - i : Nat) : Int)) (by rfl) (congrArg (Value.int .i64) (by omega : ((n : Int) + 1 - (i : Int)) = ((n + 1 - i : Nat) : Int))) _ _ (H0.out _) ?_)
    | (refine wpList_copied rfl _ _ 33 33 rfl _ _ rfl rfl (H1.out _) ?_))
  go_region_law (refine step_copied rfl _ _ 33 33 rfl _ _ (by simp [Act.eval, Act.put]) (by simp [Act.eval, Act.put]) (H2.out _) ?_)
  all_goals
    go_wp2
    go_ret
    exact ⟨_, _, [h0], rfl, HO.out, by simp, fun p hp => by have := HH.out; simp at hp; subst hp; exact .inr (.inr this), HT.out⟩

/-- slices.Insert of one timer, at any place. -/
theorem iInsert_any (A : Option Addr) (n c i vb : Nat) (l : List TimerM) (x0 x1 : Int) (fp : List Nat) (w : World) (o : Ow w [timerD l] [.slice A n c] fp) (hnd : fp.Nodup)
    (hv : Blk w vb #[.int .i64 x0, .int .i64 x1] 64) (hvf : vb ∉ fp) (hi : i ≤ n) (hn : n ≤ 1048576) :
    Calls Try.prog 74 #[.slice A n c, .int .i64 i, .slice (some ⟨vb, 0, none⟩) 1 1] w (InsD w l n i ⟨x0, x1⟩ fp) := by
  rcases Nat.lt_or_eq_of_le hi with h | h
  · have hfp := (ow_timV o).2.2
    have h1 := (ow_timV o).1
    rcases h1.2 with ⟨h0, h9⟩ | ⟨g, cap, cur, hv', _, _, hnc, _⟩
    · omega
    · injection hv' with a1 a2 a3
      subst a1 a3
      have hgp : vb ≠ g := fun e => hvf (by rw [hfp, e]; simp [Value.ownBlock])
      rcases Nat.lt_or_ge n c with h2 | h2
      · exact iInsShift_any g n c i vb l x0 x1 fp w o hv hgp h h2 hn
      · obtain rfl : c = n := by omega
        exact iInsGrow_any g c i vb l x0 x1 fp w o hv h hn
  · subst h
    exact iInsEnd_any A i c vb l x0 x1 fp w o hnd hv hn

end Go.Proofs.Ythekcaahkokjfaa
