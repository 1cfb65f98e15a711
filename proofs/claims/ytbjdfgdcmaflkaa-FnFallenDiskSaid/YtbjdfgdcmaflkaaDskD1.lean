/-
  The model's draw of a valid disk in new memory.
-/
import Derived.Test.YtbjdfgdcmaflkaaDskS6
import Derived.Test.YtbjdfgdcmaflkaaDskM3
import Derived.Test.YtbjdfgdcmaflkaaDskM4
import Derived.Test.YtbjdfgdcmaflkaaDrawR
import Derived.Test.YtbjdfgdcmaflkaaOrdP
namespace Go.Proofs.Ytbjdfgdcmaflkaa
open Go.RowKit

theorem grownBy_of_below {w w' : World} (h : Below w.heap.size w w') (row : Option Nat) : w.grownBy w' row := ⟨h.os, h.tape, h.output, h.size, fun i hi _ => h.block i hi⟩
theorem Sep.grown {w w' : World} {base p : Nat} {is : List Item} (h : Sep w base is) (g : w.grownBy w' (some p)) (hp : p < base) : Sep w' base is :=
  ⟨fun n i hi => Item.same (h.holds n i hi) (fun q hq => g.block q (Item.lt (h.holds n i hi) q hq) (fun e => by injection e with e; have := h.ge q (foot_mem hi hq); omega)), h.nodup, h.ge⟩
theorem Sep.erase2 {w : World} {base : Nat} {a b c d : Item} (h : Sep w base (a :: b :: c :: d :: [])) : Sep w base (a :: b :: d :: []) := h.third.tail
theorem ok_sz {d : DiskM} (h : diskOk d = true) : d.sz ≤ 1048576 := by
  have h1 := rows_sz_le (ok_kept_len h) (diskOk_iff.1 h).1.2
  have h2 := wait_sz_le (fun p hp => (ok_wait h p hp).2) (diskOk_iff.1 h).2.1
  unfold DiskM.sz
  omega

/-- Some valid disk in new memory is handed back; nothing but the cursor p is written. -/
def DrawnDisk (w : World) (B p : Nat) (e : Ending) (w' : World) : Prop :=
  ∃ d A n c A' n' c', e = .returned (.agg #[.slice A n c, .slice A' n' c']) ∧ diskOk d = true ∧ Has w' w.heap.size d.cells [.slice A n c, .slice A' n' c'] ∧ Cur w' B p ∧ w.grownBy w' (some p)

set_option maxHeartbeats 6400000 in
theorem draw_any (B p : Nat) (w : World) (h : Cur w B p) :
    Calls Try.prog 70 #[.pointer (some ⟨p, 0, none⟩)] w (DrawnDisk w B p) := by
  have hp := h.lt
  have S0 := (Sep.nil w w.heap.size).box (Nat.le_refl _) #[.slice none 0 0, .slice none 0 0] 27
  have c0 := cur_alloc h (.cells #[.slice none 0 0, .slice none 0 0] 27)
  have g0 := World.grownBy_alloc w (.cells #[.slice none 0 0, .slice none 0 0] 27) (some p)
  clear h
  go_enter Try.func70, Try.ntmps70
  go_wp2_with fail
  generalize w.alloc (.cells #[.slice none 0 0, .slice none 0 0] 27) = w0 at *
  refine (below_any B p _ c0 5 (by omega) (by omega)).mono ?_
  rintro e w1 ⟨x, ⟨x0, x1⟩, rfl, c1, g1⟩
  have S1 := S0.grown g1 hp
  have G1 := g0.trans g1
  clear S0 c0 g0 g1
  go_wp2_with fail
  refine (sNewDisk_any (1 + x) w1).mono ?_
  rintro e w2 ⟨G0, j0, g0, H0, q0, h0, rfl, o2, b2⟩
  have hd0 : diskOk (newDisk (1 + x)) = true := newDisk_ok (by unfold secOk; simp; omega)
  generalize newDisk (1 + x) = dd at *
  obtain ⟨f2, S2⟩ := S1.has b2 o2 G1.size
  have G2 := G1.trans (grownBy_of_below b2 (some p))
  have c2 := c1.below b2
  have S3 := S2.box G2.size #[.slice G0 j0 g0, .slice H0 q0 h0] 27
  have G3 := G2.trans (World.grownBy_alloc w2 (.cells #[.slice G0 j0 g0, .slice H0 q0 h0] 27) (some p))
  have c3 := cur_alloc c2 (.cells #[.slice G0 j0 g0, .slice H0 q0 h0] 27)
  have zr := G2.size
  clear S1 S2 G1 G2 c1 c2 o2 b2
  go_wp2_with fail
  generalize w2.alloc (.cells #[.slice G0 j0 g0, .slice H0 q0 h0] 27) = w3 at *
  generalize w2.heap.size = r1 at *
  refine (below_any B p _ c3 9 (by omega) (by omega)).mono ?_
  rintro e w4 ⟨y, ⟨y0, y1⟩, rfl, c4, g4⟩
  have S4 := Lib.hid (S3.grown g4 hp)
  have G4 := Lib.hid (G3.trans g4)
  have C4 := Lib.hid c4
  obtain ⟨y, rfl⟩ := Int.eq_ofNat_of_zero_le y0
  clear S3 G3 c3 c4 g4
  go_wp2
  go_loopw [4] (fun i wr => ∃ (k : Nat) (d : DiskM) (G : Option Addr) (j g : Nat) (H : Option Addr) (q hc : Nat) (fp : List Nat), i = .int .i64 (k : Int) ∧ k ≤ 8 ∧ diskOk d = true ∧ Sep wr w.heap.size [.blk r1 #[.slice G j g, .slice H q hc] 27, .own d.cells [.slice G j g, .slice H q hc] fp, .blk w.heap.size #[.slice none 0 0, .slice none 0 0] 27] ∧ Cur wr B p ∧ w.grownBy wr (some p)) (fun i _ => (intOf i).toNat)
  case atStart => exact ⟨y, dd, G0, j0, g0, H0, q0, h0, f2, rfl, by omega, hd0, S4.out, C4.out, G4.out⟩
  case round =>
    obtain ⟨k, d, G, j, g, H, q, hc, fp, rfl, hk, hd, S, hcur, hgr⟩ := hrel
    clear S4 C4 G4 hd0 f2
    have k0 : wr.cell? ⟨r1, 0, none⟩ = some (.slice G j g) := (S.at_ 0 rfl).cell 0
    have k1 : wr.cell? ⟨r1, 1, none⟩ = some (.slice H q hc) := (S.at_ 0 rfl).cell 1
    rcases k with _ | k2
    · have n0 : wr.cell? ⟨w.heap.size, 0, none⟩ = some (.slice none 0 0) := (S.at_ 2 rfl).cell 0
      have n1 : wr.cell? ⟨w.heap.size, 1, none⟩ = some (.slice none 0 0) := (S.at_ 2 rfl).cell 1
      have fr0 := (S.at_ 2 rfl).free 0
      have fr1 := (S.at_ 2 rfl).free 1
      have S7 := Lib.hid (((S.put 2 rfl 0 (.slice G j g)).put 2 rfl 1 (.slice H q hc)).drop 1).first
      have G7 := Lib.hid ((hgr.andThen (grown_setCell wr w.heap.size 0 (.slice G j g)) (fun y hy => .inl (by injection hy with hy; omega))).andThen (grown_setCell _ w.heap.size 1 (.slice H q hc)) (fun y hy => .inl (by injection hy with hy; omega)))
      have C7 := Lib.hid ((hcur.kept (grown_setCell wr w.heap.size 0 (.slice G j g)) (fun y hy => by injection hy with hy; omega)).kept (grown_setCell _ w.heap.size 1 (.slice H q hc)) (fun y hy => by injection hy with hy; omega))
      clear S hcur hgr
      go_wp2
      exact bodyPost_ret (v := .agg #[.slice G j g, .slice H q hc]) (by simp [results, Try.results70, go_sem, n0, n1]) rfl ⟨d, G, j, g, H, q, hc, rfl, hd, S7.out, C7.out, G7.out⟩
    · have i0 : (0 : Int) < (k2 : Int) + 1 := by omega
      have hsz := ok_sz hd
      have hjl : d.kept.length = j := by
        obtain ⟨_, _, _, _, _, _, e, e', q1, q2⟩ := (S.own_ 1 rfl).rd.disk
        injection e with e1 e2 e3
        subst e1 e2 e3
        obtain ⟨_, _, _, e, hl1, _⟩ := q1.kept
        injection e with e1 e2 e3
        omega
      have hj1 : 1 ≤ j := by have := (diskOk_iff.1 hd).1.1; omega
      have hj40 : j ≤ 40 := by have := (diskOk_iff.1 hd).1.2; omega
      clear hjl
      go_wp2_with fail
      refine wp_region_L (fun v => v.cell? ⟨r1, 0, none⟩ = some (.slice G j g) ∧ v.cell? ⟨r1, 1, none⟩ = some (.slice H q hc)) 12 (by kernel_rfl) ?_
      have HF : wr.drew.cell? ⟨r1, 0, none⟩ = some (.slice G j g) ∧ wr.drew.cell? ⟨r1, 1, none⟩ = some (.slice H q hc) := ⟨k0, k1⟩
      refine wpAnyL_take (i := 0) (v := ?_) rfl rfl (by kernel_rfl) (by kernel_rfl) (by kernel_rfl) (by kernel_rfl) (by kernel_rfl) (fun _ _ _ h => h) HF (Or.inl ⟨by rfl, ?_⟩) ?_
      rotate_left 1
      · (rintro v ⟨a0, a1⟩; go_simp; try with_reducible rfl)
      try simp only [Act.put]
      refine wpAnyL_take (i := 1) (v := ?_) rfl rfl (by kernel_rfl) (by kernel_rfl) (by kernel_rfl) (by kernel_rfl) (by kernel_rfl) (fun _ _ _ h => h) HF (Or.inl ⟨by rfl, ?_⟩) ?_
      rotate_left 1
      · (rintro v ⟨a0, a1⟩; go_simp; try with_reducible rfl)
      try simp only [Act.put]
      refine wpAnyL_take (i := 2) (v := ?_) rfl rfl (by kernel_rfl) (by kernel_rfl) (by kernel_rfl) (by kernel_rfl) (by kernel_rfl) (fun _ _ _ h => h) HF (Or.inl ⟨by rfl, ?_⟩) ?_
      rotate_left 1
      · (rintro v ⟨a0, a1⟩; go_simp; try with_reducible rfl)
      try simp only [Act.put]
      refine wpAnyL_take (i := 3) (v := ?_) rfl rfl (by kernel_rfl) (by kernel_rfl) (by kernel_rfl) (by kernel_rfl) (by kernel_rfl) (fun _ _ _ h => h) HF (Or.inl ⟨by rfl, ?_⟩) ?_
      rotate_left 1
      · (rintro v ⟨a0, a1⟩; go_simp; try with_reducible rfl)
      try simp only [Act.put]
      refine wpAnyL_take (i := 4) (v := ?_) rfl rfl (by kernel_rfl) (by kernel_rfl) (by kernel_rfl) (by kernel_rfl) (by kernel_rfl) (fun _ _ _ h => h) HF (Or.inl ⟨by rfl, ?_⟩) ?_
      rotate_left 1
      · (rintro v ⟨a0, a1⟩; go_simp; try with_reducible rfl)
      try simp only [Act.put]
      refine wpAnyL_take (i := 6) (v := ?_) rfl rfl (by kernel_rfl) (by kernel_rfl) (by kernel_rfl) (by kernel_rfl) (by kernel_rfl) (fun _ _ _ h => h) HF (Or.inl ⟨by rfl, ?_⟩) ?_
      rotate_left 1
      · (rintro v ⟨a0, a1⟩; go_simp; try with_reducible rfl)
      try simp only [Act.put]
      refine wpAnyL_step (i := 5) (by kernel_rfl) rfl rfl ?_
      intro K hK
      go_simp
      refine (below_any B p wr.drew (hcur.below ((Below.refl _ _).drew)) (j : Int) (by omega) (by omega)).mono ?_
      rintro e w1 ⟨x, ⟨x0, x1⟩, rfl, c1, g1⟩
      have S1 := (S.keep ((Below.refl _ _).drew)).grown g1 hp
      have G1 := hgr.trans ((grownBy_of_below ((Below.refl wr.heap.size wr).drew) (some p)).trans g1)
      have HF1 : w1.cell? ⟨r1, 0, none⟩ = some (.slice G j g) ∧ w1.cell? ⟨r1, 1, none⟩ = some (.slice H q hc) := ⟨(S1.at_ 0 rfl).cell 0, (S1.at_ 0 rfl).cell 1⟩
      refine hK _ _ (fun _ => HF1) ?_
      clear hcur hgr S g1
      clear hK K
      try simp only [Act.put]
      refine wpAnyL_step (i := 7) (by kernel_rfl) rfl rfl ?_
      intro K hK
      go_simp
      refine (drawRow_any7 B p w1 c1).mono ?_
      rintro e w2 ⟨R, m, k, r, rfl, o2, hm7, c2, g2⟩
      have S2 := S1.grown g2 hp
      have G2 := G1.trans g2
      have HF2 : w2.cell? ⟨r1, 0, none⟩ = some (.slice G j g) ∧ w2.cell? ⟨r1, 1, none⟩ = some (.slice H q hc) := ⟨(S2.at_ 0 rfl).cell 0, (S2.at_ 0 rfl).cell 1⟩
      refine hK _ _ (fun _ => HF2) ?_
      clear c1 g2 S1 G1
      clear hK K
      try simp only [Act.put]
      refine wpAnyL_step (i := 8) (by kernel_rfl) rfl rfl ?_
      intro K hK
      go_simp
      refine (sWrote_any G j g H q hc d x R m k r w2 (S2.own_ 1 rfl).rd hsz o2.has.rd (by rw [o2.len]; omega)).mono ?_
      rintro e w3 ⟨G', j', g', H', q', hc', rfl, o3, b3⟩
      obtain ⟨f3, S3⟩ := S2.has b3 o3 G2.size
      have G3 := G2.trans (grownBy_of_below b3 (some p))
      have c3 := c2.below b3
      have HF3 : w3.cell? ⟨r1, 0, none⟩ = some (.slice G j g) ∧ w3.cell? ⟨r1, 1, none⟩ = some (.slice H q hc) := ⟨(S3.at_ 1 rfl).cell 0, (S3.at_ 1 rfl).cell 1⟩
      have hd3 := wrote_ok hd x r
      generalize (wrote d x r).2 = bb at *
      generalize (wrote d x r).1 = d3 at *
      refine hK _ _ (fun _ => HF3) ?_
      clear S2 G2 c2 o3 b3 o2
      clear hK K
      try simp only [Act.put]
      refine wpAnyL_step (i := 9) (by kernel_rfl) rfl rfl ?_
      intro K hK
      go_simp
      refine hK _ _ (fun _ => HF3) ?_
      clear hK K
      try simp only [Act.put]
      refine wpAnyL_pure (i := 10) (v := ?_) rfl rfl (by kernel_rfl) (by kernel_rfl) (by kernel_rfl) (fun _ _ _ h => h) HF3 (Or.inl ⟨by rfl, ?_⟩) ?_
      rotate_left 1
      · (intro v _; go_simp; try with_reducible rfl)
      try simp only [Act.put]
      refine wpAnyL_pure (i := 11) (v := ?_) rfl rfl (by kernel_rfl) (by kernel_rfl) (by kernel_rfl) (fun _ _ _ h => h) HF3 (Or.inl ⟨by rfl, ?_⟩) ?_
      rotate_left 1
      · (intro v _; go_simp; try with_reducible rfl)
      try simp only [Act.put]
      have fr0 := (S3.at_ 1 rfl).free 0
      have fr1 := (S3.at_ 1 rfl).free 1
      have l0 := HF3.1
      have l1 := HF3.2
      have S4 : Sep ((w3.setCell ⟨r1, 0, none⟩ (.slice G' j' g')).setCell ⟨r1, 1, none⟩ (.slice H' q' hc')) w.heap.size [.blk r1 #[.slice G' j' g', .slice H' q' hc'] 27, .own d3.cells [.slice G' j' g', .slice H' q' hc'] f3, .blk w.heap.size #[.slice none 0 0, .slice none 0 0] 27] := (((S3.put 1 rfl 0 (.slice G' j' g')).put 1 rfl 1 (.slice H' q' hc')).swap).erase2
      have G4 := (G3.andThen (grown_setCell w3 r1 0 (.slice G' j' g')) (fun y hy => .inl (by injection hy with hy; omega))).andThen (grown_setCell _ r1 1 (.slice H' q' hc')) (fun y hy => .inl (by injection hy with hy; omega))
      have c4 := (c3.kept (grown_setCell w3 r1 0 (.slice G' j' g')) (fun y hy => by injection hy with hy; omega)).kept (grown_setCell _ r1 1 (.slice H' q' hc')) (fun y hy => by injection hy with hy; omega)
      clear S3 G3 c3
      refine wpAnyL_step (i := 12) (by kernel_rfl) rfl rfl ?_
      intro K hK
      go_simp
      refine hK _ _ (fun h => nomatch (show true = false from h)) ?_
      clear hK K
      try simp only [Act.put]
      clear HF HF1 HF2 HF3 l0 l1 fr0 fr1 k0 k1
      generalize (w3.setCell ⟨r1, 0, none⟩ (.slice G' j' g')).setCell ⟨r1, 1, none⟩ (.slice H' q' hc') = w4 at *
      refine wpAnyL_done (by kernel_rfl) ?_ _
      go_wp2_with fail
      refine (once_any B p _ c4 3 (by omega) (by omega)).mono ?_
      rintro e w5 ⟨b, rfl, c5, g5⟩
      have S5 := S4.grown g5 hp
      have G5 := G4.trans g5
      clear S4 G4 c4 g5
      cases b
      · clear hsz
        go_wp2
        go_roundw
        case rel => exact ⟨k2, d3, G', j', g', H', q', hc', f3, by go_num, by omega, hd3, S5, c5, G5⟩
        case measure => simp [intOf]
      · have m0 : w5.cell? ⟨r1, 0, none⟩ = some (.slice G' j' g') := (S5.at_ 0 rfl).cell 0
        have m1 : w5.cell? ⟨r1, 1, none⟩ = some (.slice H' q' hc') := (S5.at_ 0 rfl).cell 1
        have hsz3 := ok_sz hd3
        go_wp2_with fail
        refine (sSynced_any G' j' g' H' q' hc' d3 w5 (S5.own_ 1 rfl).rd hsz3).mono ?_
        rintro e w6 ⟨G6, j6, g6, H6, q6, h6, rfl, o6, b6⟩
        obtain ⟨f6, S6⟩ := S5.has b6 o6 G5.size
        have G6b := G5.trans (grownBy_of_below b6 (some p))
        have c6 := c5.below b6
        have n0 : w6.cell? ⟨r1, 0, none⟩ = some (.slice G' j' g') := (S6.at_ 1 rfl).cell 0
        have n1 : w6.cell? ⟨r1, 1, none⟩ = some (.slice H' q' hc') := (S6.at_ 1 rfl).cell 1
        have fr0 := (S6.at_ 1 rfl).free 0
        have fr1 := (S6.at_ 1 rfl).free 1
        have S7 := Lib.hid (show Sep ((w6.setCell ⟨r1, 0, none⟩ (.slice G6 j6 g6)).setCell ⟨r1, 1, none⟩ (.slice H6 q6 h6)) w.heap.size [.blk r1 #[.slice G6 j6 g6, .slice H6 q6 h6] 27, .own (synced d3).cells [.slice G6 j6 g6, .slice H6 q6 h6] f6, .blk w.heap.size #[.slice none 0 0, .slice none 0 0] 27] from (((S6.put 1 rfl 0 (.slice G6 j6 g6)).put 1 rfl 1 (.slice H6 q6 h6)).swap).erase2)
        have G7 := Lib.hid ((G6b.andThen (grown_setCell w6 r1 0 (.slice G6 j6 g6)) (fun y hy => .inl (by injection hy with hy; omega))).andThen (grown_setCell _ r1 1 (.slice H6 q6 h6)) (fun y hy => .inl (by injection hy with hy; omega)))
        have C7 := Lib.hid ((c6.kept (grown_setCell w6 r1 0 (.slice G6 j6 g6)) (fun y hy => by injection hy with hy; omega)).kept (grown_setCell _ r1 1 (.slice H6 q6 h6)) (fun y hy => by injection hy with hy; omega))
        have hd7 := synced_ok hd3
        clear S5 G5 c5 S6 G6b c6 o6 b6 m0 m1 hsz hsz3
        go_wp2
        go_roundw
        case rel => exact ⟨k2, synced d3, G6, j6, g6, H6, q6, h6, f6, by go_num, by omega, hd7, S7.out, C7.out, G7.out⟩
        case measure => simp [intOf]

end Go.Proofs.Ytbjdfgdcmaflkaa
