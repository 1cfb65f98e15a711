/-
  The model's draw of a valid disk in new memory.
  The model's draw of any disk, also one that is not valid, in new memory.
-/
import Derived.Test.YtejcpoidoekleaaKS6
import Derived.Test.YtejcpoidoekleaaKD
import Derived.Test.YtejcpoidoekleaaKG
import Derived.Test.YtejcpoidoekleaaKA
namespace Go.Proofs.Ytejcpoidoekleaa
set_option maxRecDepth 100000
open Go.RowKit

theorem grownBy_of_below {w w' : World} (h : Below w.heap.size w w') (row : Option Nat) : w.grownBy w' row := ⟨h.os, h.tape, h.output, h.size, fun i hi _ => h.block i hi⟩
theorem Sep.grown {w w' : World} {base p : Nat} {is : List Item} (h : Sep w base is) (g : w.grownBy w' (some p)) (hp : p < base) : Sep w' base is :=
  ⟨fun n i hi => Item.same (h.holds n i hi) (fun q hq => g.block q (Item.lt (h.holds n i hi) q hq) (fun e => by injection e with e; have := h.ge q (foot_mem hi hq); omega)), h.nodup, h.ge⟩
theorem Sep.erase2 {w : World} {base : Nat} {a b c d : Item} (h : Sep w base (a :: b :: c :: d :: [])) : Sep w base (a :: b :: d :: []) := h.third.tail
theorem ok_sz {d : DiskM} (h : diskOk d = true) : d.sz ≤ 1048576 := by
  have h1 := rows_sz_le (ok_kept_len h) (diskOk_iff.1 h).1.2
  have h2 := wait_sz_le (fun p hp => (ok_wait h p hp).2) (diskOk_iff.1 h).2.1
  unfold DiskM.sz
  omega

/-- Some valid disk in new memory is handed back; nothing but the cursor p is written. -/
def DrawnDisk (w : World) (B p : Nat) (e : Ending) (w' : World) : Prop :=
  ∃ d A n c A' n' c', e = .returned (.agg #[.slice A n c, .slice A' n' c']) ∧ diskOk d = true ∧ Has w' w.heap.size d.cells [.slice A n c, .slice A' n' c'] ∧ Cur w' B p ∧ w.grownBy w' (some p)

set_option maxHeartbeats 6400000 in
theorem draw_any (B p : Nat) (w : World) (h : Cur w B p) :
    Calls Try.prog 113 #[.pointer (some ⟨p, 0, none⟩)] w (DrawnDisk w B p) := by
  have hp := h.lt
  have S0 := (Sep.nil w w.heap.size).box (Nat.le_refl _) #[.slice none 0 0, .slice none 0 0] 30
  have c0 := cur_alloc h (.cells #[.slice none 0 0, .slice none 0 0] 30)
  have g0 := World.grownBy_alloc w (.cells #[.slice none 0 0, .slice none 0 0] 30) (some p)
  clear h
  go_enter Try.func113, Try.ntmps113
  go_wp2_with fail
  generalize w.alloc (.cells #[.slice none 0 0, .slice none 0 0] 30) = w0 at *
  refine (below_any B p _ c0 5 (by omega) (by omega)).mono ?_
  rintro e w1 ⟨x, ⟨x0, x1⟩, rfl, c1, g1⟩
  have S1 := S0.grown g1 hp
  have G1 := g0.trans g1
  clear S0 c0 g0 g1
  go_wp2_with fail
  refine (sNewDisk_any (1 + x) w1).mono ?_
  rintro e w2 ⟨G0, j0, g0, H0, q0, h0, rfl, o2, b2⟩
  have hd0 : diskOk (newDisk (1 + x)) = true := newDisk_ok (by unfold secOk; simp; omega)
  generalize newDisk (1 + x) = dd at *
  obtain ⟨f2, S2⟩ := S1.has b2 o2 G1.size
  have G2 := G1.trans (grownBy_of_below b2 (some p))
  have c2 := c1.below b2
  have S3 := S2.box G2.size #[.slice G0 j0 g0, .slice H0 q0 h0] 30
  have G3 := G2.trans (World.grownBy_alloc w2 (.cells #[.slice G0 j0 g0, .slice H0 q0 h0] 30) (some p))
  have c3 := cur_alloc c2 (.cells #[.slice G0 j0 g0, .slice H0 q0 h0] 30)
  have zr := G2.size
  clear S1 S2 G1 G2 c1 c2 o2 b2
  go_wp2_with fail
  generalize w2.alloc (.cells #[.slice G0 j0 g0, .slice H0 q0 h0] 30) = w3 at *
  generalize w2.heap.size = r1 at *
  refine (below_any B p _ c3 9 (by omega) (by omega)).mono ?_
  rintro e w4 ⟨y, ⟨y0, y1⟩, rfl, c4, g4⟩
  have S4 := Lib.hid (S3.grown g4 hp)
  have G4 := Lib.hid (G3.trans g4)
  have C4 := Lib.hid c4
  obtain ⟨y, rfl⟩ := Int.eq_ofNat_of_zero_le y0
  clear S3 G3 c3 c4 g4
  go_wp2
  go_loopw [4] (fun i wr => ∃ (k : Nat) (d : DiskM) (G : Option Addr) (j g : Nat) (H : Option Addr) (q hc : Nat) (fp : List Nat), i = .int .i64 (k : Int) ∧ k ≤ 8 ∧ diskOk d = true ∧ Sep wr w.heap.size [.blk r1 #[.slice G j g, .slice H q hc] 30, .own d.cells [.slice G j g, .slice H q hc] fp, .blk w.heap.size #[.slice none 0 0, .slice none 0 0] 30] ∧ Cur wr B p ∧ w.grownBy wr (some p)) (fun i _ => (intOf i).toNat)
  case atStart => exact ⟨y, dd, G0, j0, g0, H0, q0, h0, f2, rfl, by omega, hd0, S4.out, C4.out, G4.out⟩
  case round =>
    obtain ⟨k, d, G, j, g, H, q, hc, fp, rfl, hk, hd, S, hcur, hgr⟩ := hrel
    clear S4 C4 G4 hd0 f2
    have k0 : wr.cell? ⟨r1, 0, none⟩ = some (.slice G j g) := (S.at_ 0 rfl).cell 0
    have k1 : wr.cell? ⟨r1, 1, none⟩ = some (.slice H q hc) := (S.at_ 0 rfl).cell 1
    rcases k with _ | k2
    · have n0 : wr.cell? ⟨w.heap.size, 0, none⟩ = some (.slice none 0 0) := (S.at_ 2 rfl).cell 0
      have n1 : wr.cell? ⟨w.heap.size, 1, none⟩ = some (.slice none 0 0) := (S.at_ 2 rfl).cell 1
      have fr0 := (S.at_ 2 rfl).free 0
      have fr1 := (S.at_ 2 rfl).free 1
      have S7 := Lib.hid (((S.put 2 rfl 0 (.slice G j g)).put 2 rfl 1 (.slice H q hc)).drop 1).first
      have G7 := Lib.hid ((hgr.andThen (grown_setCell wr w.heap.size 0 (.slice G j g)) (fun y hy => .inl (by injection hy with hy; omega))).andThen (grown_setCell _ w.heap.size 1 (.slice H q hc)) (fun y hy => .inl (by injection hy with hy; omega)))
      have C7 := Lib.hid ((hcur.kept (grown_setCell wr w.heap.size 0 (.slice G j g)) (fun y hy => by injection hy with hy; omega)).kept (grown_setCell _ w.heap.size 1 (.slice H q hc)) (fun y hy => by injection hy with hy; omega))
      clear S hcur hgr
      go_wp2
      exact bodyPost_ret (v := .agg #[.slice G j g, .slice H q hc]) (by simp [results, Try.results113, go_sem, n0, n1]) rfl ⟨d, G, j, g, H, q, hc, rfl, hd, S7.out, C7.out, G7.out⟩
    · have i0 : (0 : Int) < (k2 : Int) + 1 := by omega
      have hsz := ok_sz hd
      have hjl : d.kept.length = j := by
        obtain ⟨_, _, _, _, _, _, e, e', q1, q2⟩ := (S.own_ 1 rfl).rd.disk
        injection e with e1 e2 e3
        subst e1 e2 e3
        obtain ⟨_, _, _, e, hl1, _⟩ := q1.kept
        injection e with e1 e2 e3
        omega
      have hj1 : 1 ≤ j := by have := (diskOk_iff.1 hd).1.1; omega
      have hj40 : j ≤ 40 := by have := (diskOk_iff.1 hd).1.2; omega
      clear hjl
      go_wp2_with fail
      refine wp_region_L (fun v => v.cell? ⟨r1, 0, none⟩ = some (.slice G j g) ∧ v.cell? ⟨r1, 1, none⟩ = some (.slice H q hc)) 12 (by kernel_rfl) ?_
      have HF : wr.drew.cell? ⟨r1, 0, none⟩ = some (.slice G j g) ∧ wr.drew.cell? ⟨r1, 1, none⟩ = some (.slice H q hc) := ⟨k0, k1⟩
      refine wpAnyL_take (i := 0) (v := ?_) rfl rfl (by kernel_rfl) (by kernel_rfl) (by kernel_rfl) (by kernel_rfl) (by kernel_rfl) (fun _ _ _ h => h) HF (Or.inl ⟨by rfl, ?_⟩) ?_
      rotate_left 1
      · (rintro v ⟨a0, a1⟩; go_simp; try with_reducible rfl)
      try simp only [Act.put]
      refine wpAnyL_take (i := 1) (v := ?_) rfl rfl (by kernel_rfl) (by kernel_rfl) (by kernel_rfl) (by kernel_rfl) (by kernel_rfl) (fun _ _ _ h => h) HF (Or.inl ⟨by rfl, ?_⟩) ?_
      rotate_left 1
      · (rintro v ⟨a0, a1⟩; go_simp; try with_reducible rfl)
      try simp only [Act.put]
      refine wpAnyL_take (i := 2) (v := ?_) rfl rfl (by kernel_rfl) (by kernel_rfl) (by kernel_rfl) (by kernel_rfl) (by kernel_rfl) (fun _ _ _ h => h) HF (Or.inl ⟨by rfl, ?_⟩) ?_
      rotate_left 1
      · (rintro v ⟨a0, a1⟩; go_simp; try with_reducible rfl)
      try simp only [Act.put]
      refine wpAnyL_take (i := 3) (v := ?_) rfl rfl (by kernel_rfl) (by kernel_rfl) (by kernel_rfl) (by kernel_rfl) (by kernel_rfl) (fun _ _ _ h => h) HF (Or.inl ⟨by rfl, ?_⟩) ?_
      rotate_left 1
      · (rintro v ⟨a0, a1⟩; go_simp; try with_reducible rfl)
      try simp only [Act.put]
      refine wpAnyL_take (i := 4) (v := ?_) rfl rfl (by kernel_rfl) (by kernel_rfl) (by kernel_rfl) (by kernel_rfl) (by kernel_rfl) (fun _ _ _ h => h) HF (Or.inl ⟨by rfl, ?_⟩) ?_
      rotate_left 1
      · (rintro v ⟨a0, a1⟩; go_simp; try with_reducible rfl)
      try simp only [Act.put]
      refine wpAnyL_take (i := 6) (v := ?_) rfl rfl (by kernel_rfl) (by kernel_rfl) (by kernel_rfl) (by kernel_rfl) (by kernel_rfl) (fun _ _ _ h => h) HF (Or.inl ⟨by rfl, ?_⟩) ?_
      rotate_left 1
      · (rintro v ⟨a0, a1⟩; go_simp; try with_reducible rfl)
      try simp only [Act.put]
      refine wpAnyL_step (i := 5) (by kernel_rfl) rfl rfl ?_
      intro K hK
      go_simp
      refine (below_any B p wr.drew (hcur.below ((Below.refl _ _).drew)) (j : Int) (by omega) (by omega)).mono ?_
      rintro e w1 ⟨x, ⟨x0, x1⟩, rfl, c1, g1⟩
      have S1 := (S.keep ((Below.refl _ _).drew)).grown g1 hp
      have G1 := hgr.trans ((grownBy_of_below ((Below.refl wr.heap.size wr).drew) (some p)).trans g1)
      have HF1 : w1.cell? ⟨r1, 0, none⟩ = some (.slice G j g) ∧ w1.cell? ⟨r1, 1, none⟩ = some (.slice H q hc) := ⟨(S1.at_ 0 rfl).cell 0, (S1.at_ 0 rfl).cell 1⟩
      refine hK _ _ (fun _ => HF1) ?_
      clear hcur hgr S g1
      clear hK K
      try simp only [Act.put]
      refine wpAnyL_step (i := 7) (by kernel_rfl) rfl rfl ?_
      intro K hK
      go_simp
      refine (drawRow_any7 B p w1 c1).mono ?_
      rintro e w2 ⟨R, m, k, r, rfl, o2, hm7, c2, g2⟩
      have S2 := S1.grown g2 hp
      have G2 := G1.trans g2
      have HF2 : w2.cell? ⟨r1, 0, none⟩ = some (.slice G j g) ∧ w2.cell? ⟨r1, 1, none⟩ = some (.slice H q hc) := ⟨(S2.at_ 0 rfl).cell 0, (S2.at_ 0 rfl).cell 1⟩
      refine hK _ _ (fun _ => HF2) ?_
      clear c1 g2 S1 G1
      clear hK K
      try simp only [Act.put]
      refine wpAnyL_step (i := 8) (by kernel_rfl) rfl rfl ?_
      intro K hK
      go_simp
      refine (sWrote_any G j g H q hc d x R m k r w2 (S2.own_ 1 rfl).rd hsz o2.has.rd (by rw [o2.len]; omega)).mono ?_
      rintro e w3 ⟨G', j', g', H', q', hc', rfl, o3, b3⟩
      obtain ⟨f3, S3⟩ := S2.has b3 o3 G2.size
      have G3 := G2.trans (grownBy_of_below b3 (some p))
      have c3 := c2.below b3
      have HF3 : w3.cell? ⟨r1, 0, none⟩ = some (.slice G j g) ∧ w3.cell? ⟨r1, 1, none⟩ = some (.slice H q hc) := ⟨(S3.at_ 1 rfl).cell 0, (S3.at_ 1 rfl).cell 1⟩
      have hd3 := wrote_ok hd x r
      generalize (wrote d x r).2 = bb at *
      generalize (wrote d x r).1 = d3 at *
      refine hK _ _ (fun _ => HF3) ?_
      clear S2 G2 c2 o3 b3 o2
      clear hK K
      try simp only [Act.put]
      refine wpAnyL_step (i := 9) (by kernel_rfl) rfl rfl ?_
      intro K hK
      go_simp
      refine hK _ _ (fun _ => HF3) ?_
      clear hK K
      try simp only [Act.put]
      refine wpAnyL_pure (i := 10) (v := ?_) rfl rfl (by kernel_rfl) (by kernel_rfl) (by kernel_rfl) (fun _ _ _ h => h) HF3 (Or.inl ⟨by rfl, ?_⟩) ?_
      rotate_left 1
      · (intro v _; go_simp; try with_reducible rfl)
      try simp only [Act.put]
      refine wpAnyL_pure (i := 11) (v := ?_) rfl rfl (by kernel_rfl) (by kernel_rfl) (by kernel_rfl) (fun _ _ _ h => h) HF3 (Or.inl ⟨by rfl, ?_⟩) ?_
      rotate_left 1
      · (intro v _; go_simp; try with_reducible rfl)
      try simp only [Act.put]
      have fr0 := (S3.at_ 1 rfl).free 0
      have fr1 := (S3.at_ 1 rfl).free 1
      have l0 := HF3.1
      have l1 := HF3.2
      have S4 : Sep ((w3.setCell ⟨r1, 0, none⟩ (.slice G' j' g')).setCell ⟨r1, 1, none⟩ (.slice H' q' hc')) w.heap.size [.blk r1 #[.slice G' j' g', .slice H' q' hc'] 30, .own d3.cells [.slice G' j' g', .slice H' q' hc'] f3, .blk w.heap.size #[.slice none 0 0, .slice none 0 0] 30] := (((S3.put 1 rfl 0 (.slice G' j' g')).put 1 rfl 1 (.slice H' q' hc')).swap).erase2
      have G4 := (G3.andThen (grown_setCell w3 r1 0 (.slice G' j' g')) (fun y hy => .inl (by injection hy with hy; omega))).andThen (grown_setCell _ r1 1 (.slice H' q' hc')) (fun y hy => .inl (by injection hy with hy; omega))
      have c4 := (c3.kept (grown_setCell w3 r1 0 (.slice G' j' g')) (fun y hy => by injection hy with hy; omega)).kept (grown_setCell _ r1 1 (.slice H' q' hc')) (fun y hy => by injection hy with hy; omega)
      clear S3 G3 c3
      refine wpAnyL_step (i := 12) (by kernel_rfl) rfl rfl ?_
      intro K hK
      go_simp
      refine hK _ _ (fun h => nomatch (show true = false from h)) ?_
      clear hK K
      try simp only [Act.put]
      clear HF HF1 HF2 HF3 l0 l1 fr0 fr1 k0 k1
      generalize (w3.setCell ⟨r1, 0, none⟩ (.slice G' j' g')).setCell ⟨r1, 1, none⟩ (.slice H' q' hc') = w4 at *
      refine wpAnyL_done (by kernel_rfl) ?_ _
      go_wp2_with fail
      refine (once_any B p _ c4 3 (by omega) (by omega)).mono ?_
      rintro e w5 ⟨b, rfl, c5, g5⟩
      have S5 := S4.grown g5 hp
      have G5 := G4.trans g5
      clear S4 G4 c4 g5
      cases b
      · clear hsz
        go_wp2
        go_roundw
        case rel => exact ⟨k2, d3, G', j', g', H', q', hc', f3, by go_num, by omega, hd3, S5, c5, G5⟩
        case measure => simp [intOf]
      · have m0 : w5.cell? ⟨r1, 0, none⟩ = some (.slice G' j' g') := (S5.at_ 0 rfl).cell 0
        have m1 : w5.cell? ⟨r1, 1, none⟩ = some (.slice H' q' hc') := (S5.at_ 0 rfl).cell 1
        have hsz3 := ok_sz hd3
        go_wp2_with fail
        refine (sSynced_any G' j' g' H' q' hc' d3 w5 (S5.own_ 1 rfl).rd hsz3).mono ?_
        rintro e w6 ⟨G6, j6, g6, H6, q6, h6, rfl, o6, b6⟩
        obtain ⟨f6, S6⟩ := S5.has b6 o6 G5.size
        have G6b := G5.trans (grownBy_of_below b6 (some p))
        have c6 := c5.below b6
        have n0 : w6.cell? ⟨r1, 0, none⟩ = some (.slice G' j' g') := (S6.at_ 1 rfl).cell 0
        have n1 : w6.cell? ⟨r1, 1, none⟩ = some (.slice H' q' hc') := (S6.at_ 1 rfl).cell 1
        have fr0 := (S6.at_ 1 rfl).free 0
        have fr1 := (S6.at_ 1 rfl).free 1
        have S7 := Lib.hid (show Sep ((w6.setCell ⟨r1, 0, none⟩ (.slice G6 j6 g6)).setCell ⟨r1, 1, none⟩ (.slice H6 q6 h6)) w.heap.size [.blk r1 #[.slice G6 j6 g6, .slice H6 q6 h6] 30, .own (synced d3).cells [.slice G6 j6 g6, .slice H6 q6 h6] f6, .blk w.heap.size #[.slice none 0 0, .slice none 0 0] 30] from (((S6.put 1 rfl 0 (.slice G6 j6 g6)).put 1 rfl 1 (.slice H6 q6 h6)).swap).erase2)
        have G7 := Lib.hid ((G6b.andThen (grown_setCell w6 r1 0 (.slice G6 j6 g6)) (fun y hy => .inl (by injection hy with hy; omega))).andThen (grown_setCell _ r1 1 (.slice H6 q6 h6)) (fun y hy => .inl (by injection hy with hy; omega)))
        have C7 := Lib.hid ((c6.kept (grown_setCell w6 r1 0 (.slice G6 j6 g6)) (fun y hy => by injection hy with hy; omega)).kept (grown_setCell _ r1 1 (.slice H6 q6 h6)) (fun y hy => by injection hy with hy; omega))
        have hd7 := synced_ok hd3
        clear S5 G5 c5 S6 G6b c6 o6 b6 m0 m1 hsz hsz3
        go_wp2
        go_roundw
        case rel => exact ⟨k2, synced d3, G6, j6, g6, H6, q6, h6, f6, by go_num, by omega, hd7, S7.out, C7.out, G7.out⟩
        case measure => simp [intOf]

end Go.Proofs.Ytejcpoidoekleaa

namespace Go.Proofs.Ytejcpoidoekleaa
set_option maxRecDepth 100000
open Go.RowKit

/-- Whatever is written below 'base' later, the cells read as the data. -/
def RdF (w : World) (base : Nat) (ds : List Dat) (vs : List Value) : Prop :=
  ∀ w' : World, w.heap.size ≤ w'.heap.size → (∀ q, base ≤ q → q < w.heap.size → w'.heap[q]? = w.heap[q]?) → Rd w' w'.heap.size ds vs
theorem rdF_has {w : World} {base : Nat} {ds : List Dat} {vs : List Value} (h : Has w base ds vs) : RdF w base ds vs := fun _ _ hb => by
  obtain ⟨fp, o, _, hge⟩ := h
  exact (o.same fun p hp => hb p (hge p hp) (o.lt p hp)).rd
theorem RdF.rd {w : World} {base : Nat} {ds : List Dat} {vs : List Value} (h : RdF w base ds vs) : Rd w w.heap.size ds vs := h w (Nat.le_refl _) (fun _ _ _ => rfl)
theorem RdF.grown {w w' : World} {base p : Nat} {ds : List Dat} {vs : List Value} (h : RdF w base ds vs) (g : w.grownBy w' (some p)) (hp : p < base) : RdF w' base ds vs := fun w2 hs hb =>
  h w2 (Nat.le_trans g.size hs) (fun q hq hlt => (hb q hq (Nat.lt_of_lt_of_le hlt g.size)).trans (g.block q hlt (fun e => by injection e with e; omega)))
theorem rdKept_len {w : World} {B : Nat} {l : List (List Int)} {A : Option Addr} {n c : Nat} (h : Rd w B [keptD l] [.slice A n c]) : l.length = n := by
  obtain ⟨_, _, _, e, hl, _⟩ := h.kept
  injection e with _ e2 _
  omega
theorem Rd.parts {w : World} {B : Nat} {d : DiskM} {A : Option Addr} {n c : Nat} {A' : Option Addr} {n' c' : Nat} (h : Rd w B d.cells [.slice A n c, .slice A' n' c']) : Rd w B [keptD d.kept] [.slice A n c] ∧ Rd w B [waitD d.wait] [.slice A' n' c'] := by
  obtain ⟨_, _, _, _, _, _, e, e', q1, q2⟩ := h.disk
  injection e with e1 e2 e3
  injection e' with e4 e5 e6
  subst e1 e2 e3 e4 e5 e6
  exact ⟨q1, q2⟩
theorem rdDisk_some {w : World} {B : Nat} {d : DiskM} {A : Option Addr} {n c : Nat} {A' : Option Addr} {n' c' : Nat} (h : Rd w B d.cells [.slice A n c, .slice A' n' c']) (hn : 0 < n) : ∃ b off, A = some ⟨b, off, none⟩ := by
  obtain ⟨_, _, _, e, hl, _, _, h3⟩ := h.parts.1.kept
  injection e with e1 e2 e3
  subst e1 e2 e3
  obtain ⟨b, off, rfl, _⟩ := h3 hn
  exact ⟨b, off, rfl⟩
theorem rdDisk_cap {w : World} {B : Nat} {d : DiskM} {A : Option Addr} {n c : Nat} {A' : Option Addr} {n' c' : Nat} (h : Rd w B d.cells [.slice A n c, .slice A' n' c']) : n ≤ c := by
  obtain ⟨_, _, _, e, hl, h1, _, _⟩ := h.parts.1.kept
  injection e with e1 e2 e3
  omega
theorem rdDisk_capMax {w : World} {B : Nat} {d : DiskM} {A : Option Addr} {n c : Nat} {A' : Option Addr} {n' c' : Nat} (h : Rd w B d.cells [.slice A n c, .slice A' n' c']) : c ≤ maxLen := by
  obtain ⟨_, _, _, e, hl, _, h1, _⟩ := h.parts.1.kept
  injection e with e1 e2 e3
  omega
theorem rd_tail {w : World} {B : Nat} {d : DiskM} {b off n c : Nat} {A' : Option Addr} {n' c' : Nat} (h : Rd w B d.cells [.slice (some ⟨b, off, none⟩) n c, .slice A' n' c']) (hn : 1 ≤ n) :
    Rd w B (DiskM.mk d.kept.tail d.wait).cells [.slice (some ⟨b, off + 1, none⟩) (n - 1) (c - 1), .slice A' n' c'] := by
  obtain ⟨h1, h2⟩ := h.parts
  refine Rd.pair ?_ h2
  cases d with
  | mk kept wait =>
  cases kept with
  | nil => have := rdKept_len h1; simp at this; omega
  | cons x l =>
    cases h1 with
    | @row _ _ A n c us _ _ _ hl hc hm hcell hr _ =>
      have hr' : Rd w B (rowC x ++ l.flatMap rowC) us := hr
      obtain ⟨u1, u2, rfl, r1, r2⟩ := hr'.split
      have l1 : u1.length = 1 := r1.len
      obtain ⟨b', off', e, hb, hcc⟩ := hcell (by omega)
      injection e with e
      injection e with e1 e2 _
      subst e1 e2
      have hln : ((x :: l).flatMap rowC).length = n * 1 := hl
      rw [flatMap_len rowC_len] at hln
      refine Rd.of_lst (us := u2) rowC_len (by simp at hln ⊢; omega) (by omega) (by omega) (fun hn1 => ⟨b, off + 1, rfl, hb, fun j hj => ?_⟩) r2
      have := hcc (j + 1) (by omega)
      rw [List.getElem?_append_right (by omega), l1, Nat.add_sub_cancel] at this
      rw [← this]
      congr 2
      omega
theorem rdF_tail {w : World} {base : Nat} {d : DiskM} {b off n c : Nat} {A' : Option Addr} {n' c' : Nat} (h : RdF w base d.cells [.slice (some ⟨b, off, none⟩) n c, .slice A' n' c']) (hn : 1 ≤ n) :
    RdF w base (DiskM.mk d.kept.tail d.wait).cells [.slice (some ⟨b, off + 1, none⟩) (n - 1) (c - 1), .slice A' n' c'] := fun w' h1 h2 => rd_tail (h w' h1 h2) hn
theorem rd_tail0 {w : World} {B : Nat} {d : DiskM} {b off c : Nat} {A' : Option Addr} {n' c' : Nat} (h : Rd w B d.cells [.slice (some ⟨b, off, none⟩) 1 c, .slice A' n' c']) :
    Rd w B (DiskM.mk d.kept.tail d.wait).cells [.slice (some ⟨b, off, none⟩) 0 0, .slice A' n' c'] := by
  obtain ⟨h1, h2⟩ := h.parts
  refine Rd.pair ?_ h2
  have hl := rdKept_len h1
  cases d with
  | mk kept wait =>
  cases kept with
  | nil => simp at hl
  | cons x l =>
    cases l with
    | nil => exact Rd.of_lst (l := ([] : List (List Int))) (us := []) rowC_len rfl (Nat.le_refl _) (Nat.zero_le _) (fun h0 => absurd h0 (by omega)) .nil
    | cons y l => simp at hl
theorem rdF_tail0 {w : World} {base : Nat} {d : DiskM} {b off c : Nat} {A' : Option Addr} {n' c' : Nat} (h : RdF w base d.cells [.slice (some ⟨b, off, none⟩) 1 c, .slice A' n' c']) :
    RdF w base (DiskM.mk d.kept.tail d.wait).cells [.slice (some ⟨b, off, none⟩) 0 0, .slice A' n' c'] := fun w' h1 h2 => rd_tail0 (h w' h1 h2)
/-- New data of a call that wrote no more than the cursor. -/
theorem Sep.more {w : World} {base : Nat} {is : List Item} {ds : List Dat} {vs : List Value} {lo : Nat} (h : Sep w base is) (ho : Has w lo ds vs) (hd : ∀ p ∈ foots is, p < lo) (hle : base ≤ lo) : ∃ fp, Sep w base (.own ds vs fp :: is) := by
  obtain ⟨fp, ho, hn, hge⟩ := ho
  refine ⟨fp, fun n i hi => ?_, ?_, fun p hp => ?_⟩
  · cases n with
    | zero => simp at hi; subst hi; exact ho
    | succ n => exact h.holds n i (by simpa using hi)
  · show (fp ++ foots is).Nodup
    refine List.nodup_append.2 ⟨hn, h.nodup, fun p hp q hq e => ?_⟩
    have := hge p hp
    have := hd q hq
    omega
  · rcases List.mem_append.1 (show p ∈ fp ++ foots is from hp) with hp | hp
    · exact Nat.le_trans hle (hge p hp)
    · exact h.ge p hp
theorem grownB {a w w' : World} {base p : Nat} (g : a.grownBy w (some p)) (h : Below base w w') (hb : a.heap.size ≤ base) : a.grownBy w' (some p) :=
  ⟨h.os.trans g.os, h.tape.trans g.tape, h.output.trans g.output, Nat.le_trans g.size h.size, fun k hk hn => (h.block k (by omega)).trans (g.block k hk hn)⟩
theorem Cur.belowB {w w' : World} {B p base : Nat} (h : Cur w B p) (hb : Below base w w') (hp : p < base) : Cur w' B p := by
  have hle := h.le
  obtain ⟨A, n, c, i, y, hh, hr, r⟩ := h
  exact ⟨A, n, c, i, y, (hb.block p hp).trans hh, hr.below (hb.mono (by omega)), r⟩
theorem ok_sz4 {d : DiskM} (h : diskOk d = true) : d.sz ≤ 4900 := by
  have h1 := rows_sz_le (ok_kept_len h) (diskOk_iff.1 h).1.2
  have h2 := wait_sz_le (fun p hp => (ok_wait h p hp).2) (diskOk_iff.1 h).2.1
  unfold DiskM.sz
  omega
theorem sz_kept_more {d : DiskM} {r : List Int} (h : diskOk d = true) (hr : r.length ≤ 50) : (DiskM.mk (d.kept ++ [r]) d.wait).sz ≤ 6000 := by
  have := ok_sz4 h
  unfold DiskM.sz rowsSz at *
  simp
  omega
theorem sz_wait_more {d : DiskM} {x : Int} {r : List Int} (h : diskOk d = true) (hr : r.length ≤ 50) : (DiskM.mk d.kept (d.wait ++ [(x, r)])).sz ≤ 6000 := by
  have := ok_sz4 h
  unfold DiskM.sz waitSz at *
  simp [wrSz]
  omega
theorem sz_wait_made {d : DiskM} {k : Nat} (h : diskOk d = true) (hk : k ≤ 61) : (DiskM.mk d.kept (List.replicate k (0, []))).sz ≤ 6000 := by
  have := ok_sz4 h
  unfold DiskM.sz waitSz at *
  simp [wrSz]
  omega
theorem sz_kept_made {d : DiskM} {k : Nat} (h : diskOk d = true) (hk : k ≤ 41) : (DiskM.mk (List.replicate k []) d.wait).sz ≤ 6000 := by
  have := ok_sz4 h
  unfold DiskM.sz rowsSz at *
  simp
  omega
theorem sz_tail {d : DiskM} (h : diskOk d = true) : (DiskM.mk d.kept.tail d.wait).sz ≤ 6000 := by
  have := ok_sz4 h
  cases d with
  | mk kept wait =>
    cases kept with
    | nil => unfold DiskM.sz at *; simp at *; omega
    | cons x l => unfold DiskM.sz rowsSz at *; simp at *; omega

/-- Some disk in new memory is handed back; nothing but the cursor p is written. -/
def DrawnAny (w : World) (B p : Nat) (e : Ending) (w' : World) : Prop :=
  ∃ (d : DiskM) (A : Option Addr) (n c : Nat) (A' : Option Addr) (n' c' : Nat), e = .returned (.agg #[.slice A n c, .slice A' n' c']) ∧ d.sz ≤ 6000 ∧ RdF w' w.heap.size d.cells [.slice A n c, .slice A' n' c'] ∧ Cur w' B p ∧ w.grownBy w' (some p)

set_option maxHeartbeats 6400000 in
theorem drawDisk_any (B p : Nat) (w : World) (h : Cur w B p) :
    Calls Try.prog 93 #[.pointer (some ⟨p, 0, none⟩)] w (DrawnAny w B p) := by
  have hp := h.lt
  have S0 := (Sep.nil w w.heap.size).box (Nat.le_refl _) #[.slice none 0 0, .slice none 0 0] 30
  have c0 := cur_alloc h (.cells #[.slice none 0 0, .slice none 0 0] 30)
  have g0 := World.grownBy_alloc w (.cells #[.slice none 0 0, .slice none 0 0] 30) (some p)
  clear h
  go_enter Try.func93, Try.ntmps93
  go_wp2_with fail
  generalize w.alloc (.cells #[.slice none 0 0, .slice none 0 0] 30) = w0 at *
  refine (draw_any B p _ c0).mono ?_
  rintro e w1 ⟨d, G, j, g, H, q, hc, rfl, hd, o1, c1, g1⟩
  have S1 := S0.grown g1 hp
  obtain ⟨f1, S1b⟩ := S1.more o1 S0.lt g0.size
  have G1 := g0.trans g1
  have S3 := S1b.box G1.size #[.slice G j g, .slice H q hc] 30
  have G3 := G1.trans (World.grownBy_alloc w1 (.cells #[.slice G j g, .slice H q hc] 30) (some p))
  have c3 := cur_alloc c1 (.cells #[.slice G j g, .slice H q hc] 30)
  have zr := G1.size
  clear S0 S1 S1b G1 c1 o1 c0 g0 g1
  go_wp2_with fail
  generalize w1.alloc (.cells #[.slice G j g, .slice H q hc] 30) = w3 at *
  generalize w1.heap.size = r1 at *
  refine (once_any B p _ c3 6 (by omega) (by omega)).mono ?_
  rintro e w4 ⟨b, rfl, C4, g4⟩
  have S4 := S3.grown g4 hp
  have G4 := G3.trans g4
  clear S3 G3 c3 g4
  cases b
  · skip
    have k0 : w4.cell? ⟨r1, 0, none⟩ = some (.slice G j g) := (S4.at_ 0 rfl).cell 0
    have k1 : w4.cell? ⟨r1, 1, none⟩ = some (.slice H q hc) := (S4.at_ 0 rfl).cell 1
    have n0 : w4.cell? ⟨w.heap.size, 0, none⟩ = some (.slice none 0 0) := (S4.at_ 2 rfl).cell 0
    have n1 : w4.cell? ⟨w.heap.size, 1, none⟩ = some (.slice none 0 0) := (S4.at_ 2 rfl).cell 1
    have fr0 := (S4.at_ 2 rfl).free 0
    have fr1 := (S4.at_ 2 rfl).free 1
    have SE := (S4.put 2 rfl 0 (.slice G j g)).put 2 rfl 1 (.slice H q hc)
    have S7 := Lib.hid (rdF_has (SE.drop 1).first)
    have G7 := Lib.hid ((G4.andThen (grown_setCell w4 w.heap.size 0 (.slice G j g)) (fun y hy => .inl (by injection hy with hy; omega))).andThen (grown_setCell _ w.heap.size 1 (.slice H q hc)) (fun y hy => .inl (by injection hy with hy; omega)))
    have C7 := Lib.hid ((C4.kept (grown_setCell w4 w.heap.size 0 (.slice G j g)) (fun y hy => by injection hy with hy; omega)).kept (grown_setCell _ w.heap.size 1 (.slice H q hc)) (fun y hy => by injection hy with hy; omega))
    have HZ := Lib.hid (show d.sz ≤ 6000 from by have := ok_sz4 hd; omega)
    clear SE S4 G4 C4
    go_wp2
    exact bodyPost_ret (v := .agg #[.slice G j g, .slice H q hc]) (by simp [results, Try.results93, go_sem, n0, n1]) rfl ⟨d, _, _, _, _, _, _, rfl, HZ.out, S7.out, C7.out, G7.out⟩
  · go_wp2_with fail
    refine (below_any B p _ C4 5 (by omega) (by omega)).mono ?_
    rintro e w5 ⟨x, ⟨x0, x1⟩, rfl, C5, g5⟩
    have S5 := S4.grown g5 hp
    have G5 := G4.trans g5
    clear S4 G4 C4 g5
    rcases (show x = 0 ∨ x = 1 ∨ x = 2 ∨ x = 3 ∨ x = 4 from by omega) with rfl | rfl | rfl | rfl | rfl
    · skip
      obtain ⟨v1, v2, fk, fw, ev, SX⟩ := Sep.split (d1 := [keptD d.kept]) (d2 := [waitD d.wait]) S5.swap
      obtain ⟨ev1, ev2⟩ : v1 = [.slice G j g] ∧ v2 = [.slice H q hc] := by
        have l1 := (SX.own_ 1 rfl).len
        have l2 := (SX.own_ 0 rfl).len
        match v1, v2, l1, l2 with
        | [y1], [y2], _, _ =>
          injection ev with a1 a2
          injection a2 with a2 _
          subst a1 a2
          exact ⟨rfl, rfl⟩
      subst ev1 ev2
      clear ev
      replace SX := SX.swap
      have hjl : d.kept.length = j := keptD_len (SX.own_ 0 rfl)
      have hj40 : j ≤ 40 := by have := (diskOk_iff.1 hd).1.2; omega
      clear hjl S5
      have k0 : w5.cell? ⟨r1, 0, none⟩ = some (.slice G j g) := (SX.at_ 2 rfl).cell 0
      go_wp2_with fail
      refine wp_region_L (fun v => v.cell? ⟨r1, 0, none⟩ = some (.slice G j g)) 7 (by kernel_rfl) ?_
      have HF : w5.drew.cell? ⟨r1, 0, none⟩ = some (.slice G j g) := k0
      refine wpAnyL_take (i := 0) (v := ?_) rfl rfl (by kernel_rfl) (by kernel_rfl) (by kernel_rfl) (by kernel_rfl) (by kernel_rfl) (fun _ _ _ h => h) HF (Or.inl ⟨by rfl, ?_⟩) ?_
      rotate_left 1
      · (intro v a0; go_simp; try with_reducible rfl)
      try simp only [Act.put]
      refine wpAnyL_take (i := 1) (v := ?_) rfl rfl (by kernel_rfl) (by kernel_rfl) (by kernel_rfl) (by kernel_rfl) (by kernel_rfl) (fun _ _ _ h => h) HF (Or.inl ⟨by rfl, ?_⟩) ?_
      rotate_left 1
      · (intro v a0; go_simp; try with_reducible rfl)
      try simp only [Act.put]
      refine wpAnyL_take (i := 2) (v := ?_) rfl rfl (by kernel_rfl) (by kernel_rfl) (by kernel_rfl) (by kernel_rfl) (by kernel_rfl) (fun _ _ _ h => h) HF (Or.inl ⟨by rfl, ?_⟩) ?_
      rotate_left 1
      · (intro v a0; go_simp; try with_reducible rfl)
      try simp only [Act.put]
      refine wpAnyL_step (i := 3) (by kernel_rfl) rfl rfl ?_
      intro K hK
      go_simp
      refine (drawAny_any B p w5.drew (C5.below ((Below.refl _ _).drew))).mono ?_
      rintro e w6 ⟨R, m, rc, r, rfl, o6, hm50, C6, g6⟩
      have S6 := (SX.keep ((Below.refl _ _).drew)).grown g6 hp
      have G6 := G5.trans ((grownBy_of_below ((Below.refl w5.heap.size w5).drew) (some p)).trans g6)
      obtain ⟨f2, S6b⟩ := S6.more o6.has (fun a ha => by have := SX.lt a ha; exact this) (by have := G5.size; exact this)
      have hr50 : r.length ≤ 50 := by rw [o6.len]; exact hm50
      have HF1 : w6.cell? ⟨r1, 0, none⟩ = some (.slice G j g) := (S6.at_ 2 rfl).cell 0
      refine hK _ _ (fun _ => HF1) ?_
      clear S6 SX G5 C5 g6 o6
      clear hK K
      try simp only [Act.put]
      have zz := G6.size
      have SA := S6b.swap.box zz #[.slice R m rc] 35
      have HD := S6b.swap.apart
      have GA := G6.trans (World.grownBy_alloc w6 (.cells #[.slice R m rc] 35) (some p))
      have CA := cur_alloc C6 (.cells #[.slice R m rc] 35)
      have HF2 : (w6.alloc (.cells #[.slice R m rc] 35)).cell? ⟨r1, 0, none⟩ = some (.slice G j g) := (SA.at_ 4 rfl).cell 0
      have HC : ∀ i, i < 1 → (w6.alloc (.cells #[.slice R m rc] 35)).cell? ⟨w6.heap.size, i, none⟩ = [Value.slice R m rc][i]? := fun i hi => by
        have h1 := (SA.at_ 0 rfl).cell i
        have : i = 0 := by omega
        subst this
        exact h1
      refine wpAnyL_step (i := 4) (by kernel_rfl) rfl rfl ?_
      intro K hK
      go_simp
      refine hK _ _ (fun _ => HF2) ?_
      clear hK K
      try simp only [Act.put]
      refine wpAnyL_step (i := 5) (by kernel_rfl) rfl rfl ?_
      intro K hK
      refine wp_append_elem (l := d.kept) (y := r) (fp := fk) _ _ (by rfl) Try.underlying27 infoRow (by rfl) (by decide) rowC_len (by rfl) (SA.own_ 1 rfl) (SA.nodup_own 1 rfl) (by rfl) HC (SA.own_ 2 rfl) (SA.nodup_own 2 rfl) HD (by omega) (by omega) ?_
      intro G3 g3 w7 fp3 o3 n3 s3 t3
      have SD : Sep (w6.alloc (.cells #[.slice R m rc] 35)) w.heap.size [.own [keptD d.kept] [.slice G j g] fk, .own [rowD r] [.slice R m rc] f2, .own [waitD d.wait] [.slice H q hc] fw, .blk r1 #[.slice G j g, .slice H q hc] 30, .blk w.heap.size #[.slice none 0 0, .slice none 0 0] 30] := SA.drop 1
      have S7 := SD.merge t3 o3 n3 s3 GA.size
      have G7 := grownB GA (SD.below 0 rfl t3 GA.size) (Nat.le_refl _)
      have C7 := CA.belowB (SD.below 0 rfl t3 GA.size) hp
      have HF3 : w7.cell? ⟨r1, 0, none⟩ = some (.slice G j g) := (S7.at_ 2 rfl).cell 0
      have q1 := HF3
      have q2 := (S7.at_ 2 rfl).free 0
      have S8 := S7.put 2 rfl 0 (.slice G3 (j + 1) g3)
      refine hK _ _ (fun _ => HF3) ?_
      clear hK K S7 SD o3 n3 s3 t3 SA HC HD GA CA S6b G6 C6 HF HF1 HF2
      try simp only [Act.put]
      refine wpAnyL_step (i := 6) (by kernel_rfl) rfl rfl ?_
      intro K hK
      go_simp
      refine hK _ _ (fun _ => HF3) ?_
      clear hK K
      try simp only [Act.put]
      have G8 := G7.andThen (grown_setCell w7 r1 0 (.slice G3 (j + 1) g3)) (fun y hy => .inl (by injection hy with hy; omega))
      have C8 := C7.kept (grown_setCell w7 r1 0 (.slice G3 (j + 1) g3)) (fun y hy => by injection hy with hy; omega)
      refine wpAnyL_step (i := 7) (by kernel_rfl) rfl rfl ?_
      intro K hK
      go_simp
      refine hK _ _ (fun h => nomatch (show true = false from h)) ?_
      clear hK K
      try simp only [Act.put]
      clear HF3 q1 q2 k0 G7 C7
      generalize w7.setCell ⟨r1, 0, none⟩ (.slice G3 (j + 1) g3) = w8 at *
      refine wpAnyL_done (by kernel_rfl) ?_ _
      have u0 : w8.cell? ⟨r1, 0, none⟩ = some (.slice G3 (j + 1) g3) := (S8.at_ 2 rfl).cell 0
      have u1 : w8.cell? ⟨r1, 1, none⟩ = some (.slice H q hc) := (S8.at_ 2 rfl).cell 1
      have n0 : w8.cell? ⟨w.heap.size, 0, none⟩ = some (.slice none 0 0) := (S8.at_ 3 rfl).cell 0
      have n1 : w8.cell? ⟨w.heap.size, 1, none⟩ = some (.slice none 0 0) := (S8.at_ 3 rfl).cell 1
      have fr0 := (S8.at_ 3 rfl).free 0
      have fr1 := (S8.at_ 3 rfl).free 1
      have SE := (S8.put 3 rfl 0 (.slice G3 (j + 1) g3)).put 3 rfl 1 (.slice H q hc)
      have S7 := Lib.hid (rdF_has SE.swap.pair)
      have G7 := Lib.hid ((G8.andThen (grown_setCell w8 w.heap.size 0 (.slice G3 (j + 1) g3)) (fun y hy => .inl (by injection hy with hy; omega))).andThen (grown_setCell _ w.heap.size 1 (.slice H q hc)) (fun y hy => .inl (by injection hy with hy; omega)))
      have C7 := Lib.hid ((C8.kept (grown_setCell w8 w.heap.size 0 (.slice G3 (j + 1) g3)) (fun y hy => by injection hy with hy; omega)).kept (grown_setCell _ w.heap.size 1 (.slice H q hc)) (fun y hy => by injection hy with hy; omega))
      have HZ := Lib.hid (show (DiskM.mk (d.kept ++ [r]) d.wait).sz ≤ 6000 from sz_kept_more hd hr50)
      clear SE S8 G8 C8
      go_wp2
      exact bodyPost_ret (v := .agg #[.slice G3 (j + 1) g3, .slice H q hc]) (by simp [results, Try.results93, go_sem, n0, n1]) rfl ⟨(DiskM.mk (d.kept ++ [r]) d.wait), _, _, _, _, _, _, rfl, HZ.out, S7.out, C7.out, G7.out⟩
    · skip
      obtain ⟨v1, v2, fk, fw, ev, SX⟩ := Sep.split (d1 := [keptD d.kept]) (d2 := [waitD d.wait]) S5.swap
      obtain ⟨ev1, ev2⟩ : v1 = [.slice G j g] ∧ v2 = [.slice H q hc] := by
        have l1 := (SX.own_ 1 rfl).len
        have l2 := (SX.own_ 0 rfl).len
        match v1, v2, l1, l2 with
        | [y1], [y2], _, _ =>
          injection ev with a1 a2
          injection a2 with a2 _
          subst a1 a2
          exact ⟨rfl, rfl⟩
      subst ev1 ev2
      clear ev
      have hql : d.wait.length = q := waitD_len (SX.own_ 0 rfl)
      have hq60 : q ≤ 60 := by have := (diskOk_iff.1 hd).2.1; omega
      clear hql S5
      have k0 : w5.cell? ⟨r1, 1, none⟩ = some (.slice H q hc) := (SX.at_ 2 rfl).cell 1
      go_wp2_with fail
      refine wp_region_L (fun v => v.cell? ⟨r1, 1, none⟩ = some (.slice H q hc)) 10 (by kernel_rfl) ?_
      have HF : w5.drew.cell? ⟨r1, 1, none⟩ = some (.slice H q hc) := k0
      refine wpAnyL_take (i := 0) (v := ?_) rfl rfl (by kernel_rfl) (by kernel_rfl) (by kernel_rfl) (by kernel_rfl) (by kernel_rfl) (fun _ _ _ h => h) HF (Or.inl ⟨by rfl, ?_⟩) ?_
      rotate_left 1
      · (intro v a0; go_simp; try with_reducible rfl)
      try simp only [Act.put]
      refine wpAnyL_take (i := 1) (v := ?_) rfl rfl (by kernel_rfl) (by kernel_rfl) (by kernel_rfl) (by kernel_rfl) (by kernel_rfl) (fun _ _ _ h => h) HF (Or.inl ⟨by rfl, ?_⟩) ?_
      rotate_left 1
      · (intro v a0; go_simp; try with_reducible rfl)
      try simp only [Act.put]
      refine wpAnyL_take (i := 2) (v := ?_) rfl rfl (by kernel_rfl) (by kernel_rfl) (by kernel_rfl) (by kernel_rfl) (by kernel_rfl) (fun _ _ _ h => h) HF (Or.inl ⟨by rfl, ?_⟩) ?_
      rotate_left 1
      · (intro v a0; go_simp; try with_reducible rfl)
      try simp only [Act.put]
      refine wpAnyL_take (i := 4) (v := ?_) rfl rfl (by kernel_rfl) (by kernel_rfl) (by kernel_rfl) (by kernel_rfl) (by kernel_rfl) (fun _ _ _ h => h) HF (Or.inl ⟨by rfl, ?_⟩) ?_
      rotate_left 1
      · (intro v a0; go_simp; try with_reducible rfl)
      try simp only [Act.put]
      refine wpAnyL_step (i := 3) (by kernel_rfl) rfl rfl ?_
      intro K hK
      go_simp
      refine (from_any B p w5.drew (C5.below ((Below.refl _ _).drew)) (-1) 6 (by omega) (by omega) (by omega)).mono ?_
      rintro e w6 ⟨x, ⟨x0, x1⟩, rfl, C6, g6⟩
      have S6 := (SX.keep ((Below.refl _ _).drew)).grown g6 hp
      have G6 := G5.trans ((grownBy_of_below ((Below.refl w5.heap.size w5).drew) (some p)).trans g6)
      have HF1 : w6.cell? ⟨r1, 1, none⟩ = some (.slice H q hc) := (S6.at_ 2 rfl).cell 1
      refine hK _ _ (fun _ => HF1) ?_
      clear SX G5 C5 g6
      clear hK K
      try simp only [Act.put]
      refine wpAnyL_step (i := 5) (by kernel_rfl) rfl rfl ?_
      intro K hK
      go_simp
      refine (drawAny_any B p w6 C6).mono ?_
      rintro e w7 ⟨R, m, rc, r, rfl, o7, hm50, C7, g7⟩
      have S7 := S6.grown g7 hp
      have G7 := G6.trans g7
      obtain ⟨f2, S7b⟩ := S7.more o7.has S6.lt G6.size
      have hr50 : r.length ≤ 50 := by rw [o7.len]; exact hm50
      have HF2 : w7.cell? ⟨r1, 1, none⟩ = some (.slice H q hc) := (S7.at_ 2 rfl).cell 1
      refine hK _ _ (fun _ => HF2) ?_
      clear S7 S6 G6 C6 g7 o7
      clear hK K
      try simp only [Act.put]
      refine wpAnyL_step (i := 6) (by kernel_rfl) rfl rfl ?_
      intro K hK
      go_simp
      refine hK _ _ (fun _ => HF2) ?_
      clear hK K
      try simp only [Act.put]
      have zz := G7.size
      have SA := S7b.swap.box zz #[.int .i64 x, .slice R m rc] 49
      have HD := S7b.swap.apart
      have GA := G7.trans (World.grownBy_alloc w7 (.cells #[.int .i64 x, .slice R m rc] 49) (some p))
      have CA := cur_alloc C7 (.cells #[.int .i64 x, .slice R m rc] 49)
      have HF3 : (w7.alloc (.cells #[.int .i64 x, .slice R m rc] 49)).cell? ⟨r1, 1, none⟩ = some (.slice H q hc) := (SA.at_ 4 rfl).cell 1
      have HC : ∀ i, i < 2 → (w7.alloc (.cells #[.int .i64 x, .slice R m rc] 49)).cell? ⟨w7.heap.size, i, none⟩ = [Value.int .i64 x, Value.slice R m rc][i]? := fun i hi => by
        have h1 := (SA.at_ 0 rfl).cell i
        have h3 : i = 0 ∨ i = 1 := by omega
        rcases h3 with rfl | rfl
        · exact h1
        · exact h1
      refine wpAnyL_step (i := 7) (by kernel_rfl) rfl rfl ?_
      intro K hK
      go_simp
      refine hK _ _ (fun _ => HF3) ?_
      clear hK K
      try simp only [Act.put]
      refine wpAnyL_step (i := 8) (by kernel_rfl) rfl rfl ?_
      intro K hK
      refine wp_append_elem (l := d.wait) (y := (x, r)) (fp := fw) (es := [.int .i64 x, .slice R m rc]) _ _ (by rfl) Try.underlying28 infoWrite (by rfl) (by decide) wrC_len (by rfl) (SA.own_ 1 rfl) (SA.nodup_own 1 rfl) (by rfl) HC (.int (SA.own_ 2 rfl)) (SA.nodup_own 2 rfl) HD (by omega) (by omega) ?_
      intro G3 g3 w8 fp3 o3 n3 s3 t3
      have SD : Sep (w7.alloc (.cells #[.int .i64 x, .slice R m rc] 49)) w.heap.size [.own [waitD d.wait] [.slice H q hc] fw, .own [rowD r] [.slice R m rc] f2, .own [keptD d.kept] [.slice G j g] fk, .blk r1 #[.slice G j g, .slice H q hc] 30, .blk w.heap.size #[.slice none 0 0, .slice none 0 0] 30] := SA.drop 1
      have S8 := SD.merge t3 o3 n3 s3 GA.size
      have G8 := grownB GA (SD.below 0 rfl t3 GA.size) (Nat.le_refl _)
      have C8 := CA.belowB (SD.below 0 rfl t3 GA.size) hp
      have HF4 : w8.cell? ⟨r1, 1, none⟩ = some (.slice H q hc) := (S8.at_ 2 rfl).cell 1
      have q1 := HF4
      have q2 := (S8.at_ 2 rfl).free 1
      have S9 := S8.put 2 rfl 1 (.slice G3 (q + 1) g3)
      refine hK _ _ (fun _ => HF4) ?_
      clear hK K S8 SD o3 n3 s3 t3 SA HC HD GA CA S7b G7 C7 HF HF1 HF2 HF3
      try simp only [Act.put]
      refine wpAnyL_step (i := 9) (by kernel_rfl) rfl rfl ?_
      intro K hK
      go_simp
      refine hK _ _ (fun _ => HF4) ?_
      clear hK K
      try simp only [Act.put]
      have G9 := G8.andThen (grown_setCell w8 r1 1 (.slice G3 (q + 1) g3)) (fun y hy => .inl (by injection hy with hy; omega))
      have C9 := C8.kept (grown_setCell w8 r1 1 (.slice G3 (q + 1) g3)) (fun y hy => by injection hy with hy; omega)
      refine wpAnyL_step (i := 10) (by kernel_rfl) rfl rfl ?_
      intro K hK
      go_simp
      refine hK _ _ (fun h => nomatch (show true = false from h)) ?_
      clear hK K
      try simp only [Act.put]
      clear HF4 q1 q2 k0 G8 C8
      generalize w8.setCell ⟨r1, 1, none⟩ (.slice G3 (q + 1) g3) = w9 at *
      refine wpAnyL_done (by kernel_rfl) ?_ _
      have u0 : w9.cell? ⟨r1, 0, none⟩ = some (.slice G j g) := (S9.at_ 2 rfl).cell 0
      have u1 : w9.cell? ⟨r1, 1, none⟩ = some (.slice G3 (q + 1) g3) := (S9.at_ 2 rfl).cell 1
      have n0 : w9.cell? ⟨w.heap.size, 0, none⟩ = some (.slice none 0 0) := (S9.at_ 3 rfl).cell 0
      have n1 : w9.cell? ⟨w.heap.size, 1, none⟩ = some (.slice none 0 0) := (S9.at_ 3 rfl).cell 1
      have fr0 := (S9.at_ 3 rfl).free 0
      have fr1 := (S9.at_ 3 rfl).free 1
      have SE := (S9.put 3 rfl 0 (.slice G j g)).put 3 rfl 1 (.slice G3 (q + 1) g3)
      have S7 := Lib.hid (rdF_has SE.pair)
      have G7 := Lib.hid ((G9.andThen (grown_setCell w9 w.heap.size 0 (.slice G j g)) (fun y hy => .inl (by injection hy with hy; omega))).andThen (grown_setCell _ w.heap.size 1 (.slice G3 (q + 1) g3)) (fun y hy => .inl (by injection hy with hy; omega)))
      have C7 := Lib.hid ((C9.kept (grown_setCell w9 w.heap.size 0 (.slice G j g)) (fun y hy => by injection hy with hy; omega)).kept (grown_setCell _ w.heap.size 1 (.slice G3 (q + 1) g3)) (fun y hy => by injection hy with hy; omega))
      have HZ := Lib.hid (show (DiskM.mk d.kept (d.wait ++ [(x, r)])).sz ≤ 6000 from sz_wait_more hd hr50)
      clear SE S9 G9 C9
      go_wp2
      exact bodyPost_ret (v := .agg #[.slice G j g, .slice G3 (q + 1) g3]) (by simp [results, Try.results93, go_sem, n0, n1]) rfl ⟨(DiskM.mk d.kept (d.wait ++ [(x, r)])), _, _, _, _, _, _, rfl, HZ.out, S7.out, C7.out, G7.out⟩
    · skip
      obtain ⟨v1, v2, fk, fw, ev, SX⟩ := Sep.split (d1 := [keptD d.kept]) (d2 := [waitD d.wait]) S5.swap
      obtain ⟨ev1, ev2⟩ : v1 = [.slice G j g] ∧ v2 = [.slice H q hc] := by
        have l1 := (SX.own_ 1 rfl).len
        have l2 := (SX.own_ 0 rfl).len
        match v1, v2, l1, l2 with
        | [y1], [y2], _, _ =>
          injection ev with a1 a2
          injection a2 with a2 _
          subst a1 a2
          exact ⟨rfl, rfl⟩
      subst ev1 ev2
      clear ev
      go_wp2_with fail
      refine (from_any B p _ C5 (-1) 1 (by omega) (by omega) (by omega)).mono ?_
      rintro e w6 ⟨y, ⟨y0, y1⟩, rfl, C6, g6⟩
      have S6 := SX.grown g6 hp
      have G6 := G5.trans g6
      obtain ⟨k, hk⟩ := Int.eq_ofNat_of_zero_le (show 0 ≤ 60 + y by omega)
      have hmk := run_make_k (P := Try.prog) 28 49 (.agg #[.int .i64 0, .slice none 0 0]) #[.int .i64 0, .slice none 0 0] 2 32 Try.underlying28 infoWrite rfl .i64 .i64 k (by omega) (by omega)
      rw [← hk] at hmk
      have hmd := ow_made (w := w6) (e := 49) (f := wrC) (x0 := ((0, []) : Int × List Int)) (zc := #[.int .i64 0, .slice none 0 0]) (k := 2) rfl (by decide) k (by simp only [maxLen]; omega) ow_zero_write
      have bA : Below w6.heap.size w6 (w6.alloc (.cells (madeCells #[.int .i64 0, .slice none 0 0] (k * 2)) 49)) := (Below.refl _ w6).alloc (Nat.le_refl _) _
      obtain ⟨f2, SA⟩ := S6.tail.has bA ⟨_, hmd, by simp, fun p hp => Nat.le_of_eq (by simpa using hp : p = w6.heap.size).symm⟩ G6.size
      have GA := G6.trans (World.grownBy_alloc w6 (.cells (madeCells #[.int .i64 0, .slice none 0 0] (k * 2)) 49) (some p))
      have CA := cur_alloc C6 (.cells (madeCells #[.int .i64 0, .slice none 0 0] (k * 2)) 49)
      have k61 : k ≤ 61 := by omega
      clear hk hmd bA SX S6 G6 C6 G5 C5 g6 S5
      have q1 : (w6.alloc (.cells (madeCells #[.int .i64 0, .slice none 0 0] (k * 2)) 49)).cell? ⟨r1, 1, none⟩ = some (.slice H q hc) := (SA.at_ 2 rfl).cell 1
      have q2 := (SA.at_ 2 rfl).free 1
      have S8 := SA.put 2 rfl 1 (.slice (some ⟨w6.heap.size, 0, none⟩) k k)
      have G8 := GA.andThen (grown_setCell _ r1 1 (.slice (some ⟨w6.heap.size, 0, none⟩) k k)) (fun y hy => .inl (by injection hy with hy; omega))
      have C8 := CA.kept (grown_setCell _ r1 1 (.slice (some ⟨w6.heap.size, 0, none⟩) k k)) (fun y hy => by injection hy with hy; omega)
      clear SA GA CA
      have u0 : ((w6.alloc (.cells (madeCells #[.int .i64 0, .slice none 0 0] (k * 2)) 49)).setCell ⟨r1, 1, none⟩ (.slice (some ⟨w6.heap.size, 0, none⟩) k k)).cell? ⟨r1, 0, none⟩ = some (.slice G j g) := (S8.at_ 2 rfl).cell 0
      have u1 : ((w6.alloc (.cells (madeCells #[.int .i64 0, .slice none 0 0] (k * 2)) 49)).setCell ⟨r1, 1, none⟩ (.slice (some ⟨w6.heap.size, 0, none⟩) k k)).cell? ⟨r1, 1, none⟩ = some (.slice (some ⟨w6.heap.size, 0, none⟩) k k) := (S8.at_ 2 rfl).cell 1
      have n0 : ((w6.alloc (.cells (madeCells #[.int .i64 0, .slice none 0 0] (k * 2)) 49)).setCell ⟨r1, 1, none⟩ (.slice (some ⟨w6.heap.size, 0, none⟩) k k)).cell? ⟨w.heap.size, 0, none⟩ = some (.slice none 0 0) := (S8.at_ 3 rfl).cell 0
      have n1 : ((w6.alloc (.cells (madeCells #[.int .i64 0, .slice none 0 0] (k * 2)) 49)).setCell ⟨r1, 1, none⟩ (.slice (some ⟨w6.heap.size, 0, none⟩) k k)).cell? ⟨w.heap.size, 1, none⟩ = some (.slice none 0 0) := (S8.at_ 3 rfl).cell 1
      have fr0 := (S8.at_ 3 rfl).free 0
      have fr1 := (S8.at_ 3 rfl).free 1
      have SE := (S8.put 3 rfl 0 (.slice G j g)).put 3 rfl 1 (.slice (some ⟨w6.heap.size, 0, none⟩) k k)
      have S7 := Lib.hid (rdF_has SE.pair)
      have G7 := Lib.hid ((G8.andThen (grown_setCell ((w6.alloc (.cells (madeCells #[.int .i64 0, .slice none 0 0] (k * 2)) 49)).setCell ⟨r1, 1, none⟩ (.slice (some ⟨w6.heap.size, 0, none⟩) k k)) w.heap.size 0 (.slice G j g)) (fun y hy => .inl (by injection hy with hy; omega))).andThen (grown_setCell _ w.heap.size 1 (.slice (some ⟨w6.heap.size, 0, none⟩) k k)) (fun y hy => .inl (by injection hy with hy; omega)))
      have C7 := Lib.hid ((C8.kept (grown_setCell ((w6.alloc (.cells (madeCells #[.int .i64 0, .slice none 0 0] (k * 2)) 49)).setCell ⟨r1, 1, none⟩ (.slice (some ⟨w6.heap.size, 0, none⟩) k k)) w.heap.size 0 (.slice G j g)) (fun y hy => by injection hy with hy; omega)).kept (grown_setCell _ w.heap.size 1 (.slice (some ⟨w6.heap.size, 0, none⟩) k k)) (fun y hy => by injection hy with hy; omega))
      have HZ := Lib.hid (show (DiskM.mk d.kept (List.replicate k (0, []))).sz ≤ 6000 from sz_wait_made hd k61)
      clear SE S8 G8 C8
      go_wp2
      exact bodyPost_ret (v := .agg #[.slice G j g, .slice (some ⟨w6.heap.size, 0, none⟩) k k]) (by simp [results, Try.results93, go_sem, n0, n1]) rfl ⟨(DiskM.mk d.kept (List.replicate k (0, []))), _, _, _, _, _, _, rfl, HZ.out, S7.out, C7.out, G7.out⟩
    · skip
      obtain ⟨v1, v2, fk, fw, ev, SX⟩ := Sep.split (d1 := [keptD d.kept]) (d2 := [waitD d.wait]) S5.swap
      obtain ⟨ev1, ev2⟩ : v1 = [.slice G j g] ∧ v2 = [.slice H q hc] := by
        have l1 := (SX.own_ 1 rfl).len
        have l2 := (SX.own_ 0 rfl).len
        match v1, v2, l1, l2 with
        | [y1], [y2], _, _ =>
          injection ev with a1 a2
          injection a2 with a2 _
          subst a1 a2
          exact ⟨rfl, rfl⟩
      subst ev1 ev2
      clear ev
      go_wp2_with fail
      refine (below_any B p _ C5 2 (by omega) (by omega)).mono ?_
      rintro e w6 ⟨y, ⟨y0, y1⟩, rfl, C6, g6⟩
      have S6 := SX.grown g6 hp
      have G6 := G5.trans g6
      obtain ⟨k, hk⟩ := Int.eq_ofNat_of_zero_le (show 0 ≤ 40 + y by omega)
      have hmk := run_make_k (P := Try.prog) 27 35 (.slice none 0 0) #[.slice none 0 0] 1 24 Try.underlying27 infoRow rfl .i64 .i64 k (by omega) (by omega)
      rw [← hk, Nat.mul_one] at hmk
      have hmd := ow_made (w := w6) (e := 35) (f := rowC) (x0 := ([] : List Int)) (zc := #[.slice none 0 0]) (k := 1) rfl (by decide) k (by simp only [maxLen]; omega) ow_nil_row
      rw [Nat.mul_one] at hmd
      have bA : Below w6.heap.size w6 (w6.alloc (.cells (madeCells #[.slice none 0 0] k) 35)) := (Below.refl _ w6).alloc (Nat.le_refl _) _
      obtain ⟨f2, SA⟩ := S6.swap.tail.has bA ⟨_, hmd, by simp, fun p hp => Nat.le_of_eq (by simpa using hp : p = w6.heap.size).symm⟩ G6.size
      have GA := G6.trans (World.grownBy_alloc w6 (.cells (madeCells #[.slice none 0 0] k) 35) (some p))
      have CA := cur_alloc C6 (.cells (madeCells #[.slice none 0 0] k) 35)
      have k41 : k ≤ 41 := by omega
      clear hk hmd bA SX S6 G6 C6 G5 C5 g6 S5
      have q1 : (w6.alloc (.cells (madeCells #[.slice none 0 0] k) 35)).cell? ⟨r1, 0, none⟩ = some (.slice G j g) := (SA.at_ 2 rfl).cell 0
      have q2 := (SA.at_ 2 rfl).free 0
      have S8 := SA.put 2 rfl 0 (.slice (some ⟨w6.heap.size, 0, none⟩) k k)
      have G8 := GA.andThen (grown_setCell _ r1 0 (.slice (some ⟨w6.heap.size, 0, none⟩) k k)) (fun y hy => .inl (by injection hy with hy; omega))
      have C8 := CA.kept (grown_setCell _ r1 0 (.slice (some ⟨w6.heap.size, 0, none⟩) k k)) (fun y hy => by injection hy with hy; omega)
      clear SA GA CA
      have u0 : ((w6.alloc (.cells (madeCells #[.slice none 0 0] k) 35)).setCell ⟨r1, 0, none⟩ (.slice (some ⟨w6.heap.size, 0, none⟩) k k)).cell? ⟨r1, 0, none⟩ = some (.slice (some ⟨w6.heap.size, 0, none⟩) k k) := (S8.at_ 2 rfl).cell 0
      have u1 : ((w6.alloc (.cells (madeCells #[.slice none 0 0] k) 35)).setCell ⟨r1, 0, none⟩ (.slice (some ⟨w6.heap.size, 0, none⟩) k k)).cell? ⟨r1, 1, none⟩ = some (.slice H q hc) := (S8.at_ 2 rfl).cell 1
      have n0 : ((w6.alloc (.cells (madeCells #[.slice none 0 0] k) 35)).setCell ⟨r1, 0, none⟩ (.slice (some ⟨w6.heap.size, 0, none⟩) k k)).cell? ⟨w.heap.size, 0, none⟩ = some (.slice none 0 0) := (S8.at_ 3 rfl).cell 0
      have n1 : ((w6.alloc (.cells (madeCells #[.slice none 0 0] k) 35)).setCell ⟨r1, 0, none⟩ (.slice (some ⟨w6.heap.size, 0, none⟩) k k)).cell? ⟨w.heap.size, 1, none⟩ = some (.slice none 0 0) := (S8.at_ 3 rfl).cell 1
      have fr0 := (S8.at_ 3 rfl).free 0
      have fr1 := (S8.at_ 3 rfl).free 1
      have SE := (S8.put 3 rfl 0 (.slice (some ⟨w6.heap.size, 0, none⟩) k k)).put 3 rfl 1 (.slice H q hc)
      have S7 := Lib.hid (rdF_has SE.swap.pair)
      have G7 := Lib.hid ((G8.andThen (grown_setCell ((w6.alloc (.cells (madeCells #[.slice none 0 0] k) 35)).setCell ⟨r1, 0, none⟩ (.slice (some ⟨w6.heap.size, 0, none⟩) k k)) w.heap.size 0 (.slice (some ⟨w6.heap.size, 0, none⟩) k k)) (fun y hy => .inl (by injection hy with hy; omega))).andThen (grown_setCell _ w.heap.size 1 (.slice H q hc)) (fun y hy => .inl (by injection hy with hy; omega)))
      have C7 := Lib.hid ((C8.kept (grown_setCell ((w6.alloc (.cells (madeCells #[.slice none 0 0] k) 35)).setCell ⟨r1, 0, none⟩ (.slice (some ⟨w6.heap.size, 0, none⟩) k k)) w.heap.size 0 (.slice (some ⟨w6.heap.size, 0, none⟩) k k)) (fun y hy => by injection hy with hy; omega)).kept (grown_setCell _ w.heap.size 1 (.slice H q hc)) (fun y hy => by injection hy with hy; omega))
      have HZ := Lib.hid (show (DiskM.mk (List.replicate k []) d.wait).sz ≤ 6000 from sz_kept_made hd k41)
      clear SE S8 G8 C8
      go_wp2
      exact bodyPost_ret (v := .agg #[.slice (some ⟨w6.heap.size, 0, none⟩) k k, .slice H q hc]) (by simp [results, Try.results93, go_sem, n0, n1]) rfl ⟨(DiskM.mk (List.replicate k []) d.wait), _, _, _, _, _, _, rfl, HZ.out, S7.out, C7.out, G7.out⟩
    · skip
      have hjl : d.kept.length = j := rdKept_len (S5.own_ 1 rfl).rd.parts.1
      have hj1 : 1 ≤ j := by have := (diskOk_iff.1 hd).1.1; omega
      have hj40 : j ≤ 40 := by have := (diskOk_iff.1 hd).1.2; omega
      obtain ⟨g0, off0, hG⟩ := rdDisk_some (S5.own_ 1 rfl).rd (by omega)
      subst hG
      have hjc := rdDisk_cap (S5.own_ 1 rfl).rd
      have hcm := rdDisk_capMax (S5.own_ 1 rfl).rd
      unfold maxLen at hcm
      clear hjl
      have i1 : (1 : Int) ≤ (j : Int) := by omega
      have i2 : (1 : Int) ≤ (g : Int) := by omega
      have i3 : (j : Int) ≤ (g : Int) := by omega
      have k0 : w5.cell? ⟨r1, 0, none⟩ = some (.slice (some ⟨g0, off0, none⟩) j g) := (S5.at_ 0 rfl).cell 0
      have k1 : w5.cell? ⟨r1, 1, none⟩ = some (.slice H q hc) := (S5.at_ 0 rfl).cell 1
      have q2 := (S5.at_ 0 rfl).free 0
      by_cases hg1 : g ≤ 1
      · obtain rfl : g = 1 := by omega
        obtain rfl : j = 1 := by omega
        have S8 := S5.put 0 rfl 0 (.slice (some ⟨g0, off0, none⟩) 0 0)
        have G8 := G5.andThen (grown_setCell _ r1 0 (.slice (some ⟨g0, off0, none⟩) 0 0)) (fun y hy => .inl (by injection hy with hy; omega))
        have C8 := C5.kept (grown_setCell _ r1 0 (.slice (some ⟨g0, off0, none⟩) 0 0)) (fun y hy => by injection hy with hy; omega)
        clear S5 G5 C5
        have u0 : (w5.setCell ⟨r1, 0, none⟩ (.slice (some ⟨g0, off0, none⟩) 0 0)).cell? ⟨r1, 0, none⟩ = some (.slice (some ⟨g0, off0, none⟩) 0 0) := (S8.at_ 0 rfl).cell 0
        have u1 : (w5.setCell ⟨r1, 0, none⟩ (.slice (some ⟨g0, off0, none⟩) 0 0)).cell? ⟨r1, 1, none⟩ = some (.slice H q hc) := (S8.at_ 0 rfl).cell 1
        have n0 : (w5.setCell ⟨r1, 0, none⟩ (.slice (some ⟨g0, off0, none⟩) 0 0)).cell? ⟨w.heap.size, 0, none⟩ = some (.slice none 0 0) := (S8.at_ 2 rfl).cell 0
        have n1 : (w5.setCell ⟨r1, 0, none⟩ (.slice (some ⟨g0, off0, none⟩) 0 0)).cell? ⟨w.heap.size, 1, none⟩ = some (.slice none 0 0) := (S8.at_ 2 rfl).cell 1
        have fr0 := (S8.at_ 2 rfl).free 0
        have fr1 := (S8.at_ 2 rfl).free 1
        have SE := (S8.put 2 rfl 0 (.slice (some ⟨g0, off0, none⟩) 0 0)).put 2 rfl 1 (.slice H q hc)
        have S7 := Lib.hid (rdF_tail0 (rdF_has (SE.drop 1).first))
        have G7 := Lib.hid ((G8.andThen (grown_setCell (w5.setCell ⟨r1, 0, none⟩ (.slice (some ⟨g0, off0, none⟩) 0 0)) w.heap.size 0 (.slice (some ⟨g0, off0, none⟩) 0 0)) (fun y hy => .inl (by injection hy with hy; omega))).andThen (grown_setCell _ w.heap.size 1 (.slice H q hc)) (fun y hy => .inl (by injection hy with hy; omega)))
        have C7 := Lib.hid ((C8.kept (grown_setCell (w5.setCell ⟨r1, 0, none⟩ (.slice (some ⟨g0, off0, none⟩) 0 0)) w.heap.size 0 (.slice (some ⟨g0, off0, none⟩) 0 0)) (fun y hy => by injection hy with hy; omega)).kept (grown_setCell _ w.heap.size 1 (.slice H q hc)) (fun y hy => by injection hy with hy; omega))
        have HZ := Lib.hid (show (DiskM.mk d.kept.tail d.wait).sz ≤ 6000 from sz_tail hd)
        clear SE S8 G8 C8
        go_wp2
        exact bodyPost_ret (v := .agg #[.slice (some ⟨g0, off0, none⟩) 0 0, .slice H q hc]) (by simp [results, Try.results93, go_sem, n0, n1]) rfl ⟨(DiskM.mk d.kept.tail d.wait), _, _, _, _, _, _, rfl, HZ.out, S7.out, C7.out, G7.out⟩
      · have i4 : ¬ ((g : Int) ≤ 1) := by omega
        have S8 := S5.put 0 rfl 0 (.slice (some ⟨g0, off0 + 1, none⟩) (j - 1) (g - 1))
        have G8 := G5.andThen (grown_setCell _ r1 0 (.slice (some ⟨g0, off0 + 1, none⟩) (j - 1) (g - 1))) (fun y hy => .inl (by injection hy with hy; omega))
        have C8 := C5.kept (grown_setCell _ r1 0 (.slice (some ⟨g0, off0 + 1, none⟩) (j - 1) (g - 1))) (fun y hy => by injection hy with hy; omega)
        clear S5 G5 C5
        have u0 : (w5.setCell ⟨r1, 0, none⟩ (.slice (some ⟨g0, off0 + 1, none⟩) (j - 1) (g - 1))).cell? ⟨r1, 0, none⟩ = some (.slice (some ⟨g0, off0 + 1, none⟩) (j - 1) (g - 1)) := (S8.at_ 0 rfl).cell 0
        have u1 : (w5.setCell ⟨r1, 0, none⟩ (.slice (some ⟨g0, off0 + 1, none⟩) (j - 1) (g - 1))).cell? ⟨r1, 1, none⟩ = some (.slice H q hc) := (S8.at_ 0 rfl).cell 1
        have n0 : (w5.setCell ⟨r1, 0, none⟩ (.slice (some ⟨g0, off0 + 1, none⟩) (j - 1) (g - 1))).cell? ⟨w.heap.size, 0, none⟩ = some (.slice none 0 0) := (S8.at_ 2 rfl).cell 0
        have n1 : (w5.setCell ⟨r1, 0, none⟩ (.slice (some ⟨g0, off0 + 1, none⟩) (j - 1) (g - 1))).cell? ⟨w.heap.size, 1, none⟩ = some (.slice none 0 0) := (S8.at_ 2 rfl).cell 1
        have fr0 := (S8.at_ 2 rfl).free 0
        have fr1 := (S8.at_ 2 rfl).free 1
        have SE := (S8.put 2 rfl 0 (.slice (some ⟨g0, off0 + 1, none⟩) (j - 1) (g - 1))).put 2 rfl 1 (.slice H q hc)
        have S7 := Lib.hid (rdF_tail (rdF_has (SE.drop 1).first) hj1)
        have G7 := Lib.hid ((G8.andThen (grown_setCell (w5.setCell ⟨r1, 0, none⟩ (.slice (some ⟨g0, off0 + 1, none⟩) (j - 1) (g - 1))) w.heap.size 0 (.slice (some ⟨g0, off0 + 1, none⟩) (j - 1) (g - 1))) (fun y hy => .inl (by injection hy with hy; omega))).andThen (grown_setCell _ w.heap.size 1 (.slice H q hc)) (fun y hy => .inl (by injection hy with hy; omega)))
        have C7 := Lib.hid ((C8.kept (grown_setCell (w5.setCell ⟨r1, 0, none⟩ (.slice (some ⟨g0, off0 + 1, none⟩) (j - 1) (g - 1))) w.heap.size 0 (.slice (some ⟨g0, off0 + 1, none⟩) (j - 1) (g - 1))) (fun y hy => by injection hy with hy; omega)).kept (grown_setCell _ w.heap.size 1 (.slice H q hc)) (fun y hy => by injection hy with hy; omega))
        have HZ := Lib.hid (show (DiskM.mk d.kept.tail d.wait).sz ≤ 6000 from sz_tail hd)
        clear SE S8 G8 C8
        go_wp2
        exact bodyPost_ret (v := .agg #[.slice (some ⟨g0, off0 + 1, none⟩) (j - 1) (g - 1), .slice H q hc]) (by simp [results, Try.results93, go_sem, n0, n1]) rfl ⟨(DiskM.mk d.kept.tail d.wait), _, _, _, _, _, _, rfl, HZ.out, S7.out, C7.out, G7.out⟩

end Go.Proofs.Ytejcpoidoekleaa
