/-
  The model's draws of any pair of disks, also one that is not valid, and of a pair with fates.
-/
import Derived.Test.YtejcpoidoekleaaTwoD1
import Derived.Test.YtejcpoidoekleaaKG
namespace Go.Proofs.Ytejcpoidoekleaa
set_option maxRecDepth 100000
open Go.RowKit

/-- Some pair in new memory is handed back; nothing but the cursor p is written. -/
def DrawnAnyT (w : World) (B p : Nat) (e : Ending) (w' : World) : Prop :=
  ∃ (t : TwoM) (At0 : Option Addr) (nt0 ct0 : Nat) (At1 : Option Addr) (nt1 ct1 : Nat) (At2 : Option Addr) (nt2 ct2 : Nat) (At3 : Option Addr) (nt3 ct3 : Nat), e = .returned (.agg #[.slice At0 nt0 ct0, .slice At1 nt1 ct1, .slice At2 nt2 ct2, .slice At3 nt3 ct3]) ∧ t.sz ≤ 12000 ∧ RdF w' w.heap.size t.cells [.slice At0 nt0 ct0, .slice At1 nt1 ct1, .slice At2 nt2 ct2, .slice At3 nt3 ct3] ∧ Cur w' B p ∧ w.grownBy w' (some p)

set_option maxHeartbeats 12800000 in
theorem drawAnyT_any (B p : Nat) (w : World) (hc : Cur w B p) :
    Calls Try.prog 63 #[.pointer (some ⟨p, 0, none⟩)] w (DrawnAnyT w B p) := by
  have X := Dr.start hc
  replace X := X.boxAt (w.heap.size) rfl #[.slice none 0 0, .slice none 0 0, .slice none 0 0, .slice none 0 0] 32
  go_enter Try.func63, Try.ntmps63
  go_wp2_with fail
  generalize w.alloc (.cells #[.slice none 0 0, .slice none 0 0, .slice none 0 0, .slice none 0 0] 32) = w1 at *
  refine (drawTwo_any B p _ X.cur).mono ?_
  rintro e w2 ⟨t, At0, nt0, ct0, At1, nt1, ct1, At2, nt2, ct2, At3, nt3, ct3, rfl, hok, o, cu, gr⟩
  obtain ⟨fp_own, X'⟩ := X.drawHas cu gr o
  clear X; have X := X'; clear X' cu gr o
  replace X := X.boxAt (w2.heap.size) rfl #[.slice At0 nt0 ct0, .slice At1 nt1 ct1, .slice At2 nt2 ct2, .slice At3 nt3 ct3] 32
  go_wp2_with fail
  generalize w2.alloc (.cells #[.slice At0 nt0 ct0, .slice At1 nt1 ct1, .slice At2 nt2 ct2, .slice At3 nt3 ct3] 32) = w3 at *
  generalize w2.heap.size = r1 at *
  refine (once_any B p _ X.cur 8 (by omega) (by omega)).mono ?_
  rintro e w4 ⟨bb, rfl, cu, gr⟩
  replace X := X.draw cu gr
  clear cu gr
  cases bb
  · have f0 : w4.cell? ⟨r1, 0, none⟩ = some (.slice At0 nt0 ct0) := (X.sep.at_ 0 rfl).cell 0
    have f1 : w4.cell? ⟨r1, 1, none⟩ = some (.slice At1 nt1 ct1) := (X.sep.at_ 0 rfl).cell 1
    have f2 : w4.cell? ⟨r1, 2, none⟩ = some (.slice At2 nt2 ct2) := (X.sep.at_ 0 rfl).cell 2
    have f3 : w4.cell? ⟨r1, 3, none⟩ = some (.slice At3 nt3 ct3) := (X.sep.at_ 0 rfl).cell 3
    have f4 : w4.cell? ⟨w.heap.size, 0, none⟩ = some (.slice none 0 0) := (X.sep.at_ 2 rfl).cell 0
    have f5 := (X.sep.at_ 2 rfl).free 0
    have f6 : w4.cell? ⟨w.heap.size, 1, none⟩ = some (.slice none 0 0) := (X.sep.at_ 2 rfl).cell 1
    have f7 := (X.sep.at_ 2 rfl).free 1
    have f8 : w4.cell? ⟨w.heap.size, 2, none⟩ = some (.slice none 0 0) := (X.sep.at_ 2 rfl).cell 2
    have f9 := (X.sep.at_ 2 rfl).free 2
    have f10 : w4.cell? ⟨w.heap.size, 3, none⟩ = some (.slice none 0 0) := (X.sep.at_ 2 rfl).cell 3
    have f11 := (X.sep.at_ 2 rfl).free 3
    replace X := X.put 2 rfl 0 (.slice At0 nt0 ct0)
    replace X := X.put 2 rfl 1 (.slice At1 nt1 ct1)
    replace X := X.put 2 rfl 2 (.slice At2 nt2 ct2)
    replace X := X.put 2 rfl 3 (.slice At3 nt3 ct3)
    replace X := X.with_ (X.sep.sub (.cons _ (.cons_cons _ (List.nil_sublist _))))
    have H := Lib.hid (rdF_has X.sep.first)
    have C := Lib.hid X.cur
    have G := Lib.hid X.grown
    have HZ := Lib.hid (show t.sz ≤ 12000 by have := ok_two_sz hok; omega)
    clear X
    go_wp2
    exact bodyPost_ret (v := .agg #[.slice At0 nt0 ct0, .slice At1 nt1 ct1, .slice At2 nt2 ct2, .slice At3 nt3 ct3]) (by simp [results, Try.results63, go_sem, f4, f6, f8, f10]) rfl ⟨t, _, _, _, _, _, _, _, _, _, _, _, _, rfl, HZ.out, H.out, C.out, G.out⟩
  · skip
    go_wp2_with fail
    have zr := (X.sep.at_ 0 rfl).lt
    have zw := (X.sep.at_ 2 rfl).lt
    refine (drawDisk_any B p _ X.cur).mono ?_
    rintro e w5 ⟨d, Ad0, nd0, cd0, Ad1, nd1, cd1, rfl, hz, RF, cu, gr⟩
    replace X := X.draw cu gr
    clear cu gr
    have f0 : w5.cell? ⟨r1, 2, none⟩ = some (.slice At2 nt2 ct2) := (X.sep.at_ 0 rfl).cell 2
    have f1 := (X.sep.at_ 0 rfl).free 2
    have f2 : w5.cell? ⟨r1, 3, none⟩ = some (.slice At3 nt3 ct3) := (X.sep.at_ 0 rfl).cell 3
    have f3 := (X.sep.at_ 0 rfl).free 3
    replace X := X.put 0 rfl 2 (.slice Ad0 nd0 cd0)
    replace X := X.put 0 rfl 3 (.slice Ad1 nd1 cd1)
    replace RF := (RF.grown (grown_setCell _ r1 2 (.slice Ad0 nd0 cd0)) zr).grown (grown_setCell _ r1 3 (.slice Ad1 nd1 cd1)) zr
    have f4 : ((w5.setCell ⟨r1, 2, none⟩ (.slice Ad0 nd0 cd0)).setCell ⟨r1, 3, none⟩ (.slice Ad1 nd1 cd1)).cell? ⟨r1, 0, none⟩ = some (.slice At0 nt0 ct0) := (X.sep.at_ 0 rfl).cell 0
    have f5 : ((w5.setCell ⟨r1, 2, none⟩ (.slice Ad0 nd0 cd0)).setCell ⟨r1, 3, none⟩ (.slice Ad1 nd1 cd1)).cell? ⟨r1, 1, none⟩ = some (.slice At1 nt1 ct1) := (X.sep.at_ 0 rfl).cell 1
    have f6 : ((w5.setCell ⟨r1, 2, none⟩ (.slice Ad0 nd0 cd0)).setCell ⟨r1, 3, none⟩ (.slice Ad1 nd1 cd1)).cell? ⟨w.heap.size, 0, none⟩ = some (.slice none 0 0) := (X.sep.at_ 2 rfl).cell 0
    have f7 := (X.sep.at_ 2 rfl).free 0
    have f8 : ((w5.setCell ⟨r1, 2, none⟩ (.slice Ad0 nd0 cd0)).setCell ⟨r1, 3, none⟩ (.slice Ad1 nd1 cd1)).cell? ⟨w.heap.size, 1, none⟩ = some (.slice none 0 0) := (X.sep.at_ 2 rfl).cell 1
    have f9 := (X.sep.at_ 2 rfl).free 1
    have f10 : ((w5.setCell ⟨r1, 2, none⟩ (.slice Ad0 nd0 cd0)).setCell ⟨r1, 3, none⟩ (.slice Ad1 nd1 cd1)).cell? ⟨w.heap.size, 2, none⟩ = some (.slice none 0 0) := (X.sep.at_ 2 rfl).cell 2
    have f11 := (X.sep.at_ 2 rfl).free 2
    have f12 : ((w5.setCell ⟨r1, 2, none⟩ (.slice Ad0 nd0 cd0)).setCell ⟨r1, 3, none⟩ (.slice Ad1 nd1 cd1)).cell? ⟨w.heap.size, 3, none⟩ = some (.slice none 0 0) := (X.sep.at_ 2 rfl).cell 3
    have f13 := (X.sep.at_ 2 rfl).free 3
    have f14 : ((w5.setCell ⟨r1, 2, none⟩ (.slice Ad0 nd0 cd0)).setCell ⟨r1, 3, none⟩ (.slice Ad1 nd1 cd1)).cell? ⟨r1, 2, none⟩ = some (.slice Ad0 nd0 cd0) := (X.sep.at_ 0 rfl).cell 2
    have f15 : ((w5.setCell ⟨r1, 2, none⟩ (.slice Ad0 nd0 cd0)).setCell ⟨r1, 3, none⟩ (.slice Ad1 nd1 cd1)).cell? ⟨r1, 3, none⟩ = some (.slice Ad1 nd1 cd1) := (X.sep.at_ 0 rfl).cell 3
    replace X := X.put 2 rfl 0 (.slice At0 nt0 ct0)
    replace X := X.put 2 rfl 1 (.slice At1 nt1 ct1)
    replace X := X.put 2 rfl 2 (.slice Ad0 nd0 cd0)
    replace X := X.put 2 rfl 3 (.slice Ad1 nd1 cd1)
    replace X := X.with_ (X.sep.pick 1 rfl)
    obtain ⟨f1, f2, S9⟩ := Sep.cut (vs := [.slice At0 nt0 ct0, .slice At1 nt1 ct1]) (vs' := [.slice At2 nt2 ct2, .slice At3 nt3 ct3]) X.sep rfl
    have H := Lib.hid (((rdF_has (S9.drop 1).first).append (RdF.down ((((RF.grown (grown_setCell _ w.heap.size 0 (.slice At0 nt0 ct0)) zw).grown (grown_setCell _ w.heap.size 1 (.slice At1 nt1 ct1)) zw).grown (grown_setCell _ w.heap.size 2 (.slice Ad0 nd0 cd0)) zw).grown (grown_setCell _ w.heap.size 3 (.slice Ad1 nd1 cd1)) zw) (Nat.le_of_lt zw))) : RdF _ w.heap.size (TwoM.mk t.a d).cells [.slice At0 nt0 ct0, .slice At1 nt1 ct1, .slice Ad0 nd0 cd0, .slice Ad1 nd1 cd1])
    have C := Lib.hid X.cur
    have G := Lib.hid X.grown
    have HZ := Lib.hid (show (TwoM.mk t.a d).sz ≤ 12000 by have := ok_sz9 (twoOk_iff.1 hok).1; unfold TwoM.sz; show t.a.sz + d.sz ≤ 12000; omega)
    clear X S9 RF
    go_wp2
    exact bodyPost_ret (v := .agg #[.slice At0 nt0 ct0, .slice At1 nt1 ct1, .slice Ad0 nd0 cd0, .slice Ad1 nd1 cd1]) (by simp [results, Try.results63, go_sem, f6, f8, f10, f12]) rfl ⟨_, _, _, _, _, _, _, _, _, _, _, _, _, rfl, HZ.out, H.out, C.out, G.out⟩

/-- Some pair that is read and a short list of fates; nothing that was there is written. -/
def DrawnTF (w : World) (e : Ending) (w' : World) : Prop :=
  ∃ (t : TwoM) (At0 : Option Addr) (nt0 ct0 : Nat) (At1 : Option Addr) (nt1 ct1 : Nat) (At2 : Option Addr) (nt2 ct2 : Nat) (At3 : Option Addr) (nt3 ct3 : Nat) (E : Option Addr) (o co : Nat) (fs : List Int), e = .returned (.tuple #[.agg #[.slice At0 nt0 ct0, .slice At1 nt1 ct1, .slice At2 nt2 ct2, .slice At3 nt3 ct3], .slice E o co]) ∧ t.sz ≤ 12000 ∧ Rd w' w'.heap.size t.cells [.slice At0 nt0 ct0, .slice At1 nt1 ct1, .slice At2 nt2 ct2, .slice At3 nt3 ct3] ∧ Rd w' w'.heap.size (rowCells fs) [.slice E o co] ∧ fs.length ≤ 8 ∧ Below w.heap.size w w'
theorem BRow.upT {w : World} {B B' : Nat} {A : Option Addr} {n : Nat} (h : BRow w B A n) (hB : B ≤ B') : BRow w B' A n := by
  intro hn
  obtain ⟨b, off, e, hb, hc⟩ := h hn
  exact ⟨b, off, e, by omega, hc⟩
theorem Blk.grownT {w w' : World} {p q : Nat} {cs : Array Value} {t : TypeId} (h : Blk w p cs t) (g : w.grownBy w' (some q)) (hne : p ≠ q) : Blk w' p cs t := (g.block p h.lt (fun e => by injection e with e; omega)).trans h

set_option maxHeartbeats 12800000 in
theorem drawBothFallen_any (A : Option Addr) (n c : Nat) (w : World) (h : BRow w w.heap.size A n) (hn : n ≤ 4096) :
    Calls Try.prog 24 #[.slice A n c] w (DrawnTF w) := by
  have b0 : Below w.heap.size w (w.alloc (.cells #[.slice none 0 0, .slice none 0 0, .slice none 0 0, .slice none 0 0] 32)) := (Below.refl _ w).alloc (Nat.le_refl _) _
  have p0 := Blk.new w #[.slice none 0 0, .slice none 0 0, .slice none 0 0, .slice none 0 0] 32
  have h0 := (h.below b0).upT b0.size
  clear h
  go_enter Try.func24, Try.ntmps24
  go_wp2_with fail
  generalize w.alloc (.cells #[.slice none 0 0, .slice none 0 0, .slice none 0 0, .slice none 0 0] 32) = w0 at *
  have z0 := p0.lt
  refine (new_any A n c _ h0 hn).mono ?_
  rintro e w1 ⟨rfl, c1, b1⟩
  have p1 := p0.keep b1 z0
  have b01 := b0.trans (b1.mono b0.size)
  have zp := c1.lt
  clear p0 h0
  go_wp2_with fail
  refine (drawAnyT_any _ _ _ c1).mono ?_
  rintro e w2 ⟨t, At0, nt0, ct0, At1, nt1, ct1, At2, nt2, ct2, At3, nt3, ct3, rfl, hsz, R2, c2, g2⟩
  have p2 := p1.grownT g2 (by omega)
  have z2 := g2.size
  have b02 := b01.grown g2 b01.size (fun k hk => by injection hk with hk; omega)
  have gA := World.grownBy_alloc w2 (.cells #[.slice At0 nt0 ct0, .slice At1 nt1 ct1, .slice At2 nt2 ct2, .slice At3 nt3 ct3] 32) (some w0.heap.size)
  have p3 := p2.grownT gA (by omega)
  have r3 := Blk.new w2 #[.slice At0 nt0 ct0, .slice At1 nt1 ct1, .slice At2 nt2 ct2, .slice At3 nt3 ct3] 32
  have R3 := R2.grown gA zp
  have c3 := cur_alloc c2 (.cells #[.slice At0 nt0 ct0, .slice At1 nt1 ct1, .slice At2 nt2 ct2, .slice At3 nt3 ct3] 32)
  have b03 := b02.grown gA b02.size (fun k hk => by injection hk with hk; omega)
  clear p1 p2 R2 c2 b02 b01 g2 gA b1 b0 c1
  go_wp2_with fail
  generalize w2.alloc (.cells #[.slice At0 nt0 ct0, .slice At1 nt1 ct1, .slice At2 nt2 ct2, .slice At3 nt3 ct3] 32) = w3 at *
  have z3 := r3.lt
  generalize w2.heap.size = r1 at *
  refine wp_region_L (fun v => v.cell? ⟨r1, 0, none⟩ = some (.slice At0 nt0 ct0) ∧ v.cell? ⟨r1, 1, none⟩ = some (.slice At1 nt1 ct1) ∧ v.cell? ⟨r1, 2, none⟩ = some (.slice At2 nt2 ct2) ∧ v.cell? ⟨r1, 3, none⟩ = some (.slice At3 nt3 ct3)) 3 (by kernel_rfl) ?_
  have HF : w3.drew.cell? ⟨r1, 0, none⟩ = some (.slice At0 nt0 ct0) ∧ w3.drew.cell? ⟨r1, 1, none⟩ = some (.slice At1 nt1 ct1) ∧ w3.drew.cell? ⟨r1, 2, none⟩ = some (.slice At2 nt2 ct2) ∧ w3.drew.cell? ⟨r1, 3, none⟩ = some (.slice At3 nt3 ct3) := ⟨r3.cell 0, r3.cell 1, r3.cell 2, r3.cell 3⟩
  refine wpAnyL_take (i := 0) (v := ?_) rfl rfl (by kernel_rfl) (by kernel_rfl) (by kernel_rfl) (by kernel_rfl) (by kernel_rfl) (fun _ _ _ h => h) HF (Or.inl ⟨by rfl, ?_⟩) ?_
  rotate_left 1
  · (rintro v ⟨a0, a1, a2, a3⟩; go_simp; try with_reducible rfl)
  try simp only [Act.put]
  refine wpAnyL_pure (i := 1) (v := ?_) rfl rfl (by kernel_rfl) (by kernel_rfl) (by kernel_rfl) (fun _ _ _ h => h) HF (Or.inl ⟨by rfl, ?_⟩) ?_
  rotate_left 1
  · (intro v _; go_simp; try with_reducible rfl)
  try simp only [Act.put]
  refine wpAnyL_step (i := 2) (by kernel_rfl) rfl rfl ?_
  intro K hK
  go_simp
  refine (drawFates_any _ _ w3.drew (c3.below ((Below.refl _ _).drew))).mono ?_
  rintro e w4 ⟨E, o, co, fs, rfl, o4, ho8, c4, g4⟩
  have gD := grownBy_of_below ((Below.refl w3.heap.size w3).drew) (some w0.heap.size)
  have p4 := (p3.grownT gD (by omega)).grownT g4 (by omega)
  have r4 := (r3.grownT gD (by omega)).grownT g4 (by omega)
  have R4 := (R3.grown gD zp).grown g4 zp
  have b04 := (b03.grown gD b03.size (fun k hk => by injection hk with hk; omega)).grown g4 b03.size (fun k hk => by injection hk with hk; omega)
  have HF4 : w4.cell? ⟨r1, 0, none⟩ = some (.slice At0 nt0 ct0) ∧ w4.cell? ⟨r1, 1, none⟩ = some (.slice At1 nt1 ct1) ∧ w4.cell? ⟨r1, 2, none⟩ = some (.slice At2 nt2 ct2) ∧ w4.cell? ⟨r1, 3, none⟩ = some (.slice At3 nt3 ct3) := ⟨r4.cell 0, r4.cell 1, r4.cell 2, r4.cell 3⟩
  refine hK _ _ (fun _ => HF4) ?_
  clear hK K
  try simp only [Act.put]
  have hfl : fs.length ≤ 8 := by rw [o4.len]; exact ho8
  have z4 : w.heap.size < w3.drew.heap.size := by show w.heap.size < w3.heap.size; omega
  clear p3 r3 R3 b03 c3 c4 g4 gD HF
  refine wpAnyL_step (i := 3) (by kernel_rfl) rfl rfl ?_
  intro K hK
  have n0 : w4.cell? ⟨w.heap.size, 0, none⟩ = some (.slice none 0 0) := p4.cell 0
  have fr0 := p4.free 0
  have n1 : w4.cell? ⟨w.heap.size, 1, none⟩ = some (.slice none 0 0) := p4.cell 1
  have fr1 := p4.free 1
  have n2 : w4.cell? ⟨w.heap.size, 2, none⟩ = some (.slice none 0 0) := p4.cell 2
  have fr2 := p4.free 2
  have n3 : w4.cell? ⟨w.heap.size, 3, none⟩ = some (.slice none 0 0) := p4.cell 3
  have fr3 := p4.free 3
  go_simp
  refine hK _ _ (fun h => nomatch (show true = false from h)) ?_
  clear hK K
  try simp only [Act.put]
  have gs0 := grown_setCell w4 w.heap.size 0 (.slice At0 nt0 ct0)
  have gs1 := grown_setCell (w4.setCell ⟨w.heap.size, 0, none⟩ (.slice At0 nt0 ct0)) w.heap.size 1 (.slice At1 nt1 ct1)
  have gs2 := grown_setCell ((w4.setCell ⟨w.heap.size, 0, none⟩ (.slice At0 nt0 ct0)).setCell ⟨w.heap.size, 1, none⟩ (.slice At1 nt1 ct1)) w.heap.size 2 (.slice At2 nt2 ct2)
  have gs3 := grown_setCell (((w4.setCell ⟨w.heap.size, 0, none⟩ (.slice At0 nt0 ct0)).setCell ⟨w.heap.size, 1, none⟩ (.slice At1 nt1 ct1)).setCell ⟨w.heap.size, 2, none⟩ (.slice At2 nt2 ct2)) w.heap.size 3 (.slice At3 nt3 ct3)
  have R5 := ((((R4.grown gs0 (by omega)).grown gs1 (by omega)).grown gs2 (by omega)).grown gs3 (by omega)).rd
  have O5 := ((((o4.kept gs0 (fun k hk => by injection hk with hk; omega)).kept gs1 (fun k hk => by injection hk with hk; omega)).kept gs2 (fun k hk => by injection hk with hk; omega)).kept gs3 (fun k hk => by injection hk with hk; omega)).has.rd
  have B5 := ((((b04.setCell (p := ⟨w.heap.size, 0, none⟩) (Nat.le_refl _) (.slice At0 nt0 ct0)).setCell (p := ⟨w.heap.size, 1, none⟩) (Nat.le_refl _) (.slice At1 nt1 ct1)).setCell (p := ⟨w.heap.size, 2, none⟩) (Nat.le_refl _) (.slice At2 nt2 ct2)).setCell (p := ⟨w.heap.size, 3, none⟩) (Nat.le_refl _) (.slice At3 nt3 ct3))
  have p5 := ((((p4.set_ 0 (.slice At0 nt0 ct0)).set_ 1 (.slice At1 nt1 ct1)).set_ 2 (.slice At2 nt2 ct2)).set_ 3 (.slice At3 nt3 ct3))
  clear n0 fr0 n1 fr1 n2 fr2 n3 fr3 p4 r4 R4 b04 HF4 o4 gs0 gs1 gs2 gs3
  generalize (((w4.setCell ⟨w.heap.size, 0, none⟩ (.slice At0 nt0 ct0)).setCell ⟨w.heap.size, 1, none⟩ (.slice At1 nt1 ct1)).setCell ⟨w.heap.size, 2, none⟩ (.slice At2 nt2 ct2)).setCell ⟨w.heap.size, 3, none⟩ (.slice At3 nt3 ct3) = w5 at *
  refine wpAnyL_step (i := 4) (by kernel_rfl) rfl rfl ?_
  intro K hK
  go_simp
  refine hK _ _ (fun h => nomatch (show true = false from h)) ?_
  clear hK K
  try simp only [Act.put]
  refine wpAnyL_done (by kernel_rfl) ?_ _
  have n0 : w5.cell? ⟨w.heap.size, 0, none⟩ = some (.slice At0 nt0 ct0) := p5.cell 0
  have n1 : w5.cell? ⟨w.heap.size, 1, none⟩ = some (.slice At1 nt1 ct1) := p5.cell 1
  have n2 : w5.cell? ⟨w.heap.size, 2, none⟩ = some (.slice At2 nt2 ct2) := p5.cell 2
  have n3 : w5.cell? ⟨w.heap.size, 3, none⟩ = some (.slice At3 nt3 ct3) := p5.cell 3
  have R6 := Lib.hid R5
  have O6 := Lib.hid O5
  have B6 := Lib.hid B5
  have HZ := Lib.hid hsz
  clear R5 O5 B5 hsz
  go_wp2
  exact bodyPost_ret (v := .tuple #[.agg #[.slice At0 nt0 ct0, .slice At1 nt1 ct1, .slice At2 nt2 ct2, .slice At3 nt3 ct3], .slice E o co]) (by simp [results, Try.results24, go_sem, n0, n1, n2, n3]) rfl ⟨t, At0, nt0, ct0, At1, nt1, ct1, At2, nt2, ct2, At3, nt3, ct3, E, o, co, fs, rfl, HZ.out, R6.out, O6.out, hfl, B6.out⟩

end Go.Proofs.Ytejcpoidoekleaa
