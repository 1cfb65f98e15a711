/-
  The draws of the laws of disks.
-/
import Derived.Test.YtbjdfgdcmaflkaaDskD2
import Derived.Test.YtbjdfgdcmaflkaaDskF
import Derived.Test.YtbjdfgdcmaflkaaDrawNew
namespace Go.Proofs.Ytbjdfgdcmaflkaa
open Go.RowKit

theorem BRow.upD {w : World} {B B' : Nat} {A : Option Addr} {n : Nat} (h : BRow w B A n) (hB : B ≤ B') : BRow w B' A n := by
  intro hn
  obtain ⟨b, off, e, hb, hc⟩ := h hn
  exact ⟨b, off, e, by omega, hc⟩
theorem Blk.grown {w w' : World} {p q : Nat} {cs : Array Value} {t : TypeId} (h : Blk w p cs t) (g : w.grownBy w' (some q)) (hne : p ≠ q) : Blk w' p cs t := (g.block p h.lt (fun e => by injection e with e; omega)).trans h

/-- Some disk that is read, nothing that was there is written. -/
def DrawnD (w : World) (e : Ending) (w' : World) : Prop :=
  ∃ (d : DiskM) (A : Option Addr) (n c : Nat) (A' : Option Addr) (n' c' : Nat), e = .returned (.agg #[.slice A n c, .slice A' n' c']) ∧ d.sz ≤ 1048576 ∧ Rd w' w'.heap.size d.cells [.slice A n c, .slice A' n' c'] ∧ Below w.heap.size w w'
/-- .. and a short list of fates. -/
def DrawnDF (w : World) (e : Ending) (w' : World) : Prop :=
  ∃ (d : DiskM) (A : Option Addr) (n c : Nat) (A' : Option Addr) (n' c' : Nat) (E : Option Addr) (o co : Nat) (fs : List Int), e = .returned (.tuple #[.agg #[.slice A n c, .slice A' n' c'], .slice E o co]) ∧ d.sz ≤ 1048576 ∧ Rd w' w'.heap.size d.cells [.slice A n c, .slice A' n' c'] ∧
    Rd w' w'.heap.size (rowCells fs) [.slice E o co] ∧ fs.length ≤ 8 ∧ Below w.heap.size w w'

set_option maxHeartbeats 1600000 in
theorem drawSynced_any (A : Option Addr) (n c : Nat) (w : World) (h : BRow w w.heap.size A n) (hn : n ≤ 4096) :
    Calls Try.prog 22 #[.slice A n c] w (DrawnD w) := by
  have b0 : Below w.heap.size w (w.alloc (.cells #[.slice none 0 0, .slice none 0 0] 27)) := (Below.refl _ w).alloc (Nat.le_refl _) _
  have p0 := Blk.new w #[.slice none 0 0, .slice none 0 0] 27
  have h0 := (h.below b0).upD b0.size
  clear h
  go_enter Try.func22, Try.ntmps22
  go_wp2_with fail
  generalize w.alloc (.cells #[.slice none 0 0, .slice none 0 0] 27) = w0 at *
  have z0 := p0.lt
  refine (new_any A n c _ h0 hn).mono ?_
  rintro e w1 ⟨rfl, c1, b1⟩
  have p1 := p0.keep b1 z0
  have b01 := b0.trans (b1.mono b0.size)
  have zp := c1.lt
  clear p0 h0
  go_wp2_with fail
  refine (drawDisk_any _ _ _ c1).mono ?_
  rintro e w2 ⟨d, G, j, g, H, q, hc, rfl, hsz, R2, c2, g2⟩
  have p2 := p1.grown g2 (by omega)
  have b02 := b01.grown g2 b01.size (fun k hk => by injection hk with hk; omega)
  have n0 : w2.cell? ⟨w.heap.size, 0, none⟩ = some (.slice none 0 0) := p2.cell 0
  have n1 : w2.cell? ⟨w.heap.size, 1, none⟩ = some (.slice none 0 0) := p2.cell 1
  have fr0 := p2.free 0
  have fr1 := p2.free 1
  have R4 := Lib.hid (((R2.grown (grown_setCell w2 w.heap.size 0 (.slice G j g)) (by omega)).grown (grown_setCell _ w.heap.size 1 (.slice H q hc)) (by omega)).rd)
  have B4 := Lib.hid ((b02.setCell (p := ⟨w.heap.size, 0, none⟩) (Nat.le_refl _) (.slice G j g)).setCell (p := ⟨w.heap.size, 1, none⟩) (Nat.le_refl _) (.slice H q hc))
  have HZ := Lib.hid hsz
  clear R2 b02 p2 p1 b01 c1 c2 g2 hsz b0 b1
  go_wp2
  exact bodyPost_ret (v := .agg #[.slice G j g, .slice H q hc]) (by simp [results, Try.results22, go_sem, n0, n1]) rfl ⟨d, G, j, g, H, q, hc, rfl, HZ.out, R4.out, B4.out⟩

set_option maxHeartbeats 1600000 in
theorem drawFallen_any (A : Option Addr) (n c : Nat) (w : World) (h : BRow w w.heap.size A n) (hn : n ≤ 4096) :
    Calls Try.prog 14 #[.slice A n c] w (DrawnDF w) := by
  have b0 : Below w.heap.size w (w.alloc (.cells #[.slice none 0 0, .slice none 0 0] 27)) := (Below.refl _ w).alloc (Nat.le_refl _) _
  have p0 := Blk.new w #[.slice none 0 0, .slice none 0 0] 27
  have h0 := (h.below b0).upD b0.size
  clear h
  go_enter Try.func14, Try.ntmps14
  go_wp2_with fail
  generalize w.alloc (.cells #[.slice none 0 0, .slice none 0 0] 27) = w0 at *
  have z0 := p0.lt
  refine (new_any A n c _ h0 hn).mono ?_
  rintro e w1 ⟨rfl, c1, b1⟩
  have p1 := p0.keep b1 z0
  have b01 := b0.trans (b1.mono b0.size)
  have zp := c1.lt
  clear p0 h0
  go_wp2_with fail
  refine (drawDisk_any _ _ _ c1).mono ?_
  rintro e w2 ⟨d, G, j, g, H, q, hc, rfl, hsz, R2, c2, g2⟩
  have p2 := p1.grown g2 (by omega)
  have z2 := g2.size
  have b02 := b01.grown g2 b01.size (fun k hk => by injection hk with hk; omega)
  have gA := World.grownBy_alloc w2 (.cells #[.slice G j g, .slice H q hc] 27) (some w0.heap.size)
  have p3 := p2.grown gA (by omega)
  have r3 := Blk.new w2 #[.slice G j g, .slice H q hc] 27
  have R3 := R2.grown gA zp
  have c3 := cur_alloc c2 (.cells #[.slice G j g, .slice H q hc] 27)
  have b03 := b02.grown gA b02.size (fun k hk => by injection hk with hk; omega)
  clear p1 p2 R2 c2 b02 b01 g2 gA b1 b0 c1
  go_wp2_with fail
  generalize w2.alloc (.cells #[.slice G j g, .slice H q hc] 27) = w3 at *
  have z3 := r3.lt
  generalize w2.heap.size = r1 at *
  refine wp_region_L (fun v => v.cell? ⟨r1, 0, none⟩ = some (.slice G j g) ∧ v.cell? ⟨r1, 1, none⟩ = some (.slice H q hc)) 3 (by kernel_rfl) ?_
  have HF : w3.drew.cell? ⟨r1, 0, none⟩ = some (.slice G j g) ∧ w3.drew.cell? ⟨r1, 1, none⟩ = some (.slice H q hc) := ⟨r3.cell 0, r3.cell 1⟩
  refine wpAnyL_take (i := 0) (v := ?_) rfl rfl (by kernel_rfl) (by kernel_rfl) (by kernel_rfl) (by kernel_rfl) (by kernel_rfl) (fun _ _ _ h => h) HF (Or.inl ⟨by rfl, ?_⟩) ?_
  rotate_left 1
  · (rintro v ⟨a0, a1⟩; go_simp; try with_reducible rfl)
  try simp only [Act.put]
  refine wpAnyL_pure (i := 1) (v := ?_) rfl rfl (by kernel_rfl) (by kernel_rfl) (by kernel_rfl) (fun _ _ _ h => h) HF (Or.inl ⟨by rfl, ?_⟩) ?_
  rotate_left 1
  · (intro v _; go_simp; try with_reducible rfl)
  try simp only [Act.put]
  refine wpAnyL_step (i := 2) (by kernel_rfl) rfl rfl ?_
  intro K hK
  go_simp
  refine (drawFates_any _ _ w3.drew (c3.below ((Below.refl _ _).drew))).mono ?_
  rintro e w4 ⟨E, o, co, fs, rfl, o4, ho8, c4, g4⟩
  have gD := grownBy_of_below ((Below.refl w3.heap.size w3).drew) (some w0.heap.size)
  have p4 := (p3.grown gD (by omega)).grown g4 (by omega)
  have r4 := (r3.grown gD (by omega)).grown g4 (by omega)
  have R4 := (R3.grown gD zp).grown g4 zp
  have b04 := (b03.grown gD b03.size (fun k hk => by injection hk with hk; omega)).grown g4 b03.size (fun k hk => by injection hk with hk; omega)
  have HF4 : w4.cell? ⟨r1, 0, none⟩ = some (.slice G j g) ∧ w4.cell? ⟨r1, 1, none⟩ = some (.slice H q hc) := ⟨r4.cell 0, r4.cell 1⟩
  refine hK _ _ (fun _ => HF4) ?_
  clear hK K
  try simp only [Act.put]
  have hfl : fs.length ≤ 8 := by rw [o4.len]; exact ho8
  have z4 : w.heap.size < w3.drew.heap.size := by show w.heap.size < w3.heap.size; omega
  clear p3 r3 R3 b03 c3 c4 g4 gD HF
  refine wpAnyL_step (i := 3) (by kernel_rfl) rfl rfl ?_
  intro K hK
  have n0 : w4.cell? ⟨w.heap.size, 0, none⟩ = some (.slice none 0 0) := p4.cell 0
  have n1 : w4.cell? ⟨w.heap.size, 1, none⟩ = some (.slice none 0 0) := p4.cell 1
  have fr0 := p4.free 0
  have fr1 := p4.free 1
  go_simp
  refine hK _ _ (fun h => nomatch (show true = false from h)) ?_
  clear hK K
  try simp only [Act.put]
  have gs0 := grown_setCell w4 w.heap.size 0 (.slice G j g)
  have gs1 := grown_setCell (w4.setCell ⟨w.heap.size, 0, none⟩ (.slice G j g)) w.heap.size 1 (.slice H q hc)
  have R5 := ((R4.grown gs0 (by omega)).grown gs1 (by omega)).rd
  have O5 := ((o4.kept gs0 (fun k hk => by injection hk with hk; omega)).kept gs1 (fun k hk => by injection hk with hk; omega)).has.rd
  have B5 := (b04.setCell (p := ⟨w.heap.size, 0, none⟩) (Nat.le_refl _) (.slice G j g)).setCell (p := ⟨w.heap.size, 1, none⟩) (Nat.le_refl _) (.slice H q hc)
  have p5 := (p4.set_ 0 (.slice G j g)).set_ 1 (.slice H q hc)
  clear n0 n1 fr0 fr1 p4 r4 R4 b04 HF4 o4 gs0 gs1
  generalize (w4.setCell ⟨w.heap.size, 0, none⟩ (.slice G j g)).setCell ⟨w.heap.size, 1, none⟩ (.slice H q hc) = w5 at *
  refine wpAnyL_step (i := 4) (by kernel_rfl) rfl rfl ?_
  intro K hK
  go_simp
  refine hK _ _ (fun h => nomatch (show true = false from h)) ?_
  clear hK K
  try simp only [Act.put]
  refine wpAnyL_done (by kernel_rfl) ?_ _
  have n0 : w5.cell? ⟨w.heap.size, 0, none⟩ = some (.slice G j g) := p5.cell 0
  have n1 : w5.cell? ⟨w.heap.size, 1, none⟩ = some (.slice H q hc) := p5.cell 1
  have R6 := Lib.hid R5
  have O6 := Lib.hid O5
  have B6 := Lib.hid B5
  have HZ := Lib.hid hsz
  clear R5 O5 B5 hsz
  go_wp2
  exact bodyPost_ret (v := .tuple #[.agg #[.slice G j g, .slice H q hc], .slice E o co]) (by simp [results, Try.results14, go_sem, n0, n1]) rfl ⟨d, G, j, g, H, q, hc, E, o, co, fs, rfl, HZ.out, R6.out, O6.out, hfl, B6.out⟩

end Go.Proofs.Ytbjdfgdcmaflkaa
