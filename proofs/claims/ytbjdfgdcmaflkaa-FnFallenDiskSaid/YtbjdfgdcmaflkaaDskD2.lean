/-
  The model's draw of any disk, also one that is not valid, in new memory.
-/
import Derived.Test.YtbjdfgdcmaflkaaDskD1
import Derived.Test.YtbjdfgdcmaflkaaDrawA
namespace Go.Proofs.Ytbjdfgdcmaflkaa
open Go.RowKit

/-- Whatever is written below 'base' later, the cells read as the data. -/
def RdF (w : World) (base : Nat) (ds : List Dat) (vs : List Value) : Prop :=
  ∀ w' : World, w.heap.size ≤ w'.heap.size → (∀ q, base ≤ q → q < w.heap.size → w'.heap[q]? = w.heap[q]?) → Rd w' w'.heap.size ds vs
theorem rdF_has {w : World} {base : Nat} {ds : List Dat} {vs : List Value} (h : Has w base ds vs) : RdF w base ds vs := fun _ _ hb => by
  obtain ⟨fp, o, _, hge⟩ := h
  exact (o.same fun p hp => hb p (hge p hp) (o.lt p hp)).rd
theorem RdF.rd {w : World} {base : Nat} {ds : List Dat} {vs : List Value} (h : RdF w base ds vs) : Rd w w.heap.size ds vs := h w (Nat.le_refl _) (fun _ _ _ => rfl)
theorem RdF.grown {w w' : World} {base p : Nat} {ds : List Dat} {vs : List Value} (h : RdF w base ds vs) (g : w.grownBy w' (some p)) (hp : p < base) : RdF w' base ds vs := fun w2 hs hb =>
  h w2 (Nat.le_trans g.size hs) (fun q hq hlt => (hb q hq (Nat.lt_of_lt_of_le hlt g.size)).trans (g.block q hlt (fun e => by injection e with e; omega)))
theorem rdKept_len {w : World} {B : Nat} {l : List (List Int)} {A : Option Addr} {n c : Nat} (h : Rd w B [keptD l] [.slice A n c]) : l.length = n := by
  obtain ⟨_, _, _, e, hl, _⟩ := h.kept
  injection e with _ e2 _
  omega
theorem Rd.parts {w : World} {B : Nat} {d : DiskM} {A : Option Addr} {n c : Nat} {A' : Option Addr} {n' c' : Nat} (h : Rd w B d.cells [.slice A n c, .slice A' n' c']) : Rd w B [keptD d.kept] [.slice A n c] ∧ Rd w B [waitD d.wait] [.slice A' n' c'] := by
  obtain ⟨_, _, _, _, _, _, e, e', q1, q2⟩ := h.disk
  injection e with e1 e2 e3
  injection e' with e4 e5 e6
  subst e1 e2 e3 e4 e5 e6
  exact ⟨q1, q2⟩
theorem rdDisk_some {w : World} {B : Nat} {d : DiskM} {A : Option Addr} {n c : Nat} {A' : Option Addr} {n' c' : Nat} (h : Rd w B d.cells [.slice A n c, .slice A' n' c']) (hn : 0 < n) : ∃ b off, A = some ⟨b, off, none⟩ := by
  obtain ⟨_, _, _, e, hl, _, _, h3⟩ := h.parts.1.kept
  injection e with e1 e2 e3
  subst e1 e2 e3
  obtain ⟨b, off, rfl, _⟩ := h3 hn
  exact ⟨b, off, rfl⟩
theorem rdDisk_cap {w : World} {B : Nat} {d : DiskM} {A : Option Addr} {n c : Nat} {A' : Option Addr} {n' c' : Nat} (h : Rd w B d.cells [.slice A n c, .slice A' n' c']) : n ≤ c := by
  obtain ⟨_, _, _, e, hl, h1, _, _⟩ := h.parts.1.kept
  injection e with e1 e2 e3
  omega
theorem rdDisk_capMax {w : World} {B : Nat} {d : DiskM} {A : Option Addr} {n c : Nat} {A' : Option Addr} {n' c' : Nat} (h : Rd w B d.cells [.slice A n c, .slice A' n' c']) : c ≤ maxLen := by
  obtain ⟨_, _, _, e, hl, _, h1, _⟩ := h.parts.1.kept
  injection e with e1 e2 e3
  omega
theorem rd_tail {w : World} {B : Nat} {d : DiskM} {b off n c : Nat} {A' : Option Addr} {n' c' : Nat} (h : Rd w B d.cells [.slice (some ⟨b, off, none⟩) n c, .slice A' n' c']) (hn : 1 ≤ n) :
    Rd w B (DiskM.mk d.kept.tail d.wait).cells [.slice (some ⟨b, off + 1, none⟩) (n - 1) (c - 1), .slice A' n' c'] := by
  obtain ⟨h1, h2⟩ := h.parts
  refine Rd.pair ?_ h2
  cases d with
  | mk kept wait =>
  cases kept with
  | nil => have := rdKept_len h1; simp at this; omega
  | cons x l =>
    cases h1 with
    | @row _ _ A n c us _ _ _ hl hc hm hcell hr _ =>
      have hr' : Rd w B (rowC x ++ l.flatMap rowC) us := hr
      obtain ⟨u1, u2, rfl, r1, r2⟩ := hr'.split
      have l1 : u1.length = 1 := r1.len
      obtain ⟨b', off', e, hb, hcc⟩ := hcell (by omega)
      injection e with e
      injection e with e1 e2 _
      subst e1 e2
      have hln : ((x :: l).flatMap rowC).length = n * 1 := hl
      rw [flatMap_len rowC_len] at hln
      refine Rd.of_lst (us := u2) rowC_len (by simp at hln ⊢; omega) (by omega) (by omega) (fun hn1 => ⟨b, off + 1, rfl, hb, fun j hj => ?_⟩) r2
      have := hcc (j + 1) (by omega)
      rw [List.getElem?_append_right (by omega), l1, Nat.add_sub_cancel] at this
      rw [← this]
      congr 2
      omega
theorem rdF_tail {w : World} {base : Nat} {d : DiskM} {b off n c : Nat} {A' : Option Addr} {n' c' : Nat} (h : RdF w base d.cells [.slice (some ⟨b, off, none⟩) n c, .slice A' n' c']) (hn : 1 ≤ n) :
    RdF w base (DiskM.mk d.kept.tail d.wait).cells [.slice (some ⟨b, off + 1, none⟩) (n - 1) (c - 1), .slice A' n' c'] := fun w' h1 h2 => rd_tail (h w' h1 h2) hn
theorem rd_tail0 {w : World} {B : Nat} {d : DiskM} {b off c : Nat} {A' : Option Addr} {n' c' : Nat} (h : Rd w B d.cells [.slice (some ⟨b, off, none⟩) 1 c, .slice A' n' c']) :
    Rd w B (DiskM.mk d.kept.tail d.wait).cells [.slice (some ⟨b, off, none⟩) 0 0, .slice A' n' c'] := by
  obtain ⟨h1, h2⟩ := h.parts
  refine Rd.pair ?_ h2
  have hl := rdKept_len h1
  cases d with
  | mk kept wait =>
  cases kept with
  | nil => simp at hl
  | cons x l =>
    cases l with
    | nil => exact Rd.of_lst (l := ([] : List (List Int))) (us := []) rowC_len rfl (Nat.le_refl _) (Nat.zero_le _) (fun h0 => absurd h0 (by omega)) .nil
    | cons y l => simp at hl
theorem rdF_tail0 {w : World} {base : Nat} {d : DiskM} {b off c : Nat} {A' : Option Addr} {n' c' : Nat} (h : RdF w base d.cells [.slice (some ⟨b, off, none⟩) 1 c, .slice A' n' c']) :
    RdF w base (DiskM.mk d.kept.tail d.wait).cells [.slice (some ⟨b, off, none⟩) 0 0, .slice A' n' c'] := fun w' h1 h2 => rd_tail0 (h w' h1 h2)
/-- New data of a call that wrote no more than the cursor. -/
theorem Sep.more {w : World} {base : Nat} {is : List Item} {ds : List Dat} {vs : List Value} {lo : Nat} (h : Sep w base is) (ho : Has w lo ds vs) (hd : ∀ p ∈ foots is, p < lo) (hle : base ≤ lo) : ∃ fp, Sep w base (.own ds vs fp :: is) := by
  obtain ⟨fp, ho, hn, hge⟩ := ho
  refine ⟨fp, fun n i hi => ?_, ?_, fun p hp => ?_⟩
  · cases n with
    | zero => simp at hi; subst hi; exact ho
    | succ n => exact h.holds n i (by simpa using hi)
  · show (fp ++ foots is).Nodup
    refine List.nodup_append.2 ⟨hn, h.nodup, fun p hp q hq e => ?_⟩
    have := hge p hp
    have := hd q hq
    omega
  · rcases List.mem_append.1 (show p ∈ fp ++ foots is from hp) with hp | hp
    · exact Nat.le_trans hle (hge p hp)
    · exact h.ge p hp
theorem grownB {a w w' : World} {base p : Nat} (g : a.grownBy w (some p)) (h : Below base w w') (hb : a.heap.size ≤ base) : a.grownBy w' (some p) :=
  ⟨h.os.trans g.os, h.tape.trans g.tape, h.output.trans g.output, Nat.le_trans g.size h.size, fun k hk hn => (h.block k (by omega)).trans (g.block k hk hn)⟩
theorem Cur.belowB {w w' : World} {B p base : Nat} (h : Cur w B p) (hb : Below base w w') (hp : p < base) : Cur w' B p := by
  have hle := h.le
  obtain ⟨A, n, c, i, y, hh, hr, r⟩ := h
  exact ⟨A, n, c, i, y, (hb.block p hp).trans hh, hr.below (hb.mono (by omega)), r⟩
theorem ok_sz4 {d : DiskM} (h : diskOk d = true) : d.sz ≤ 4900 := by
  have h1 := rows_sz_le (ok_kept_len h) (diskOk_iff.1 h).1.2
  have h2 := wait_sz_le (fun p hp => (ok_wait h p hp).2) (diskOk_iff.1 h).2.1
  unfold DiskM.sz
  omega
theorem sz_kept_more {d : DiskM} {r : List Int} (h : diskOk d = true) (hr : r.length ≤ 50) : (DiskM.mk (d.kept ++ [r]) d.wait).sz ≤ 1048576 := by
  have := ok_sz4 h
  unfold DiskM.sz rowsSz at *
  simp
  omega
theorem sz_wait_more {d : DiskM} {x : Int} {r : List Int} (h : diskOk d = true) (hr : r.length ≤ 50) : (DiskM.mk d.kept (d.wait ++ [(x, r)])).sz ≤ 1048576 := by
  have := ok_sz4 h
  unfold DiskM.sz waitSz at *
  simp [wrSz]
  omega
theorem sz_wait_made {d : DiskM} {k : Nat} (h : diskOk d = true) (hk : k ≤ 61) : (DiskM.mk d.kept (List.replicate k (0, []))).sz ≤ 1048576 := by
  have := ok_sz4 h
  unfold DiskM.sz waitSz at *
  simp [wrSz]
  omega
theorem sz_kept_made {d : DiskM} {k : Nat} (h : diskOk d = true) (hk : k ≤ 41) : (DiskM.mk (List.replicate k []) d.wait).sz ≤ 1048576 := by
  have := ok_sz4 h
  unfold DiskM.sz rowsSz at *
  simp
  omega
theorem sz_tail {d : DiskM} (h : diskOk d = true) : (DiskM.mk d.kept.tail d.wait).sz ≤ 1048576 := by
  have := ok_sz4 h
  cases d with
  | mk kept wait =>
    cases kept with
    | nil => unfold DiskM.sz at *; simp at *; omega
    | cons x l => unfold DiskM.sz rowsSz at *; simp at *; omega

/-- Some disk in new memory is handed back; nothing but the cursor p is written. -/
def DrawnAny (w : World) (B p : Nat) (e : Ending) (w' : World) : Prop :=
  ∃ (d : DiskM) (A : Option Addr) (n c : Nat) (A' : Option Addr) (n' c' : Nat), e = .returned (.agg #[.slice A n c, .slice A' n' c']) ∧ d.sz ≤ 1048576 ∧ RdF w' w.heap.size d.cells [.slice A n c, .slice A' n' c'] ∧ Cur w' B p ∧ w.grownBy w' (some p)

set_option maxHeartbeats 6400000 in
theorem drawDisk_any (B p : Nat) (w : World) (h : Cur w B p) :
    Calls Try.prog 44 #[.pointer (some ⟨p, 0, none⟩)] w (DrawnAny w B p) := by
  have hp := h.lt
  have S0 := (Sep.nil w w.heap.size).box (Nat.le_refl _) #[.slice none 0 0, .slice none 0 0] 27
  have c0 := cur_alloc h (.cells #[.slice none 0 0, .slice none 0 0] 27)
  have g0 := World.grownBy_alloc w (.cells #[.slice none 0 0, .slice none 0 0] 27) (some p)
  clear h
  go_enter Try.func44, Try.ntmps44
  go_wp2_with fail
  generalize w.alloc (.cells #[.slice none 0 0, .slice none 0 0] 27) = w0 at *
  refine (draw_any B p _ c0).mono ?_
  rintro e w1 ⟨d, G, j, g, H, q, hc, rfl, hd, o1, c1, g1⟩
  have S1 := S0.grown g1 hp
  obtain ⟨f1, S1b⟩ := S1.more o1 S0.lt g0.size
  have G1 := g0.trans g1
  have S3 := S1b.box G1.size #[.slice G j g, .slice H q hc] 27
  have G3 := G1.trans (World.grownBy_alloc w1 (.cells #[.slice G j g, .slice H q hc] 27) (some p))
  have c3 := cur_alloc c1 (.cells #[.slice G j g, .slice H q hc] 27)
  have zr := G1.size
  clear S0 S1 S1b G1 c1 o1 c0 g0 g1
  go_wp2_with fail
  generalize w1.alloc (.cells #[.slice G j g, .slice H q hc] 27) = w3 at *
  generalize w1.heap.size = r1 at *
  refine (once_any B p _ c3 6 (by omega) (by omega)).mono ?_
  rintro e w4 ⟨b, rfl, C4, g4⟩
  have S4 := S3.grown g4 hp
  have G4 := G3.trans g4
  clear S3 G3 c3 g4
  cases b
  · skip
    have k0 : w4.cell? ⟨r1, 0, none⟩ = some (.slice G j g) := (S4.at_ 0 rfl).cell 0
    have k1 : w4.cell? ⟨r1, 1, none⟩ = some (.slice H q hc) := (S4.at_ 0 rfl).cell 1
    have n0 : w4.cell? ⟨w.heap.size, 0, none⟩ = some (.slice none 0 0) := (S4.at_ 2 rfl).cell 0
    have n1 : w4.cell? ⟨w.heap.size, 1, none⟩ = some (.slice none 0 0) := (S4.at_ 2 rfl).cell 1
    have fr0 := (S4.at_ 2 rfl).free 0
    have fr1 := (S4.at_ 2 rfl).free 1
    have SE := (S4.put 2 rfl 0 (.slice G j g)).put 2 rfl 1 (.slice H q hc)
    have S7 := Lib.hid (rdF_has (SE.drop 1).first)
    have G7 := Lib.hid ((G4.andThen (grown_setCell w4 w.heap.size 0 (.slice G j g)) (fun y hy => .inl (by injection hy with hy; omega))).andThen (grown_setCell _ w.heap.size 1 (.slice H q hc)) (fun y hy => .inl (by injection hy with hy; omega)))
    have C7 := Lib.hid ((C4.kept (grown_setCell w4 w.heap.size 0 (.slice G j g)) (fun y hy => by injection hy with hy; omega)).kept (grown_setCell _ w.heap.size 1 (.slice H q hc)) (fun y hy => by injection hy with hy; omega))
    have HZ := Lib.hid (show d.sz ≤ 1048576 from by have := ok_sz4 hd; omega)
    clear SE S4 G4 C4
    go_wp2
    exact bodyPost_ret (v := .agg #[.slice G j g, .slice H q hc]) (by simp [results, Try.results44, go_sem, n0, n1]) rfl ⟨d, _, _, _, _, _, _, rfl, HZ.out, S7.out, C7.out, G7.out⟩
  · go_wp2_with fail
    refine (below_any B p _ C4 5 (by omega) (by omega)).mono ?_
    rintro e w5 ⟨x, ⟨x0, x1⟩, rfl, C5, g5⟩
    have S5 := S4.grown g5 hp
    have G5 := G4.trans g5
    clear S4 G4 C4 g5
    rcases (show x = 0 ∨ x = 1 ∨ x = 2 ∨ x = 3 ∨ x = 4 from by omega) with rfl | rfl | rfl | rfl | rfl
    · skip
      obtain ⟨v1, v2, fk, fw, ev, SX⟩ := Sep.split (d1 := [keptD d.kept]) (d2 := [waitD d.wait]) S5.swap
      obtain ⟨ev1, ev2⟩ : v1 = [.slice G j g] ∧ v2 = [.slice H q hc] := by
        have l1 := (SX.own_ 1 rfl).len
        have l2 := (SX.own_ 0 rfl).len
        match v1, v2, l1, l2 with
        | [y1], [y2], _, _ =>
          injection ev with a1 a2
          injection a2 with a2 _
          subst a1 a2
          exact ⟨rfl, rfl⟩
      subst ev1 ev2
      clear ev
      replace SX := SX.swap
      have hjl : d.kept.length = j := keptD_len (SX.own_ 0 rfl)
      have hj40 : j ≤ 40 := by have := (diskOk_iff.1 hd).1.2; omega
      clear hjl S5
      have k0 : w5.cell? ⟨r1, 0, none⟩ = some (.slice G j g) := (SX.at_ 2 rfl).cell 0
      go_wp2_with fail
      refine wp_region_L (fun v => v.cell? ⟨r1, 0, none⟩ = some (.slice G j g)) 7 (by kernel_rfl) ?_
      have HF : w5.drew.cell? ⟨r1, 0, none⟩ = some (.slice G j g) := k0
      refine wpAnyL_take (i := 0) (v := ?_) rfl rfl (by kernel_rfl) (by kernel_rfl) (by kernel_rfl) (by kernel_rfl) (by kernel_rfl) (fun _ _ _ h => h) HF (Or.inl ⟨by rfl, ?_⟩) ?_
      rotate_left 1
      · (intro v a0; go_simp; try with_reducible rfl)
      try simp only [Act.put]
      refine wpAnyL_take (i := 1) (v := ?_) rfl rfl (by kernel_rfl) (by kernel_rfl) (by kernel_rfl) (by kernel_rfl) (by kernel_rfl) (fun _ _ _ h => h) HF (Or.inl ⟨by rfl, ?_⟩) ?_
      rotate_left 1
      · (intro v a0; go_simp; try with_reducible rfl)
      try simp only [Act.put]
      refine wpAnyL_take (i := 2) (v := ?_) rfl rfl (by kernel_rfl) (by kernel_rfl) (by kernel_rfl) (by kernel_rfl) (by kernel_rfl) (fun _ _ _ h => h) HF (Or.inl ⟨by rfl, ?_⟩) ?_
      rotate_left 1
      · (intro v a0; go_simp; try with_reducible rfl)
      try simp only [Act.put]
      refine wpAnyL_step (i := 3) (by kernel_rfl) rfl rfl ?_
      intro K hK
      go_simp
      refine (drawAny_any B p w5.drew (C5.below ((Below.refl _ _).drew))).mono ?_
      rintro e w6 ⟨R, m, rc, r, rfl, o6, hm50, C6, g6⟩
      have S6 := (SX.keep ((Below.refl _ _).drew)).grown g6 hp
      have G6 := G5.trans ((grownBy_of_below ((Below.refl w5.heap.size w5).drew) (some p)).trans g6)
      obtain ⟨f2, S6b⟩ := S6.more o6.has (fun a ha => by have := SX.lt a ha; exact this) (by have := G5.size; exact this)
      have hr50 : r.length ≤ 50 := by rw [o6.len]; exact hm50
      have HF1 : w6.cell? ⟨r1, 0, none⟩ = some (.slice G j g) := (S6.at_ 2 rfl).cell 0
      refine hK _ _ (fun _ => HF1) ?_
      clear S6 SX G5 C5 g6 o6
      clear hK K
      try simp only [Act.put]
      have zz := G6.size
      have SA := S6b.swap.box zz #[.slice R m rc] 28
      have HD := S6b.swap.apart
      have GA := G6.trans (World.grownBy_alloc w6 (.cells #[.slice R m rc] 28) (some p))
      have CA := cur_alloc C6 (.cells #[.slice R m rc] 28)
      have HF2 : (w6.alloc (.cells #[.slice R m rc] 28)).cell? ⟨r1, 0, none⟩ = some (.slice G j g) := (SA.at_ 4 rfl).cell 0
      have HC : ∀ i, i < 1 → (w6.alloc (.cells #[.slice R m rc] 28)).cell? ⟨w6.heap.size, i, none⟩ = [Value.slice R m rc][i]? := fun i hi => by
        have h1 := (SA.at_ 0 rfl).cell i
        have : i = 0 := by omega
        subst this
        exact h1
      refine wpAnyL_step (i := 4) (by kernel_rfl) rfl rfl ?_
      intro K hK
      go_simp
      refine hK _ _ (fun _ => HF2) ?_
      clear hK K
      try simp only [Act.put]
      refine wpAnyL_step (i := 5) (by kernel_rfl) rfl rfl ?_
      intro K hK
      refine wp_append_elem (l := d.kept) (y := r) (fp := fk) _ _ (by rfl) Try.underlying24 infoRow (by rfl) (by decide) rowC_len (by rfl) (SA.own_ 1 rfl) (SA.nodup_own 1 rfl) (by rfl) HC (SA.own_ 2 rfl) (SA.nodup_own 2 rfl) HD (by omega) (by omega) ?_
      intro G3 g3 w7 fp3 o3 n3 s3 t3
      have SD : Sep (w6.alloc (.cells #[.slice R m rc] 28)) w.heap.size [.own [keptD d.kept] [.slice G j g] fk, .own [rowD r] [.slice R m rc] f2, .own [waitD d.wait] [.slice H q hc] fw, .blk r1 #[.slice G j g, .slice H q hc] 27, .blk w.heap.size #[.slice none 0 0, .slice none 0 0] 27] := SA.drop 1
      have S7 := SD.merge t3 o3 n3 s3 GA.size
      have G7 := grownB GA (SD.below 0 rfl t3 GA.size) (Nat.le_refl _)
      have C7 := CA.belowB (SD.below 0 rfl t3 GA.size) hp
      have HF3 : w7.cell? ⟨r1, 0, none⟩ = some (.slice G j g) := (S7.at_ 2 rfl).cell 0
      have q1 := HF3
      have q2 := (S7.at_ 2 rfl).free 0
      have S8 := S7.put 2 rfl 0 (.slice G3 (j + 1) g3)
      refine hK _ _ (fun _ => HF3) ?_
      clear hK K S7 SD o3 n3 s3 t3 SA HC HD GA CA S6b G6 C6 HF HF1 HF2
      try simp only [Act.put]
      refine wpAnyL_step (i := 6) (by kernel_rfl) rfl rfl ?_
      intro K hK
      go_simp
      refine hK _ _ (fun _ => HF3) ?_
      clear hK K
      try simp only [Act.put]
      have G8 := G7.andThen (grown_setCell w7 r1 0 (.slice G3 (j + 1) g3)) (fun y hy => .inl (by injection hy with hy; omega))
      have C8 := C7.kept (grown_setCell w7 r1 0 (.slice G3 (j + 1) g3)) (fun y hy => by injection hy with hy; omega)
      refine wpAnyL_step (i := 7) (by kernel_rfl) rfl rfl ?_
      intro K hK
      go_simp
      refine hK _ _ (fun h => nomatch (show true = false from h)) ?_
      clear hK K
      try simp only [Act.put]
      clear HF3 q1 q2 k0 G7 C7
      generalize w7.setCell ⟨r1, 0, none⟩ (.slice G3 (j + 1) g3) = w8 at *
      refine wpAnyL_done (by kernel_rfl) ?_ _
      have u0 : w8.cell? ⟨r1, 0, none⟩ = some (.slice G3 (j + 1) g3) := (S8.at_ 2 rfl).cell 0
      have u1 : w8.cell? ⟨r1, 1, none⟩ = some (.slice H q hc) := (S8.at_ 2 rfl).cell 1
      have n0 : w8.cell? ⟨w.heap.size, 0, none⟩ = some (.slice none 0 0) := (S8.at_ 3 rfl).cell 0
      have n1 : w8.cell? ⟨w.heap.size, 1, none⟩ = some (.slice none 0 0) := (S8.at_ 3 rfl).cell 1
      have fr0 := (S8.at_ 3 rfl).free 0
      have fr1 := (S8.at_ 3 rfl).free 1
      have SE := (S8.put 3 rfl 0 (.slice G3 (j + 1) g3)).put 3 rfl 1 (.slice H q hc)
      have S7 := Lib.hid (rdF_has SE.swap.pair)
      have G7 := Lib.hid ((G8.andThen (grown_setCell w8 w.heap.size 0 (.slice G3 (j + 1) g3)) (fun y hy => .inl (by injection hy with hy; omega))).andThen (grown_setCell _ w.heap.size 1 (.slice H q hc)) (fun y hy => .inl (by injection hy with hy; omega)))
      have C7 := Lib.hid ((C8.kept (grown_setCell w8 w.heap.size 0 (.slice G3 (j + 1) g3)) (fun y hy => by injection hy with hy; omega)).kept (grown_setCell _ w.heap.size 1 (.slice H q hc)) (fun y hy => by injection hy with hy; omega))
      have HZ := Lib.hid (show (DiskM.mk (d.kept ++ [r]) d.wait).sz ≤ 1048576 from sz_kept_more hd hr50)
      clear SE S8 G8 C8
      go_wp2
      exact bodyPost_ret (v := .agg #[.slice G3 (j + 1) g3, .slice H q hc]) (by simp [results, Try.results44, go_sem, n0, n1]) rfl ⟨(DiskM.mk (d.kept ++ [r]) d.wait), _, _, _, _, _, _, rfl, HZ.out, S7.out, C7.out, G7.out⟩
    · skip
      obtain ⟨v1, v2, fk, fw, ev, SX⟩ := Sep.split (d1 := [keptD d.kept]) (d2 := [waitD d.wait]) S5.swap
      obtain ⟨ev1, ev2⟩ : v1 = [.slice G j g] ∧ v2 = [.slice H q hc] := by
        have l1 := (SX.own_ 1 rfl).len
        have l2 := (SX.own_ 0 rfl).len
        match v1, v2, l1, l2 with
        | [y1], [y2], _, _ =>
          injection ev with a1 a2
          injection a2 with a2 _
          subst a1 a2
          exact ⟨rfl, rfl⟩
      subst ev1 ev2
      clear ev
      have hql : d.wait.length = q := waitD_len (SX.own_ 0 rfl)
      have hq60 : q ≤ 60 := by have := (diskOk_iff.1 hd).2.1; omega
      clear hql S5
      have k0 : w5.cell? ⟨r1, 1, none⟩ = some (.slice H q hc) := (SX.at_ 2 rfl).cell 1
      go_wp2_with fail
      refine wp_region_L (fun v => v.cell? ⟨r1, 1, none⟩ = some (.slice H q hc)) 10 (by kernel_rfl) ?_
      have HF : w5.drew.cell? ⟨r1, 1, none⟩ = some (.slice H q hc) := k0
      refine wpAnyL_take (i := 0) (v := ?_) rfl rfl (by kernel_rfl) (by kernel_rfl) (by kernel_rfl) (by kernel_rfl) (by kernel_rfl) (fun _ _ _ h => h) HF (Or.inl ⟨by rfl, ?_⟩) ?_
      rotate_left 1
      · (intro v a0; go_simp; try with_reducible rfl)
      try simp only [Act.put]
      refine wpAnyL_take (i := 1) (v := ?_) rfl rfl (by kernel_rfl) (by kernel_rfl) (by kernel_rfl) (by kernel_rfl) (by kernel_rfl) (fun _ _ _ h => h) HF (Or.inl ⟨by rfl, ?_⟩) ?_
      rotate_left 1
      · (intro v a0; go_simp; try with_reducible rfl)
      try simp only [Act.put]
      refine wpAnyL_take (i := 2) (v := ?_) rfl rfl (by kernel_rfl) (by kernel_rfl) (by kernel_rfl) (by kernel_rfl) (by kernel_rfl) (fun _ _ _ h => h) HF (Or.inl ⟨by rfl, ?_⟩) ?_
      rotate_left 1
      · (intro v a0; go_simp; try with_reducible rfl)
      try simp only [Act.put]
      refine wpAnyL_take (i := 4) (v := ?_) rfl rfl (by kernel_rfl) (by kernel_rfl) (by kernel_rfl) (by kernel_rfl) (by kernel_rfl) (fun _ _ _ h => h) HF (Or.inl ⟨by rfl, ?_⟩) ?_
      rotate_left 1
      · (intro v a0; go_simp; try with_reducible rfl)
      try simp only [Act.put]
      refine wpAnyL_step (i := 3) (by kernel_rfl) rfl rfl ?_
      intro K hK
      go_simp
      refine (from_any B p w5.drew (C5.below ((Below.refl _ _).drew)) (-1) 6 (by omega) (by omega) (by omega)).mono ?_
      rintro e w6 ⟨x, ⟨x0, x1⟩, rfl, C6, g6⟩
      have S6 := (SX.keep ((Below.refl _ _).drew)).grown g6 hp
      have G6 := G5.trans ((grownBy_of_below ((Below.refl w5.heap.size w5).drew) (some p)).trans g6)
      have HF1 : w6.cell? ⟨r1, 1, none⟩ = some (.slice H q hc) := (S6.at_ 2 rfl).cell 1
      refine hK _ _ (fun _ => HF1) ?_
      clear SX G5 C5 g6
      clear hK K
      try simp only [Act.put]
      refine wpAnyL_step (i := 5) (by kernel_rfl) rfl rfl ?_
      intro K hK
      go_simp
      refine (drawAny_any B p w6 C6).mono ?_
      rintro e w7 ⟨R, m, rc, r, rfl, o7, hm50, C7, g7⟩
      have S7 := S6.grown g7 hp
      have G7 := G6.trans g7
      obtain ⟨f2, S7b⟩ := S7.more o7.has S6.lt G6.size
      have hr50 : r.length ≤ 50 := by rw [o7.len]; exact hm50
      have HF2 : w7.cell? ⟨r1, 1, none⟩ = some (.slice H q hc) := (S7.at_ 2 rfl).cell 1
      refine hK _ _ (fun _ => HF2) ?_
      clear S7 S6 G6 C6 g7 o7
      clear hK K
      try simp only [Act.put]
      refine wpAnyL_step (i := 6) (by kernel_rfl) rfl rfl ?_
      intro K hK
      go_simp
      refine hK _ _ (fun _ => HF2) ?_
      clear hK K
      try simp only [Act.put]
      have zz := G7.size
      have SA := S7b.swap.box zz #[.int .i64 x, .slice R m rc] 37
      have HD := S7b.swap.apart
      have GA := G7.trans (World.grownBy_alloc w7 (.cells #[.int .i64 x, .slice R m rc] 37) (some p))
      have CA := cur_alloc C7 (.cells #[.int .i64 x, .slice R m rc] 37)
      have HF3 : (w7.alloc (.cells #[.int .i64 x, .slice R m rc] 37)).cell? ⟨r1, 1, none⟩ = some (.slice H q hc) := (SA.at_ 4 rfl).cell 1
      have HC : ∀ i, i < 2 → (w7.alloc (.cells #[.int .i64 x, .slice R m rc] 37)).cell? ⟨w7.heap.size, i, none⟩ = [Value.int .i64 x, Value.slice R m rc][i]? := fun i hi => by
        have h1 := (SA.at_ 0 rfl).cell i
        have h3 : i = 0 ∨ i = 1 := by omega
        rcases h3 with rfl | rfl
        · exact h1
        · exact h1
      refine wpAnyL_step (i := 7) (by kernel_rfl) rfl rfl ?_
      intro K hK
      go_simp
      refine hK _ _ (fun _ => HF3) ?_
      clear hK K
      try simp only [Act.put]
      refine wpAnyL_step (i := 8) (by kernel_rfl) rfl rfl ?_
      intro K hK
      refine wp_append_elem (l := d.wait) (y := (x, r)) (fp := fw) (es := [.int .i64 x, .slice R m rc]) _ _ (by rfl) Try.underlying25 infoWrite (by rfl) (by decide) wrC_len (by rfl) (SA.own_ 1 rfl) (SA.nodup_own 1 rfl) (by rfl) HC (.int (SA.own_ 2 rfl)) (SA.nodup_own 2 rfl) HD (by omega) (by omega) ?_
      intro G3 g3 w8 fp3 o3 n3 s3 t3
      have SD : Sep (w7.alloc (.cells #[.int .i64 x, .slice R m rc] 37)) w.heap.size [.own [waitD d.wait] [.slice H q hc] fw, .own [rowD r] [.slice R m rc] f2, .own [keptD d.kept] [.slice G j g] fk, .blk r1 #[.slice G j g, .slice H q hc] 27, .blk w.heap.size #[.slice none 0 0, .slice none 0 0] 27] := SA.drop 1
      have S8 := SD.merge t3 o3 n3 s3 GA.size
      have G8 := grownB GA (SD.below 0 rfl t3 GA.size) (Nat.le_refl _)
      have C8 := CA.belowB (SD.below 0 rfl t3 GA.size) hp
      have HF4 : w8.cell? ⟨r1, 1, none⟩ = some (.slice H q hc) := (S8.at_ 2 rfl).cell 1
      have q1 := HF4
      have q2 := (S8.at_ 2 rfl).free 1
      have S9 := S8.put 2 rfl 1 (.slice G3 (q + 1) g3)
      refine hK _ _ (fun _ => HF4) ?_
      clear hK K S8 SD o3 n3 s3 t3 SA HC HD GA CA S7b G7 C7 HF HF1 HF2 HF3
      try simp only [Act.put]
      refine wpAnyL_step (i := 9) (by kernel_rfl) rfl rfl ?_
      intro K hK
      go_simp
      refine hK _ _ (fun _ => HF4) ?_
      clear hK K
      try simp only [Act.put]
      have G9 := G8.andThen (grown_setCell w8 r1 1 (.slice G3 (q + 1) g3)) (fun y hy => .inl (by injection hy with hy; omega))
      have C9 := C8.kept (grown_setCell w8 r1 1 (.slice G3 (q + 1) g3)) (fun y hy => by injection hy with hy; omega)
      refine wpAnyL_step (i := 10) (by kernel_rfl) rfl rfl ?_
      intro K hK
      go_simp
      refine hK _ _ (fun h => nomatch (show true = false from h)) ?_
      clear hK K
      try simp only [Act.put]
      clear HF4 q1 q2 k0 G8 C8
      generalize w8.setCell ⟨r1, 1, none⟩ (.slice G3 (q + 1) g3) = w9 at *
      refine wpAnyL_done (by kernel_rfl) ?_ _
      have u0 : w9.cell? ⟨r1, 0, none⟩ = some (.slice G j g) := (S9.at_ 2 rfl).cell 0
      have u1 : w9.cell? ⟨r1, 1, none⟩ = some (.slice G3 (q + 1) g3) := (S9.at_ 2 rfl).cell 1
      have n0 : w9.cell? ⟨w.heap.size, 0, none⟩ = some (.slice none 0 0) := (S9.at_ 3 rfl).cell 0
      have n1 : w9.cell? ⟨w.heap.size, 1, none⟩ = some (.slice none 0 0) := (S9.at_ 3 rfl).cell 1
      have fr0 := (S9.at_ 3 rfl).free 0
      have fr1 := (S9.at_ 3 rfl).free 1
      have SE := (S9.put 3 rfl 0 (.slice G j g)).put 3 rfl 1 (.slice G3 (q + 1) g3)
      have S7 := Lib.hid (rdF_has SE.pair)
      have G7 := Lib.hid ((G9.andThen (grown_setCell w9 w.heap.size 0 (.slice G j g)) (fun y hy => .inl (by injection hy with hy; omega))).andThen (grown_setCell _ w.heap.size 1 (.slice G3 (q + 1) g3)) (fun y hy => .inl (by injection hy with hy; omega)))
      have C7 := Lib.hid ((C9.kept (grown_setCell w9 w.heap.size 0 (.slice G j g)) (fun y hy => by injection hy with hy; omega)).kept (grown_setCell _ w.heap.size 1 (.slice G3 (q + 1) g3)) (fun y hy => by injection hy with hy; omega))
      have HZ := Lib.hid (show (DiskM.mk d.kept (d.wait ++ [(x, r)])).sz ≤ 1048576 from sz_wait_more hd hr50)
      clear SE S9 G9 C9
      go_wp2
      exact bodyPost_ret (v := .agg #[.slice G j g, .slice G3 (q + 1) g3]) (by simp [results, Try.results44, go_sem, n0, n1]) rfl ⟨(DiskM.mk d.kept (d.wait ++ [(x, r)])), _, _, _, _, _, _, rfl, HZ.out, S7.out, C7.out, G7.out⟩
    · skip
      obtain ⟨v1, v2, fk, fw, ev, SX⟩ := Sep.split (d1 := [keptD d.kept]) (d2 := [waitD d.wait]) S5.swap
      obtain ⟨ev1, ev2⟩ : v1 = [.slice G j g] ∧ v2 = [.slice H q hc] := by
        have l1 := (SX.own_ 1 rfl).len
        have l2 := (SX.own_ 0 rfl).len
        match v1, v2, l1, l2 with
        | [y1], [y2], _, _ =>
          injection ev with a1 a2
          injection a2 with a2 _
          subst a1 a2
          exact ⟨rfl, rfl⟩
      subst ev1 ev2
      clear ev
      go_wp2_with fail
      refine (from_any B p _ C5 (-1) 1 (by omega) (by omega) (by omega)).mono ?_
      rintro e w6 ⟨y, ⟨y0, y1⟩, rfl, C6, g6⟩
      have S6 := SX.grown g6 hp
      have G6 := G5.trans g6
      obtain ⟨k, hk⟩ := Int.eq_ofNat_of_zero_le (show 0 ≤ 60 + y by omega)
      have hmk := run_make_k (P := Try.prog) 25 37 (.agg #[.int .i64 0, .slice none 0 0]) #[.int .i64 0, .slice none 0 0] 2 32 Try.underlying25 infoWrite rfl .i64 .i64 k (by omega) (by omega)
      rw [← hk] at hmk
      have hmd := ow_made (w := w6) (e := 37) (f := wrC) (x0 := ((0, []) : Int × List Int)) (zc := #[.int .i64 0, .slice none 0 0]) (k := 2) rfl (by decide) k (by simp only [maxLen]; omega) ow_zero_write
      have bA : Below w6.heap.size w6 (w6.alloc (.cells (madeCells #[.int .i64 0, .slice none 0 0] (k * 2)) 37)) := (Below.refl _ w6).alloc (Nat.le_refl _) _
      obtain ⟨f2, SA⟩ := S6.tail.has bA ⟨_, hmd, by simp, fun p hp => Nat.le_of_eq (by simpa using hp : p = w6.heap.size).symm⟩ G6.size
      have GA := G6.trans (World.grownBy_alloc w6 (.cells (madeCells #[.int .i64 0, .slice none 0 0] (k * 2)) 37) (some p))
      have CA := cur_alloc C6 (.cells (madeCells #[.int .i64 0, .slice none 0 0] (k * 2)) 37)
      have k61 : k ≤ 61 := by omega
      clear hk hmd bA SX S6 G6 C6 G5 C5 g6 S5
      have q1 : (w6.alloc (.cells (madeCells #[.int .i64 0, .slice none 0 0] (k * 2)) 37)).cell? ⟨r1, 1, none⟩ = some (.slice H q hc) := (SA.at_ 2 rfl).cell 1
      have q2 := (SA.at_ 2 rfl).free 1
      have S8 := SA.put 2 rfl 1 (.slice (some ⟨w6.heap.size, 0, none⟩) k k)
      have G8 := GA.andThen (grown_setCell _ r1 1 (.slice (some ⟨w6.heap.size, 0, none⟩) k k)) (fun y hy => .inl (by injection hy with hy; omega))
      have C8 := CA.kept (grown_setCell _ r1 1 (.slice (some ⟨w6.heap.size, 0, none⟩) k k)) (fun y hy => by injection hy with hy; omega)
      clear SA GA CA
      have u0 : ((w6.alloc (.cells (madeCells #[.int .i64 0, .slice none 0 0] (k * 2)) 37)).setCell ⟨r1, 1, none⟩ (.slice (some ⟨w6.heap.size, 0, none⟩) k k)).cell? ⟨r1, 0, none⟩ = some (.slice G j g) := (S8.at_ 2 rfl).cell 0
      have u1 : ((w6.alloc (.cells (madeCells #[.int .i64 0, .slice none 0 0] (k * 2)) 37)).setCell ⟨r1, 1, none⟩ (.slice (some ⟨w6.heap.size, 0, none⟩) k k)).cell? ⟨r1, 1, none⟩ = some (.slice (some ⟨w6.heap.size, 0, none⟩) k k) := (S8.at_ 2 rfl).cell 1
      have n0 : ((w6.alloc (.cells (madeCells #[.int .i64 0, .slice none 0 0] (k * 2)) 37)).setCell ⟨r1, 1, none⟩ (.slice (some ⟨w6.heap.size, 0, none⟩) k k)).cell? ⟨w.heap.size, 0, none⟩ = some (.slice none 0 0) := (S8.at_ 3 rfl).cell 0
      have n1 : ((w6.alloc (.cells (madeCells #[.int .i64 0, .slice none 0 0] (k * 2)) 37)).setCell ⟨r1, 1, none⟩ (.slice (some ⟨w6.heap.size, 0, none⟩) k k)).cell? ⟨w.heap.size, 1, none⟩ = some (.slice none 0 0) := (S8.at_ 3 rfl).cell 1
      have fr0 := (S8.at_ 3 rfl).free 0
      have fr1 := (S8.at_ 3 rfl).free 1
      have SE := (S8.put 3 rfl 0 (.slice G j g)).put 3 rfl 1 (.slice (some ⟨w6.heap.size, 0, none⟩) k k)
      have S7 := Lib.hid (rdF_has SE.pair)
      have G7 := Lib.hid ((G8.andThen (grown_setCell ((w6.alloc (.cells (madeCells #[.int .i64 0, .slice none 0 0] (k * 2)) 37)).setCell ⟨r1, 1, none⟩ (.slice (some ⟨w6.heap.size, 0, none⟩) k k)) w.heap.size 0 (.slice G j g)) (fun y hy => .inl (by injection hy with hy; omega))).andThen (grown_setCell _ w.heap.size 1 (.slice (some ⟨w6.heap.size, 0, none⟩) k k)) (fun y hy => .inl (by injection hy with hy; omega)))
      have C7 := Lib.hid ((C8.kept (grown_setCell ((w6.alloc (.cells (madeCells #[.int .i64 0, .slice none 0 0] (k * 2)) 37)).setCell ⟨r1, 1, none⟩ (.slice (some ⟨w6.heap.size, 0, none⟩) k k)) w.heap.size 0 (.slice G j g)) (fun y hy => by injection hy with hy; omega)).kept (grown_setCell _ w.heap.size 1 (.slice (some ⟨w6.heap.size, 0, none⟩) k k)) (fun y hy => by injection hy with hy; omega))
      have HZ := Lib.hid (show (DiskM.mk d.kept (List.replicate k (0, []))).sz ≤ 1048576 from sz_wait_made hd k61)
      clear SE S8 G8 C8
      go_wp2
      exact bodyPost_ret (v := .agg #[.slice G j g, .slice (some ⟨w6.heap.size, 0, none⟩) k k]) (by simp [results, Try.results44, go_sem, n0, n1]) rfl ⟨(DiskM.mk d.kept (List.replicate k (0, []))), _, _, _, _, _, _, rfl, HZ.out, S7.out, C7.out, G7.out⟩
    · skip
      obtain ⟨v1, v2, fk, fw, ev, SX⟩ := Sep.split (d1 := [keptD d.kept]) (d2 := [waitD d.wait]) S5.swap
      obtain ⟨ev1, ev2⟩ : v1 = [.slice G j g] ∧ v2 = [.slice H q hc] := by
        have l1 := (SX.own_ 1 rfl).len
        have l2 := (SX.own_ 0 rfl).len
        match v1, v2, l1, l2 with
        | [y1], [y2], _, _ =>
          injection ev with a1 a2
          injection a2 with a2 _
          subst a1 a2
          exact ⟨rfl, rfl⟩
      subst ev1 ev2
      clear ev
      go_wp2_with fail
      refine (below_any B p _ C5 2 (by omega) (by omega)).mono ?_
      rintro e w6 ⟨y, ⟨y0, y1⟩, rfl, C6, g6⟩
      have S6 := SX.grown g6 hp
      have G6 := G5.trans g6
      obtain ⟨k, hk⟩ := Int.eq_ofNat_of_zero_le (show 0 ≤ 40 + y by omega)
      have hmk := run_make_k (P := Try.prog) 24 28 (.slice none 0 0) #[.slice none 0 0] 1 24 Try.underlying24 infoRow rfl .i64 .i64 k (by omega) (by omega)
      rw [← hk, Nat.mul_one] at hmk
      have hmd := ow_made (w := w6) (e := 28) (f := rowC) (x0 := ([] : List Int)) (zc := #[.slice none 0 0]) (k := 1) rfl (by decide) k (by simp only [maxLen]; omega) ow_nil_row
      rw [Nat.mul_one] at hmd
      have bA : Below w6.heap.size w6 (w6.alloc (.cells (madeCells #[.slice none 0 0] k) 28)) := (Below.refl _ w6).alloc (Nat.le_refl _) _
      obtain ⟨f2, SA⟩ := S6.swap.tail.has bA ⟨_, hmd, by simp, fun p hp => Nat.le_of_eq (by simpa using hp : p = w6.heap.size).symm⟩ G6.size
      have GA := G6.trans (World.grownBy_alloc w6 (.cells (madeCells #[.slice none 0 0] k) 28) (some p))
      have CA := cur_alloc C6 (.cells (madeCells #[.slice none 0 0] k) 28)
      have k41 : k ≤ 41 := by omega
      clear hk hmd bA SX S6 G6 C6 G5 C5 g6 S5
      have q1 : (w6.alloc (.cells (madeCells #[.slice none 0 0] k) 28)).cell? ⟨r1, 0, none⟩ = some (.slice G j g) := (SA.at_ 2 rfl).cell 0
      have q2 := (SA.at_ 2 rfl).free 0
      have S8 := SA.put 2 rfl 0 (.slice (some ⟨w6.heap.size, 0, none⟩) k k)
      have G8 := GA.andThen (grown_setCell _ r1 0 (.slice (some ⟨w6.heap.size, 0, none⟩) k k)) (fun y hy => .inl (by injection hy with hy; omega))
      have C8 := CA.kept (grown_setCell _ r1 0 (.slice (some ⟨w6.heap.size, 0, none⟩) k k)) (fun y hy => by injection hy with hy; omega)
      clear SA GA CA
      have u0 : ((w6.alloc (.cells (madeCells #[.slice none 0 0] k) 28)).setCell ⟨r1, 0, none⟩ (.slice (some ⟨w6.heap.size, 0, none⟩) k k)).cell? ⟨r1, 0, none⟩ = some (.slice (some ⟨w6.heap.size, 0, none⟩) k k) := (S8.at_ 2 rfl).cell 0
      have u1 : ((w6.alloc (.cells (madeCells #[.slice none 0 0] k) 28)).setCell ⟨r1, 0, none⟩ (.slice (some ⟨w6.heap.size, 0, none⟩) k k)).cell? ⟨r1, 1, none⟩ = some (.slice H q hc) := (S8.at_ 2 rfl).cell 1
      have n0 : ((w6.alloc (.cells (madeCells #[.slice none 0 0] k) 28)).setCell ⟨r1, 0, none⟩ (.slice (some ⟨w6.heap.size, 0, none⟩) k k)).cell? ⟨w.heap.size, 0, none⟩ = some (.slice none 0 0) := (S8.at_ 3 rfl).cell 0
      have n1 : ((w6.alloc (.cells (madeCells #[.slice none 0 0] k) 28)).setCell ⟨r1, 0, none⟩ (.slice (some ⟨w6.heap.size, 0, none⟩) k k)).cell? ⟨w.heap.size, 1, none⟩ = some (.slice none 0 0) := (S8.at_ 3 rfl).cell 1
      have fr0 := (S8.at_ 3 rfl).free 0
      have fr1 := (S8.at_ 3 rfl).free 1
      have SE := (S8.put 3 rfl 0 (.slice (some ⟨w6.heap.size, 0, none⟩) k k)).put 3 rfl 1 (.slice H q hc)
      have S7 := Lib.hid (rdF_has SE.swap.pair)
      have G7 := Lib.hid ((G8.andThen (grown_setCell ((w6.alloc (.cells (madeCells #[.slice none 0 0] k) 28)).setCell ⟨r1, 0, none⟩ (.slice (some ⟨w6.heap.size, 0, none⟩) k k)) w.heap.size 0 (.slice (some ⟨w6.heap.size, 0, none⟩) k k)) (fun y hy => .inl (by injection hy with hy; omega))).andThen (grown_setCell _ w.heap.size 1 (.slice H q hc)) (fun y hy => .inl (by injection hy with hy; omega)))
      have C7 := Lib.hid ((C8.kept (grown_setCell ((w6.alloc (.cells (madeCells #[.slice none 0 0] k) 28)).setCell ⟨r1, 0, none⟩ (.slice (some ⟨w6.heap.size, 0, none⟩) k k)) w.heap.size 0 (.slice (some ⟨w6.heap.size, 0, none⟩) k k)) (fun y hy => by injection hy with hy; omega)).kept (grown_setCell _ w.heap.size 1 (.slice H q hc)) (fun y hy => by injection hy with hy; omega))
      have HZ := Lib.hid (show (DiskM.mk (List.replicate k []) d.wait).sz ≤ 1048576 from sz_kept_made hd k41)
      clear SE S8 G8 C8
      go_wp2
      exact bodyPost_ret (v := .agg #[.slice (some ⟨w6.heap.size, 0, none⟩) k k, .slice H q hc]) (by simp [results, Try.results44, go_sem, n0, n1]) rfl ⟨(DiskM.mk (List.replicate k []) d.wait), _, _, _, _, _, _, rfl, HZ.out, S7.out, C7.out, G7.out⟩
    · skip
      have hjl : d.kept.length = j := rdKept_len (S5.own_ 1 rfl).rd.parts.1
      have hj1 : 1 ≤ j := by have := (diskOk_iff.1 hd).1.1; omega
      have hj40 : j ≤ 40 := by have := (diskOk_iff.1 hd).1.2; omega
      obtain ⟨g0, off0, hG⟩ := rdDisk_some (S5.own_ 1 rfl).rd (by omega)
      subst hG
      have hjc := rdDisk_cap (S5.own_ 1 rfl).rd
      have hcm := rdDisk_capMax (S5.own_ 1 rfl).rd
      unfold maxLen at hcm
      clear hjl
      have i1 : (1 : Int) ≤ (j : Int) := by omega
      have i2 : (1 : Int) ≤ (g : Int) := by omega
      have i3 : (j : Int) ≤ (g : Int) := by omega
      have k0 : w5.cell? ⟨r1, 0, none⟩ = some (.slice (some ⟨g0, off0, none⟩) j g) := (S5.at_ 0 rfl).cell 0
      have k1 : w5.cell? ⟨r1, 1, none⟩ = some (.slice H q hc) := (S5.at_ 0 rfl).cell 1
      have q2 := (S5.at_ 0 rfl).free 0
      by_cases hg1 : g ≤ 1
      · obtain rfl : g = 1 := by omega
        obtain rfl : j = 1 := by omega
        have S8 := S5.put 0 rfl 0 (.slice (some ⟨g0, off0, none⟩) 0 0)
        have G8 := G5.andThen (grown_setCell _ r1 0 (.slice (some ⟨g0, off0, none⟩) 0 0)) (fun y hy => .inl (by injection hy with hy; omega))
        have C8 := C5.kept (grown_setCell _ r1 0 (.slice (some ⟨g0, off0, none⟩) 0 0)) (fun y hy => by injection hy with hy; omega)
        clear S5 G5 C5
        have u0 : (w5.setCell ⟨r1, 0, none⟩ (.slice (some ⟨g0, off0, none⟩) 0 0)).cell? ⟨r1, 0, none⟩ = some (.slice (some ⟨g0, off0, none⟩) 0 0) := (S8.at_ 0 rfl).cell 0
        have u1 : (w5.setCell ⟨r1, 0, none⟩ (.slice (some ⟨g0, off0, none⟩) 0 0)).cell? ⟨r1, 1, none⟩ = some (.slice H q hc) := (S8.at_ 0 rfl).cell 1
        have n0 : (w5.setCell ⟨r1, 0, none⟩ (.slice (some ⟨g0, off0, none⟩) 0 0)).cell? ⟨w.heap.size, 0, none⟩ = some (.slice none 0 0) := (S8.at_ 2 rfl).cell 0
        have n1 : (w5.setCell ⟨r1, 0, none⟩ (.slice (some ⟨g0, off0, none⟩) 0 0)).cell? ⟨w.heap.size, 1, none⟩ = some (.slice none 0 0) := (S8.at_ 2 rfl).cell 1
        have fr0 := (S8.at_ 2 rfl).free 0
        have fr1 := (S8.at_ 2 rfl).free 1
        have SE := (S8.put 2 rfl 0 (.slice (some ⟨g0, off0, none⟩) 0 0)).put 2 rfl 1 (.slice H q hc)
        have S7 := Lib.hid (rdF_tail0 (rdF_has (SE.drop 1).first))
        have G7 := Lib.hid ((G8.andThen (grown_setCell (w5.setCell ⟨r1, 0, none⟩ (.slice (some ⟨g0, off0, none⟩) 0 0)) w.heap.size 0 (.slice (some ⟨g0, off0, none⟩) 0 0)) (fun y hy => .inl (by injection hy with hy; omega))).andThen (grown_setCell _ w.heap.size 1 (.slice H q hc)) (fun y hy => .inl (by injection hy with hy; omega)))
        have C7 := Lib.hid ((C8.kept (grown_setCell (w5.setCell ⟨r1, 0, none⟩ (.slice (some ⟨g0, off0, none⟩) 0 0)) w.heap.size 0 (.slice (some ⟨g0, off0, none⟩) 0 0)) (fun y hy => by injection hy with hy; omega)).kept (grown_setCell _ w.heap.size 1 (.slice H q hc)) (fun y hy => by injection hy with hy; omega))
        have HZ := Lib.hid (show (DiskM.mk d.kept.tail d.wait).sz ≤ 1048576 from sz_tail hd)
        clear SE S8 G8 C8
        go_wp2
        exact bodyPost_ret (v := .agg #[.slice (some ⟨g0, off0, none⟩) 0 0, .slice H q hc]) (by simp [results, Try.results44, go_sem, n0, n1]) rfl ⟨(DiskM.mk d.kept.tail d.wait), _, _, _, _, _, _, rfl, HZ.out, S7.out, C7.out, G7.out⟩
      · have i4 : ¬ ((g : Int) ≤ 1) := by omega
        have S8 := S5.put 0 rfl 0 (.slice (some ⟨g0, off0 + 1, none⟩) (j - 1) (g - 1))
        have G8 := G5.andThen (grown_setCell _ r1 0 (.slice (some ⟨g0, off0 + 1, none⟩) (j - 1) (g - 1))) (fun y hy => .inl (by injection hy with hy; omega))
        have C8 := C5.kept (grown_setCell _ r1 0 (.slice (some ⟨g0, off0 + 1, none⟩) (j - 1) (g - 1))) (fun y hy => by injection hy with hy; omega)
        clear S5 G5 C5
        have u0 : (w5.setCell ⟨r1, 0, none⟩ (.slice (some ⟨g0, off0 + 1, none⟩) (j - 1) (g - 1))).cell? ⟨r1, 0, none⟩ = some (.slice (some ⟨g0, off0 + 1, none⟩) (j - 1) (g - 1)) := (S8.at_ 0 rfl).cell 0
        have u1 : (w5.setCell ⟨r1, 0, none⟩ (.slice (some ⟨g0, off0 + 1, none⟩) (j - 1) (g - 1))).cell? ⟨r1, 1, none⟩ = some (.slice H q hc) := (S8.at_ 0 rfl).cell 1
        have n0 : (w5.setCell ⟨r1, 0, none⟩ (.slice (some ⟨g0, off0 + 1, none⟩) (j - 1) (g - 1))).cell? ⟨w.heap.size, 0, none⟩ = some (.slice none 0 0) := (S8.at_ 2 rfl).cell 0
        have n1 : (w5.setCell ⟨r1, 0, none⟩ (.slice (some ⟨g0, off0 + 1, none⟩) (j - 1) (g - 1))).cell? ⟨w.heap.size, 1, none⟩ = some (.slice none 0 0) := (S8.at_ 2 rfl).cell 1
        have fr0 := (S8.at_ 2 rfl).free 0
        have fr1 := (S8.at_ 2 rfl).free 1
        have SE := (S8.put 2 rfl 0 (.slice (some ⟨g0, off0 + 1, none⟩) (j - 1) (g - 1))).put 2 rfl 1 (.slice H q hc)
        have S7 := Lib.hid (rdF_tail (rdF_has (SE.drop 1).first) hj1)
        have G7 := Lib.hid ((G8.andThen (grown_setCell (w5.setCell ⟨r1, 0, none⟩ (.slice (some ⟨g0, off0 + 1, none⟩) (j - 1) (g - 1))) w.heap.size 0 (.slice (some ⟨g0, off0 + 1, none⟩) (j - 1) (g - 1))) (fun y hy => .inl (by injection hy with hy; omega))).andThen (grown_setCell _ w.heap.size 1 (.slice H q hc)) (fun y hy => .inl (by injection hy with hy; omega)))
        have C7 := Lib.hid ((C8.kept (grown_setCell (w5.setCell ⟨r1, 0, none⟩ (.slice (some ⟨g0, off0 + 1, none⟩) (j - 1) (g - 1))) w.heap.size 0 (.slice (some ⟨g0, off0 + 1, none⟩) (j - 1) (g - 1))) (fun y hy => by injection hy with hy; omega)).kept (grown_setCell _ w.heap.size 1 (.slice H q hc)) (fun y hy => by injection hy with hy; omega))
        have HZ := Lib.hid (show (DiskM.mk d.kept.tail d.wait).sz ≤ 1048576 from sz_tail hd)
        clear SE S8 G8 C8
        go_wp2
        exact bodyPost_ret (v := .agg #[.slice (some ⟨g0, off0 + 1, none⟩) (j - 1) (g - 1), .slice H q hc]) (by simp [results, Try.results44, go_sem, n0, n1]) rfl ⟨(DiskM.mk d.kept.tail d.wait), _, _, _, _, _, _, rfl, HZ.out, S7.out, C7.out, G7.out⟩

end Go.Proofs.Ytbjdfgdcmaflkaa
