/-
  The law FnDiskWhole answers true at every slice of bytes, and writes nothing that was there.
-/
import Derived.Test.YtbjdfgdcmaflkaaDskM5
import Derived.Test.YtbjdfgdcmaflkaaDskLk
import Derived.Test.YtbjdfgdcmaflkaaDskD3
import Derived.Test.YtbjdfgdcmaflkaaDskI5
namespace Go.Proofs.Ytbjdfgdcmaflkaa
open Go.RowKit

theorem bigd_any (A : Option Addr) (n c : Nat) (w : World) :
    Calls Try.prog 13 #[.slice A n c] w fun e w' => e = .returned (.bool (decide (4096 < n))) ∧ w = w' := by
  go_enter Try.func13, Try.ntmps13
  go_wp2
  go_ret
  exact ⟨ret_bool (by simp; omega), rfl⟩
theorem Rd.on {w w' : World} {ds : List Dat} {vs : List Value} (h : Rd w w.heap.size ds vs) (b : Below w.heap.size w w') : Rd w' w'.heap.size ds vs := (h.keep b).up b.size
theorem Blk.on {w w' : World} {p : Nat} {cs : Array Value} {t : TypeId} (h : Blk w p cs t) (b : Below w.heap.size w w') : Blk w' p cs t := h.keep b h.lt
theorem below_alloc (w : World) (o : Obj) : Below w.heap.size w (w.alloc o) := (Below.refl _ w).alloc (Nat.le_refl _) o

set_option maxHeartbeats 6400000 in
theorem lawDiskWhole (A : Option Addr) (n c : Nat) (w : World) (h : BRow w w.heap.size A n) (hm : n ≤ maxLen) :
    Calls Try.prog 4 #[.slice A n c] w fun e w' => e = .returned (.bool true) ∧ Below w.heap.size w w' := by
  unfold maxLen at hm
  by_cases hn : 4096 < n
  · clear h
    go_enter Try.func4, Try.ntmps4
    go_wp2_with fail
    refine (bigd_any A n c _).mono ?_
    rintro e w' ⟨rfl, rfl⟩
    rw [decide_eq_true hn]
    go_wp2
    go_ret
    exact ⟨rfl, Below.refl _ _⟩
  go_enter Try.func4, Try.ntmps4
  go_wp2_with fail
  refine (bigd_any A n c _).mono ?_
  rintro e w' ⟨rfl, rfl⟩
  rw [decide_eq_false hn]
  go_wp2_with fail
  refine (drawSynced_any A n c _ h (by omega)).mono ?_
  rintro e w1 ⟨d, G, j, g, H, q, hc, rfl, hsz, R1, b1⟩
  have e1 : (w1.alloc (.cells #[.slice G j g, .slice H q hc] 27)).heap.size = w1.heap.size + 1 := by simp
  have o0' := own_empty (w1.alloc (.cells #[.slice G j g, .slice H q hc] 27))
  rw [e1] at o0'
  have B0' := below_alloc (w1.alloc (.cells #[.slice G j g, .slice H q hc] 27)) (.cells #[] 2)
  rw [e1] at B0'
  have o0 := Lib.hid o0'
  have B0 := Lib.hid B0'
  have HK := Lib.hid (show ∀ wr, Below (w1.heap.size + 1) (w1.alloc (.cells #[.slice G j g, .slice H q hc] 27)) wr → Blk wr w1.heap.size #[.slice G j g, .slice H q hc] 27 ∧ Rd wr wr.heap.size d.cells [.slice G j g, .slice H q hc] ∧ Below w.heap.size w wr ∧ w1.heap.size + 1 ≤ wr.heap.size from fun wr hb => by
    have bA := below_alloc w1 (.cells #[.slice G j g, .slice H q hc] 27)
    rw [← e1] at hb
    exact ⟨(Blk.new w1 _ _).on hb, (R1.on bA).on hb, (b1.trans (bA.mono b1.size)).trans (hb.mono (b1.trans (bA.mono b1.size)).size), by rw [← e1]; exact hb.size⟩)
  have HZ := Lib.hid hsz
  clear R1 b1 h o0' B0' e1 hsz
  go_wp2
  go_loopw [4, 5] (fun r i wr => ∃ (k fc : Nat) (F : Option Addr), i = .int .i64 (k : Int) ∧ k ≤ 60 ∧ r = .slice F k fc ∧ Own wr (w1.heap.size + 1) F k fc (List.replicate k 1) ∧ Below (w1.heap.size + 1) (w1.alloc (.cells #[.slice G j g, .slice H q hc] 27)) wr) (fun _ i _ => 60 - (intOf i).toNat)
  case atStart => exact ⟨0, 0, _, rfl, by omega, rfl, o0.out, B0.out⟩
  case round =>
    obtain ⟨k, fc, F, rfl, hk, rfl, hown, hbel⟩ := hrel
    clear o0 B0
    by_cases hlt : k < 60
    · have i1 : (k : Int) < 60 := by omega
      have o2' := hown.below ((Below.refl _ wr).alloc (Nat.le_refl _) (.cells #[.int .i64 1] 2))
      have r2 := (own_one wr 1).irow
      have zw := (HK.out wr hbel).2.2.2
      have zb : w1.heap.size + 1 ≤ (wr.alloc (.cells #[.int .i64 1] 2)).heap.size := by simp; omega
      go_wp2_with (first
        | (at_builtin
           refine wpList_append_ints rfl (.tmp 18) (.tmp 19) rfl rfl o2' rfl r2 zb (by omega) ?_
           intro A3 c3 w3 o3 g3 e3))
      have B3 := (hbel.alloc zw (.cells #[.int .i64 1] 2)).grown g3 zb (fun p hp => (hown.ge p hp).1)
      have HE : List.replicate k (1 : Int) ++ [1] = List.replicate (k + 1) 1 := List.replicate_succ'.symm
      rw [HE] at o3
      go_roundw
      case rel => exact ⟨k + 1, c3, A3, by go_num, by omega, rfl, o3, B3⟩
      case measure => simp [intOf]; omega
    · obtain rfl : k = 60 := by omega
      clear hlt hk
      obtain ⟨p3, R3, b3, _⟩ := HK.out wr hbel
      have rf := hown.has.rd
      generalize w1.heap.size = r3 at *
      have k0 : wr.cell? ⟨r3, 0, none⟩ = some (.slice G j g) := p3.cell 0
      have k1 : wr.cell? ⟨r3, 1, none⟩ = some (.slice H q hc) := p3.cell 1
      have hsz := HZ.out
      clear HK hown hbel
      go_wp2_with fail
      refine (iSynced_any G j g H q hc d _ R3 hsz).mono ?_
      rintro e w4 ⟨X, xn, xc, X', xn', xc', rfl, ox, b4⟩
      have rx := ox.rd
      have b4A := below_alloc w4 (.cells #[.slice X xn xc, .slice X' xn' xc'] 27)
      have p6 := Blk.new w4 #[.slice X xn xc, .slice X' xn' xc'] 27
      replace p3 := (p3.on b4).on b4A
      replace R3 := (R3.on b4).on b4A
      replace rf := (rf.on b4).on b4A
      replace rx := rx.on b4A
      replace b3 := (b3.trans (b4.mono b3.size))
      replace b3 := b3.trans (b4A.mono b3.size)
      clear b4 b4A ox k0 k1
      have k0 : (w4.alloc (.cells #[.slice X xn xc, .slice X' xn' xc'] 27)).cell? ⟨r3, 0, none⟩ = some (.slice G j g) := p3.cell 0
      have k1 : (w4.alloc (.cells #[.slice X xn xc, .slice X' xn' xc'] 27)).cell? ⟨r3, 1, none⟩ = some (.slice H q hc) := p3.cell 1
      go_wp2_with fail
      generalize w4.alloc (.cells #[.slice X xn xc, .slice X' xn' xc'] 27) = w5 at *
      generalize w4.heap.size = r6 at *
      refine (iFallen_any G j g H q hc d F 60 fc _ _ R3 hsz rf (by simp)).mono ?_
      rintro e w6 ⟨Y, yn, yc, Y', yn', yc', rfl, oy, b6⟩
      have ry := oy.rd
      have b6A := below_alloc w6 (.cells #[.slice Y yn yc, .slice Y' yn' yc'] 27)
      have p7 := Blk.new w6 #[.slice Y yn yc, .slice Y' yn' yc'] 27
      replace p3 := (p3.on b6).on b6A
      replace p6 := (p6.on b6).on b6A
      replace R3 := (R3.on b6).on b6A
      replace rx := (rx.on b6).on b6A
      replace ry := ry.on b6A
      replace b3 := (b3.trans (b6.mono b3.size))
      replace b3 := b3.trans (b6A.mono b3.size)
      clear b6 b6A oy k0 k1 rf
      have k0 : (w6.alloc (.cells #[.slice Y yn yc, .slice Y' yn' yc'] 27)).cell? ⟨r3, 0, none⟩ = some (.slice G j g) := p3.cell 0
      have k1 : (w6.alloc (.cells #[.slice Y yn yc, .slice Y' yn' yc'] 27)).cell? ⟨r3, 1, none⟩ = some (.slice H q hc) := p3.cell 1
      have W7 : ∃ w7, w7 = w6.alloc (.cells #[.slice Y yn yc, .slice Y' yn' yc'] 27) := ⟨_, rfl⟩
      obtain ⟨w7, hw7⟩ := W7
      rw [← hw7] at p3 p6 p7 R3 rx ry b3
      have b7 := below_alloc w7 (.cells #[] 2)
      have o7 := own_empty w7
      rw [show w7.heap.size = w6.heap.size + 1 by rw [hw7]; simp] at o7
      have r7 := o7.has.rd
      replace R3 := R3.on b7
      replace p3 := p3.on b7
      replace p6 := p6.on b7
      replace p7 := p7.on b7
      replace rx := rx.on b7
      replace ry := ry.on b7
      replace b3 := b3.trans (b7.mono b3.size)
      clear b7 o7
      go_wp2_with fail
      rw [← hw7]
      refine (iFallen_any G j g H q hc d _ 0 0 [] _ R3 hsz r7 (by simp)).mono ?_
      rintro e w8 ⟨Z, zn, zc, Z', zn', zc', rfl, oz, b8⟩
      have rz := oz.rd
      have b8A := below_alloc w8 (.cells #[.slice Z zn zc, .slice Z' zn' zc'] 27)
      have p8 := Blk.new w8 #[.slice Z zn zc, .slice Z' zn' zc'] 27
      replace p3 := (p3.on b8).on b8A
      replace p6 := (p6.on b8).on b8A
      replace p7 := (p7.on b8).on b8A
      replace R3 := (R3.on b8).on b8A
      replace rx := (rx.on b8).on b8A
      replace ry := (ry.on b8).on b8A
      replace rz := rz.on b8A
      replace b3 := (b3.trans (b8.mono b3.size))
      replace b3 := b3.trans (b8A.mono b3.size)
      clear b8 b8A oz k0 k1 r7 hw7
      have k0 : (w8.alloc (.cells #[.slice Z zn zc, .slice Z' zn' zc'] 27)).cell? ⟨r3, 0, none⟩ = some (.slice G j g) := p3.cell 0
      have k1 : (w8.alloc (.cells #[.slice Z zn zc, .slice Z' zn' zc'] 27)).cell? ⟨r3, 1, none⟩ = some (.slice H q hc) := p3.cell 1
      go_wp2_with fail
      generalize w8.alloc (.cells #[.slice Z zn zc, .slice Z' zn' zc'] 27) = w9 at *
      generalize w8.heap.size = r8 at *
      generalize w6.heap.size = r7 at *
      refine (sDiskOk_any _ _ d _ _ R3 (Nat.le_refl _) (by omega)).mono ?_
      rintro e w10 ⟨rfl, b10⟩
      replace p3 := p3.on b10
      replace p6 := p6.on b10
      replace p7 := p7.on b10
      replace p8 := p8.on b10
      replace R3 := R3.on b10
      replace rx := rx.on b10
      replace ry := ry.on b10
      replace rz := rz.on b10
      replace b3 := b3.trans (b10.mono b3.size)
      clear b10 k0 k1
      have lx := rdKept_len rx.parts.1
      have ly := rdKept_len ry.parts.1
      have lz := rdKept_len rz.parts.1
      have k3 : w10.cell? ⟨r3, 0, none⟩ = some (.slice G j g) := p3.cell 0
      have k6 : w10.cell? ⟨r6, 0, none⟩ = some (.slice X xn xc) := p6.cell 0
      have k7 : w10.cell? ⟨r7, 0, none⟩ = some (.slice Y yn yc) := p7.cell 0
      have k8 : w10.cell? ⟨r8, 0, none⟩ = some (.slice Z zn zc) := p8.cell 0
      cases hd : diskOk d
      · obtain rfl : xn = 0 := by rw [← lx, synced_bad hd]; rfl
        obtain rfl : yn = 0 := by rw [← ly, fallen_bad hd]; rfl
        obtain rfl : zn = 0 := by rw [← lz, fallen_bad hd]; rfl
        go_wp2
        go_ret
        exact ⟨rfl, b3⟩
      · have HX := rx.parts.1
        have HY := ry.parts.1
        have HZZ := rz.parts.1
        have HD := R3.parts.1
        have ld := rdKept_len HD
        rw [fallen_ones hd] at HY ly
        rw [fallen_lost hd] at HZZ lz
        have s1 : rowsSz (synced d).kept ≤ 1048577 := by have := synced_sz d hsz; unfold DiskM.sz at this; omega
        have s2 : rowsSz d.kept ≤ 1048577 := by unfold DiskM.sz at hsz; omega
        obtain rfl : yn = xn := by omega
        obtain rfl : zn = j := by omega
        have hx0 : 0 < yn := by
          rw [← lx, synced_len hd]
          exact (diskOk_iff.1 hd).1.1
        have HX0 := Lib.hid hx0
        have B3 := Lib.hid b3
        clear p3 p6 p7 p8 R3 rx ry rz lx ly lz ld hd hx0 b3
        go_wp2_with fail
        refine (likeRows_yes X Y yn xc yc _ _ _ _ HX HY s1).mono ?_
        rintro e w11 ⟨rfl, d11⟩
        have k3' := (d11.cell _).trans k3
        have k6' := (d11.cell _).trans k6
        have k8' := (d11.cell _).trans k8
        have HD' := HD.keep (d11.below _)
        have HZ' := HZZ.keep (d11.below _)
        go_wp2_with fail
        refine (likeRows_yes Z G zn zc g _ _ _ _ HZ' HD' s2).mono ?_
        rintro e w12 ⟨rfl, d12⟩
        have k6'' := (d12.cell _).trans k6'
        have B4 := Lib.hid ((B3.out.trans (d11.below _)).trans (d12.below _))
        clear k3' k6' k8' HD' HZ' k3 k6 k7 k8
        go_wp2
        go_ret
        exact ⟨ret_bool (decide_eq_true HX0.out), B4.out⟩

end Go.Proofs.Ytbjdfgdcmaflkaa
