/- Parts of my texts: DskS1 KS2. -/
import Derived.Test.YtmjifhjhialcbaaU4
import Derived.Deep.RegionHeld3
import Derived.Deep.RegionLaw
namespace Go.Proofs.Ytmjifhjhialcbaa
set_option maxRecDepth 100000
set_option linter.unusedVariables false
open Go.RowKit
theorem ok_kept_bad {d : DiskM} {j : Nat} (hj : j < d.kept.length) (h : rowOk d.kept[j] = false) : diskOk d = false :=
 diskOk_no fun h' => by rw [all_bad hj h] at h'; exact absurd h'.2.2.1 (by simp)
theorem ok_wait_bad {d : DiskM} {j : Nat} (hj : j < d.wait.length) (h : wrOk d d.wait[j] = false) : diskOk d = false :=
 diskOk_no fun h' => by rw [all_bad hj h] at h'; exact absurd h'.2.2.2 (by simp)
end Go.Proofs.Ytmjifhjhialcbaa
namespace Go.Proofs.Ytmjifhjhialcbaa
set_option maxRecDepth 100000
set_option linter.unusedVariables false
open Go.RowKit
theorem ow_nil_kept (w : World) : Ow w [keptD []] [.slice none 0 0] [] := Ow.row (n := 0) (us := []) (fp1 := []) (fp2 := []) (World.ownsRow_nil w 0 _ _) .nil .nil
theorem ow_nil_wait (w : World) : Ow w [waitD []] [.slice none 0 0] [] := Ow.row (n := 0) (us := []) (fp1 := []) (fp2 := []) (World.ownsRow_nil w 0 _ _) .nil .nil
theorem keptD_len {w : World} {l : List (List Int)} {A : Option Addr} {n c : Nat} {fp : List Nat} (h : Ow w [keptD l] [.slice A n c] fp) : l.length = n := by
 obtain ⟨_, _, _, e, hl, _⟩ := h.rd.kept
 injection e with _ e2 _
 omega
theorem waitD_len {w : World} {l : List (Int × List Int)} {A : Option Addr} {n c : Nat} {fp : List Nat} (h : Ow w [waitD l] [.slice A n c] fp) : l.length = n := by
 obtain ⟨_, _, _, e, hl, _⟩ := h.rd.wait
 injection e with _ e2 _
 omega
end Go.Proofs.Ytmjifhjhialcbaa
namespace Go.Proofs.Ytmjifhjhialcbaa
set_option maxRecDepth 100000
open Go.RowKit
theorem has_zero (w : World) (base : Nat) : Has w base zeroD.cells [.slice none 0 0, .slice none 0 0] :=
 ⟨[], (ow_nil_kept w).append (ow_nil_wait w), List.nodup_nil, fun p hp => by cases hp⟩
theorem lastTo_le {l : List (Int × List Int)} {i : Int} {j : Nat} {x : Int × List Int} (hj : j < l.length) (hx : l[j] = x) : lastTo l i (j + 1) = if x.1 = i then some x.2 else lastTo l i j := by
 have : l.getD j (0, []) = x := by simp [List.getD, List.getElem?_eq_getElem hj, hx]
 rw [lastTo, this]
end Go.Proofs.Ytmjifhjhialcbaa
namespace Go.Proofs.Ytmjifhjhialcbaa
set_option maxRecDepth 100000
open Go.RowKit
end Go.Proofs.Ytmjifhjhialcbaa
namespace Go.Proofs.Ytmjifhjhialcbaa
set_option maxRecDepth 100000
open Go.RowKit
theorem IRow.take_ {w : World} {B : Nat} {A : Option Addr} {n m : Nat} {xs : List Int} (h : IRow w B A n xs) (hm : m ≤ n) : IRow w B A m (xs.take m) := by
 refine ⟨by rw [List.length_take, h.1]; omega, fun h0 => ?_⟩
 obtain ⟨b, off, rfl, hb, hc⟩ := h.2 (by omega)
 refine ⟨b, off, rfl, hb, fun j hj => ?_⟩
 rw [hc j (by omega)]
 simp [List.getD, hj]
theorem IRow.drop_ {w : World} {B b off n m : Nat} {xs : List Int} (h : IRow w B (some ⟨b, off, none⟩) n xs) (hm : m < n) : IRow w B (some ⟨b, off + m, none⟩) (n - m) (xs.drop m) := by
 refine ⟨by rw [List.length_drop, h.1], fun _ => ?_⟩
 obtain ⟨b', off', e, hb, hc⟩ := h.2 (by omega)
 injection e with e
 injection e with e1 e2
 subst e1 e2
 refine ⟨b, off + m, rfl, hb, fun j hj => ?_⟩
 have := hc (m + j) (by omega)
 rw [Nat.add_assoc, this]
 simp [List.getD, List.getElem?_drop]
end Go.Proofs.Ytmjifhjhialcbaa
