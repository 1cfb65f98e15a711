/-
  Chapter 10: the laws' lists: one that begins another, two behind each other.
-/
import Derived.Test.YtepnghjmpbfmcaaBookW
import Derived.Test.YtepnghjmpbfmcaaBookT
import Derived.Test.YtepnghjmpbfmcaaBookU
import Derived.Test.YtepnghjmpbfmcaaMove
import Derived.RegionTactic
import Derived.BigQuiet
namespace Go.Proofs.Ytepnghjmpbfmcaa
set_option maxRecDepth 100000
open Go.RowKit

theorem ent_flat9 : ∀ x : EntM, entC x = (entNs x).flatMap fun y => [Dat.int y] := fun _ => rfl
def beginsB (l r : List EntM) : Bool := decide (r.length ≤ l.length) && sameEs (l.take r.length) r
set_option maxHeartbeats 3200000 in
theorem w9both_any (A A2 : Option Addr) (n c n2 c2 B B2 : Nat) (l r : List EntM) (w : World) (h : Rd w B [entD l] [.slice A n c]) (h2 : Rd w B2 [entD r] [.slice A2 n2 c2]) (hB : B ≤ w.heap.size) (hB2 : B2 ≤ w.heap.size) (hs : entSz l ≤ 1000000) (hs2 : entSz r ≤ 1000000) :
    Calls Try.prog 38 #[.slice A n c, .slice A2 n2 c2] w fun e w' => ∃ (A3 : Option Addr) (c3 : Nat), e = .returned (.slice A3 (n + n2) c3) ∧ Has w' w.heap.size [entD (l ++ r)] [.slice A3 (n + n2) c3] ∧ Below w.heap.size w w' := by
  obtain ⟨_, _, _, e, hl, _, _, _⟩ := h.ents
  injection e with e1 e2 e3
  subst e1 e2 e3
  obtain ⟨_, _, _, e, hl2, _, _, _⟩ := h2.ents
  injection e with e1 e2 e3
  subst e1 e2 e3
  have hn : n ≤ 1000000 := by unfold entSz at hs; omega
  have hn2 : n2 ≤ 1000000 := by unfold entSz at hs2; omega
  have S := Sep.nil w w.heap.size
  have c := Below.refl w.heap.size w
  replace S := S.boxAt c.size (w.heap.size) rfl #[] 83
  replace c := c.alloc c.size (.cells #[] 83)
  have hsr := Rd.src (f := entC) (g := entNs) (l := l) (e := 83) (k := 9) ent_flat9 (fun _ => rfl) (by decide) (h.keep (c.mono hB))
  have H2 := Lib.hid h2
  replace S := S.blk0 (k := 9) (f := entC)
  replace S := (S.flat (f := entC) (g := entNs) ent_flat9 l).swap
  have hgc := Lib.hid c
  clear h h2 c hl hl2
  go_enter Try.func38, Try.ntmps38
  go_wp2_with (first
    | (at_builtin
       refine wpList_append_fresh (f := entC) (k := 9) (l2 := l) rfl (.tmp 5) (.tmp 6) (by rfl) Try.underlying54 infoEntry (by rfl) (by decide) entC_len (by rfl) (S.own_ 0 rfl) (S.nodup_own 0 rfl) (by rfl) hsr.1 (S.own_ 1 rfl) hsr.2 (S.nodup_own 1 rfl) S.apart (by omega) (by omega) ?_
       intro A3 c3 w3 fp3 o3 n3 s3 t3
       have S3 := S.merge t3 o3 n3 s3 hgc.out.size
       have C3 := hgc.out.trans (S.below 0 rfl t3 hgc.out.size)
       have hs4 := Rd.src (f := entC) (g := entNs) (l := r) (e := 83) (k := 9) ent_flat9 (fun _ => rfl) (by decide) (H2.out.keep (C3.mono hB2))
       have S4 := (S3.flat (f := entC) (g := entNs) ent_flat9 r).swap
       have hg4 := Lib.hid C3
       clear S o3 n3 s3 t3 hgc hsr S3 C3)
    | (at_builtin
       refine wpList_append_many (f := entC) (k := 9) (l := l) (l2 := r) rfl (.tmp 7) (.tmp 8) (by rfl) Try.underlying54 infoEntry (by rfl) (by decide) entC_len (by rfl) (S4.own_ 0 rfl) (S4.nodup_own 0 rfl) (by rfl) hs4.1 (S4.own_ 1 rfl) hs4.2 (S4.nodup_own 1 rfl) S4.apart (by omega) (by omega) ?_
       intro A5 c5 w5 fp5 o5 n5 s5 t5))
  have H := Lib.hid (S4.merge t5 o5 n5 s5 hg4.out.size).first
  have C := Lib.hid (hg4.out.trans (S4.below 0 rfl t5 hg4.out.size))
  clear S4 o5 n5 s5 t5 hg4 hs4
  go_ret
  exact ⟨_, _, rfl, H.out, C.out⟩

end Go.Proofs.Ytepnghjmpbfmcaa
