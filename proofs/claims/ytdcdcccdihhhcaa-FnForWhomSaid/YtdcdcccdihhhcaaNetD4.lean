/-
  Chapter 5: a network without one message, in the model (by program, wip/gen/gennetf.py).
-/
import Derived.Test.YtdcdcccdihhhcaaNetD3
import Derived.RegionTactic
import Derived.Deep.DeepCutAuto
import Derived.BigQuiet
namespace Go.Proofs.Ytdcdcccdihhhcaa
set_option maxRecDepth 100000
open Go.RowKit

def withoutM (t : NetM) (k : Nat) : NetM := ⟨t.flight.eraseIdx k, t.cuts⟩
theorem net_len {w : World} {B : Nat} {t : NetM} {A0 A1 : Option Addr} {n0 c0 n1 c1 : Nat} (h : Rd w B t.cells [.slice A0 n0 c0, .slice A1 n1 c1]) : t.flight.length = n0 ∧ t.cuts.length = n1 ∧ n0 ≤ c0 ∧ c0 ≤ maxLen ∧ (0 < n0 → ∃ b off, A0 = some ⟨b, off, none⟩) := by
  obtain ⟨_, _, _, _, _, _, e0, e1, h0, h1⟩ := h.netT
  injection e0 with a1 a2 a3
  subst a1 a2 a3
  injection e1 with a1 a2 a3
  subst a1 a2 a3
  obtain ⟨_, _, _, e, hl, h2, h3, hel⟩ := h0.msgs
  injection e with a1 a2 a3
  subst a1 a2 a3
  obtain ⟨_, _, _, e, hl', _, _, _⟩ := h1.links
  injection e with a1 a2 a3
  subst a1 a2 a3
  exact ⟨hl, hl', h2, h3, fun hp => by obtain ⟨b, off, e, _⟩ := hel hp; exact ⟨b, off, e⟩⟩

theorem own_addr {α : Type} {w : World} {e : TypeId} {k n c : Nat} {f : α → List Dat} {l : List α} {A : Option Addr} {fp : List Nat} (hk : ∀ x, (f x).length = k) (k0 : 0 < k) (h : Ow w [lst e k f l] [.slice A n c] fp) (hn : 0 < n) : ∃ g, A = some ⟨g, 0, none⟩ := by
  obtain ⟨us, fp1, h1, _, _⟩ := h.lst hk k0
  rcases h1.2 with ⟨hv, h0⟩ | ⟨g, cap, cur, hv, _⟩
  · injection hv; omega
  · injection hv with a1 _ _
    exact ⟨g, a1⟩

set_option maxHeartbeats 6400000 in
theorem sWithout_any (v0 v1 : Value) (t : NetM) (k : Nat) (w : World) (h : Rd w w.heap.size t.cells [v0, v1]) (hs : t.sz ≤ 1048577) (hk : k < t.flight.length) :
    Calls Try.prog 94 #[.agg #[v0, v1], .int .i64 (k : Int)] w (MadeNet w (withoutM t k)) := by
  obtain ⟨A0, n0, c0, A1, n1, c1, rfl, rfl, hr0, hr1⟩ := h.netT
  have hlen0 := (net_len h).1
  have hz0 : msgSz t.flight ≤ 1048577 := by unfold NetM.sz at hs; omega
  have hz1 : linkSz t.cuts ≤ 1048577 := by unfold NetM.sz at hs; omega
  have hn0 : n0 ≤ 1048577 := by unfold msgSz at hz0; omega
  have S := Sep.nil w w.heap.size
  have c := Below.refl w.heap.size w
  replace S := S.boxAt c.size (w.heap.size) rfl #[.slice A0 n0 c0, .slice A1 n1 c1] 30
  replace c := c.alloc c.size (.cells #[.slice A0 n0 c0, .slice A1 n1 c1] 30)
  replace S := S.boxAt c.size (w.heap.size + 1) (by simp) #[.slice none 0 0, .slice none 0 0] 30
  replace c := c.alloc c.size (.cells #[.slice none 0 0, .slice none 0 0] 30)
  go_enter Try.func94, Try.ntmps94
  go_wp2_with fail
  generalize (w.alloc (.cells #[.slice A0 n0 c0, .slice A1 n1 c1] 30)).alloc (.cells #[.slice none 0 0, .slice none 0 0] 30) = w1 at *
  refine (sCopyN_any _ _ t _ ((h.keep c).up c.size) hs).mono ?_
  rintro e w2 ⟨Au, nu, cu, Ax, nx, cx, rfl, o, b⟩
  obtain ⟨fp_u, S'⟩ := S.has b o c.size
  replace c := c.trans (b.mono c.size)
  clear S; have S := S'; clear S' o b
  have hlt2 : w.heap.size + 1 < w2.heap.size := (S.at_ 1 rfl).lt
  have hne1 : ¬ (w2.heap.size = w.heap.size + 1) := by omega
  have hne2 : ¬ (w.heap.size + 1 = w2.heap.size) := by omega
  obtain ⟨hlu, hlx, hcu, hmu, _⟩ := net_len (S.own_ 0 rfl).rd
  obtain ⟨hl0, _, _, _, _⟩ := net_len h
  obtain rfl : n0 = nu := by rw [← hl0, hlu]
  obtain ⟨fx, fy, S'⟩ := S.cut (ds := [msgD t.flight]) (ds' := [linkD t.cuts]) (vs := [.slice Au n0 cu]) (vs' := [.slice Ax nx cx]) rfl
  clear S; have S := S'; clear S'
  replace S := S.swap
  obtain ⟨gu, rfl⟩ := own_addr msgC_len (by decide) (S.own_ 0 rfl) (by omega)
  obtain ⟨us, cs, fz, S', hcs⟩ := S.lift msgC_len (by decide)
  clear S; have S := S'; clear S'
  rw [flatMap_at t.flight (show k < t.flight.length by omega)] at S
  obtain ⟨u1, u23, f1, f23, hu, S'⟩ := S.split
  clear S; have S := S'; clear S'
  obtain ⟨u2, u3, f2, f3, hu', S'⟩ := S.split
  clear S; have S := S'; clear S'
  subst hu' hu
  have hlu1 : u1.length = k * 3 := by rw [(S.own_ 2 rfl).len, flatMap_len msgC_len, List.length_take, Nat.min_eq_left (by omega)]
  have hlu2 : u2.length = 3 := by rw [(S.own_ 1 rfl).len]; rfl
  replace S := S.boxAt c.size (w2.heap.size) rfl #[.slice (some ⟨gu, 0, none⟩) n0 cu, .slice Ax nx cx] 30
  replace c := c.alloc c.size (.cells #[.slice (some ⟨gu, 0, none⟩) n0 cu, .slice Ax nx cx] 30)
  replace S := S.boxAt c.size (w2.heap.size + 1) (by simp) #[] 40
  replace c := c.alloc c.size (.cells #[] 40)
  replace S := S.pick 0 rfl
  replace S := S.blk0 (k := 3) (f := msgC)
  replace S := S.pick 4 rfl
  replace S := S.pick 1 rfl
  have sr1 : Src ((w2.alloc (.cells #[.slice (some ⟨gu, 0, none⟩) n0 cu, .slice Ax nx cx] 30)).alloc (.cells #[] 40)) (some ⟨gu, 0, none⟩) k 3 u1 := Src.of_blk (S.at_ 5 rfl) (fun i hi => by
    rw [Nat.zero_add, hcs i (by omega), List.getElem?_append_left (by omega)])
  have hlk : (t.flight.take k).length = k := by rw [List.length_take]; omega
  have i0 : (0 : Int) ≤ (k : Int) := by omega
  have i1 : (k : Int) < (n0 : Int) := by omega
  have kc : (k : Int) ≤ (cu : Int) := by omega
  have f0 : ((w2.alloc (.cells #[.slice (some ⟨gu, 0, none⟩) n0 cu, .slice Ax nx cx] 30)).alloc (.cells #[] 40)).cell? ⟨w2.heap.size, 0, none⟩ = some (.slice (some ⟨gu, 0, none⟩) n0 cu) := (S.at_ 2 rfl).cell 0
  have f1 : ((w2.alloc (.cells #[.slice (some ⟨gu, 0, none⟩) n0 cu, .slice Ax nx cx] 30)).alloc (.cells #[] 40)).cell? ⟨w2.heap.size, 1, none⟩ = some (.slice Ax nx cx) := (S.at_ 2 rfl).cell 1
  go_upto_region 3 with (first
    | (at_builtin
       refine wpList_append_fresh (l2 := t.flight.take k) rfl (.tmp 9) (.tmp 13) (by rfl) Try.underlying27 infoMsg (by rfl) (by decide) msgC_len (by rfl) (S.own_ 0 rfl) (S.nodup_own 0 rfl) (by rfl) sr1 (S.own_ 1 rfl) hlk (S.nodup_own 1 rfl) S.apart (by omega) (by omega) ?_
       intro A3 c3 w5 fp3 o3 n3 s3 t3))
  have S' := S.merge t3 o3 n3 s3 c.size
  replace c := c.trans (S.below 0 rfl t3 c.size)
  clear S; have S := S'; clear S' o3 n3 s3 t3 sr1 f0 f1
  replace S := S.pick 2 rfl
  replace S := S.pick 1 rfl
  have f2 : w5.cell? ⟨w2.heap.size, 0, none⟩ = some (.slice (some ⟨gu, 0, none⟩) n0 cu) := (S.at_ 2 rfl).cell 0
  have f3 := (S.at_ 2 rfl).free 0
  have f4 : w5.cell? ⟨w2.heap.size, 1, none⟩ = some (.slice Ax nx cx) := (S.at_ 2 rfl).cell 1
  have f5 := (S.at_ 2 rfl).free 1
  have sr3 : Src w5 (if cu = k + 1 then some ⟨gu, 0, none⟩ else some ⟨gu, (k + 1) * 3, none⟩) (n0 - (k + 1)) 3 u3 := by
    by_cases e : cu = k + 1
    · rw [if_pos e]
      exact fun h => absurd h (by omega)
    · rw [if_neg e]
      exact Src.of_blk (S.at_ 4 rfl) (fun i hi => by
        have h1 : (k + 1) * 3 + i < n0 * 3 := by omega
        rw [hcs _ h1, List.getElem?_append_right (by omega), List.getElem?_append_right (by omega), hlu1, hlu2]
        congr 1
        omega)
  have hld : (t.flight.drop (k + 1)).length = n0 - (k + 1) := by rw [List.length_drop]; omega
  have HE := Lib.hid (show t.flight.take k ++ t.flight.drop (k + 1) = t.flight.eraseIdx k from (List.eraseIdx_eq_take_drop_succ ..).symm)
  go_wp2_with (first
    | (at_builtin
       refine wpList_append_many (l := t.flight.take k) (l2 := t.flight.drop (k + 1)) rfl (.tmp 15) (.tmp 20) (by rfl) Try.underlying27 infoMsg (by rfl) (by decide) msgC_len (by rfl) (S.own_ 0 rfl) (S.nodup_own 0 rfl) (by rfl) sr3 (S.own_ 1 rfl) hld (S.nodup_own 1 rfl) S.apart (by omega) (by omega) ?_
       intro A5 c5 w6 fp5 o5 n5 s5 t5
       rw [HE.out] at o5
       have S1 := S.merge t5 o5 n5 s5 c.size
       have C1 := c.trans (S.below 0 rfl t5 c.size)
       have eo0 : w6.cell? ⟨w2.heap.size, 0, none⟩ = some (.slice (some ⟨gu, 0, none⟩) n0 cu) := (S1.at_ 1 rfl).cell 0
       have eo1 : w6.cell? ⟨w2.heap.size, 1, none⟩ = some (.slice Ax nx cx) := (S1.at_ 1 rfl).cell 1
       have fo0 := (S1.at_ 1 rfl).free 0
       have er0 : w6.cell? ⟨w.heap.size + 1, 0, none⟩ = some (.slice none 0 0) := (S1.at_ 5 rfl).cell 0
       have er1 : w6.cell? ⟨w.heap.size + 1, 1, none⟩ = some (.slice none 0 0) := (S1.at_ 5 rfl).cell 1
       have fr0 := (S1.at_ 5 rfl).free 0
       have fr1 := (S1.at_ 5 rfl).free 1
       have zo : w.heap.size ≤ w2.heap.size := S1.base_le 1 rfl
       have S2 := ((S1.put 1 rfl 0 (.slice A5 (k + (n0 - (k + 1))) c5)).put 5 rfl 0 (.slice A5 (k + (n0 - (k + 1))) c5)).put 5 rfl 1 (.slice Ax nx cx)
       have C2 := Lib.hid (((C1.setCell (p := ⟨w2.heap.size, 0, none⟩) zo (.slice A5 (k + (n0 - (k + 1))) c5)).setCell (p := ⟨w.heap.size + 1, 0, none⟩) (by simp) (.slice A5 (k + (n0 - (k + 1))) c5)).setCell (p := ⟨w.heap.size + 1, 1, none⟩) (by simp) (.slice Ax nx cx))
       have r0 := Lib.hid ((S2.at_ 5 rfl).cell 0)
       have r1 := Lib.hid ((S2.at_ 5 rfl).cell 1)
       have S3 := Lib.hid ((S2.pick 4 rfl).swap)
       have H := Lib.hid ((show Has _ w.heap.size ([msgD (t.flight.eraseIdx k)] ++ [linkD t.cuts]) ([.slice A5 (k + (n0 - (k + 1))) c5] ++ [.slice Ax nx cx]) from (S2.pick 4 rfl).pair))
       clear S c o5 n5 s5 t5 S1 C1 S2 S3 sr3 h hr0 hr1))
  all_goals exact bodyPost_ret (v := .agg #[.slice A5 (k + (n0 - (k + 1))) c5, .slice Ax nx cx]) (by simp [results, Try.results94, go_sem, r0.out, r1.out]) rfl ⟨_, _, _, _, _, _, rfl, H.out, C2.out⟩

end Go.Proofs.Ytdcdcccdihhhcaa
