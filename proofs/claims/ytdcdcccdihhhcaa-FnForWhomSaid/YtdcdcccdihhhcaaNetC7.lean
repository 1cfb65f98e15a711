/-
  Chapter 5: LettersTo, of the model and of the program (by program, wip/gen/gennetl.py).
-/
import Derived.Test.YtdcdcccdihhhcaaNetC1
import Derived.Test.YtdcdcccdihhhcaaNetC3
import Derived.Test.YtdcdcccdihhhcaaCls
import Derived.RegionTactic
import Derived.BigQuiet
namespace Go.Proofs.Ytdcdcccdihhhcaa
set_option maxRecDepth 100000
open Go.RowKit

def msg0 : MsgM := ⟨0, 0, []⟩
def letN (l : List MsgM) (node : Int) (j : Nat) : List Int := ((List.range j).filter fun i => decide ((l.getD i msg0).dest = node)).map fun (i : Nat) => (i : Int)
def lettersM (t : NetM) (node : Int) : List Int := if netOk t = true then letN t.flight node t.flight.length else []
theorem letN_yes {l : List MsgM} {node : Int} {j : Nat} (hj : j < l.length) (h : l[j].dest = node) : letN l node (j + 1) = letN l node j ++ [(j : Int)] := by
  unfold letN
  rw [List.range_succ, List.filter_append, List.map_append]
  have e : l[j]?.getD msg0 = l[j] := by rw [List.getElem?_eq_getElem hj]; rfl
  simp [e, h]
theorem letN_no {l : List MsgM} {node : Int} {j : Nat} (hj : j < l.length) (h : ¬ l[j].dest = node) : letN l node (j + 1) = letN l node j := by
  unfold letN
  rw [List.range_succ, List.filter_append, List.map_append]
  have e : l[j]?.getD msg0 = l[j] := by rw [List.getElem?_eq_getElem hj]; rfl
  simp [e, h]
theorem letN_len (l : List MsgM) (node : Int) (j : Nat) : (letN l node j).length ≤ j := by
  unfold letN
  rw [List.length_map]
  exact Nat.le_trans (List.length_filter_le _ _) (by simp)
theorem lettersM_sz (t : NetM) (node : Int) (h : t.sz ≤ 1048576) : (lettersM t node).length ≤ 1048577 := by
  unfold lettersM
  split
  · have h1 := letN_len t.flight node t.flight.length
    have h2 : t.flight.length ≤ t.sz := by unfold NetM.sz msgSz; omega
    omega
  · simp
theorem own_nil64 (w : World) (base : Nat) : Own w base none 0 0 [] := World.ownsRow_nil w base _ _

theorem own_blk0 {w : World} {p base : Nat} (h : Blk w p #[] 2) (hb : base ≤ p) : Own w base (some ⟨p, 0, none⟩) 0 0 [] := Own.of_blk (xs := []) h hb rfl (Nat.zero_le _)

theorem row_blk {w : World} {p : Nat} {x : Int} (h : Blk w p #[.int .i64 x] 2) : IRow w w.heap.size (some ⟨p, 0, none⟩) 1 [x] := by
  refine ⟨rfl, fun _ => ⟨p, 0, rfl, h.lt, fun j hj => ?_⟩⟩
  have : j = 0 := by omega
  subst this
  exact h.cell 0
theorem own_ne {w : World} {v : Value} {base p : Nat} (h : ∀ k, v.ownBlock = some k → base ≤ k ∧ k < w.heap.size) (hp : p < base) : some p ≠ v.ownBlock := fun e => by
  have := h p e.symm
  omega

set_option maxHeartbeats 6400000 in
theorem sLetters_any (v0 v1 : Value) (t : NetM) (node : Int) (w : World) (h : Rd w w.heap.size t.cells [v0, v1]) (hs : t.sz ≤ 1048577) :
    Calls Try.prog 55 #[.agg #[v0, v1], .int .i64 node] w (MadeI w (lettersM t node)) := by
  obtain ⟨A0, n0, c0, A1, n1, c1, rfl, rfl, hr0, hr1⟩ := h.netT
  have hz0 : msgSz t.flight ≤ 1048577 := by unfold NetM.sz at hs; omega
  obtain ⟨_, _, _, e, hl, _, _, hel⟩ := hr0.msgs
  injection e with e1 e2 e3
  subst e1 e2 e3
  have hn : n0 ≤ 1048577 := by unfold msgSz at hz0; omega
  have HS := Lib.hid hz0
  have HL := Lib.hid hl
  have S := Sep.nil w w.heap.size
  have c := Below.refl w.heap.size w
  replace S := S.boxAt c.size (w.heap.size) rfl #[.slice A0 n0 c0, .slice A1 n1 c1] 30
  replace c := c.alloc c.size (.cells #[.slice A0 n0 c0, .slice A1 n1 c1] 30)
  replace S := S.boxAt c.size (w.heap.size + 1) (by simp) #[] 2
  replace c := c.alloc c.size (.cells #[] 2)
  go_enter Try.func55, Try.ntmps55
  go_wp2_with fail
  generalize (w.alloc (.cells #[.slice A0 n0 c0, .slice A1 n1 c1] 30)).alloc (.cells #[] 2) = w1 at *
  refine (sNetOk_any _ _ t w.heap.size _ (h.keep c) c.size hs).mono ?_
  rintro e w2 ⟨rfl, b⟩
  replace c := c.trans (b.mono c.size)
  replace S := S.keep b
  clear b
  cases hok : netOk t
  case false =>
    have HD := Lib.hid (show lettersM t node = [] by unfold lettersM; rw [hok]; rfl)
    have O := Lib.hid (own_blk0 (S.at_ 0 rfl) (S.base_le 0 rfl))
    have C := Lib.hid c
    clear S c h hr0 hr1 hok hel
    go_wp2
    go_ret
    exact ⟨_, _, _, rfl, by rw [HD.out]; exact O.out.has, C.out⟩
  case true =>
    have HD := Lib.hid (show lettersM t node = letN t.flight node t.flight.length by unfold lettersM; rw [if_pos hok])
    clear hok
    have f0 : w2.cell? ⟨w.heap.size, 0, none⟩ = some (.slice A0 n0 c0) := (S.at_ 1 rfl).cell 0
    have f1 : w2.cell? ⟨w.heap.size, 1, none⟩ = some (.slice A1 n1 c1) := (S.at_ 1 rfl).cell 1
    have P0 := Lib.hid (S.at_ 1 rfl)
    have O0 := Lib.hid (own_blk0 (base := w.heap.size + 1) (S.at_ 0 rfl) (Nat.le_refl _))
    have C0 := Lib.hid c
    clear S c h hr0 hr1
    go_wp2
    clear f0 f1
    go_loopw [5, 6] (fun u i wr => ∃ (j : Nat) (G : Option Addr) (m gc : Nat), j ≤ n0 ∧ i = .int .i64 (j : Int) ∧ u = .slice G m gc ∧ m ≤ j ∧ Own wr (w.heap.size + 1) G m gc (letN t.flight node j) ∧ Blk wr w.heap.size #[.slice A0 n0 c0, .slice A1 n1 c1] 30 ∧ Below w.heap.size w wr) (fun _ i _ => n0 - (intOf i).toNat)
    case atStart => exact ⟨0, some ⟨w.heap.size + 1, 0, none⟩, 0, 0, Nat.zero_le _, rfl, rfl, Nat.le_refl _, O0.out, P0.out, C0.out⟩
    case round =>
      obtain ⟨j, G, m, gc, hj, rfl, rfl, hmj, o, P, c⟩ := hrel
      clear O0 P0 C0
      have k0 : wr.cell? ⟨w.heap.size, 0, none⟩ = some (.slice A0 n0 c0) := P.cell 0
      have hlt0 := P.lt
      by_cases hlt : j < n0
      · obtain ⟨b, off, rfl, hb, hc⟩ := hel (by omega)
        have hjl : j < t.flight.length := by have := HL.out; omega
        obtain ⟨A1_, m1, d1, hc0, hc1, hc2, hrow, _⟩ := hc j hjl
        have cs0 := (c.cell (p := ⟨b, off + j * 3, none⟩) (show b < _ by omega)).trans hc0
        have cs1 := (c.cell (p := ⟨b, off + j * 3 + 1, none⟩) (show b < _ by omega)).trans hc1
        have cs2 := (c.cell (p := ⟨b, off + j * 3 + 2, none⟩) (show b < _ by omega)).trans hc2
        have hm1 : m1 ≤ 1048577 := by
          have h1 := pre_at (g := msgRowSz) hjl
          have h2 := HS.out
          have h3 := hrow.1
          have h4 : msgRowSz t.flight[j] = t.flight[j].row.length := rfl
          unfold msgSz at h2
          omega
        obtain ⟨x0, hx0⟩ : ∃ q, q = t.flight[j].frm := ⟨_, rfl⟩
        obtain ⟨x1, hx1⟩ : ∃ q, q = t.flight[j].dest := ⟨_, rfl⟩
        obtain ⟨xr, hxr⟩ : ∃ q, q = t.flight[j].row := ⟨_, rfl⟩
        rw [← hx0] at cs0
        rw [← hx1] at cs1
        rw [← hxr] at hrow
        have hmk : t.flight[j] = ⟨x0, x1, xr⟩ := by rw [hx0, hx1, hxr]
        have HJ := Lib.hid hjl
        have HM := Lib.hid hmk
        have o2 := o
        have P2 := P
        have c2 := c
        clear hx0 hx1 hxr hmk hc hc0 hc1 hc2 hrow hel o P c
        by_cases hd : x1 = node
        case neg =>
          have HN := Lib.hid (letN_no (node := node) HJ.out (by rw [HM.out]; exact hd))
          have O2 := Lib.hid o2
          have PP := Lib.hid P2
          have CC := Lib.hid c2
          clear o2 P2 c2
          go_wp2
          go_roundw
          case rel => exact ⟨j + 1, G, m, gc, by omega, by go_num, rfl, by omega, by rw [HN.out]; exact O2.out, PP.out, CC.out⟩
          case measure => simp [intOf]; omega
        case pos =>
          have HN := Lib.hid (letN_yes (node := node) HJ.out (by rw [HM.out]; exact hd))
          subst hd
          have zb := c2.size
          have bl : Below wr.heap.size wr (wr.alloc (.cells #[.int .i64 (j : Int)] 2)) := (Below.refl _ _).alloc (Nat.le_refl _) _
          have o3 := o2.below bl
          have P3 := P2.keep bl P2.lt
          have c3 := c2.alloc c2.size (.cells #[.int .i64 (j : Int)] 2)
          have pl : Blk (wr.alloc (.cells #[.int .i64 (j : Int)] 2)) (wr.heap.size) #[.int .i64 (j : Int)] 2 := by simpa using Blk.new wr #[.int .i64 (j : Int)] 2
          have rl := row_blk pl
          have P4 := Lib.hid P3
          have C3 := Lib.hid c3
          have hlen := Lib.hid o2.len
          clear o2 P2 c2 bl P3 c3
          go_wp2_with (first
            | (at_builtin
               refine wpList_append_ints rfl (.tmp 27) (.tmp 29) rfl rfl o3 rfl rl (by simp; omega) (by omega) ?_
               intro A2 c2' w5 o5 g5 e5))
          have PP := Lib.hid (show Blk w5 w.heap.size #[.slice (some ⟨b, off, none⟩) n0 c0, .slice A1 n1 c1] 30 from (g5.block w.heap.size P4.out.lt (own_ne o3.ge (Nat.lt_succ_self _))).trans P4.out)
          have CC := Lib.hid (C3.out.grown g5 C3.out.size (fun q hq => by have := o3.ge q hq; omega))
          have O5 := Lib.hid o5
          clear o3 o5 g5 e5 rl pl
          go_roundw
          case rel => exact ⟨j + 1, _, _, _, by omega, by go_num, rfl, by omega, by rw [HN.out]; exact O5.out, PP.out, CC.out⟩
          case measure => simp [intOf]; omega
      · have O := Lib.hid (show Own wr w.heap.size G m gc (letN t.flight node t.flight.length) by
          have e : j = t.flight.length := by have := HL.out; omega
          rw [← e]
          exact o.up (Nat.le_succ _))
        have C := Lib.hid c
        clear hel o P c
        go_wp2
        go_ret
        exact ⟨_, _, _, rfl, by rw [HD.out]; exact O.out.has, C.out⟩

set_option maxHeartbeats 6400000 in
theorem iLetters_any (v0 v1 : Value) (t : NetM) (node : Int) (w : World) (h : Rd w w.heap.size t.cells [v0, v1]) (hs : t.sz ≤ 1048577) :
    Calls Try.prog 33 #[.agg #[v0, v1], .int .i64 node] w (MadeI w (lettersM t node)) := by
  obtain ⟨A0, n0, c0, A1, n1, c1, rfl, rfl, hr0, hr1⟩ := h.netT
  have hz0 : msgSz t.flight ≤ 1048577 := by unfold NetM.sz at hs; omega
  obtain ⟨_, _, _, e, hl, _, _, hel⟩ := hr0.msgs
  injection e with e1 e2 e3
  subst e1 e2 e3
  have hn : n0 ≤ 1048577 := by unfold msgSz at hz0; omega
  have HS := Lib.hid hz0
  have HL := Lib.hid hl
  have S := Sep.nil w w.heap.size
  have c := Below.refl w.heap.size w
  replace S := S.boxAt c.size (w.heap.size) rfl #[.slice A0 n0 c0, .slice A1 n1 c1] 30
  replace c := c.alloc c.size (.cells #[.slice A0 n0 c0, .slice A1 n1 c1] 30)
  go_enter Try.func33, Try.ntmps33
  go_wp2_with fail
  generalize w.alloc (.cells #[.slice A0 n0 c0, .slice A1 n1 c1] 30) = w1 at *
  refine (iNetOk_any _ _ t w.heap.size _ (h.keep c) c.size hs).mono ?_
  rintro e w2 ⟨rfl, b⟩
  replace c := c.trans (b.mono c.size)
  replace S := S.keep b
  clear b
  cases hok : netOk t
  case false =>
    have HD := Lib.hid (show lettersM t node = [] by unfold lettersM; rw [hok]; rfl)
    have O := Lib.hid (own_nil64 w2 w.heap.size)
    have C := Lib.hid c
    clear S c h hr0 hr1 hok hel
    go_wp2
    go_ret
    exact ⟨_, _, _, rfl, by rw [HD.out]; exact O.out.has, C.out⟩
  case true =>
    have HD := Lib.hid (show lettersM t node = letN t.flight node t.flight.length by unfold lettersM; rw [if_pos hok])
    clear hok
    have f0 : w2.cell? ⟨w.heap.size, 0, none⟩ = some (.slice A0 n0 c0) := (S.at_ 0 rfl).cell 0
    have f1 : w2.cell? ⟨w.heap.size, 1, none⟩ = some (.slice A1 n1 c1) := (S.at_ 0 rfl).cell 1
    have P0 := Lib.hid (S.at_ 0 rfl)
    have O0 := Lib.hid (own_nil64 w2 (w.heap.size + 1))
    have C0 := Lib.hid c
    clear S c h hr0 hr1
    go_wp2
    clear f0 f1
    go_loopw [5, 14] (fun u i wr => ∃ (j : Nat) (G : Option Addr) (m gc : Nat), j ≤ n0 ∧ i = .int .i64 (j : Int) ∧ u = .slice G m gc ∧ m ≤ j ∧ Own wr (w.heap.size + 1) G m gc (letN t.flight node j) ∧ Blk wr w.heap.size #[.slice A0 n0 c0, .slice A1 n1 c1] 30 ∧ Below w.heap.size w wr) (fun _ i _ => n0 - (intOf i).toNat)
    case atStart => exact ⟨0, none, 0, 0, Nat.zero_le _, rfl, rfl, Nat.le_refl _, O0.out, P0.out, C0.out⟩
    case round =>
      obtain ⟨j, G, m, gc, hj, rfl, rfl, hmj, o, P, c⟩ := hrel
      clear O0 P0 C0
      have k0 : wr.cell? ⟨w.heap.size, 0, none⟩ = some (.slice A0 n0 c0) := P.cell 0
      have hlt0 := P.lt
      by_cases hlt : j < n0
      · obtain ⟨b, off, rfl, hb, hc⟩ := hel (by omega)
        have hjl : j < t.flight.length := by have := HL.out; omega
        obtain ⟨A1_, m1, d1, hc0, hc1, hc2, hrow, _⟩ := hc j hjl
        have cs0 := (c.cell (p := ⟨b, off + j * 3, none⟩) (show b < _ by omega)).trans hc0
        have cs1 := (c.cell (p := ⟨b, off + j * 3 + 1, none⟩) (show b < _ by omega)).trans hc1
        have cs2 := (c.cell (p := ⟨b, off + j * 3 + 2, none⟩) (show b < _ by omega)).trans hc2
        have hm1 : m1 ≤ 1048577 := by
          have h1 := pre_at (g := msgRowSz) hjl
          have h2 := HS.out
          have h3 := hrow.1
          have h4 : msgRowSz t.flight[j] = t.flight[j].row.length := rfl
          unfold msgSz at h2
          omega
        obtain ⟨x0, hx0⟩ : ∃ q, q = t.flight[j].frm := ⟨_, rfl⟩
        obtain ⟨x1, hx1⟩ : ∃ q, q = t.flight[j].dest := ⟨_, rfl⟩
        obtain ⟨xr, hxr⟩ : ∃ q, q = t.flight[j].row := ⟨_, rfl⟩
        rw [← hx0] at cs0
        rw [← hx1] at cs1
        rw [← hxr] at hrow
        have hmk : t.flight[j] = ⟨x0, x1, xr⟩ := by rw [hx0, hx1, hxr]
        have HJ := Lib.hid hjl
        have HM := Lib.hid hmk
        have b2 : Below wr.heap.size wr (wr.alloc (.cells #[.int .i64 x0, .int .i64 x1, .slice A1_ m1 d1] 40)) := (Below.refl _ _).alloc (Nat.le_refl _) _
        have o2 := o.below b2
        have P2 := P.keep b2 P.lt
        have c2 := c.alloc c.size (.cells #[.int .i64 x0, .int .i64 x1, .slice A1_ m1 d1] 40)
        clear hx0 hx1 hxr hmk hc hc0 hc1 hc2 hrow hel o P c
        by_cases hd : x1 = node
        case neg =>
          have HN := Lib.hid (letN_no (node := node) HJ.out (by rw [HM.out]; exact hd))
          have O2 := Lib.hid o2
          have PP := Lib.hid P2
          have CC := Lib.hid c2
          clear o2 P2 c2
          go_wp2
          go_roundw
          case rel => exact ⟨j + 1, G, m, gc, by omega, by go_num, rfl, by omega, by rw [HN.out]; exact O2.out, PP.out, CC.out⟩
          case measure => simp [intOf]; omega
        case pos =>
          have HN := Lib.hid (letN_yes (node := node) HJ.out (by rw [HM.out]; exact hd))
          subst hd
          have zb := c2.size
          have bl : Below (wr.alloc (.cells #[.int .i64 x0, .int .i64 x1, .slice A1_ m1 d1] 40)).heap.size (wr.alloc (.cells #[.int .i64 x0, .int .i64 x1, .slice A1_ m1 d1] 40)) ((wr.alloc (.cells #[.int .i64 x0, .int .i64 x1, .slice A1_ m1 d1] 40)).alloc (.cells #[.int .i64 (j : Int)] 2)) := (Below.refl _ _).alloc (Nat.le_refl _) _
          have o3 := o2.below bl
          have P3 := P2.keep bl P2.lt
          have c3 := c2.alloc c2.size (.cells #[.int .i64 (j : Int)] 2)
          have pl : Blk ((wr.alloc (.cells #[.int .i64 x0, .int .i64 x1, .slice A1_ m1 d1] 40)).alloc (.cells #[.int .i64 (j : Int)] 2)) (wr.heap.size + 1) #[.int .i64 (j : Int)] 2 := by simpa using Blk.new (wr.alloc (.cells #[.int .i64 x0, .int .i64 x1, .slice A1_ m1 d1] 40)) #[.int .i64 (j : Int)] 2
          have rl := row_blk pl
          have P4 := Lib.hid P3
          have C3 := Lib.hid c3
          have hlen := Lib.hid o2.len
          clear o2 P2 c2 bl P3 c3
          go_wp2_with (first
            | (at_builtin
               refine wpList_append_ints rfl (.tmp 23) (.tmp 25) rfl rfl o3 rfl rl (by simp; omega) (by omega) ?_
               intro A2 c2' w5 o5 g5 e5))
          have PP := Lib.hid (show Blk w5 w.heap.size #[.slice (some ⟨b, off, none⟩) n0 c0, .slice A1 n1 c1] 30 from (g5.block w.heap.size P4.out.lt (own_ne o3.ge (Nat.lt_succ_self _))).trans P4.out)
          have CC := Lib.hid (C3.out.grown g5 C3.out.size (fun q hq => by have := o3.ge q hq; omega))
          have O5 := Lib.hid o5
          clear o3 o5 g5 e5 rl pl
          go_roundw
          case rel => exact ⟨j + 1, _, _, _, by omega, by go_num, rfl, by omega, by rw [HN.out]; exact O5.out, PP.out, CC.out⟩
          case measure => simp [intOf]; omega
      · have O := Lib.hid (show Own wr w.heap.size G m gc (letN t.flight node t.flight.length) by
          have e : j = t.flight.length := by have := HL.out; omega
          rw [← e]
          exact o.up (Nat.le_succ _))
        have C := Lib.hid c
        clear hel o P c
        go_wp2
        go_ret
        exact ⟨_, _, _, rfl, by rw [HD.out]; exact O.out.has, C.out⟩

theorem sLetters_at (A0 : Option Addr) (n0 c0 : Nat) (A1 : Option Addr) (n1 c1 : Nat) (t : NetM) (x : Int) (w : World) (h : Rd w w.heap.size t.cells [.slice A0 n0 c0, .slice A1 n1 c1]) (hs : t.sz ≤ 1048576) :
    Calls Try.prog 55 #[.agg #[.slice A0 n0 c0, .slice A1 n1 c1], .int .i64 x] w fun e w' => ∃ (A : Option Addr) (n c : Nat), e = .returned (.slice A n c) ∧ Has w' w.heap.size (rowCells (lettersM t x)) [.slice A n c] ∧ Below w.heap.size w w' :=
  sLetters_any _ _ t x w h (by omega)
theorem iLetters_at (A0 : Option Addr) (n0 c0 : Nat) (A1 : Option Addr) (n1 c1 : Nat) (t : NetM) (x : Int) (w : World) (h : Rd w w.heap.size t.cells [.slice A0 n0 c0, .slice A1 n1 c1]) (hs : t.sz ≤ 1048576) :
    Calls Try.prog 33 #[.agg #[.slice A0 n0 c0, .slice A1 n1 c1], .int .i64 x] w fun e w' => ∃ (A : Option Addr) (n c : Nat), e = .returned (.slice A n c) ∧ Has w' w.heap.size (rowCells (lettersM t x)) [.slice A n c] ∧ Below w.heap.size w w' :=
  iLetters_any _ _ t x w h (by omega)

end Go.Proofs.Ytdcdcccdihhhcaa
