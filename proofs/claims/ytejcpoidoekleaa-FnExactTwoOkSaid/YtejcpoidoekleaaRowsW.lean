/-
  Slices of rows in the form that the exact laws' walks share with all other data: compared, marked and looked at.
-/
import Derived.Test.YtejcpoidoekleaaDskW
namespace Go.Proofs.Ytejcpoidoekleaa
set_option maxRecDepth 100000
open Go.RowKit

def rowsN (l : List (List Int)) : Nat := nums rowNs l l.length
def MarkedII (l : List (List Int)) (k : Int) : Prop := l.flatMap rowNs = upFrom k (l.flatMap rowNs).length
theorem ii_n_le (l : List (List Int)) (h : rowsSz l ≤ 1048577) : rowsN l ≤ 2097154 := by
  have h1 := nums_le_rows l
  unfold rowsN
  omega

theorem eqII_yes (A A' : Option Addr) (n n' c c' B B' : Nat) (l : List (List Int)) (w : World) (h : Rd w B [keptD l] [.slice A n c]) (h' : Rd w B' [keptD l] [.slice A' n' c']) (hs : rowsSz l ≤ 1048577) :
    Calls Try.prog 42 #[.slice A n c, .slice A' n' c'] w fun e w' => e = .returned (.bool true) ∧ Below w.heap.size w w' := by
  refine (eqRows_yes A A' n n' c c' B B' l w h h' hs).mono ?_
  rintro e w1 ⟨rfl, d⟩
  exact ⟨rfl, d.below _⟩

theorem markII_any (A : Option Addr) (n c : Nat) (l : List (List Int)) (fp : List Nat) (w : World) (o : Ow w [keptD l] [.slice A n c] fp) (hnd : fp.Nodup) (hs : rowsSz l ≤ 1048577) (k : Int) (k0 : 0 ≤ k) (k1 : k ≤ 90000000000) :
    Calls Try.prog 43 #[.slice A n c, .int .i64 k] w fun e w' => ∃ l', e = .returned (.int .i64 (k + (rowsN l : Int))) ∧ Ow w' [keptD l'] [.slice A n c] fp ∧ Touch fp w w' ∧ MarkedII l' k ∧ rowsN l' = rowsN l ∧ rowsSz l' = rowsSz l := by
  refine (markRows_any _ l fp w o hnd hs k k0 (by omega)).mono ?_
  rintro e w1 ⟨l', rfl, o2, t, m1, m2⟩
  have en := nums_map m1 l.length
  have el := len_of_map m1
  refine ⟨l', rfl, o2, t, ?_, ?_, rowsSz_map m1⟩
  · unfold MarkedII
    rw [m2, upFrom_length]
  · unfold rowsN
    rw [el, en]

theorem heldII_any (A : Option Addr) (n c : Nat) (l : List (List Int)) (B : Nat) (w : World) (h : Rd w B [keptD l] [.slice A n c]) (hs : rowsSz l ≤ 1048577) (k : Int) (k0 : 0 ≤ k) (k1 : k ≤ 90000000000) (hm : MarkedII l k) :
    Calls Try.prog 44 #[.slice A n c, .int .i64 k] w fun e w' => e = .returned (.int .i64 (k + (rowsN l : Int))) ∧ Below w.heap.size w w' := by
  refine (heldRows_any _ l B w h hs k k0 (by omega) hm).mono ?_
  rintro e w1 ⟨rfl, rfl⟩
  exact ⟨rfl, Below.refl _ _⟩

end Go.Proofs.Ytejcpoidoekleaa
