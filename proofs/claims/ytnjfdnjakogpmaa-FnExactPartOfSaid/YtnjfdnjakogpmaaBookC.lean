/-
  Chapter 8: what each function of books is to hand back, by name: for the model and for the program alike; and the forms that the exact laws ask for (by program, wip/gen/genbookc.py).
-/
import Derived.Test.YtnjfdnjakogpmaaBookM
import Derived.Test.YtnjfdnjakogpmaaMove
import Derived.RegionTactic
import Derived.BigQuiet
namespace Go.Proofs.Ytnjfdnjakogpmaa
set_option maxRecDepth 100000
open Go.RowKit

theorem ow_nil_ents (w : World) : Ow w [entD []] [.slice none 0 0] [] := Ow.row (n := 0) (us := []) (fp1 := []) (fp2 := []) (World.ownsRow_nil w 0 _ _) .nil .nil
theorem has_book0 (w : World) (base : Nat) : Has w base (BookM.cells book0) [.int .i64 0, .int .i64 0, .slice none 0 0] := Has.int (n := 0) (Has.int (n := 0) ⟨[], ow_nil_ents w, List.nodup_nil, fun p hp => by cases hp⟩)
theorem has_mk {w : World} {base : Nat} {x0 x1 : Int} {l : List EntM} {v : Value} (h : Has w base [entD l] [v]) : Has w base (BookM.cells ⟨x0, x1, l⟩) [.int .i64 x0, .int .i64 x1, v] := Has.int (n := x0) (Has.int (n := x1) h)
theorem has_split {w : World} {base : Nat} {b : BookM} {y0 y1 : Int} {v : Value} (h : Has w base b.cells [.int .i64 y0, .int .i64 y1, v]) : y0 = b.base ∧ y1 = b.tm ∧ Has w base [entD b.ents] [v] := by
  obtain ⟨fp, o, h1, h2⟩ := h
  have o' : Ow w (.int b.base :: .int b.tm :: [entD b.ents]) [.int .i64 y0, .int .i64 y1, v] fp := o
  obtain ⟨e0, o1⟩ := Ow.int_cons o'
  obtain ⟨e1, o2⟩ := Ow.int_cons o1
  injection e0 with _ e0
  injection e1 with _ e1
  exact ⟨e0, e1, fp, o2, h1, h2⟩
/-- A book and a yes or no, the book's entries in memory of their own. -/
def MadeB (w : World) (r : BookM × Bool) (e : Ending) (w' : World) : Prop :=
  ∃ (x0 x1 : Int) (A : Option Addr) (n c : Nat), e = .returned (.tuple #[.agg #[.int .i64 x0, .int .i64 x1, .slice A n c], .bool r.2]) ∧ Has w' w.heap.size r.1.cells [.int .i64 x0, .int .i64 x1, .slice A n c] ∧ Below w.heap.size w w'
theorem rd_split {w : World} {B : Nat} {b : BookM} {y0 y1 : Int} {v : Value} (h : Rd w B b.cells [.int .i64 y0, .int .i64 y1, v]) : y0 = b.base ∧ y1 = b.tm ∧ Rd w B [entD b.ents] [v] := by
  have o' : Rd w B (.int b.base :: .int b.tm :: [entD b.ents]) [.int .i64 y0, .int .i64 y1, v] := h
  obtain ⟨e0, o1⟩ := Rd.int_cons o'
  obtain ⟨e1, o2⟩ := Rd.int_cons o1
  injection e0 with _ e0
  injection e1 with _ e1
  exact ⟨e0, e1, o2⟩
def CBookOk (p : Nat) : Prop := ∀ (x0 x1 : Int) (A : Option Addr) (n cc : Nat) (l : List EntM) (w : World), Rd w w.heap.size [entD l] [.slice A n cc] → entSz l ≤ 1048577 → Calls Try.prog p #[.agg #[.int .i64 x0, .int .i64 x1, .slice A n cc]] w (fun e w' => e = .returned (.bool (bookB ⟨x0, x1, l⟩)) ∧ Below w.heap.size w w')
def CLastOf (p : Nat) : Prop := ∀ (x0 x1 : Int) (A : Option Addr) (n cc : Nat) (l : List EntM) (w : World), Rd w w.heap.size [entD l] [.slice A n cc] → entSz l ≤ 1048577 → Calls Try.prog p #[.agg #[.int .i64 x0, .int .i64 x1, .slice A n cc]] w (fun e w' => e = .returned (.int .i64 (lastM ⟨x0, x1, l⟩)) ∧ Below w.heap.size w w')
def CTimeOf (p : Nat) : Prop := ∀ (x0 x1 : Int) (A : Option Addr) (n cc : Nat) (l : List EntM) (w : World), Rd w w.heap.size [entD l] [.slice A n cc] → entSz l ≤ 1048577 → Calls Try.prog p #[.agg #[.int .i64 x0, .int .i64 x1, .slice A n cc]] w (fun e w' => e = .returned (.int .i64 (timeM ⟨x0, x1, l⟩)) ∧ Below w.heap.size w w')
def CEntryAt (p : Nat) : Prop := ∀ (x0 x1 : Int) (A : Option Addr) (n cc : Nat) (l : List EntM) (i : Int) (w : World), Rd w w.heap.size [entD l] [.slice A n cc] → entSz l ≤ 1048577 → Calls Try.prog p #[.agg #[.int .i64 x0, .int .i64 x1, .slice A n cc], .int .i64 i] w (fun e w' => e = .returned (.tuple #[.agg #[.int .i64 (atM ⟨x0, x1, l⟩ i).1.idx, .int .i64 (atM ⟨x0, x1, l⟩ i).1.tm, .int .i64 (atM ⟨x0, x1, l⟩ i).1.cl, .int .i64 (atM ⟨x0, x1, l⟩ i).1.sq, .int .i64 (atM ⟨x0, x1, l⟩ i).1.kd, .int .i64 (atM ⟨x0, x1, l⟩ i).1.oa, .int .i64 (atM ⟨x0, x1, l⟩ i).1.ob, .int .i64 (atM ⟨x0, x1, l⟩ i).1.oc, .int .i64 (atM ⟨x0, x1, l⟩ i).1.od], .bool (atM ⟨x0, x1, l⟩ i).2]) ∧ Below w.heap.size w w')
def CAppended (p : Nat) : Prop := ∀ (x0 x1 : Int) (A : Option Addr) (n cc : Nat) (l : List EntM) (e0 e1 e2 e3 e4 e5 e6 e7 e8 : Int) (w : World), Rd w w.heap.size [entD l] [.slice A n cc] → entSz l ≤ 1048577 → Calls Try.prog p #[.agg #[.int .i64 x0, .int .i64 x1, .slice A n cc], .agg #[.int .i64 e0, .int .i64 e1, .int .i64 e2, .int .i64 e3, .int .i64 e4, .int .i64 e5, .int .i64 e6, .int .i64 e7, .int .i64 e8]] w (MadeB w (appM ⟨x0, x1, l⟩ ⟨e0, e1, e2, e3, e4, e5, e6, e7, e8⟩))
def CTrimmedTo (p : Nat) : Prop := ∀ (x0 x1 : Int) (A : Option Addr) (n cc : Nat) (l : List EntM) (i : Int) (w : World), Rd w w.heap.size [entD l] [.slice A n cc] → entSz l ≤ 1048577 → Calls Try.prog p #[.agg #[.int .i64 x0, .int .i64 x1, .slice A n cc], .int .i64 i] w (MadeB w (trimM ⟨x0, x1, l⟩ i))
def CBackTo (p : Nat) : Prop := ∀ (x0 x1 : Int) (A : Option Addr) (n cc : Nat) (l : List EntM) (i : Int) (w : World), Rd w w.heap.size [entD l] [.slice A n cc] → entSz l ≤ 1048577 → Calls Try.prog p #[.agg #[.int .i64 x0, .int .i64 x1, .slice A n cc], .int .i64 i] w (MadeB w (backM ⟨x0, x1, l⟩ i))
def CPartOf (p : Nat) : Prop := ∀ (x0 x1 : Int) (A : Option Addr) (n cc : Nat) (l : List EntM) (x k : Int) (w : World), Rd w w.heap.size [entD l] [.slice A n cc] → entSz l ≤ 1048577 → Calls Try.prog p #[.agg #[.int .i64 x0, .int .i64 x1, .slice A n cc], .int .i64 x, .int .i64 k] w (MadeEntryS w (partM ⟨x0, x1, l⟩ x k))
def CGrown (p : Nat) : Prop := ∀ (x0 x1 : Int) (A : Option Addr) (n cc : Nat) (l : List EntM) (A5 : Option Addr) (n5 c5 : Nat) (ls : List EntM) (w : World), Rd w w.heap.size [entD l] [.slice A n cc] → entSz l ≤ 1048577 → Rd w w.heap.size [entD ls] [.slice A5 n5 c5] → entSz ls ≤ 1048577 → Calls Try.prog p #[.agg #[.int .i64 x0, .int .i64 x1, .slice A n cc], .slice A5 n5 c5] w (MadeB w (growM ⟨x0, x1, l⟩ ls))
def CSameBook (p : Nat) : Prop := ∀ (x0 x1 u0 u1 : Int) (A A2 : Option Addr) (n cc n2 c2 : Nat) (l r : List EntM) (w : World), Rd w w.heap.size [entD l] [.slice A n cc] → entSz l ≤ 1048577 → Rd w w.heap.size [entD r] [.slice A2 n2 c2] → entSz r ≤ 1048577 → Calls Try.prog p #[.agg #[.int .i64 x0, .int .i64 x1, .slice A n cc], .agg #[.int .i64 u0, .int .i64 u1, .slice A2 n2 c2]] w (fun e w' => e = .returned (.bool (sameBook ⟨x0, x1, l⟩ ⟨u0, u1, r⟩)) ∧ Below w.heap.size w w')
theorem CBookOk.at_ {p : Nat} (H : CBookOk p) (x0 x1 : Int) (A : Option Addr) (n cc : Nat) (d : BookM) (w : World) (h : Rd w w.heap.size (BookM.cells d) [.int .i64 x0, .int .i64 x1, .slice A n cc]) (hs : d.sz ≤ 1048576) :
    Calls Try.prog p #[.agg #[.int .i64 x0, .int .i64 x1, .slice A n cc]] w (fun e w' => e = .returned (.bool (bookB d)) ∧ Below w.heap.size w w') := by
  obtain ⟨e0, e1, h1⟩ := rd_split h
  subst e0 e1
  exact H _ _ A n cc d.ents w h1 (by rw [book_sz] at hs; unfold entSz; omega)
theorem CLastOf.at_ {p : Nat} (H : CLastOf p) (x0 x1 : Int) (A : Option Addr) (n cc : Nat) (d : BookM) (w : World) (h : Rd w w.heap.size (BookM.cells d) [.int .i64 x0, .int .i64 x1, .slice A n cc]) (hs : d.sz ≤ 1048576) :
    Calls Try.prog p #[.agg #[.int .i64 x0, .int .i64 x1, .slice A n cc]] w (fun e w' => e = .returned (.int .i64 (lastM d)) ∧ Below w.heap.size w w') := by
  obtain ⟨e0, e1, h1⟩ := rd_split h
  subst e0 e1
  exact H _ _ A n cc d.ents w h1 (by rw [book_sz] at hs; unfold entSz; omega)
theorem CTimeOf.at_ {p : Nat} (H : CTimeOf p) (x0 x1 : Int) (A : Option Addr) (n cc : Nat) (d : BookM) (w : World) (h : Rd w w.heap.size (BookM.cells d) [.int .i64 x0, .int .i64 x1, .slice A n cc]) (hs : d.sz ≤ 1048576) :
    Calls Try.prog p #[.agg #[.int .i64 x0, .int .i64 x1, .slice A n cc]] w (fun e w' => e = .returned (.int .i64 (timeM d)) ∧ Below w.heap.size w w') := by
  obtain ⟨e0, e1, h1⟩ := rd_split h
  subst e0 e1
  exact H _ _ A n cc d.ents w h1 (by rw [book_sz] at hs; unfold entSz; omega)
theorem CEntryAt.at_ {p : Nat} (H : CEntryAt p) (x0 x1 : Int) (A : Option Addr) (n cc : Nat) (d : BookM) (i : Int) (w : World) (h : Rd w w.heap.size (BookM.cells d) [.int .i64 x0, .int .i64 x1, .slice A n cc]) (hs : d.sz ≤ 1048576) :
    Calls Try.prog p #[.agg #[.int .i64 x0, .int .i64 x1, .slice A n cc], .int .i64 i] w (fun e w' => e = .returned (.tuple #[.agg #[.int .i64 (atM d i).1.idx, .int .i64 (atM d i).1.tm, .int .i64 (atM d i).1.cl, .int .i64 (atM d i).1.sq, .int .i64 (atM d i).1.kd, .int .i64 (atM d i).1.oa, .int .i64 (atM d i).1.ob, .int .i64 (atM d i).1.oc, .int .i64 (atM d i).1.od], .bool (atM d i).2]) ∧ Below w.heap.size w w') := by
  obtain ⟨e0, e1, h1⟩ := rd_split h
  subst e0 e1
  exact H _ _ A n cc d.ents i w h1 (by rw [book_sz] at hs; unfold entSz; omega)
theorem CAppended.at_ {p : Nat} (H : CAppended p) (x0 x1 : Int) (A : Option Addr) (n cc : Nat) (d : BookM) (e0 e1 e2 e3 e4 e5 e6 e7 e8 : Int) (w : World) (h : Rd w w.heap.size (BookM.cells d) [.int .i64 x0, .int .i64 x1, .slice A n cc]) (hs : d.sz ≤ 1048576) :
    Calls Try.prog p #[.agg #[.int .i64 x0, .int .i64 x1, .slice A n cc], .agg #[.int .i64 e0, .int .i64 e1, .int .i64 e2, .int .i64 e3, .int .i64 e4, .int .i64 e5, .int .i64 e6, .int .i64 e7, .int .i64 e8]] w (MadeB w (appM d ⟨e0, e1, e2, e3, e4, e5, e6, e7, e8⟩)) := by
  obtain ⟨e0, e1, h1⟩ := rd_split h
  subst e0 e1
  exact H _ _ A n cc d.ents e0 e1 e2 e3 e4 e5 e6 e7 e8 w h1 (by rw [book_sz] at hs; unfold entSz; omega)
theorem CTrimmedTo.at_ {p : Nat} (H : CTrimmedTo p) (x0 x1 : Int) (A : Option Addr) (n cc : Nat) (d : BookM) (i : Int) (w : World) (h : Rd w w.heap.size (BookM.cells d) [.int .i64 x0, .int .i64 x1, .slice A n cc]) (hs : d.sz ≤ 1048576) :
    Calls Try.prog p #[.agg #[.int .i64 x0, .int .i64 x1, .slice A n cc], .int .i64 i] w (MadeB w (trimM d i)) := by
  obtain ⟨e0, e1, h1⟩ := rd_split h
  subst e0 e1
  exact H _ _ A n cc d.ents i w h1 (by rw [book_sz] at hs; unfold entSz; omega)
theorem CBackTo.at_ {p : Nat} (H : CBackTo p) (x0 x1 : Int) (A : Option Addr) (n cc : Nat) (d : BookM) (i : Int) (w : World) (h : Rd w w.heap.size (BookM.cells d) [.int .i64 x0, .int .i64 x1, .slice A n cc]) (hs : d.sz ≤ 1048576) :
    Calls Try.prog p #[.agg #[.int .i64 x0, .int .i64 x1, .slice A n cc], .int .i64 i] w (MadeB w (backM d i)) := by
  obtain ⟨e0, e1, h1⟩ := rd_split h
  subst e0 e1
  exact H _ _ A n cc d.ents i w h1 (by rw [book_sz] at hs; unfold entSz; omega)
theorem CPartOf.at_ {p : Nat} (H : CPartOf p) (x0 x1 : Int) (A : Option Addr) (n cc : Nat) (d : BookM) (x k : Int) (w : World) (h : Rd w w.heap.size (BookM.cells d) [.int .i64 x0, .int .i64 x1, .slice A n cc]) (hs : d.sz ≤ 1048576) :
    Calls Try.prog p #[.agg #[.int .i64 x0, .int .i64 x1, .slice A n cc], .int .i64 x, .int .i64 k] w (MadeEntryS w (partM d x k)) := by
  obtain ⟨e0, e1, h1⟩ := rd_split h
  subst e0 e1
  exact H _ _ A n cc d.ents x k w h1 (by rw [book_sz] at hs; unfold entSz; omega)
theorem CGrown.at_ {p : Nat} (H : CGrown p) (x0 x1 : Int) (A : Option Addr) (n cc : Nat) (d : BookM) (A5 : Option Addr) (n5 c5 : Nat) (ls : List EntM) (w : World) (h : Rd w w.heap.size (BookM.cells d) [.int .i64 x0, .int .i64 x1, .slice A n cc]) (hs : d.sz ≤ 1048576) (h5 : Rd w w.heap.size [entD ls] [.slice A5 n5 c5]) (hs5 : entSz ls ≤ 1048576) :
    Calls Try.prog p #[.agg #[.int .i64 x0, .int .i64 x1, .slice A n cc], .slice A5 n5 c5] w (MadeB w (growM d ls)) := by
  obtain ⟨e0, e1, h1⟩ := rd_split h
  subst e0 e1
  exact H _ _ A n cc d.ents A5 n5 c5 ls w h1 (by rw [book_sz] at hs; unfold entSz; omega) h5 (by omega)
theorem CSameBook.at_ {p : Nat} (H : CSameBook p) (x0 x1 : Int) (A : Option Addr) (n cc : Nat) (d : BookM) (u0 u1 : Int) (A2 : Option Addr) (n2 c2 : Nat) (d2 : BookM) (w : World) (h : Rd w w.heap.size (BookM.cells d) [.int .i64 x0, .int .i64 x1, .slice A n cc]) (hs : d.sz ≤ 1048576) (h2 : Rd w w.heap.size (BookM.cells d2) [.int .i64 u0, .int .i64 u1, .slice A2 n2 c2]) (hs2 : d2.sz ≤ 1048576) :
    Calls Try.prog p #[.agg #[.int .i64 x0, .int .i64 x1, .slice A n cc], .agg #[.int .i64 u0, .int .i64 u1, .slice A2 n2 c2]] w (fun e w' => e = .returned (.bool (sameBook d d2)) ∧ Below w.heap.size w w') := by
  obtain ⟨e0, e1, h1⟩ := rd_split h
  obtain ⟨e2, e3, h3⟩ := rd_split h2
  subst e0 e1 e2 e3
  exact H _ _ _ _ A A2 n cc n2 c2 d.ents d2.ents w h1 (by rw [book_sz] at hs; unfold entSz; omega) h3 (by rw [book_sz] at hs2; unfold entSz; omega)
theorem appM_sz (d : BookM) (e : EntM) (h : d.sz ≤ 1048576) : ((appM d e).1).sz ≤ 1048577 := by
  rw [book_sz] at *
  unfold appM
  split
  · split
    · show (d.ents ++ [e]).length ≤ _
      rw [List.length_append, List.length_singleton]
      omega
    · exact Nat.le_trans h (by decide)
  · exact Nat.zero_le _
theorem growM_sz (d : BookM) (l : List EntM) (h : d.sz ≤ 1048576) (_h2 : entSz l ≤ 1048576) : ((growM d l).1).sz ≤ 1048577 := by
  rw [book_sz] at *
  unfold growM
  split
  next hok =>
    have := bookB_len hok
    split
    · split
      · show (d.ents ++ l).length ≤ _
        rw [List.length_append]
        omega
      · exact Nat.le_trans h (by decide)
    · exact Nat.le_trans h (by decide)
  · exact Nat.zero_le _
theorem trimM_sz (d : BookM) (i : Int) (h : d.sz ≤ 1048576) : ((trimM d i).1).sz ≤ 1048577 := by
  rw [book_sz] at *
  unfold trimM
  split
  · split
    · show (d.ents.drop _).length ≤ _
      rw [List.length_drop]
      omega
    · exact Nat.le_trans h (by decide)
  · exact Nat.zero_le _
theorem backM_sz (d : BookM) (i : Int) (h : d.sz ≤ 1048576) : ((backM d i).1).sz ≤ 1048577 := by
  rw [book_sz] at *
  unfold backM
  split
  · split
    · show (d.ents.take _).length ≤ _
      rw [List.length_take]
      omega
    · exact Nat.le_trans h (by decide)
  · exact Nat.zero_le _
theorem partM_sz (d : BookM) (x k : Int) (h : d.sz ≤ 1048576) : entSz (partM d x k) ≤ 1048577 := by
  rw [book_sz] at h
  unfold entSz partM
  split
  · rw [List.length_take]
    have := List.length_filter_le (fun e : EntM => decide (x ≤ e.idx)) d.ents
    omega
  · exact Nat.zero_le _

end Go.Proofs.Ytnjfdnjakogpmaa
