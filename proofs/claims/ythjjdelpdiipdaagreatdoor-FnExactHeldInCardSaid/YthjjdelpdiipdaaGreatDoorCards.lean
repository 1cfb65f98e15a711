/-
  DERIVED. GIVEN WITH THE SEED: THE CARDS: each row of YthjjdelpdiipdaaGreatDoorRows.lean that lists a variable, with what it lists TIED to the program's text (the seventh form; the later family's looks); each row that meets fmt, with fmt's text TOLD by the authors' own Lean function (tested against real Go, not proved from fmt's source: count such statements apart). THE CARD IS WHAT COUNTS. Prove the row's statement (the work); the ties are given (YthjjdelpdiipdaaGreatDoorTie.lean); close each card by the builder's one call (the guide's Derived/Test/ToyasCard.lean, 'card_holds'). Laid BY PROGRAM, IN A SANDBOX (cutbox-door.mjs). By AI agents, Wed Nov 11 2026. No macro, syntax, notation, axiom, sorry.
-/
import Derived.Test.YthjjdelpdiipdaaGreatDoorRows
import GoSem.ClaimSeven
namespace Go.Proofs.YthjjdelpdiipdaaGreatDoor
namespace Rows

/-- THE TIED CARD OF 'laws.FnExactLogOk'. -/
def fnExactLogOkCard : Claim7 := { stood := { row := fnExactLogOkRow, standIns := [], harness := (true, "ebea47c7f764b70bd120830bc801fa5708ad309bef5819b8794b3f3d8137fce7"), looks := false }, kinds := [], alts := [], laidByText := true, laidKinds := [.sentinel], laidTests := true, laidLooks := .later }
def FnExactLogOkCardSaid : Prop := Claim7.holds Tryz.pinned (.plain (OpenSpec.ofChange fnExactLogOkSpec)) fnExactLogOkCard

/-- THE TIED CARD OF 'laws.FnExactHeldIn'. -/
def fnExactHeldInCard : Claim7 := { stood := { row := fnExactHeldInRow, standIns := [], harness := (true, "ebea47c7f764b70bd120830bc801fa5708ad309bef5819b8794b3f3d8137fce7"), looks := false }, kinds := [], alts := [], laidByText := true, laidKinds := [.sentinel], laidTests := true, laidLooks := .later }
def FnExactHeldInCardSaid : Prop := Claim7.holds Tryz.pinned (.plain (OpenSpec.ofChange fnExactHeldInSpec)) fnExactHeldInCard

/-- THE TIED CARD OF 'laws.FnExactFallenLog'. -/
def fnExactFallenLogCard : Claim7 := { stood := { row := fnExactFallenLogRow, standIns := [], harness := (true, "ebea47c7f764b70bd120830bc801fa5708ad309bef5819b8794b3f3d8137fce7"), looks := false }, kinds := [], alts := [], laidByText := true, laidKinds := [.sentinel], laidTests := true, laidLooks := .later }
def FnExactFallenLogCardSaid : Prop := Claim7.holds Tryz.pinned (.plain (OpenSpec.ofChange fnExactFallenLogSpec)) fnExactFallenLogCard

/-- THE SECOND FORM's CARD OF 'laws.FnExactLogOk'. -/
def fnExactLogOkUptoCard : Claim7 := { stood := { row := fnExactLogOkUptoRow, standIns := [], harness := (true, "ebea47c7f764b70bd120830bc801fa5708ad309bef5819b8794b3f3d8137fce7"), looks := false }, kinds := [], alts := [], laidByText := true, laidKinds := [.sentinel], laidTests := true, laidLooks := .later }
def FnExactLogOkUptoCardSaid : Prop := Claim7.holds Tryz.pinned (.plain (OpenSpec.upto fnExactLogOkSpec)) fnExactLogOkUptoCard

/-- THE SECOND FORM's CARD OF 'laws.FnExactHeldIn'. -/
def fnExactHeldInUptoCard : Claim7 := { stood := { row := fnExactHeldInUptoRow, standIns := [], harness := (true, "ebea47c7f764b70bd120830bc801fa5708ad309bef5819b8794b3f3d8137fce7"), looks := false }, kinds := [], alts := [], laidByText := true, laidKinds := [.sentinel], laidTests := true, laidLooks := .later }
def FnExactHeldInUptoCardSaid : Prop := Claim7.holds Tryz.pinned (.plain (OpenSpec.upto fnExactHeldInSpec)) fnExactHeldInUptoCard

/-- THE SECOND FORM's CARD OF 'laws.FnExactFallenLog'. -/
def fnExactFallenLogUptoCard : Claim7 := { stood := { row := fnExactFallenLogUptoRow, standIns := [], harness := (true, "ebea47c7f764b70bd120830bc801fa5708ad309bef5819b8794b3f3d8137fce7"), looks := false }, kinds := [], alts := [], laidByText := true, laidKinds := [.sentinel], laidTests := true, laidLooks := .later }
def FnExactFallenLogUptoCardSaid : Prop := Claim7.holds Tryz.pinned (.plain (OpenSpec.upto fnExactFallenLogSpec)) fnExactFallenLogUptoCard
end Rows
end Go.Proofs.YthjjdelpdiipdaaGreatDoor
