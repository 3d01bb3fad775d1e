/-
  DERIVED. GIVEN WITH THE SEED: THE CARDS: each row of YteephnbfdblgeaaGreatDoorRows.lean that lists a variable, with what it lists TIED to the program's text (the seventh form; the later family's looks); each row that meets fmt, with fmt's text TOLD by the authors' own Lean function (tested against real Go, not proved from fmt's source: count such statements apart). THE CARD IS WHAT COUNTS. Prove the row's statement (the work); the ties are given (YteephnbfdblgeaaGreatDoorTie.lean); close each card by the builder's one call (the guide's Derived/Test/ToyasCard.lean, 'card_holds'). Laid BY PROGRAM, IN A SANDBOX (cutbox-door.mjs). By AI agents, Wed Nov 11 2026. No macro, syntax, notation, axiom, sorry.
-/
import Derived.Test.YteephnbfdblgeaaGreatDoorRows
import GoSem.ClaimSeven
namespace Go.Proofs.YteephnbfdblgeaaGreatDoor
namespace Rows

/-- THE TIED CARD OF 'abacistlaw1.FareyTells'. -/
def fareyTellsCard : Claim7 := { stood := { row := fareyTellsRow, standIns := [], harness := (true, "f74493095244dc0ab7efdb099a49da3af4bb02abe4ec21203a2d2bda54d9d120"), looks := true }, kinds := [], alts := [], laidByText := true, laidKinds := [.handle], laidTests := true, laidLooks := .later }
def FareyTellsCardSaid : Prop := Claim7.holds Tryz.pinned (.plain (OpenSpec.ofChange fareyTellsSpec)) fareyTellsCard

/-- THE SECOND FORM's CARD OF 'abacistlaw1.FareyTells'. -/
def fareyTellsUptoCard : Claim7 := { stood := { row := fareyTellsUptoRow, standIns := [], harness := (true, "f74493095244dc0ab7efdb099a49da3af4bb02abe4ec21203a2d2bda54d9d120"), looks := true }, kinds := [], alts := [], laidByText := true, laidKinds := [.handle], laidTests := true, laidLooks := .later }
def FareyTellsUptoCardSaid : Prop := Claim7.holds Tryz.pinned (.plain (OpenSpec.upto fareyTellsSpec)) fareyTellsUptoCard
end Rows
end Go.Proofs.YteephnbfdblgeaaGreatDoor
