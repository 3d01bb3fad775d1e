/-
  DERIVED. GIVEN WITH THE SEED: THE CARDS: each row of YthaidmngikkepaaGreatDoorRows.lean that lists a variable, with what it lists TIED to the program's text (the seventh form; the later family's looks); each row that meets fmt, with fmt's text TOLD by the authors' own Lean function (tested against real Go, not proved from fmt's source: count such statements apart). THE CARD IS WHAT COUNTS. Prove the row's statement (the work); the ties are given (YthaidmngikkepaaGreatDoorTie.lean); close each card by the builder's one call (the guide's Derived/Test/ToyasCard.lean, 'card_holds'). Laid BY PROGRAM, IN A SANDBOX (cutbox-door.mjs). By AI agents, Wed Nov 11 2026. No macro, syntax, notation, axiom, sorry.
-/
import Derived.Test.YthaidmngikkepaaGreatDoorRows
import GoSem.ClaimSeven
namespace Go.Proofs.YthaidmngikkepaaGreatDoor
namespace Rows

/-- THE TIED CARD OF 'abacistlaw1.RatTells'. -/
def ratTellsCard : Claim7 := { stood := { row := ratTellsRow, standIns := [], harness := (true, "3730b57459474b71603317bb40a1ad0c71527aa359866b51a2345389d35aa878"), looks := true }, kinds := [], alts := [], laidByText := true, laidKinds := [.handle], laidTests := true, laidLooks := .later }
def RatTellsCardSaid : Prop := Claim7.holds Tryz.pinned (.plain (OpenSpec.ofChange ratTellsSpec)) ratTellsCard

/-- THE TIED CARD OF 'abacistlaw1.CfTells'. -/
def cfTellsCard : Claim7 := { stood := { row := cfTellsRow, standIns := [], harness := (true, "3730b57459474b71603317bb40a1ad0c71527aa359866b51a2345389d35aa878"), looks := true }, kinds := [], alts := [], laidByText := true, laidKinds := [.handle], laidTests := true, laidLooks := .later }
def CfTellsCardSaid : Prop := Claim7.holds Tryz.pinned (.plain (OpenSpec.ofChange cfTellsSpec)) cfTellsCard

/-- THE SECOND FORM's CARD OF 'abacistlaw1.RatTells'. -/
def ratTellsUptoCard : Claim7 := { stood := { row := ratTellsUptoRow, standIns := [], harness := (true, "3730b57459474b71603317bb40a1ad0c71527aa359866b51a2345389d35aa878"), looks := true }, kinds := [], alts := [], laidByText := true, laidKinds := [.handle], laidTests := true, laidLooks := .later }
def RatTellsUptoCardSaid : Prop := Claim7.holds Tryz.pinned (.plain (OpenSpec.upto ratTellsSpec)) ratTellsUptoCard

/-- THE SECOND FORM's CARD OF 'abacistlaw1.CfTells'. -/
def cfTellsUptoCard : Claim7 := { stood := { row := cfTellsUptoRow, standIns := [], harness := (true, "3730b57459474b71603317bb40a1ad0c71527aa359866b51a2345389d35aa878"), looks := true }, kinds := [], alts := [], laidByText := true, laidKinds := [.handle], laidTests := true, laidLooks := .later }
def CfTellsUptoCardSaid : Prop := Claim7.holds Tryz.pinned (.plain (OpenSpec.upto cfTellsSpec)) cfTellsUptoCard
end Rows
end Go.Proofs.YthaidmngikkepaaGreatDoor
