/-
  DERIVED. GIVEN WITH THE SEED: THE CARDS: each row of YtkolaaihmmlbdaaGreatDoorRows.lean that lists a variable, with what it lists TIED to the program's text (the seventh form; the later family's looks); each row that meets fmt, with fmt's text TOLD by the authors' own Lean function (tested against real Go, not proved from fmt's source: count such statements apart). THE CARD IS WHAT COUNTS. Prove the row's statement (the work); the ties are given (YtkolaaihmmlbdaaGreatDoorTie.lean); close each card by the builder's one call (the guide's Derived/Test/ToyasCard.lean, 'card_holds'). Laid BY PROGRAM, IN A SANDBOX (cutbox-door.mjs). By AI agents, Wed Nov 11 2026. No macro, syntax, notation, axiom, sorry.
-/
import Derived.Test.YtkolaaihmmlbdaaGreatDoorRows
import GoSem.ClaimSeven
namespace Go.Proofs.YtkolaaihmmlbdaaGreatDoor
namespace Rows

/-- THE TIED CARD OF 'abacistlaw1.CfTells'. -/
def cfTellsCard : Claim7 := { stood := { row := cfTellsRow, standIns := [], harness := (true, "a22bf6927757c3cc78467fd1fc71ce41252409d2bec4df81c423e4b31c19a25e"), looks := true }, kinds := [], alts := [], laidByText := true, laidKinds := [.handle], laidTests := true, laidLooks := .later }
def CfTellsCardSaid : Prop := Claim7.holds Tryz.pinned (.plain (OpenSpec.ofChange cfTellsSpec)) cfTellsCard

/-- THE SECOND FORM's CARD OF 'abacistlaw1.CfTells'. -/
def cfTellsUptoCard : Claim7 := { stood := { row := cfTellsUptoRow, standIns := [], harness := (true, "a22bf6927757c3cc78467fd1fc71ce41252409d2bec4df81c423e4b31c19a25e"), looks := true }, kinds := [], alts := [], laidByText := true, laidKinds := [.handle], laidTests := true, laidLooks := .later }
def CfTellsUptoCardSaid : Prop := Claim7.holds Tryz.pinned (.plain (OpenSpec.upto cfTellsSpec)) cfTellsUptoCard
end Rows
end Go.Proofs.YtkolaaihmmlbdaaGreatDoor
