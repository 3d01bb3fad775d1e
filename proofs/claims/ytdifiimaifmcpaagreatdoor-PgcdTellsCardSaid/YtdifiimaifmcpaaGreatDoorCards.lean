/-
  DERIVED. GIVEN WITH THE SEED: THE CARDS: each row of YtdifiimaifmcpaaGreatDoorRows.lean that lists a variable, with what it lists TIED to the program's text (the seventh form; the later family's looks); each row that meets fmt, with fmt's text TOLD by the authors' own Lean function (tested against real Go, not proved from fmt's source: count such statements apart). THE CARD IS WHAT COUNTS. Prove the row's statement (the work); the ties are given (YtdifiimaifmcpaaGreatDoorTie.lean); close each card by the builder's one call (the guide's Derived/Test/ToyasCard.lean, 'card_holds'). Laid BY PROGRAM, IN A SANDBOX (cutbox-door.mjs). By AI agents, Wed Nov 11 2026. No macro, syntax, notation, axiom, sorry.
-/
import Derived.Test.YtdifiimaifmcpaaGreatDoorRows
import GoSem.ClaimSeven
namespace Go.Proofs.YtdifiimaifmcpaaGreatDoor
namespace Rows

/-- THE TIED CARD OF 'abacistlaw2.PgcdTells'. -/
def pgcdTellsCard : Claim7 := { stood := { row := pgcdTellsRow, standIns := [], harness := (true, "a366e3b65bd0ac928ec83ed7418679e8a8dc9490240def4194cdaecfcd82c519"), looks := true }, kinds := [], alts := [], laidByText := true, laidKinds := [.handle], laidTests := true, laidLooks := .later }
def PgcdTellsCardSaid : Prop := Claim7.holds Tryz.pinned (.plain (OpenSpec.ofChange pgcdTellsSpec)) pgcdTellsCard

/-- THE SECOND FORM's CARD OF 'abacistlaw2.PgcdTells'. -/
def pgcdTellsUptoCard : Claim7 := { stood := { row := pgcdTellsUptoRow, standIns := [], harness := (true, "a366e3b65bd0ac928ec83ed7418679e8a8dc9490240def4194cdaecfcd82c519"), looks := true }, kinds := [], alts := [], laidByText := true, laidKinds := [.handle], laidTests := true, laidLooks := .later }
def PgcdTellsUptoCardSaid : Prop := Claim7.holds Tryz.pinned (.plain (OpenSpec.upto pgcdTellsSpec)) pgcdTellsUptoCard
end Rows
end Go.Proofs.YtdifiimaifmcpaaGreatDoor
