/-
  DERIVED. GIVEN WITH THE SEED: THE CARDS: each row of YtjeeepcnaaadmaaGreatDoorRows.lean that lists a variable, with what it lists TIED to the program's text (the seventh form; the later family's looks); each row that meets fmt, with fmt's text TOLD by the authors' own Lean function (tested against real Go, not proved from fmt's source: count such statements apart). THE CARD IS WHAT COUNTS. Prove the row's statement (the work); the ties are given (YtjeeepcnaaadmaaGreatDoorTie.lean); close each card by the builder's one call (the guide's Derived/Test/ToyasCard.lean, 'card_holds'). Laid BY PROGRAM, IN A SANDBOX (cutbox-door.mjs). By AI agents, Wed Nov 11 2026. No macro, syntax, notation, axiom, sorry.
-/
import Derived.Test.YtjeeepcnaaadmaaGreatDoorRows
import GoSem.ClaimSeven
namespace Go.Proofs.YtjeeepcnaaadmaaGreatDoor
namespace Rows

/-- THE TIED CARD OF 'abacistlaw1.RatTells'. -/
def ratTellsCard : Claim7 := { stood := { row := ratTellsRow, standIns := [], harness := (true, "ba2111db75547e8bf56e2b0c1f22393fc0083d81ca4bdcf8d272d61825de4da7"), looks := true }, kinds := [], alts := [], laidByText := true, laidKinds := [.handle], laidTests := true, laidLooks := .later }
def RatTellsCardSaid : Prop := Claim7.holds Tryz.pinned (.plain (OpenSpec.ofChange ratTellsSpec)) ratTellsCard

/-- THE TIED CARD OF 'abacistlaw1.CfTells'. -/
def cfTellsCard : Claim7 := { stood := { row := cfTellsRow, standIns := [], harness := (true, "ba2111db75547e8bf56e2b0c1f22393fc0083d81ca4bdcf8d272d61825de4da7"), looks := true }, kinds := [], alts := [], laidByText := true, laidKinds := [.handle], laidTests := true, laidLooks := .later }
def CfTellsCardSaid : Prop := Claim7.holds Tryz.pinned (.plain (OpenSpec.ofChange cfTellsSpec)) cfTellsCard

/-- THE TIED CARD OF 'abacistlaw1.DecTells'. -/
def decTellsCard : Claim7 := { stood := { row := decTellsRow, standIns := [], harness := (true, "ba2111db75547e8bf56e2b0c1f22393fc0083d81ca4bdcf8d272d61825de4da7"), looks := true }, kinds := [], alts := [], laidByText := true, laidKinds := [.handle], laidTests := true, laidLooks := .later }
def DecTellsCardSaid : Prop := Claim7.holds Tryz.pinned (.plain (OpenSpec.ofChange decTellsSpec)) decTellsCard

/-- THE SECOND FORM's CARD OF 'abacistlaw1.RatTells'. -/
def ratTellsUptoCard : Claim7 := { stood := { row := ratTellsUptoRow, standIns := [], harness := (true, "ba2111db75547e8bf56e2b0c1f22393fc0083d81ca4bdcf8d272d61825de4da7"), looks := true }, kinds := [], alts := [], laidByText := true, laidKinds := [.handle], laidTests := true, laidLooks := .later }
def RatTellsUptoCardSaid : Prop := Claim7.holds Tryz.pinned (.plain (OpenSpec.upto ratTellsSpec)) ratTellsUptoCard

/-- THE SECOND FORM's CARD OF 'abacistlaw1.CfTells'. -/
def cfTellsUptoCard : Claim7 := { stood := { row := cfTellsUptoRow, standIns := [], harness := (true, "ba2111db75547e8bf56e2b0c1f22393fc0083d81ca4bdcf8d272d61825de4da7"), looks := true }, kinds := [], alts := [], laidByText := true, laidKinds := [.handle], laidTests := true, laidLooks := .later }
def CfTellsUptoCardSaid : Prop := Claim7.holds Tryz.pinned (.plain (OpenSpec.upto cfTellsSpec)) cfTellsUptoCard

/-- THE SECOND FORM's CARD OF 'abacistlaw1.DecTells'. -/
def decTellsUptoCard : Claim7 := { stood := { row := decTellsUptoRow, standIns := [], harness := (true, "ba2111db75547e8bf56e2b0c1f22393fc0083d81ca4bdcf8d272d61825de4da7"), looks := true }, kinds := [], alts := [], laidByText := true, laidKinds := [.handle], laidTests := true, laidLooks := .later }
def DecTellsUptoCardSaid : Prop := Claim7.holds Tryz.pinned (.plain (OpenSpec.upto decTellsSpec)) decTellsUptoCard
end Rows
end Go.Proofs.YtjeeepcnaaadmaaGreatDoor
