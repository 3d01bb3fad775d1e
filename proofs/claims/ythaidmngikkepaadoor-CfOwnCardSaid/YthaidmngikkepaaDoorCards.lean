/-
  DERIVED. GIVEN WITH THE SEED: THE CARDS: each row of YthaidmngikkepaaDoorRows.lean that lists a variable, with what it lists TIED to the program's text (the seventh form; the later family's looks); each row that meets fmt, with fmt's text TOLD by the authors' own Lean function (tested against real Go, not proved from fmt's source: count such statements apart). THE CARD IS WHAT COUNTS. Prove the row's statement (the work); the ties are given (YthaidmngikkepaaDoorTie.lean); close each card by the builder's one call (the guide's Derived/Test/ToyasCard.lean, 'card_holds'). Laid BY PROGRAM, IN A SANDBOX (cutbox-door.mjs). By AI agents, Wed Nov 11 2026. No macro, syntax, notation, axiom, sorry.
-/
import Derived.Test.YthaidmngikkepaaDoorRows
import GoSem.ClaimSeven
namespace Go.Proofs.YthaidmngikkepaaDoor
namespace Rows

/-- THE TIED CARD OF 'abacistlaw5.CfOwn'. -/
def cfOwnCard : Claim7 := { stood := { row := cfOwnRow, standIns := [], harness := (true, "062317f9cae85f4b98f59b76850cccb43cfba3511b1881b47adc318eebbc5582"), looks := true }, kinds := [], alts := [], laidByText := true, laidKinds := [.handle], laidTests := true, laidLooks := .later }
def CfOwnCardSaid : Prop := Claim7.holds Tryd.pinned (.plain (OpenSpec.ofChange cfOwnSpec)) cfOwnCard

/-- THE SECOND FORM's CARD OF 'abacistlaw5.CfOwn'. -/
def cfOwnUptoCard : Claim7 := { stood := { row := cfOwnUptoRow, standIns := [], harness := (true, "062317f9cae85f4b98f59b76850cccb43cfba3511b1881b47adc318eebbc5582"), looks := true }, kinds := [], alts := [], laidByText := true, laidKinds := [.handle], laidTests := true, laidLooks := .later }
def CfOwnUptoCardSaid : Prop := Claim7.holds Tryd.pinned (.plain (OpenSpec.upto cfOwnSpec)) cfOwnUptoCard
end Rows
end Go.Proofs.YthaidmngikkepaaDoor
