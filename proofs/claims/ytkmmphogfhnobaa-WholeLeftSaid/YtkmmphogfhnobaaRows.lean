/-
  No cell of these rows narrows 'for every input' (looked for: loops, veiled, ifaces, maps, wideKeys, modest, calm, conditions, laid).
  DERIVED. THE GIVEN ROWS OF THIS SEAT. 4 by the template 'for every input the law returns true; each argument reads behind the call as it read before'; 0 by the template 'total and deterministic' (their statements: YtkmmphogfhnobaaTotals.lean).
  GIVEN WITH THE SEED: the statements are not yours to turn. If you find one false, say at which input.
  Laid BY PROGRAM, IN A SANDBOX (cutbox-rows.mjs): the forced cells as the released guide's own fill.sh prints them over the translation e6bb0d3295b82160… (all of the seat's roots in one cut). By AI agents, Wed Nov 11 2026. No macro, syntax, notation, axiom, sorry.
-/
import Derived.Test.YtkmmphogfhnobaaChecked
import GoSem.Claim
import GoSem.ClaimJoined
import GoSem.ClaimMapViews
import Derived.JoinedTies
import Derived.KernelRfl
namespace Go.Proofs.Ytkmmphogfhnobaa
/- THE CELL 'sum', in the pinned program and in every row, IS THE sha256 OF THE DUMP (.gsa) THAT YtkmmphogfhnobaaProg.lean LOADS. Nothing in Lean hashes anything: it is a label: what it is worth is what the hold of that sum in a sandbox is worth. -/
noncomputable def Try.pinned : Pinned := { name := "ytkmmphogfhnobaa", sum := "e6bb0d3295b8216028718c1ea332f5e196c05f0bb7ee4e46adf737f0ffa72a53", checked := Try.checked }
namespace Rows
def none {H : Type} : Left H := { results := [], args := [] }

/-- 'abacistlaw1.WholeBezout': WHATEVER THE INPUT: true; the input reads as it did. -/
def wholeBezoutSpec : ChangeSpec := { name := "wholeBezout", fn := fun _ => fun
  | [d1, d2, d3] => { results := [.lit (.bool true)], args := [d1, d2, d3] }
  | _ => none }
def wholeBezoutRow : OpenClaim := { program := "ytkmmphogfhnobaa", sum := "e6bb0d3295b8216028718c1ea332f5e196c05f0bb7ee4e46adf737f0ffa72a53", func := "abacist/abacistlaw1.WholeBezout", spec := "wholeBezout", recurses := true, apart := false }
def WholeBezoutSaid : Prop := wholeBezoutRow.holds Try.pinned (OpenSpec.ofChange wholeBezoutSpec)

/-- ITS FALSE NEIGHBOUR: 'it returns false'. Refute it at one input. -/
def wholeBezoutWrong : ChangeSpec := { name := "wholeBezout", fn := fun _ => fun
  | [d1, d2, d3] => { results := [.lit (.bool false)], args := [d1, d2, d3] }
  | _ => none }
def WholeBezoutWrongFalsely : Prop := wholeBezoutRow.holds Try.pinned (OpenSpec.ofChange wholeBezoutWrong)

/-- 'abacistlaw1.WholeLeft': WHATEVER THE INPUT: true; the input reads as it did. -/
def wholeLeftSpec : ChangeSpec := { name := "wholeLeft", fn := fun _ => fun
  | [d1, d2] => { results := [.lit (.bool true)], args := [d1, d2] }
  | _ => none }
def wholeLeftRow : OpenClaim := { program := "ytkmmphogfhnobaa", sum := "e6bb0d3295b8216028718c1ea332f5e196c05f0bb7ee4e46adf737f0ffa72a53", func := "abacist/abacistlaw1.WholeLeft", spec := "wholeLeft", unfollowed := true, recurses := true, apart := false }
def WholeLeftSaid : Prop := wholeLeftRow.holds Try.pinned (OpenSpec.ofChange wholeLeftSpec)

/-- ITS FALSE NEIGHBOUR: 'it returns false'. Refute it at one input. -/
def wholeLeftWrong : ChangeSpec := { name := "wholeLeft", fn := fun _ => fun
  | [d1, d2] => { results := [.lit (.bool false)], args := [d1, d2] }
  | _ => none }
def WholeLeftWrongFalsely : Prop := wholeLeftRow.holds Try.pinned (OpenSpec.ofChange wholeLeftWrong)

/-- 'abacistlaw6.WholeSigns': WHATEVER THE INPUT: true; the input reads as it did. -/
def wholeSignsSpec : ChangeSpec := { name := "wholeSigns", fn := fun _ => fun
  | [d1, d2] => { results := [.lit (.bool true)], args := [d1, d2] }
  | _ => none }
def wholeSignsRow : OpenClaim := { program := "ytkmmphogfhnobaa", sum := "e6bb0d3295b8216028718c1ea332f5e196c05f0bb7ee4e46adf737f0ffa72a53", func := "abacist/abacistlaw6.WholeSigns", spec := "wholeSigns", apart := false }
def WholeSignsSaid : Prop := wholeSignsRow.holds Try.pinned (OpenSpec.ofChange wholeSignsSpec)

/-- ITS FALSE NEIGHBOUR: 'it returns false'. Refute it at one input. -/
def wholeSignsWrong : ChangeSpec := { name := "wholeSigns", fn := fun _ => fun
  | [d1, d2] => { results := [.lit (.bool false)], args := [d1, d2] }
  | _ => none }
def WholeSignsWrongFalsely : Prop := wholeSignsRow.holds Try.pinned (OpenSpec.ofChange wholeSignsWrong)

/-- 'abacistlaw6.WholeGcd': WHATEVER THE INPUT: true; the input reads as it did. -/
def wholeGcdSpec : ChangeSpec := { name := "wholeGcd", fn := fun _ => fun
  | [d1, d2, d3] => { results := [.lit (.bool true)], args := [d1, d2, d3] }
  | _ => none }
def wholeGcdRow : OpenClaim := { program := "ytkmmphogfhnobaa", sum := "e6bb0d3295b8216028718c1ea332f5e196c05f0bb7ee4e46adf737f0ffa72a53", func := "abacist/abacistlaw6.WholeGcd", spec := "wholeGcd", recurses := true, apart := false }
def WholeGcdSaid : Prop := wholeGcdRow.holds Try.pinned (OpenSpec.ofChange wholeGcdSpec)

/-- ITS FALSE NEIGHBOUR: 'it returns false'. Refute it at one input. -/
def wholeGcdWrong : ChangeSpec := { name := "wholeGcd", fn := fun _ => fun
  | [d1, d2, d3] => { results := [.lit (.bool false)], args := [d1, d2, d3] }
  | _ => none }
def WholeGcdWrongFalsely : Prop := wholeGcdRow.holds Try.pinned (OpenSpec.ofChange wholeGcdWrong)

/- THE SECOND FORM. 'bulk': how many values and letters a reading holds, each counted each time it is reached (what is shared counts as often as it is met; a slice's spare places count too). A statement '..UptoSaid' is the law's where the arguments, and the package variables that the reading takes, are together of bulk at most 1048576: NARROWER than '..Said'. Prove '..Said' where nothing that the law and all that it calls make is longer than what came in: it says more and counts as full. Else prove '..UptoSaid'. A law counts once. -/
mutual
def uptoBulk {H : Type} : DataW H → Nat
  | .lit (.string bytes) => bytes.length + 1
  | .lit _ => 1
  | .nil => 1
  | .ptr d => uptoBulk d + 1
  | .slice elems spare => uptoBulkAll elems + uptoBulkAll spare + 1
  | .agg parts => uptoBulkAll parts + 1
  | .iface _ d => uptoBulk d + 1
  | .map entries => uptoBulkEntries entries + 1
  | .held _ => 1
def uptoBulkAll {H : Type} : List (DataW H) → Nat
  | [] => 0
  | d :: r => uptoBulk d + uptoBulkAll r
def uptoBulkEntries {H : Type} : List (Lit × DataW H) → Nat
  | [] => 0
  | x :: r => uptoBulkEntry x + uptoBulkEntries r
def uptoBulkEntry {H : Type} : Lit × DataW H → Nat
  | (.string bytes, d) => bytes.length + uptoBulk d + 1
  | (_, d) => uptoBulk d + 1
 end
def uptoSmall : (H : Type) → List (DataW H) → Bool := fun _ ds => decide (uptoBulkAll ds ≤ 1048576)
def OpenSpec.upto (s : _root_.Go.ChangeSpec) : _root_.Go.OpenSpec := { _root_.Go.OpenSpec.ofChange s with cond := some uptoSmall }

/-- 'abacistlaw1.WholeBezout', WHERE WHAT IT READS IS OF BULK AT MOST 1048576: true; the input reads as it did. -/
def wholeBezoutUptoRow : OpenClaim := { program := "ytkmmphogfhnobaa", sum := "e6bb0d3295b8216028718c1ea332f5e196c05f0bb7ee4e46adf737f0ffa72a53", func := "abacist/abacistlaw1.WholeBezout", spec := "wholeBezout", recurses := true, apart := false, narrowed := true }
def WholeBezoutUptoSaid : Prop := wholeBezoutUptoRow.holds Try.pinned (OpenSpec.upto wholeBezoutSpec)

/-- 'abacistlaw1.WholeLeft', WHERE WHAT IT READS IS OF BULK AT MOST 1048576: true; the input reads as it did. -/
def wholeLeftUptoRow : OpenClaim := { program := "ytkmmphogfhnobaa", sum := "e6bb0d3295b8216028718c1ea332f5e196c05f0bb7ee4e46adf737f0ffa72a53", func := "abacist/abacistlaw1.WholeLeft", spec := "wholeLeft", unfollowed := true, recurses := true, apart := false, narrowed := true }
def WholeLeftUptoSaid : Prop := wholeLeftUptoRow.holds Try.pinned (OpenSpec.upto wholeLeftSpec)

/-- 'abacistlaw6.WholeSigns', WHERE WHAT IT READS IS OF BULK AT MOST 1048576: true; the input reads as it did. -/
def wholeSignsUptoRow : OpenClaim := { program := "ytkmmphogfhnobaa", sum := "e6bb0d3295b8216028718c1ea332f5e196c05f0bb7ee4e46adf737f0ffa72a53", func := "abacist/abacistlaw6.WholeSigns", spec := "wholeSigns", apart := false, narrowed := true }
def WholeSignsUptoSaid : Prop := wholeSignsUptoRow.holds Try.pinned (OpenSpec.upto wholeSignsSpec)

/-- 'abacistlaw6.WholeGcd', WHERE WHAT IT READS IS OF BULK AT MOST 1048576: true; the input reads as it did. -/
def wholeGcdUptoRow : OpenClaim := { program := "ytkmmphogfhnobaa", sum := "e6bb0d3295b8216028718c1ea332f5e196c05f0bb7ee4e46adf737f0ffa72a53", func := "abacist/abacistlaw6.WholeGcd", spec := "wholeGcd", recurses := true, apart := false, narrowed := true }
def WholeGcdUptoSaid : Prop := wholeGcdUptoRow.holds Try.pinned (OpenSpec.upto wholeGcdSpec)

end Rows
end Go.Proofs.Ytkmmphogfhnobaa
