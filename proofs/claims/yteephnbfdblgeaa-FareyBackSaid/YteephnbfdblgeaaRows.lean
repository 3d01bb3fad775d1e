/-
  No cell of these rows narrows 'for every input' (looked for: loops, veiled, ifaces, maps, wideKeys, modest, calm, conditions, laid).
  DERIVED. THE GIVEN ROWS OF THIS SEAT. 3 by the template 'for every input the law returns true; each argument reads behind the call as it read before'; 0 by the template 'total and deterministic' (their statements: YteephnbfdblgeaaTotals.lean).
  GIVEN WITH THE SEED: the statements are not yours to turn. If you find one false, say at which input.
  Laid BY PROGRAM, IN A SANDBOX (cutbox-rows.mjs): the forced cells as the released guide's own fill.sh prints them over the translation 4dec6c09c8334c5b… (all of the seat's roots in one cut). By AI agents, Wed Nov 11 2026. No macro, syntax, notation, axiom, sorry.
-/
import Derived.Test.YteephnbfdblgeaaChecked
import GoSem.Claim
import GoSem.ClaimJoined
import GoSem.ClaimMapViews
import Derived.JoinedTies
import Derived.KernelRfl
namespace Go.Proofs.Yteephnbfdblgeaa
/- THE CELL 'sum', in the pinned program and in every row, IS THE sha256 OF THE DUMP (.gsa) THAT YteephnbfdblgeaaProg.lean LOADS. Nothing in Lean hashes anything: it is a label: what it is worth is what the hold of that sum in a sandbox is worth. -/
noncomputable def Try.pinned : Pinned := { name := "yteephnbfdblgeaa", sum := "4dec6c09c8334c5b5f680c25f3fd0f9ae9e139d14ef5804a508896dfdffba06c", checked := Try.checked }
namespace Rows
def none {H : Type} : Left H := { results := [], args := [] }

/-- 'abacistlaw1.FareyBack': WHATEVER THE INPUT: true; the input reads as it did. -/
def fareyBackSpec : ChangeSpec := { name := "fareyBack", fn := fun _ => fun
  | [d1, d2] => { results := [.lit (.bool true)], args := [d1, d2] }
  | _ => none }
def fareyBackRow : OpenClaim := { program := "yteephnbfdblgeaa", sum := "4dec6c09c8334c5b5f680c25f3fd0f9ae9e139d14ef5804a508896dfdffba06c", func := "abacist/abacistlaw1.FareyBack", spec := "fareyBack", inPlace := ["internal/bytealg.IndexByteString", "internal/bytealg.IndexString"], unfollowed := true, recurses := true, named := ["internal/bytealg.MaxLen"], apart := false }
def FareyBackSaid : Prop := fareyBackRow.holds Try.pinned (OpenSpec.ofChange fareyBackSpec)

/-- ITS FALSE NEIGHBOUR: 'it returns false'. Refute it at one input. -/
def fareyBackWrong : ChangeSpec := { name := "fareyBack", fn := fun _ => fun
  | [d1, d2] => { results := [.lit (.bool false)], args := [d1, d2] }
  | _ => none }
def FareyBackWrongFalsely : Prop := fareyBackRow.holds Try.pinned (OpenSpec.ofChange fareyBackWrong)

/-- 'abacistlaw1.FareyBetween': WHATEVER THE INPUT: true; the input reads as it did. -/
def fareyBetweenSpec : ChangeSpec := { name := "fareyBetween", fn := fun _ => fun
  | [d1, d2, d3] => { results := [.lit (.bool true)], args := [d1, d2, d3] }
  | _ => none }
def fareyBetweenRow : OpenClaim := { program := "yteephnbfdblgeaa", sum := "4dec6c09c8334c5b5f680c25f3fd0f9ae9e139d14ef5804a508896dfdffba06c", func := "abacist/abacistlaw1.FareyBetween", spec := "fareyBetween", inPlace := ["internal/bytealg.IndexByteString", "internal/bytealg.IndexString"], unfollowed := true, recurses := true, named := ["internal/bytealg.MaxLen"], apart := false }
def FareyBetweenSaid : Prop := fareyBetweenRow.holds Try.pinned (OpenSpec.ofChange fareyBetweenSpec)

/-- ITS FALSE NEIGHBOUR: 'it returns false'. Refute it at one input. -/
def fareyBetweenWrong : ChangeSpec := { name := "fareyBetween", fn := fun _ => fun
  | [d1, d2, d3] => { results := [.lit (.bool false)], args := [d1, d2, d3] }
  | _ => none }
def FareyBetweenWrongFalsely : Prop := fareyBetweenRow.holds Try.pinned (OpenSpec.ofChange fareyBetweenWrong)

/-- 'abacistlaw6.FareyMirror': WHATEVER THE INPUT: true; the input reads as it did. -/
def fareyMirrorSpec : ChangeSpec := { name := "fareyMirror", fn := fun _ => fun
  | [d1, d2] => { results := [.lit (.bool true)], args := [d1, d2] }
  | _ => none }
def fareyMirrorRow : OpenClaim := { program := "yteephnbfdblgeaa", sum := "4dec6c09c8334c5b5f680c25f3fd0f9ae9e139d14ef5804a508896dfdffba06c", func := "abacist/abacistlaw6.FareyMirror", spec := "fareyMirror", inPlace := ["internal/bytealg.IndexByteString", "internal/bytealg.IndexString"], unfollowed := true, recurses := true, named := ["internal/bytealg.MaxLen"], apart := false }
def FareyMirrorSaid : Prop := fareyMirrorRow.holds Try.pinned (OpenSpec.ofChange fareyMirrorSpec)

/-- ITS FALSE NEIGHBOUR: 'it returns false'. Refute it at one input. -/
def fareyMirrorWrong : ChangeSpec := { name := "fareyMirror", fn := fun _ => fun
  | [d1, d2] => { results := [.lit (.bool false)], args := [d1, d2] }
  | _ => none }
def FareyMirrorWrongFalsely : Prop := fareyMirrorRow.holds Try.pinned (OpenSpec.ofChange fareyMirrorWrong)

/- THE SECOND FORM. 'bulk': how many values and letters a reading holds, each counted each time it is reached (what is shared counts as often as it is met; a slice's spare places count too). A statement '..UptoSaid' is the law's where the arguments, and the package variables that the reading takes, are together of bulk at most 1048576: NARROWER than '..Said'. Prove '..Said' where nothing that the law and all that it calls make is longer than what came in: it says more and counts as full. Else prove '..UptoSaid'. A law counts once. -/
mutual
def uptoBulk {H : Type} : DataW H → Nat
  | .lit (.string bytes) => bytes.length + 1
  | .lit _ => 1
  | .nil => 1
  | .ptr d => uptoBulk d + 1
  | .slice elems spare => uptoBulkAll elems + uptoBulkAll spare + 1
  | .agg parts => uptoBulkAll parts + 1
  | .iface _ d => uptoBulk d + 1
  | .map entries => uptoBulkEntries entries + 1
  | .held _ => 1
def uptoBulkAll {H : Type} : List (DataW H) → Nat
  | [] => 0
  | d :: r => uptoBulk d + uptoBulkAll r
def uptoBulkEntries {H : Type} : List (Lit × DataW H) → Nat
  | [] => 0
  | x :: r => uptoBulkEntry x + uptoBulkEntries r
def uptoBulkEntry {H : Type} : Lit × DataW H → Nat
  | (.string bytes, d) => bytes.length + uptoBulk d + 1
  | (_, d) => uptoBulk d + 1
 end
def uptoSmall : (H : Type) → List (DataW H) → Bool := fun _ ds => decide (uptoBulkAll ds ≤ 1048576)
def OpenSpec.upto (s : _root_.Go.ChangeSpec) : _root_.Go.OpenSpec := { _root_.Go.OpenSpec.ofChange s with cond := some uptoSmall }

/-- 'abacistlaw1.FareyBack', WHERE WHAT IT READS IS OF BULK AT MOST 1048576: true; the input reads as it did. -/
def fareyBackUptoRow : OpenClaim := { program := "yteephnbfdblgeaa", sum := "4dec6c09c8334c5b5f680c25f3fd0f9ae9e139d14ef5804a508896dfdffba06c", func := "abacist/abacistlaw1.FareyBack", spec := "fareyBack", inPlace := ["internal/bytealg.IndexByteString", "internal/bytealg.IndexString"], unfollowed := true, recurses := true, named := ["internal/bytealg.MaxLen"], apart := false, narrowed := true }
def FareyBackUptoSaid : Prop := fareyBackUptoRow.holds Try.pinned (OpenSpec.upto fareyBackSpec)

/-- 'abacistlaw1.FareyBetween', WHERE WHAT IT READS IS OF BULK AT MOST 1048576: true; the input reads as it did. -/
def fareyBetweenUptoRow : OpenClaim := { program := "yteephnbfdblgeaa", sum := "4dec6c09c8334c5b5f680c25f3fd0f9ae9e139d14ef5804a508896dfdffba06c", func := "abacist/abacistlaw1.FareyBetween", spec := "fareyBetween", inPlace := ["internal/bytealg.IndexByteString", "internal/bytealg.IndexString"], unfollowed := true, recurses := true, named := ["internal/bytealg.MaxLen"], apart := false, narrowed := true }
def FareyBetweenUptoSaid : Prop := fareyBetweenUptoRow.holds Try.pinned (OpenSpec.upto fareyBetweenSpec)

/-- 'abacistlaw6.FareyMirror', WHERE WHAT IT READS IS OF BULK AT MOST 1048576: true; the input reads as it did. -/
def fareyMirrorUptoRow : OpenClaim := { program := "yteephnbfdblgeaa", sum := "4dec6c09c8334c5b5f680c25f3fd0f9ae9e139d14ef5804a508896dfdffba06c", func := "abacist/abacistlaw6.FareyMirror", spec := "fareyMirror", inPlace := ["internal/bytealg.IndexByteString", "internal/bytealg.IndexString"], unfollowed := true, recurses := true, named := ["internal/bytealg.MaxLen"], apart := false, narrowed := true }
def FareyMirrorUptoSaid : Prop := fareyMirrorUptoRow.holds Try.pinned (OpenSpec.upto fareyMirrorSpec)

end Rows
end Go.Proofs.Yteephnbfdblgeaa
