/-
  No cell of these rows narrows 'for every input' (looked for: loops, veiled, ifaces, maps, wideKeys, modest, calm, conditions, laid).
  DERIVED. THE GIVEN ROWS OF THIS SEAT. 8 by the template 'for every input the law returns true; each argument reads behind the call as it read before'; 0 by the template 'total and deterministic' (their statements: YthaidmngikkepaaTotals.lean).
  GIVEN WITH THE SEED: the statements are not yours to turn. If you find one false, say at which input.
  Laid BY PROGRAM, IN A SANDBOX (cutbox-rows.mjs): the forced cells as the released guide's own fill.sh prints them over the translation 0998e66b83cad1b5… (all of the seat's roots in one cut). By AI agents, Wed Nov 11 2026. No macro, syntax, notation, axiom, sorry.
-/
import Derived.Test.YthaidmngikkepaaChecked
import GoSem.Claim
import GoSem.ClaimJoined
import GoSem.ClaimMapViews
import Derived.JoinedTies
import Derived.KernelRfl
namespace Go.Proofs.Ythaidmngikkepaa
/- THE CELL 'sum', in the pinned program and in every row, IS THE sha256 OF THE DUMP (.gsa) THAT YthaidmngikkepaaProg.lean LOADS. Nothing in Lean hashes anything: it is a label: what it is worth is what the hold of that sum in a sandbox is worth. -/
noncomputable def Try.pinned : Pinned := { name := "ythaidmngikkepaa", sum := "0998e66b83cad1b5cba8b75c173a0572e65374571b42354f25a60cc2d500476f", checked := Try.checked }
namespace Rows
def none {H : Type} : Left H := { results := [], args := [] }

/-- 'abacistlaw1.RatField': WHATEVER THE INPUT: true; the input reads as it did. -/
def ratFieldSpec : ChangeSpec := { name := "ratField", fn := fun _ => fun
  | [d1, d2, d3] => { results := [.lit (.bool true)], args := [d1, d2, d3] }
  | _ => none }
def ratFieldRow : OpenClaim := { program := "ythaidmngikkepaa", sum := "0998e66b83cad1b5cba8b75c173a0572e65374571b42354f25a60cc2d500476f", func := "abacist/abacistlaw1.RatField", spec := "ratField", inPlace := ["internal/bytealg.IndexByteString", "internal/bytealg.IndexString"], named := ["internal/bytealg.MaxLen"], apart := false }
def RatFieldSaid : Prop := ratFieldRow.holds Try.pinned (OpenSpec.ofChange ratFieldSpec)

/-- ITS FALSE NEIGHBOUR: 'it returns false'. Refute it at one input. -/
def ratFieldWrong : ChangeSpec := { name := "ratField", fn := fun _ => fun
  | [d1, d2, d3] => { results := [.lit (.bool false)], args := [d1, d2, d3] }
  | _ => none }
def RatFieldWrongFalsely : Prop := ratFieldRow.holds Try.pinned (OpenSpec.ofChange ratFieldWrong)

/-- 'abacistlaw1.RatOrder': WHATEVER THE INPUT: true; the input reads as it did. -/
def ratOrderSpec : ChangeSpec := { name := "ratOrder", fn := fun _ => fun
  | [d1, d2, d3] => { results := [.lit (.bool true)], args := [d1, d2, d3] }
  | _ => none }
def ratOrderRow : OpenClaim := { program := "ythaidmngikkepaa", sum := "0998e66b83cad1b5cba8b75c173a0572e65374571b42354f25a60cc2d500476f", func := "abacist/abacistlaw1.RatOrder", spec := "ratOrder", inPlace := ["internal/bytealg.IndexByteString", "internal/bytealg.IndexString"], named := ["internal/bytealg.MaxLen"], apart := false }
def RatOrderSaid : Prop := ratOrderRow.holds Try.pinned (OpenSpec.ofChange ratOrderSpec)

/-- ITS FALSE NEIGHBOUR: 'it returns false'. Refute it at one input. -/
def ratOrderWrong : ChangeSpec := { name := "ratOrder", fn := fun _ => fun
  | [d1, d2, d3] => { results := [.lit (.bool false)], args := [d1, d2, d3] }
  | _ => none }
def RatOrderWrongFalsely : Prop := ratOrderRow.holds Try.pinned (OpenSpec.ofChange ratOrderWrong)

/-- 'abacistlaw1.RatFloor': WHATEVER THE INPUT: true; the input reads as it did. -/
def ratFloorSpec : ChangeSpec := { name := "ratFloor", fn := fun _ => fun
  | [d] => { results := [.lit (.bool true)], args := [d] }
  | _ => none }
def ratFloorRow : OpenClaim := { program := "ythaidmngikkepaa", sum := "0998e66b83cad1b5cba8b75c173a0572e65374571b42354f25a60cc2d500476f", func := "abacist/abacistlaw1.RatFloor", spec := "ratFloor", inPlace := ["internal/bytealg.IndexByteString", "internal/bytealg.IndexString"], named := ["internal/bytealg.MaxLen"], apart := false }
def RatFloorSaid : Prop := ratFloorRow.holds Try.pinned (OpenSpec.ofChange ratFloorSpec)

/-- ITS FALSE NEIGHBOUR: 'it returns false'. Refute it at one input. -/
def ratFloorWrong : ChangeSpec := { name := "ratFloor", fn := fun _ => fun
  | [d] => { results := [.lit (.bool false)], args := [d] }
  | _ => none }
def RatFloorWrongFalsely : Prop := ratFloorRow.holds Try.pinned (OpenSpec.ofChange ratFloorWrong)

/-- 'abacistlaw1.CfBack': WHATEVER THE INPUT: true; the input reads as it did. -/
def cfBackSpec : ChangeSpec := { name := "cfBack", fn := fun _ => fun
  | [d] => { results := [.lit (.bool true)], args := [d] }
  | _ => none }
def cfBackRow : OpenClaim := { program := "ythaidmngikkepaa", sum := "0998e66b83cad1b5cba8b75c173a0572e65374571b42354f25a60cc2d500476f", func := "abacist/abacistlaw1.CfBack", spec := "cfBack", inPlace := ["internal/bytealg.IndexByteString", "internal/bytealg.IndexString"], unfollowed := true, recurses := true, named := ["internal/bytealg.MaxLen"], apart := false }
def CfBackSaid : Prop := cfBackRow.holds Try.pinned (OpenSpec.ofChange cfBackSpec)

/-- ITS FALSE NEIGHBOUR: 'it returns false'. Refute it at one input. -/
def cfBackWrong : ChangeSpec := { name := "cfBack", fn := fun _ => fun
  | [d] => { results := [.lit (.bool false)], args := [d] }
  | _ => none }
def CfBackWrongFalsely : Prop := cfBackRow.holds Try.pinned (OpenSpec.ofChange cfBackWrong)

/-- 'abacistlaw1.CfNear': WHATEVER THE INPUT: true; the input reads as it did. -/
def cfNearSpec : ChangeSpec := { name := "cfNear", fn := fun _ => fun
  | [d1, d2, d3] => { results := [.lit (.bool true)], args := [d1, d2, d3] }
  | _ => none }
def cfNearRow : OpenClaim := { program := "ythaidmngikkepaa", sum := "0998e66b83cad1b5cba8b75c173a0572e65374571b42354f25a60cc2d500476f", func := "abacist/abacistlaw1.CfNear", spec := "cfNear", inPlace := ["internal/bytealg.IndexByteString", "internal/bytealg.IndexString"], named := ["internal/bytealg.MaxLen"], apart := false }
def CfNearSaid : Prop := cfNearRow.holds Try.pinned (OpenSpec.ofChange cfNearSpec)

/-- ITS FALSE NEIGHBOUR: 'it returns false'. Refute it at one input. -/
def cfNearWrong : ChangeSpec := { name := "cfNear", fn := fun _ => fun
  | [d1, d2, d3] => { results := [.lit (.bool false)], args := [d1, d2, d3] }
  | _ => none }
def CfNearWrongFalsely : Prop := cfNearRow.holds Try.pinned (OpenSpec.ofChange cfNearWrong)

/-- 'abacistlaw6.RatMake': WHATEVER THE INPUT: true; the input reads as it did. -/
def ratMakeSpec : ChangeSpec := { name := "ratMake", fn := fun _ => fun
  | [d1, d2, d3] => { results := [.lit (.bool true)], args := [d1, d2, d3] }
  | _ => none }
def ratMakeRow : OpenClaim := { program := "ythaidmngikkepaa", sum := "0998e66b83cad1b5cba8b75c173a0572e65374571b42354f25a60cc2d500476f", func := "abacist/abacistlaw6.RatMake", spec := "ratMake", inPlace := ["internal/bytealg.IndexByteString", "internal/bytealg.IndexString"], named := ["internal/bytealg.MaxLen"], apart := false }
def RatMakeSaid : Prop := ratMakeRow.holds Try.pinned (OpenSpec.ofChange ratMakeSpec)

/-- ITS FALSE NEIGHBOUR: 'it returns false'. Refute it at one input. -/
def ratMakeWrong : ChangeSpec := { name := "ratMake", fn := fun _ => fun
  | [d1, d2, d3] => { results := [.lit (.bool false)], args := [d1, d2, d3] }
  | _ => none }
def RatMakeWrongFalsely : Prop := ratMakeRow.holds Try.pinned (OpenSpec.ofChange ratMakeWrong)

/-- 'abacistlaw6.RatBetween': WHATEVER THE INPUT: true; the input reads as it did. -/
def ratBetweenSpec : ChangeSpec := { name := "ratBetween", fn := fun _ => fun
  | [d1, d2] => { results := [.lit (.bool true)], args := [d1, d2] }
  | _ => none }
def ratBetweenRow : OpenClaim := { program := "ythaidmngikkepaa", sum := "0998e66b83cad1b5cba8b75c173a0572e65374571b42354f25a60cc2d500476f", func := "abacist/abacistlaw6.RatBetween", spec := "ratBetween", inPlace := ["internal/bytealg.IndexByteString", "internal/bytealg.IndexString"], named := ["internal/bytealg.MaxLen"], apart := false }
def RatBetweenSaid : Prop := ratBetweenRow.holds Try.pinned (OpenSpec.ofChange ratBetweenSpec)

/-- ITS FALSE NEIGHBOUR: 'it returns false'. Refute it at one input. -/
def ratBetweenWrong : ChangeSpec := { name := "ratBetween", fn := fun _ => fun
  | [d1, d2] => { results := [.lit (.bool false)], args := [d1, d2] }
  | _ => none }
def RatBetweenWrongFalsely : Prop := ratBetweenRow.holds Try.pinned (OpenSpec.ofChange ratBetweenWrong)

/-- 'abacistlaw6.CfTurned': WHATEVER THE INPUT: true; the input reads as it did. -/
def cfTurnedSpec : ChangeSpec := { name := "cfTurned", fn := fun _ => fun
  | [d] => { results := [.lit (.bool true)], args := [d] }
  | _ => none }
def cfTurnedRow : OpenClaim := { program := "ythaidmngikkepaa", sum := "0998e66b83cad1b5cba8b75c173a0572e65374571b42354f25a60cc2d500476f", func := "abacist/abacistlaw6.CfTurned", spec := "cfTurned", inPlace := ["internal/bytealg.IndexByteString", "internal/bytealg.IndexString"], named := ["internal/bytealg.MaxLen"], apart := false }
def CfTurnedSaid : Prop := cfTurnedRow.holds Try.pinned (OpenSpec.ofChange cfTurnedSpec)

/-- ITS FALSE NEIGHBOUR: 'it returns false'. Refute it at one input. -/
def cfTurnedWrong : ChangeSpec := { name := "cfTurned", fn := fun _ => fun
  | [d] => { results := [.lit (.bool false)], args := [d] }
  | _ => none }
def CfTurnedWrongFalsely : Prop := cfTurnedRow.holds Try.pinned (OpenSpec.ofChange cfTurnedWrong)

/- THE SECOND FORM. 'bulk': how many values and letters a reading holds, each counted each time it is reached (what is shared counts as often as it is met; a slice's spare places count too). A statement '..UptoSaid' is the law's where the arguments, and the package variables that the reading takes, are together of bulk at most 1048576: NARROWER than '..Said'. Prove '..Said' where nothing that the law and all that it calls make is longer than what came in: it says more and counts as full. Else prove '..UptoSaid'. A law counts once. -/
mutual
def uptoBulk {H : Type} : DataW H → Nat
  | .lit (.string bytes) => bytes.length + 1
  | .lit _ => 1
  | .nil => 1
  | .ptr d => uptoBulk d + 1
  | .slice elems spare => uptoBulkAll elems + uptoBulkAll spare + 1
  | .agg parts => uptoBulkAll parts + 1
  | .iface _ d => uptoBulk d + 1
  | .map entries => uptoBulkEntries entries + 1
  | .held _ => 1
def uptoBulkAll {H : Type} : List (DataW H) → Nat
  | [] => 0
  | d :: r => uptoBulk d + uptoBulkAll r
def uptoBulkEntries {H : Type} : List (Lit × DataW H) → Nat
  | [] => 0
  | x :: r => uptoBulkEntry x + uptoBulkEntries r
def uptoBulkEntry {H : Type} : Lit × DataW H → Nat
  | (.string bytes, d) => bytes.length + uptoBulk d + 1
  | (_, d) => uptoBulk d + 1
 end
def uptoSmall : (H : Type) → List (DataW H) → Bool := fun _ ds => decide (uptoBulkAll ds ≤ 1048576)
def OpenSpec.upto (s : _root_.Go.ChangeSpec) : _root_.Go.OpenSpec := { _root_.Go.OpenSpec.ofChange s with cond := some uptoSmall }

/-- 'abacistlaw1.RatField', WHERE WHAT IT READS IS OF BULK AT MOST 1048576: true; the input reads as it did. -/
def ratFieldUptoRow : OpenClaim := { program := "ythaidmngikkepaa", sum := "0998e66b83cad1b5cba8b75c173a0572e65374571b42354f25a60cc2d500476f", func := "abacist/abacistlaw1.RatField", spec := "ratField", inPlace := ["internal/bytealg.IndexByteString", "internal/bytealg.IndexString"], named := ["internal/bytealg.MaxLen"], apart := false, narrowed := true }
def RatFieldUptoSaid : Prop := ratFieldUptoRow.holds Try.pinned (OpenSpec.upto ratFieldSpec)

/-- 'abacistlaw1.RatOrder', WHERE WHAT IT READS IS OF BULK AT MOST 1048576: true; the input reads as it did. -/
def ratOrderUptoRow : OpenClaim := { program := "ythaidmngikkepaa", sum := "0998e66b83cad1b5cba8b75c173a0572e65374571b42354f25a60cc2d500476f", func := "abacist/abacistlaw1.RatOrder", spec := "ratOrder", inPlace := ["internal/bytealg.IndexByteString", "internal/bytealg.IndexString"], named := ["internal/bytealg.MaxLen"], apart := false, narrowed := true }
def RatOrderUptoSaid : Prop := ratOrderUptoRow.holds Try.pinned (OpenSpec.upto ratOrderSpec)

/-- 'abacistlaw1.RatFloor', WHERE WHAT IT READS IS OF BULK AT MOST 1048576: true; the input reads as it did. -/
def ratFloorUptoRow : OpenClaim := { program := "ythaidmngikkepaa", sum := "0998e66b83cad1b5cba8b75c173a0572e65374571b42354f25a60cc2d500476f", func := "abacist/abacistlaw1.RatFloor", spec := "ratFloor", inPlace := ["internal/bytealg.IndexByteString", "internal/bytealg.IndexString"], named := ["internal/bytealg.MaxLen"], apart := false, narrowed := true }
def RatFloorUptoSaid : Prop := ratFloorUptoRow.holds Try.pinned (OpenSpec.upto ratFloorSpec)

/-- 'abacistlaw1.CfBack', WHERE WHAT IT READS IS OF BULK AT MOST 1048576: true; the input reads as it did. -/
def cfBackUptoRow : OpenClaim := { program := "ythaidmngikkepaa", sum := "0998e66b83cad1b5cba8b75c173a0572e65374571b42354f25a60cc2d500476f", func := "abacist/abacistlaw1.CfBack", spec := "cfBack", inPlace := ["internal/bytealg.IndexByteString", "internal/bytealg.IndexString"], unfollowed := true, recurses := true, named := ["internal/bytealg.MaxLen"], apart := false, narrowed := true }
def CfBackUptoSaid : Prop := cfBackUptoRow.holds Try.pinned (OpenSpec.upto cfBackSpec)

/-- 'abacistlaw1.CfNear', WHERE WHAT IT READS IS OF BULK AT MOST 1048576: true; the input reads as it did. -/
def cfNearUptoRow : OpenClaim := { program := "ythaidmngikkepaa", sum := "0998e66b83cad1b5cba8b75c173a0572e65374571b42354f25a60cc2d500476f", func := "abacist/abacistlaw1.CfNear", spec := "cfNear", inPlace := ["internal/bytealg.IndexByteString", "internal/bytealg.IndexString"], named := ["internal/bytealg.MaxLen"], apart := false, narrowed := true }
def CfNearUptoSaid : Prop := cfNearUptoRow.holds Try.pinned (OpenSpec.upto cfNearSpec)

/-- 'abacistlaw6.RatMake', WHERE WHAT IT READS IS OF BULK AT MOST 1048576: true; the input reads as it did. -/
def ratMakeUptoRow : OpenClaim := { program := "ythaidmngikkepaa", sum := "0998e66b83cad1b5cba8b75c173a0572e65374571b42354f25a60cc2d500476f", func := "abacist/abacistlaw6.RatMake", spec := "ratMake", inPlace := ["internal/bytealg.IndexByteString", "internal/bytealg.IndexString"], named := ["internal/bytealg.MaxLen"], apart := false, narrowed := true }
def RatMakeUptoSaid : Prop := ratMakeUptoRow.holds Try.pinned (OpenSpec.upto ratMakeSpec)

/-- 'abacistlaw6.RatBetween', WHERE WHAT IT READS IS OF BULK AT MOST 1048576: true; the input reads as it did. -/
def ratBetweenUptoRow : OpenClaim := { program := "ythaidmngikkepaa", sum := "0998e66b83cad1b5cba8b75c173a0572e65374571b42354f25a60cc2d500476f", func := "abacist/abacistlaw6.RatBetween", spec := "ratBetween", inPlace := ["internal/bytealg.IndexByteString", "internal/bytealg.IndexString"], named := ["internal/bytealg.MaxLen"], apart := false, narrowed := true }
def RatBetweenUptoSaid : Prop := ratBetweenUptoRow.holds Try.pinned (OpenSpec.upto ratBetweenSpec)

/-- 'abacistlaw6.CfTurned', WHERE WHAT IT READS IS OF BULK AT MOST 1048576: true; the input reads as it did. -/
def cfTurnedUptoRow : OpenClaim := { program := "ythaidmngikkepaa", sum := "0998e66b83cad1b5cba8b75c173a0572e65374571b42354f25a60cc2d500476f", func := "abacist/abacistlaw6.CfTurned", spec := "cfTurned", inPlace := ["internal/bytealg.IndexByteString", "internal/bytealg.IndexString"], named := ["internal/bytealg.MaxLen"], apart := false, narrowed := true }
def CfTurnedUptoSaid : Prop := cfTurnedUptoRow.holds Try.pinned (OpenSpec.upto cfTurnedSpec)

end Rows
end Go.Proofs.Ythaidmngikkepaa
