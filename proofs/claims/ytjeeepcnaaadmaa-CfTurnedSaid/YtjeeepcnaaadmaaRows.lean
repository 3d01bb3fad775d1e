/-
  No cell of these rows narrows 'for every input' (looked for: loops, veiled, ifaces, maps, wideKeys, modest, calm, conditions, laid).
  DERIVED. THE GIVEN ROWS OF THIS SEAT. 8 by the template 'for every input the law returns true; each argument reads behind the call as it read before'; 0 by the template 'total and deterministic' (their statements: YtjeeepcnaaadmaaTotals.lean).
  GIVEN WITH THE SEED: the statements are not yours to turn. If you find one false, say at which input.
  Laid BY PROGRAM, IN A SANDBOX (cutbox-rows.mjs): the forced cells as the released guide's own fill.sh prints them over the translation f413d2ef1ebea7ef… (all of the seat's roots in one cut). By AI agents, Wed Nov 11 2026. No macro, syntax, notation, axiom, sorry.
-/
import Derived.Test.YtjeeepcnaaadmaaChecked
import GoSem.Claim
import GoSem.ClaimJoined
import GoSem.ClaimMapViews
import Derived.JoinedTies
import Derived.KernelRfl
namespace Go.Proofs.Ytjeeepcnaaadmaa
/- THE CELL 'sum', in the pinned program and in every row, IS THE sha256 OF THE DUMP (.gsa) THAT YtjeeepcnaaadmaaProg.lean LOADS. Nothing in Lean hashes anything: it is a label: what it is worth is what the hold of that sum in a sandbox is worth. -/
noncomputable def Try.pinned : Pinned := { name := "ytjeeepcnaaadmaa", sum := "f413d2ef1ebea7ef8a3d4ffd3eba29a94bd4e1c5896a0366081fcd71962238b9", checked := Try.checked }
namespace Rows
def none {H : Type} : Left H := { results := [], args := [] }

/-- 'abacistlaw1.RatOrder': WHATEVER THE INPUT: true; the input reads as it did. -/
def ratOrderSpec : ChangeSpec := { name := "ratOrder", fn := fun _ => fun
  | [d1, d2, d3] => { results := [.lit (.bool true)], args := [d1, d2, d3] }
  | _ => none }
def ratOrderRow : OpenClaim := { program := "ytjeeepcnaaadmaa", sum := "f413d2ef1ebea7ef8a3d4ffd3eba29a94bd4e1c5896a0366081fcd71962238b9", func := "abacist/abacistlaw1.RatOrder", spec := "ratOrder", inPlace := ["internal/bytealg.IndexByteString", "internal/bytealg.IndexString"], named := ["internal/bytealg.MaxLen"], apart := false }
def RatOrderSaid : Prop := ratOrderRow.holds Try.pinned (OpenSpec.ofChange ratOrderSpec)

/-- ITS FALSE NEIGHBOUR: 'it returns false'. Refute it at one input. -/
def ratOrderWrong : ChangeSpec := { name := "ratOrder", fn := fun _ => fun
  | [d1, d2, d3] => { results := [.lit (.bool false)], args := [d1, d2, d3] }
  | _ => none }
def RatOrderWrongFalsely : Prop := ratOrderRow.holds Try.pinned (OpenSpec.ofChange ratOrderWrong)

/-- 'abacistlaw1.RatFloor': WHATEVER THE INPUT: true; the input reads as it did. -/
def ratFloorSpec : ChangeSpec := { name := "ratFloor", fn := fun _ => fun
  | [d] => { results := [.lit (.bool true)], args := [d] }
  | _ => none }
def ratFloorRow : OpenClaim := { program := "ytjeeepcnaaadmaa", sum := "f413d2ef1ebea7ef8a3d4ffd3eba29a94bd4e1c5896a0366081fcd71962238b9", func := "abacist/abacistlaw1.RatFloor", spec := "ratFloor", inPlace := ["internal/bytealg.IndexByteString", "internal/bytealg.IndexString"], named := ["internal/bytealg.MaxLen"], apart := false }
def RatFloorSaid : Prop := ratFloorRow.holds Try.pinned (OpenSpec.ofChange ratFloorSpec)

/-- ITS FALSE NEIGHBOUR: 'it returns false'. Refute it at one input. -/
def ratFloorWrong : ChangeSpec := { name := "ratFloor", fn := fun _ => fun
  | [d] => { results := [.lit (.bool false)], args := [d] }
  | _ => none }
def RatFloorWrongFalsely : Prop := ratFloorRow.holds Try.pinned (OpenSpec.ofChange ratFloorWrong)

/-- 'abacistlaw6.RatBetween': WHATEVER THE INPUT: true; the input reads as it did. -/
def ratBetweenSpec : ChangeSpec := { name := "ratBetween", fn := fun _ => fun
  | [d1, d2] => { results := [.lit (.bool true)], args := [d1, d2] }
  | _ => none }
def ratBetweenRow : OpenClaim := { program := "ytjeeepcnaaadmaa", sum := "f413d2ef1ebea7ef8a3d4ffd3eba29a94bd4e1c5896a0366081fcd71962238b9", func := "abacist/abacistlaw6.RatBetween", spec := "ratBetween", inPlace := ["internal/bytealg.IndexByteString", "internal/bytealg.IndexString"], named := ["internal/bytealg.MaxLen"], apart := false }
def RatBetweenSaid : Prop := ratBetweenRow.holds Try.pinned (OpenSpec.ofChange ratBetweenSpec)

/-- ITS FALSE NEIGHBOUR: 'it returns false'. Refute it at one input. -/
def ratBetweenWrong : ChangeSpec := { name := "ratBetween", fn := fun _ => fun
  | [d1, d2] => { results := [.lit (.bool false)], args := [d1, d2] }
  | _ => none }
def RatBetweenWrongFalsely : Prop := ratBetweenRow.holds Try.pinned (OpenSpec.ofChange ratBetweenWrong)

/-- 'abacistlaw1.CfNear': WHATEVER THE INPUT: true; the input reads as it did. -/
def cfNearSpec : ChangeSpec := { name := "cfNear", fn := fun _ => fun
  | [d1, d2, d3] => { results := [.lit (.bool true)], args := [d1, d2, d3] }
  | _ => none }
def cfNearRow : OpenClaim := { program := "ytjeeepcnaaadmaa", sum := "f413d2ef1ebea7ef8a3d4ffd3eba29a94bd4e1c5896a0366081fcd71962238b9", func := "abacist/abacistlaw1.CfNear", spec := "cfNear", inPlace := ["internal/bytealg.IndexByteString", "internal/bytealg.IndexString"], named := ["internal/bytealg.MaxLen"], apart := false }
def CfNearSaid : Prop := cfNearRow.holds Try.pinned (OpenSpec.ofChange cfNearSpec)

/-- ITS FALSE NEIGHBOUR: 'it returns false'. Refute it at one input. -/
def cfNearWrong : ChangeSpec := { name := "cfNear", fn := fun _ => fun
  | [d1, d2, d3] => { results := [.lit (.bool false)], args := [d1, d2, d3] }
  | _ => none }
def CfNearWrongFalsely : Prop := cfNearRow.holds Try.pinned (OpenSpec.ofChange cfNearWrong)

/-- 'abacistlaw6.CfTurned': WHATEVER THE INPUT: true; the input reads as it did. -/
def cfTurnedSpec : ChangeSpec := { name := "cfTurned", fn := fun _ => fun
  | [d] => { results := [.lit (.bool true)], args := [d] }
  | _ => none }
def cfTurnedRow : OpenClaim := { program := "ytjeeepcnaaadmaa", sum := "f413d2ef1ebea7ef8a3d4ffd3eba29a94bd4e1c5896a0366081fcd71962238b9", func := "abacist/abacistlaw6.CfTurned", spec := "cfTurned", inPlace := ["internal/bytealg.IndexByteString", "internal/bytealg.IndexString"], named := ["internal/bytealg.MaxLen"], apart := false }
def CfTurnedSaid : Prop := cfTurnedRow.holds Try.pinned (OpenSpec.ofChange cfTurnedSpec)

/-- ITS FALSE NEIGHBOUR: 'it returns false'. Refute it at one input. -/
def cfTurnedWrong : ChangeSpec := { name := "cfTurned", fn := fun _ => fun
  | [d] => { results := [.lit (.bool false)], args := [d] }
  | _ => none }
def CfTurnedWrongFalsely : Prop := cfTurnedRow.holds Try.pinned (OpenSpec.ofChange cfTurnedWrong)

/-- 'abacistlaw1.FareyBetween': WHATEVER THE INPUT: true; the input reads as it did. -/
def fareyBetweenSpec : ChangeSpec := { name := "fareyBetween", fn := fun _ => fun
  | [d1, d2, d3] => { results := [.lit (.bool true)], args := [d1, d2, d3] }
  | _ => none }
def fareyBetweenRow : OpenClaim := { program := "ytjeeepcnaaadmaa", sum := "f413d2ef1ebea7ef8a3d4ffd3eba29a94bd4e1c5896a0366081fcd71962238b9", func := "abacist/abacistlaw1.FareyBetween", spec := "fareyBetween", inPlace := ["internal/bytealg.IndexByteString", "internal/bytealg.IndexString"], unfollowed := true, recurses := true, named := ["internal/bytealg.MaxLen"], apart := false }
def FareyBetweenSaid : Prop := fareyBetweenRow.holds Try.pinned (OpenSpec.ofChange fareyBetweenSpec)

/-- ITS FALSE NEIGHBOUR: 'it returns false'. Refute it at one input. -/
def fareyBetweenWrong : ChangeSpec := { name := "fareyBetween", fn := fun _ => fun
  | [d1, d2, d3] => { results := [.lit (.bool false)], args := [d1, d2, d3] }
  | _ => none }
def FareyBetweenWrongFalsely : Prop := fareyBetweenRow.holds Try.pinned (OpenSpec.ofChange fareyBetweenWrong)

/-- 'abacistlaw6.FareyMirror': WHATEVER THE INPUT: true; the input reads as it did. -/
def fareyMirrorSpec : ChangeSpec := { name := "fareyMirror", fn := fun _ => fun
  | [d1, d2] => { results := [.lit (.bool true)], args := [d1, d2] }
  | _ => none }
def fareyMirrorRow : OpenClaim := { program := "ytjeeepcnaaadmaa", sum := "f413d2ef1ebea7ef8a3d4ffd3eba29a94bd4e1c5896a0366081fcd71962238b9", func := "abacist/abacistlaw6.FareyMirror", spec := "fareyMirror", inPlace := ["internal/bytealg.IndexByteString", "internal/bytealg.IndexString"], unfollowed := true, recurses := true, named := ["internal/bytealg.MaxLen"], apart := false }
def FareyMirrorSaid : Prop := fareyMirrorRow.holds Try.pinned (OpenSpec.ofChange fareyMirrorSpec)

/-- ITS FALSE NEIGHBOUR: 'it returns false'. Refute it at one input. -/
def fareyMirrorWrong : ChangeSpec := { name := "fareyMirror", fn := fun _ => fun
  | [d1, d2] => { results := [.lit (.bool false)], args := [d1, d2] }
  | _ => none }
def FareyMirrorWrongFalsely : Prop := fareyMirrorRow.holds Try.pinned (OpenSpec.ofChange fareyMirrorWrong)

/-- 'abacistlaw6.DecTurned': WHATEVER THE INPUT: true; the input reads as it did. -/
def decTurnedSpec : ChangeSpec := { name := "decTurned", fn := fun _ => fun
  | [d1, d2] => { results := [.lit (.bool true)], args := [d1, d2] }
  | _ => none }
def decTurnedRow : OpenClaim := { program := "ytjeeepcnaaadmaa", sum := "f413d2ef1ebea7ef8a3d4ffd3eba29a94bd4e1c5896a0366081fcd71962238b9", func := "abacist/abacistlaw6.DecTurned", spec := "decTurned", inPlace := ["internal/bytealg.IndexByteString", "internal/bytealg.IndexString", "internal/abi.NoEscape", "internal/bytealg.MakeNoZero"], named := ["internal/bytealg.MaxLen"], apart := false }
def DecTurnedSaid : Prop := decTurnedRow.holds Try.pinned (OpenSpec.ofChange decTurnedSpec)

/-- ITS FALSE NEIGHBOUR: 'it returns false'. Refute it at one input. -/
def decTurnedWrong : ChangeSpec := { name := "decTurned", fn := fun _ => fun
  | [d1, d2] => { results := [.lit (.bool false)], args := [d1, d2] }
  | _ => none }
def DecTurnedWrongFalsely : Prop := decTurnedRow.holds Try.pinned (OpenSpec.ofChange decTurnedWrong)

/- THE SECOND FORM. 'bulk': how many values and letters a reading holds, each counted each time it is reached (what is shared counts as often as it is met; a slice's spare places count too). A statement '..UptoSaid' is the law's where the arguments, and the package variables that the reading takes, are together of bulk at most 1048576: NARROWER than '..Said'. Prove '..Said' where nothing that the law and all that it calls make is longer than what came in: it says more and counts as full. Else prove '..UptoSaid'. A law counts once. -/
mutual
def uptoBulk {H : Type} : DataW H → Nat
  | .lit (.string bytes) => bytes.length + 1
  | .lit _ => 1
  | .nil => 1
  | .ptr d => uptoBulk d + 1
  | .slice elems spare => uptoBulkAll elems + uptoBulkAll spare + 1
  | .agg parts => uptoBulkAll parts + 1
  | .iface _ d => uptoBulk d + 1
  | .map entries => uptoBulkEntries entries + 1
  | .held _ => 1
def uptoBulkAll {H : Type} : List (DataW H) → Nat
  | [] => 0
  | d :: r => uptoBulk d + uptoBulkAll r
def uptoBulkEntries {H : Type} : List (Lit × DataW H) → Nat
  | [] => 0
  | x :: r => uptoBulkEntry x + uptoBulkEntries r
def uptoBulkEntry {H : Type} : Lit × DataW H → Nat
  | (.string bytes, d) => bytes.length + uptoBulk d + 1
  | (_, d) => uptoBulk d + 1
 end
def uptoSmall : (H : Type) → List (DataW H) → Bool := fun _ ds => decide (uptoBulkAll ds ≤ 1048576)
def OpenSpec.upto (s : _root_.Go.ChangeSpec) : _root_.Go.OpenSpec := { _root_.Go.OpenSpec.ofChange s with cond := some uptoSmall }

/-- 'abacistlaw1.RatOrder', WHERE WHAT IT READS IS OF BULK AT MOST 1048576: true; the input reads as it did. -/
def ratOrderUptoRow : OpenClaim := { program := "ytjeeepcnaaadmaa", sum := "f413d2ef1ebea7ef8a3d4ffd3eba29a94bd4e1c5896a0366081fcd71962238b9", func := "abacist/abacistlaw1.RatOrder", spec := "ratOrder", inPlace := ["internal/bytealg.IndexByteString", "internal/bytealg.IndexString"], named := ["internal/bytealg.MaxLen"], apart := false, narrowed := true }
def RatOrderUptoSaid : Prop := ratOrderUptoRow.holds Try.pinned (OpenSpec.upto ratOrderSpec)

/-- 'abacistlaw1.RatFloor', WHERE WHAT IT READS IS OF BULK AT MOST 1048576: true; the input reads as it did. -/
def ratFloorUptoRow : OpenClaim := { program := "ytjeeepcnaaadmaa", sum := "f413d2ef1ebea7ef8a3d4ffd3eba29a94bd4e1c5896a0366081fcd71962238b9", func := "abacist/abacistlaw1.RatFloor", spec := "ratFloor", inPlace := ["internal/bytealg.IndexByteString", "internal/bytealg.IndexString"], named := ["internal/bytealg.MaxLen"], apart := false, narrowed := true }
def RatFloorUptoSaid : Prop := ratFloorUptoRow.holds Try.pinned (OpenSpec.upto ratFloorSpec)

/-- 'abacistlaw6.RatBetween', WHERE WHAT IT READS IS OF BULK AT MOST 1048576: true; the input reads as it did. -/
def ratBetweenUptoRow : OpenClaim := { program := "ytjeeepcnaaadmaa", sum := "f413d2ef1ebea7ef8a3d4ffd3eba29a94bd4e1c5896a0366081fcd71962238b9", func := "abacist/abacistlaw6.RatBetween", spec := "ratBetween", inPlace := ["internal/bytealg.IndexByteString", "internal/bytealg.IndexString"], named := ["internal/bytealg.MaxLen"], apart := false, narrowed := true }
def RatBetweenUptoSaid : Prop := ratBetweenUptoRow.holds Try.pinned (OpenSpec.upto ratBetweenSpec)

/-- 'abacistlaw1.CfNear', WHERE WHAT IT READS IS OF BULK AT MOST 1048576: true; the input reads as it did. -/
def cfNearUptoRow : OpenClaim := { program := "ytjeeepcnaaadmaa", sum := "f413d2ef1ebea7ef8a3d4ffd3eba29a94bd4e1c5896a0366081fcd71962238b9", func := "abacist/abacistlaw1.CfNear", spec := "cfNear", inPlace := ["internal/bytealg.IndexByteString", "internal/bytealg.IndexString"], named := ["internal/bytealg.MaxLen"], apart := false, narrowed := true }
def CfNearUptoSaid : Prop := cfNearUptoRow.holds Try.pinned (OpenSpec.upto cfNearSpec)

/-- 'abacistlaw6.CfTurned', WHERE WHAT IT READS IS OF BULK AT MOST 1048576: true; the input reads as it did. -/
def cfTurnedUptoRow : OpenClaim := { program := "ytjeeepcnaaadmaa", sum := "f413d2ef1ebea7ef8a3d4ffd3eba29a94bd4e1c5896a0366081fcd71962238b9", func := "abacist/abacistlaw6.CfTurned", spec := "cfTurned", inPlace := ["internal/bytealg.IndexByteString", "internal/bytealg.IndexString"], named := ["internal/bytealg.MaxLen"], apart := false, narrowed := true }
def CfTurnedUptoSaid : Prop := cfTurnedUptoRow.holds Try.pinned (OpenSpec.upto cfTurnedSpec)

/-- 'abacistlaw1.FareyBetween', WHERE WHAT IT READS IS OF BULK AT MOST 1048576: true; the input reads as it did. -/
def fareyBetweenUptoRow : OpenClaim := { program := "ytjeeepcnaaadmaa", sum := "f413d2ef1ebea7ef8a3d4ffd3eba29a94bd4e1c5896a0366081fcd71962238b9", func := "abacist/abacistlaw1.FareyBetween", spec := "fareyBetween", inPlace := ["internal/bytealg.IndexByteString", "internal/bytealg.IndexString"], unfollowed := true, recurses := true, named := ["internal/bytealg.MaxLen"], apart := false, narrowed := true }
def FareyBetweenUptoSaid : Prop := fareyBetweenUptoRow.holds Try.pinned (OpenSpec.upto fareyBetweenSpec)

/-- 'abacistlaw6.FareyMirror', WHERE WHAT IT READS IS OF BULK AT MOST 1048576: true; the input reads as it did. -/
def fareyMirrorUptoRow : OpenClaim := { program := "ytjeeepcnaaadmaa", sum := "f413d2ef1ebea7ef8a3d4ffd3eba29a94bd4e1c5896a0366081fcd71962238b9", func := "abacist/abacistlaw6.FareyMirror", spec := "fareyMirror", inPlace := ["internal/bytealg.IndexByteString", "internal/bytealg.IndexString"], unfollowed := true, recurses := true, named := ["internal/bytealg.MaxLen"], apart := false, narrowed := true }
def FareyMirrorUptoSaid : Prop := fareyMirrorUptoRow.holds Try.pinned (OpenSpec.upto fareyMirrorSpec)

/-- 'abacistlaw6.DecTurned', WHERE WHAT IT READS IS OF BULK AT MOST 1048576: true; the input reads as it did. -/
def decTurnedUptoRow : OpenClaim := { program := "ytjeeepcnaaadmaa", sum := "f413d2ef1ebea7ef8a3d4ffd3eba29a94bd4e1c5896a0366081fcd71962238b9", func := "abacist/abacistlaw6.DecTurned", spec := "decTurned", inPlace := ["internal/bytealg.IndexByteString", "internal/bytealg.IndexString", "internal/abi.NoEscape", "internal/bytealg.MakeNoZero"], named := ["internal/bytealg.MaxLen"], apart := false, narrowed := true }
def DecTurnedUptoSaid : Prop := decTurnedUptoRow.holds Try.pinned (OpenSpec.upto decTurnedSpec)

end Rows
end Go.Proofs.Ytjeeepcnaaadmaa
