import Derived.RangeFuncNested
import Derived.RangeFuncBound
import Derived.RangeFuncCalls
import Derived.RangeFuncLeaves
import Derived.Shelf.Abstract
import Derived.Shelf.RegionOpen
import Derived.OwnWalkIn
import Derived.TacticsInMore
import Derived.LoopNIn
import Derived.LoopIn
import Derived.Test.YtokojbgpboccnaaBunProofSturmOwn11
/-
  slices.Backward OVER Integers: its contract.
-/
namespace Go.Proofs.Ytokojbgpboccnaa
open Go.RowKit Go.Shelf
open Num
set_option linter.unusedVariables false
set_option maxRecDepth 100000
set_option linter.unusedSimpArgs false
attribute [local go_sem] Oper.semAt_some

/-- What has come behind k rounds: the last place, and so on. -/
def dwn (n k : Nat) : List Nat := (List.range k).map fun j => n - 1 - j
theorem dwn_succ (n k : Nat) : dwn n (k + 1) = dwn n k ++ [n - 1 - k] := by simp [dwn, List.range_succ]
theorem dwn_len (n k : Nat) : (dwn n k).length = k := by simp [dwn]

/-- What a round keeps: what lay below n₀, and the slice's own box. -/
def KB (n₀ Bs : Nat) (A B : World) : Prop := Below n₀ A B ∧ B.heap[Bs]? = A.heap[Bs]?
theorem KB.refl (n₀ Bs : Nat) (A : World) : KB n₀ Bs A A := ⟨Below.refl _ _, rfl⟩
theorem KB.trans {n₀ Bs : Nat} {A B C : World} (h : KB n₀ Bs A B) (h' : KB n₀ Bs B C) : KB n₀ Bs A C := ⟨h.1.trans h'.1, h'.2.trans h.2⟩
theorem KB.cell {n₀ Bs : Nat} {A B : World} (h : KB n₀ Bs A B) (i : Nat) : B.cell? ⟨Bs, i, none⟩ = A.cell? ⟨Bs, i, none⟩ := World.cell?_of_block h.2

end Go.Proofs.Ytokojbgpboccnaa
