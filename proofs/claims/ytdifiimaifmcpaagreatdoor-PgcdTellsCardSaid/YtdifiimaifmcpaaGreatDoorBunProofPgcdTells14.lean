import Derived.Test.YtdifiimaifmcpaaGreatDoorBunProofPgcdTells7
import Derived.Test.YtdifiimaifmcpaaGreatDoorBunProofPgcdTells6
import Derived.Test.YtdifiimaifmcpaaGreatDoorBunProofPgcdTells12
import Derived.Test.YtdifiimaifmcpaaGreatDoorBunProofPgcdTells8
namespace Go.Proofs.YtdifiimaifmcpaaGreatDoor
open Go.RowKit
open Num (dtext)
set_option linter.unusedVariables false
set_option linter.unusedSimpArgs false
theorem len4 {zs : List Nat} {n k : Nat} (ht : Num4.Trim zs) (hv : Num4.val zs = n) (hn : n < 10 ^ k) : zs.length ≤ k :=
  Num4.length_le_of_val ht k (by rw [hv]; exact Nat.lt_of_lt_of_le hn (pow10_le k))

/-- A text that is a natural is read. -/
theorem natof_num {s : ByteArray} (h : Good s) (w : World) : Calls Tryz.prog 51 #[.string s] w fun e w' => ∃ v xs, e = .returned (.tuple #[v, .int .i64 0]) ∧ LimR w' v xs ∧ Num4.Trim xs ∧ Num4.val xs = num s ∧ xs.length ≤ 100 ∧ Below w.heap.size w w' := by
  refine (natof_good w h.1 h.2).mono ?_
  rintro e w' ⟨v, xs, rfl, h1, h2, h3, h4⟩
  exact ⟨v, xs, rfl, h1, h2, h3, len4 h2 h3 (num_lt h), h4⟩

end Go.Proofs.YtdifiimaifmcpaaGreatDoor
