import Derived.Test.YtokojbgpboccnaaGreatBunProofSturmParts5
import Derived.Deep.LoopGhost
namespace Go.Proofs.YtokojbgpboccnaaGreat
open Go.RowKit
open Num
set_option linter.unusedVariables false
set_option maxRecDepth 100000
set_option linter.unusedSimpArgs false
end Go.Proofs.YtokojbgpboccnaaGreat

namespace Go.Proofs.YtokojbgpboccnaaGreat
open Go.RowKit
open Num
set_option linter.unusedVariables false
set_option maxRecDepth 100000
set_option linter.unusedSimpArgs false

/-- A natural that may be handed in. -/
def Good (s : ByteArray) : Prop := s.size ≤ 100 ∧ isNat s.data.toList = true
/-- What is wrong with a text. -/
def Bad (s : ByteArray) (k : Int) : Prop := (100 < s.size ∧ k = 4) ∨ (s.size ≤ 100 ∧ isNat s.data.toList = false ∧ k = 1)
/-- The number of a text. -/
def num (s : ByteArray) : Nat := dval s.data.toList
/-- A block of one cell. -/
def One (w : World) (g : Nat) (v : Value) (t : TypeId) : Prop := w.heap[g]? = some (.cells #[v] t (0, 0))

/-- The error of two texts. -/
def Wrong (a b : ByteArray) (k : Int) : Prop := Bad a k ∨ (Good a ∧ Bad b k)
theorem One.cell {w : World} {g : Nat} {v : Value} {t : TypeId} (h : One w g v t) : w.cell? ⟨g, 0, none⟩ = some v := cell_of_one h
theorem One.free {w : World} {g : Nat} {v : Value} {t : TypeId} (h : One w g v t) : w.frozen? ⟨g, 0, none⟩ = false := free_of_one h
theorem One.lt {w : World} {g : Nat} {v : Value} {t : TypeId} (h : One w g v t) : g < w.heap.size := lt_of_block h
theorem One.set {w : World} {g : Nat} {v : Value} {t : TypeId} (h : One w g v t) (u : Value) : One (w.setCell ⟨g, 0, none⟩ u) g u t := one_setCell h
theorem One.below {w w' : World} {g K : Nat} {v : Value} {t : TypeId} (h : One w g v t) (hb : Below K w w') (hK : g < K) : One w' g v t := (hb.block g hK).trans h
theorem One.new (w : World) (v : Value) (t : TypeId) : One (w.alloc (.cells #[v] t)) w.heap.size v t := by
  show (w.heap.push _)[w.heap.size]? = _
  simp

theorem few_limbs {xs : List Nat} (hf : Fits xs) {k : Nat} (hl : xs.length ≤ k) : val xs < B ^ k :=
  Nat.lt_of_lt_of_le (val_lt hf) (Nat.pow_le_pow_right B_pos hl)

end Go.Proofs.YtokojbgpboccnaaGreat

namespace Go.Proofs.YtokojbgpboccnaaGreat
open Go.RowKit
open Num
set_option linter.unusedVariables false
set_option maxRecDepth 100000
set_option linter.unusedSimpArgs false
end Go.Proofs.YtokojbgpboccnaaGreat
