import Derived.Test.YtokojbgpboccnaaBunProofSturmOwn5
import Derived.ProofKit
import Derived.OpenShut
import Derived.ShutString
namespace Go.Proofs.Ytokojbgpboccnaa
open Go.ChangeShapes Go.WideShapes Go.ChangeAt Go.RowKit
open Go.ChangeMaps (open_string shut_string)
open Num
set_option linter.unusedVariables false
set_option linter.unusedSimpArgs false

/-- An error by its number; 0: none. -/
def errv (k : Int) : Value := if k = 0 then .nilIface else errno k
theorem errv_zero : errv 0 = .nilIface := rfl
theorem errv_some {k : Int} (h : k ≠ 0) : errv k = errno k := by simp [errv, h]
theorem errv_neq (k : Int) (w : World) : (binOp .neq 26 (errv k) .nilIface).run Try.prog w = .ok (.bool (k != 0)) w := by
  by_cases h : k = 0
  · subst h; rw [errv_zero]; simp [go_sem]
  · rw [errv_some h]; simp [go_sem, h]
theorem errv_eql (k : Int) (w : World) : (binOp .eql 26 (errv k) .nilIface).run Try.prog w = .ok (.bool (k == 0)) w := by
  by_cases h : k = 0
  · subst h; rw [errv_zero]; simp [go_sem]
  · rw [errv_some h]; simp [go_sem, h]

theorem errv_guard (op : BinOp) (t : Nat) (k : Int) (w : World) : (eqGuard op 26 (.tmp t) (.const .nilIface) (errv k) .nilIface).run Try.prog w = .ok () w := by
  by_cases h : k = 0
  · subst h; rw [errv_zero]; cases op <;> simp [go_sem]
  · rw [errv_some h]; cases op <;> simp [go_sem]

theorem Bad.ne {s : ByteArray} {k : Int} (h : Bad s k) : k ≠ 0 := by
  rcases h with ⟨_, rfl⟩ | ⟨_, _, rfl⟩ <;> decide
theorem Wrong.ne {a b : ByteArray} {k : Int} (h : Wrong a b k) : k ≠ 0 := by
  rcases h with h | ⟨_, h⟩ <;> exact h.ne
theorem Bad.not {s : ByteArray} {k : Int} (h : Bad s k) : ¬ Good s := by
  rintro ⟨h1, h2⟩
  rcases h with ⟨h, _⟩ | ⟨_, h, _⟩
  · omega
  · rw [h] at h2; cases h2
theorem Wrong.not {a b : ByteArray} {k : Int} (h : Wrong a b k) : ¬ (Good a ∧ Good b) := by
  rintro ⟨h1, h2⟩
  rcases h with h | ⟨_, h⟩
  · exact h.not h1
  · exact h.not h2

/-- What a function of two naturals tells: the text of f, or nothing and an error. -/
def Tells (f : Nat → Nat → Nat) (a b s : ByteArray) (k : Int) : Prop :=
  (k = 0 ∧ Good a ∧ Good b ∧ s = txt (f (num a) (num b))) ∨ (k ≠ 0 ∧ Wrong a b k ∧ s = ⟨#[]⟩)
theorem Tells.yes {f : Nat → Nat → Nat} {a b s : ByteArray} {k : Int} (h : Tells f a b s k) (hk : k = 0) : Good a ∧ Good b ∧ s = txt (f (num a) (num b)) := by
  rcases h with ⟨_, h⟩ | ⟨h, _⟩
  · exact h
  · exact absurd hk h
theorem Tells.zero {f : Nat → Nat → Nat} {a b s : ByteArray} {k : Int} (h : Tells f a b s k) (ha : Good a) (hb : Good b) : k = 0 := by
  rcases h with ⟨h, _⟩ | ⟨_, h, _⟩
  · exact h
  · exact absurd ⟨ha, hb⟩ h.not
theorem Tells.no {f : Nat → Nat → Nat} {a b s : ByteArray} {k : Int} (h : Tells f a b s k) (hk : k ≠ 0) : Wrong a b k ∧ s = ⟨#[]⟩ := by
  rcases h with ⟨h, _⟩ | ⟨_, h⟩
  · exact absurd h hk
  · exact h

end Go.Proofs.Ytokojbgpboccnaa
