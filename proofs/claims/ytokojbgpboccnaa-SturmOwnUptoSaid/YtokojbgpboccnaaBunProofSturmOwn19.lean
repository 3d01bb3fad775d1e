import Derived.Test.YtokojbgpboccnaaBunProofSturmOwn16
import Derived.Test.YtokojbgpboccnaaBunProofSturmOwn4
import Derived.Test.YtokojbgpboccnaaBunProofSturmOwn12
import Derived.Deep.DeepCutAuto
/-
  PACKAGE pgcd: gcd.
-/
namespace Go.Proofs.Ytokojbgpboccnaa
open Go.RowKit
open Num
set_option linter.unusedVariables false
set_option maxRecDepth 100000
set_option linter.unusedSimpArgs false
theorem IN.bx2 {w : World} {v : Value} {l : List Int} {g : Nat} {s : Bool} {sv : Value} (h : IN w v l) (hx : Box w g s sv) (hne : l = [] ∨ v.ownBlock ≠ some g) (s' : Bool) (p : Option Addr) (n c : Nat) : IN ((w.setCell ⟨g, 0, none⟩ (.bool s')).setCell ⟨g, 1, none⟩ (.slice p n c)) v l := by
  obtain ⟨a, c', rs, h1, h2, h3, h4⟩ := h
  refine ⟨a, c', rs, h1, h2, h3, fun i hi => ?_⟩
  obtain ⟨b, e, hl, hA, hq⟩ := h4 i hi
  have hbg : b ≠ g := by
    rintro rfl
    subst e
    rcases hne with rfl | hne
    · simp at hi
    · rw [h1] at hne
      exact hne (by simp [Value.ownBlock])
  have hni : NoInt w g := by
    intro cur T f hh u hu
    rw [show w.heap[g]? = _ from hx.1] at hh
    cases hh
    obtain ⟨p0, n0, c0, rfl⟩ := hx.2
    simp at hu
    rcases hu with rfl | rfl
    · exact NI.bool _
    · exact NI.slc _ _ _
  exact ⟨b, e, by simpa [World.setCell] using hl, hA.kept (heap2 hbg _ _), hq.grown hni ⟨rfl, rfl, rfl, by simp [World.setCell], fun k _ hk => heap2 (fun e => hk (by rw [e])) _ _⟩⟩
/-- It lies apart from two boxes. -/
def Apt (v : Value) (l : List Int) (g5 : Nat) : Prop := l = [] ∨ ∀ g, g5 ≤ g → g ≤ g5 + 1 → v.ownBlock ≠ some g
theorem Apt.one {v : Value} {l : List Int} {g5 : Nat} (h : Apt v l g5) {g : Nat} (h1 : g5 ≤ g) (h2 : g ≤ g5 + 1) : l = [] ∨ v.ownBlock ≠ some g := h.imp id fun h => h g h1 h2
end Go.Proofs.Ytokojbgpboccnaa

/-
  PACKAGE pgcd: gcd, in whatever order.
-/
namespace Go.Proofs.Ytokojbgpboccnaa
open Go.RowKit
open Num
set_option linter.unusedVariables false
set_option maxRecDepth 100000
set_option linter.unusedSimpArgs false

end Go.Proofs.Ytokojbgpboccnaa
