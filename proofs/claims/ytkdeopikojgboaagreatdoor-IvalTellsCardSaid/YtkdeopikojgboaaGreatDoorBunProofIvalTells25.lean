import Derived.Test.YtkdeopikojgboaaGreatDoorBunProofIvalTells11
import Derived.Test.YtkdeopikojgboaaGreatDoorBunProofIvalTells14
import Derived.Lib.SmallJoins
/-
  AN INTERVAL THAT IS HANDED IN: two strings by value, opened and shut.
-/
namespace Go.Proofs.YtkdeopikojgboaaGreatDoor
open Go.ChangeShapes Go.WideShapes Go.ChangeAt Go.RowKit Go.Joins
open Go.ChangeMaps (open_string shut_string)
set_option linter.unusedVariables false

set_option maxRecDepth 100000 in
theorem open_ival {H : Type} {enc : TypeId × Value → H} {w : World} {base : Nat} {sp : Nat → Bool} {held : Bool} {r : Reach} {b0 : Nat} {v : Value} {d : DataW H} {ps : List MemPlace} (hval : Value.okWide Tryz.prog w r b0 23 v) (hd : DataW.Trod enc Tryz.prog w base sp held 23 v d ps) :
    ∃ a b : ByteArray, v = .agg #[.string a, .string b] ∧ d = .agg [.lit (.string a.data.toList), .lit (.string b.data.toList)] ∧ ps = [] ∧ a.size ≤ maxLen ∧ b.size ≤ maxLen := by
  obtain ⟨v0, v1, y0, y1, n, rfl, rfl, rfl, h0, h1⟩ := open_agg2 Tryz.underlying23 (by kernel_rfl) (by kernel_rfl) hval hd
  obtain ⟨s, e1, rfl, hs⟩ := DataW.trod_string Tryz.underlying9 h0
  obtain ⟨t, e2, rfl, ht⟩ := DataW.trod_string Tryz.underlying9 h1
  simp only [List.cons.injEq, and_true] at e1 e2
  subst e1 e2
  exact ⟨s, t, rfl, rfl, rfl, hs, ht⟩
set_option maxRecDepth 100000 in
theorem shut_ival {H : Type} {enc : TypeId × Value → H} {w : World} {base : Nat} {sp : Nat → Bool} {held : Bool} {a b : ByteArray} (ha : a.size ≤ maxLen) (hb : b.size ≤ maxLen) :
    DataW.Trod enc Tryz.prog w base sp held 23 (.agg #[.string a, .string b]) (.agg [.lit (.string a.data.toList), .lit (.string b.data.toList)]) [] :=
  shut_agg2 (y0 := (.lit (.string a.data.toList), [])) (y1 := (.lit (.string b.data.toList), [])) Tryz.underlying23 (by kernel_rfl) (by kernel_rfl)
    (shut_string (P := Tryz.prog) (s := a) Tryz.underlying9 ha) (shut_string (P := Tryz.prog) (s := b) Tryz.underlying9 hb)

end Go.Proofs.YtkdeopikojgboaaGreatDoor
