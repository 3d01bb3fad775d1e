import Derived.Test.YtkdeopikojgboaaGreatDoorBunProofIvalTells22
import Derived.Test.YtkdeopikojgboaaGreatDoorBunProofIvalTells20
import Derived.Test.YtkdeopikojgboaaGreatDoorBunProofIvalTells13
import Derived.Test.YtkdeopikojgboaaGreatDoorBunProofIvalTells21
import Derived.Deep.DeepCutAuto
import Derived.ChangeKeysEq
/-
  IvalTells: what its walk stands on.
-/
namespace Go.Proofs.YtkdeopikojgboaaGreatDoor
open Go.RowKit
open Num4
open Num (dg isNat dval)
set_option linter.unusedVariables false
set_option maxRecDepth 100000
set_option linter.unusedSimpArgs false

theorem good_pos {c d : ByteArray} (h : GoodI c d) (h0 : 0 < qnum c) : ¬ (qnum c ≤ 0 ∧ 0 ≤ qnum d) ∧ qnum c ≠ 0 ∧ qnum d ≠ 0 := by
  have := h.2.2
  refine ⟨?_, ?_, ?_⟩ <;> grind
theorem good_neg0 {c d : ByteArray} (h : GoodI c d) (h0 : qnum d < 0) : ¬ (qnum c ≤ 0 ∧ 0 ≤ qnum d) ∧ qnum c ≠ 0 ∧ qnum d ≠ 0 := by
  have := h.2.2
  refine ⟨?_, ?_, ?_⟩ <;> grind
theorem sgn_le (q : Rat) : q.num.sign ≤ 0 ↔ q ≤ 0 := by
  have h := rsg_gt q 0
  have e : q - 0 = q := by grind
  rw [e] at h
  constructor
  · intro h1; have := mt h.2; grind
  · intro h1; have h2 : ¬ 0 < q.num.sign := fun e => absurd (h.1 e) (by grind)
    omega
theorem sgn_ge (q : Rat) : 0 ≤ q.num.sign ↔ 0 ≤ q := by
  have h := rsg_lt q 0
  have e : q - 0 = q := by grind
  rw [e] at h
  constructor
  · intro h1; have h2 : ¬ q < 0 := fun e => by have := h.2 e; omega
    grind
  · intro h1; have h2 : ¬ q.num.sign < 0 := fun e => absurd (h.1 e) (by grind)
    omega

/-- A block of eight cells: four intervals. -/
def Wbx (w : World) (g : Nat) (t0 t1 t2 t3 t4 t5 t6 t7 : ByteArray) : Prop := w.heap[g]? = some (.cells #[.string t0, .string t1, .string t2, .string t3, .string t4, .string t5, .string t6, .string t7] 44 (0, 0))
theorem Wbx.lt {w : World} {g : Nat} {t0 t1 t2 t3 t4 t5 t6 t7 : ByteArray} (h : Wbx w g t0 t1 t2 t3 t4 t5 t6 t7) : g < w.heap.size := lt_of_block h
theorem Wbx.cells {w : World} {g : Nat} {t0 t1 t2 t3 t4 t5 t6 t7 : ByteArray} (h : Wbx w g t0 t1 t2 t3 t4 t5 t6 t7) : w.cell? ⟨g, 0, none⟩ = some (.string t0) ∧ w.cell? ⟨g, 1, none⟩ = some (.string t1) ∧ w.cell? ⟨g, 2, none⟩ = some (.string t2) ∧ w.cell? ⟨g, 3, none⟩ = some (.string t3) ∧ w.cell? ⟨g, 4, none⟩ = some (.string t4) ∧ w.cell? ⟨g, 5, none⟩ = some (.string t5) ∧ w.cell? ⟨g, 6, none⟩ = some (.string t6) ∧ w.cell? ⟨g, 7, none⟩ = some (.string t7) := by
  have hh : w.heap[g]? = some (.cells #[.string t0, .string t1, .string t2, .string t3, .string t4, .string t5, .string t6, .string t7] 44 (0, 0)) := h
  refine ⟨?_, ?_, ?_, ?_, ?_, ?_, ?_, ?_⟩ <;> simp [World.cell?, hh]
theorem Wbx.free {w : World} {g : Nat} {t0 t1 t2 t3 t4 t5 t6 t7 : ByteArray} (h : Wbx w g t0 t1 t2 t3 t4 t5 t6 t7) (i : Nat) : w.frozen? ⟨g, i, none⟩ = false := by
  have hh : w.heap[g]? = some (.cells #[.string t0, .string t1, .string t2, .string t3, .string t4, .string t5, .string t6, .string t7] 44 (0, 0)) := h
  simp [World.frozen?, hh]
theorem Wbx.below {w w' : World} {g K : Nat} {t0 t1 t2 t3 t4 t5 t6 t7 : ByteArray} (h : Wbx w g t0 t1 t2 t3 t4 t5 t6 t7) (hb : Below K w w') (hK : g < K) : Wbx w' g t0 t1 t2 t3 t4 t5 t6 t7 := (hb.block g hK).trans h
theorem Wbx.dr {w : World} {g : Nat} {t0 t1 t2 t3 t4 t5 t6 t7 : ByteArray} (h : Wbx w g t0 t1 t2 t3 t4 t5 t6 t7) : Wbx w.drew g t0 t1 t2 t3 t4 t5 t6 t7 := h
theorem Wbx.new (w : World) (t0 t1 t2 t3 t4 t5 t6 t7 : ByteArray) : Wbx (w.alloc (.cells #[.string t0, .string t1, .string t2, .string t3, .string t4, .string t5, .string t6, .string t7] 44)) w.heap.size t0 t1 t2 t3 t4 t5 t6 t7 := by
  show (w.heap.push _)[w.heap.size]? = _
  simp
theorem Wbx.other {w : World} {g g2 : Nat} {t0 t1 t2 t3 t4 t5 t6 t7 : ByteArray} (h : Wbx w g t0 t1 t2 t3 t4 t5 t6 t7) (hne : g ≠ g2) (i : Nat) (v : Value) : Wbx (w.setCell ⟨g2, i, none⟩ v) g t0 t1 t2 t3 t4 t5 t6 t7 := by
  show (w.setCell ⟨g2, i, none⟩ v).heap[g]? = _
  rw [Below.heap_setCell _ _ _ _ (by exact hne)]; exact h
theorem Wbx.set0 {w : World} {g : Nat} {t0 t1 t2 t3 t4 t5 t6 t7 : ByteArray} (h : Wbx w g t0 t1 t2 t3 t4 t5 t6 t7) (x : ByteArray) : Wbx (w.setCell ⟨g, 0, none⟩ (.string x)) g x t1 t2 t3 t4 t5 t6 t7 := by
  have hh : w.heap[g]? = some (.cells #[.string t0, .string t1, .string t2, .string t3, .string t4, .string t5, .string t6, .string t7] 44 (0, 0)) := h
  show (w.setCell ⟨g, 0, none⟩ (.string x)).heap[g]? = _
  simp only [World.setCell, Array.getElem?_modify, hh]
  simp
theorem Wbx.set1 {w : World} {g : Nat} {t0 t1 t2 t3 t4 t5 t6 t7 : ByteArray} (h : Wbx w g t0 t1 t2 t3 t4 t5 t6 t7) (x : ByteArray) : Wbx (w.setCell ⟨g, 1, none⟩ (.string x)) g t0 x t2 t3 t4 t5 t6 t7 := by
  have hh : w.heap[g]? = some (.cells #[.string t0, .string t1, .string t2, .string t3, .string t4, .string t5, .string t6, .string t7] 44 (0, 0)) := h
  show (w.setCell ⟨g, 1, none⟩ (.string x)).heap[g]? = _
  simp only [World.setCell, Array.getElem?_modify, hh]
  simp
theorem Wbx.set2 {w : World} {g : Nat} {t0 t1 t2 t3 t4 t5 t6 t7 : ByteArray} (h : Wbx w g t0 t1 t2 t3 t4 t5 t6 t7) (x : ByteArray) : Wbx (w.setCell ⟨g, 2, none⟩ (.string x)) g t0 t1 x t3 t4 t5 t6 t7 := by
  have hh : w.heap[g]? = some (.cells #[.string t0, .string t1, .string t2, .string t3, .string t4, .string t5, .string t6, .string t7] 44 (0, 0)) := h
  show (w.setCell ⟨g, 2, none⟩ (.string x)).heap[g]? = _
  simp only [World.setCell, Array.getElem?_modify, hh]
  simp
theorem Wbx.set3 {w : World} {g : Nat} {t0 t1 t2 t3 t4 t5 t6 t7 : ByteArray} (h : Wbx w g t0 t1 t2 t3 t4 t5 t6 t7) (x : ByteArray) : Wbx (w.setCell ⟨g, 3, none⟩ (.string x)) g t0 t1 t2 x t4 t5 t6 t7 := by
  have hh : w.heap[g]? = some (.cells #[.string t0, .string t1, .string t2, .string t3, .string t4, .string t5, .string t6, .string t7] 44 (0, 0)) := h
  show (w.setCell ⟨g, 3, none⟩ (.string x)).heap[g]? = _
  simp only [World.setCell, Array.getElem?_modify, hh]
  simp
theorem Wbx.set4 {w : World} {g : Nat} {t0 t1 t2 t3 t4 t5 t6 t7 : ByteArray} (h : Wbx w g t0 t1 t2 t3 t4 t5 t6 t7) (x : ByteArray) : Wbx (w.setCell ⟨g, 4, none⟩ (.string x)) g t0 t1 t2 t3 x t5 t6 t7 := by
  have hh : w.heap[g]? = some (.cells #[.string t0, .string t1, .string t2, .string t3, .string t4, .string t5, .string t6, .string t7] 44 (0, 0)) := h
  show (w.setCell ⟨g, 4, none⟩ (.string x)).heap[g]? = _
  simp only [World.setCell, Array.getElem?_modify, hh]
  simp
theorem Wbx.set5 {w : World} {g : Nat} {t0 t1 t2 t3 t4 t5 t6 t7 : ByteArray} (h : Wbx w g t0 t1 t2 t3 t4 t5 t6 t7) (x : ByteArray) : Wbx (w.setCell ⟨g, 5, none⟩ (.string x)) g t0 t1 t2 t3 t4 x t6 t7 := by
  have hh : w.heap[g]? = some (.cells #[.string t0, .string t1, .string t2, .string t3, .string t4, .string t5, .string t6, .string t7] 44 (0, 0)) := h
  show (w.setCell ⟨g, 5, none⟩ (.string x)).heap[g]? = _
  simp only [World.setCell, Array.getElem?_modify, hh]
  simp
theorem Wbx.set6 {w : World} {g : Nat} {t0 t1 t2 t3 t4 t5 t6 t7 : ByteArray} (h : Wbx w g t0 t1 t2 t3 t4 t5 t6 t7) (x : ByteArray) : Wbx (w.setCell ⟨g, 6, none⟩ (.string x)) g t0 t1 t2 t3 t4 t5 x t7 := by
  have hh : w.heap[g]? = some (.cells #[.string t0, .string t1, .string t2, .string t3, .string t4, .string t5, .string t6, .string t7] 44 (0, 0)) := h
  show (w.setCell ⟨g, 6, none⟩ (.string x)).heap[g]? = _
  simp only [World.setCell, Array.getElem?_modify, hh]
  simp
theorem Wbx.set7 {w : World} {g : Nat} {t0 t1 t2 t3 t4 t5 t6 t7 : ByteArray} (h : Wbx w g t0 t1 t2 t3 t4 t5 t6 t7) (x : ByteArray) : Wbx (w.setCell ⟨g, 7, none⟩ (.string x)) g t0 t1 t2 t3 t4 t5 t6 x := by
  have hh : w.heap[g]? = some (.cells #[.string t0, .string t1, .string t2, .string t3, .string t4, .string t5, .string t6, .string t7] 44 (0, 0)) := h
  show (w.setCell ⟨g, 7, none⟩ (.string x)).heap[g]? = _
  simp only [World.setCell, Array.getElem?_modify, hh]
  simp
theorem LimR.wbx {w : World} {v : Value} {xs : List Nat} {g : Nat} {t0 t1 t2 t3 t4 t5 t6 t7 : ByteArray} (h : LimR w v xs) (hx : Wbx w g t0 t1 t2 t3 t4 t5 t6 t7) (i : Nat) (u : Value) : LimR (w.setCell ⟨g, i, none⟩ u) v xs := by
  have hg : w.heap[g]? = some (.cells #[.string t0, .string t1, .string t2, .string t3, .string t4, .string t5, .string t6, .string t7] 44 (0, 0)) := hx
  obtain ⟨h1, p, c, h2, h3, h4, h5⟩ := h
  refine ⟨h1, p, c, h2, h3, h4, ?_⟩
  rcases h5 with h5 | ⟨bk, off, h6, h7, h8⟩
  · exact .inl h5
  · refine .inr ⟨bk, off, h6, by simpa [World.setCell] using h7, fun i hi => ?_⟩
    have h9 := h8 i hi
    by_cases hb : bk = g
    · subst hb
      simp only [World.cell?, hg] at h9
      have hh : ∀ k : Nat, (#[Value.string t0, Value.string t1, Value.string t2, Value.string t3, Value.string t4, Value.string t5, Value.string t6, Value.string t7] : Array Value)[k]? ≠ some (.int .i64 (dg xs i)) := by
        intro k
        rcases k with _ | _ | _ | _ | _ | _ | _ | _ | k <;> simp
      exact absurd h9 (hh _)
    · rw [← h9]
      exact World.cell?_of_block (Below.heap_setCell _ _ _ _ (by exact hb))
theorem WhlR.wbx {w : World} {v : Value} {z : Int} {k g : Nat} {t0 t1 t2 t3 t4 t5 t6 t7 : ByteArray} (h : WhlR w v z k) (hx : Wbx w g t0 t1 t2 t3 t4 t5 t6 t7) (i : Nat) (u : Value) : WhlR (w.setCell ⟨g, i, none⟩ u) v z k := by
  obtain ⟨s', sv', xs, h1, h2, h3⟩ := h
  exact ⟨s', sv', xs, h1, h2.wbx hx i u, h3⟩
theorem Wbx.stores0 {w : World} {g : Nat} {t0 t1 t2 t3 t4 t5 t6 t7 : ByteArray} (h : Wbx w g t0 t1 t2 t3 t4 t5 t6 t7) : w.cell? ⟨g, 0, none⟩ = some (.string t0) ∧ w.frozen? ⟨g, 0, none⟩ = false ∧ (∀ x, (w.setCell ⟨g, 0, none⟩ (.string x)).cell? ⟨g, 1, none⟩ = some (.string t1)) ∧ (∀ x, (w.setCell ⟨g, 0, none⟩ (.string x)).frozen? ⟨g, 1, none⟩ = false) :=
  ⟨h.cells.1, h.free 0, fun x => (h.set0 x).cells.2.1, fun x => (h.set0 x).free 1⟩
theorem Wbx.put0 {w0 w : World} {g K : Nat} {t0 t1 t2 t3 t4 t5 t6 t7 : ByteArray} (h : Wbx w g t0 t1 t2 t3 t4 t5 t6 t7) (hb : Below K w0 w) (hg : K ≤ g) (x y : ByteArray) : Wbx ((w.setCell ⟨g, 0, none⟩ (.string x)).setCell ⟨g, 1, none⟩ (.string y)) g x y t2 t3 t4 t5 t6 t7 ∧ Below K w0 ((w.setCell ⟨g, 0, none⟩ (.string x)).setCell ⟨g, 1, none⟩ (.string y)) ∧ (∀ {v z k}, WhlR w v z k → WhlR ((w.setCell ⟨g, 0, none⟩ (.string x)).setCell ⟨g, 1, none⟩ (.string y)) v z k) :=
  ⟨(h.set0 x).set1 y, (hb.setCell (p := ⟨g, 0, none⟩) hg _).setCell (p := ⟨g, 1, none⟩) hg _, fun hv => (hv.wbx h _ _).wbx (h.set0 x) _ _⟩
theorem Wbx.stores1 {w : World} {g : Nat} {t0 t1 t2 t3 t4 t5 t6 t7 : ByteArray} (h : Wbx w g t0 t1 t2 t3 t4 t5 t6 t7) : w.cell? ⟨g, 2, none⟩ = some (.string t2) ∧ w.frozen? ⟨g, 2, none⟩ = false ∧ (∀ x, (w.setCell ⟨g, 2, none⟩ (.string x)).cell? ⟨g, 3, none⟩ = some (.string t3)) ∧ (∀ x, (w.setCell ⟨g, 2, none⟩ (.string x)).frozen? ⟨g, 3, none⟩ = false) :=
  ⟨h.cells.2.2.1, h.free 2, fun x => (h.set2 x).cells.2.2.2.1, fun x => (h.set2 x).free 3⟩
theorem Wbx.put1 {w0 w : World} {g K : Nat} {t0 t1 t2 t3 t4 t5 t6 t7 : ByteArray} (h : Wbx w g t0 t1 t2 t3 t4 t5 t6 t7) (hb : Below K w0 w) (hg : K ≤ g) (x y : ByteArray) : Wbx ((w.setCell ⟨g, 2, none⟩ (.string x)).setCell ⟨g, 3, none⟩ (.string y)) g t0 t1 x y t4 t5 t6 t7 ∧ Below K w0 ((w.setCell ⟨g, 2, none⟩ (.string x)).setCell ⟨g, 3, none⟩ (.string y)) ∧ (∀ {v z k}, WhlR w v z k → WhlR ((w.setCell ⟨g, 2, none⟩ (.string x)).setCell ⟨g, 3, none⟩ (.string y)) v z k) :=
  ⟨(h.set2 x).set3 y, (hb.setCell (p := ⟨g, 2, none⟩) hg _).setCell (p := ⟨g, 3, none⟩) hg _, fun hv => (hv.wbx h _ _).wbx (h.set2 x) _ _⟩
theorem Wbx.stores2 {w : World} {g : Nat} {t0 t1 t2 t3 t4 t5 t6 t7 : ByteArray} (h : Wbx w g t0 t1 t2 t3 t4 t5 t6 t7) : w.cell? ⟨g, 4, none⟩ = some (.string t4) ∧ w.frozen? ⟨g, 4, none⟩ = false ∧ (∀ x, (w.setCell ⟨g, 4, none⟩ (.string x)).cell? ⟨g, 5, none⟩ = some (.string t5)) ∧ (∀ x, (w.setCell ⟨g, 4, none⟩ (.string x)).frozen? ⟨g, 5, none⟩ = false) :=
  ⟨h.cells.2.2.2.2.1, h.free 4, fun x => (h.set4 x).cells.2.2.2.2.2.1, fun x => (h.set4 x).free 5⟩
theorem Wbx.put2 {w0 w : World} {g K : Nat} {t0 t1 t2 t3 t4 t5 t6 t7 : ByteArray} (h : Wbx w g t0 t1 t2 t3 t4 t5 t6 t7) (hb : Below K w0 w) (hg : K ≤ g) (x y : ByteArray) : Wbx ((w.setCell ⟨g, 4, none⟩ (.string x)).setCell ⟨g, 5, none⟩ (.string y)) g t0 t1 t2 t3 x y t6 t7 ∧ Below K w0 ((w.setCell ⟨g, 4, none⟩ (.string x)).setCell ⟨g, 5, none⟩ (.string y)) ∧ (∀ {v z k}, WhlR w v z k → WhlR ((w.setCell ⟨g, 4, none⟩ (.string x)).setCell ⟨g, 5, none⟩ (.string y)) v z k) :=
  ⟨(h.set4 x).set5 y, (hb.setCell (p := ⟨g, 4, none⟩) hg _).setCell (p := ⟨g, 5, none⟩) hg _, fun hv => (hv.wbx h _ _).wbx (h.set4 x) _ _⟩
theorem Wbx.stores3 {w : World} {g : Nat} {t0 t1 t2 t3 t4 t5 t6 t7 : ByteArray} (h : Wbx w g t0 t1 t2 t3 t4 t5 t6 t7) : w.cell? ⟨g, 6, none⟩ = some (.string t6) ∧ w.frozen? ⟨g, 6, none⟩ = false ∧ (∀ x, (w.setCell ⟨g, 6, none⟩ (.string x)).cell? ⟨g, 7, none⟩ = some (.string t7)) ∧ (∀ x, (w.setCell ⟨g, 6, none⟩ (.string x)).frozen? ⟨g, 7, none⟩ = false) :=
  ⟨h.cells.2.2.2.2.2.2.1, h.free 6, fun x => (h.set6 x).cells.2.2.2.2.2.2.2, fun x => (h.set6 x).free 7⟩
theorem Wbx.put3 {w0 w : World} {g K : Nat} {t0 t1 t2 t3 t4 t5 t6 t7 : ByteArray} (h : Wbx w g t0 t1 t2 t3 t4 t5 t6 t7) (hb : Below K w0 w) (hg : K ≤ g) (x y : ByteArray) : Wbx ((w.setCell ⟨g, 6, none⟩ (.string x)).setCell ⟨g, 7, none⟩ (.string y)) g t0 t1 t2 t3 t4 t5 x y ∧ Below K w0 ((w.setCell ⟨g, 6, none⟩ (.string x)).setCell ⟨g, 7, none⟩ (.string y)) ∧ (∀ {v z k}, WhlR w v z k → WhlR ((w.setCell ⟨g, 6, none⟩ (.string x)).setCell ⟨g, 7, none⟩ (.string y)) v z k) :=
  ⟨(h.set6 x).set7 y, (hb.setCell (p := ⟨g, 6, none⟩) hg _).setCell (p := ⟨g, 7, none⟩) hg _, fun hv => (hv.wbx h _ _).wbx (h.set6 x) _ _⟩
theorem load_want {w : World} {g : Nat} {t0 t1 t2 t3 t4 t5 t6 t7 : ByteArray} (h : Wbx w g t0 t1 t2 t3 t4 t5 t6 t7) : (loadVar 44 ⟨g, 0, none⟩).run Tryz.prog w = .ok (.agg #[.string t0, .string t1, .string t2, .string t3, .string t4, .string t5, .string t6, .string t7]) w := by
  obtain ⟨h0, h1, h2, h3, h4, h5, h6, h7⟩ := h.cells
  simp [go_sem, h0, h1, h2, h3, h4, h5, h6, h7]
theorem ux {w w' : World} {g : Nat} {t0 t1 t2 t3 t4 t5 t6 t7 : ByteArray} (h : Hid (Wbx w g t0 t1 t2 t3 t4 t5 t6 t7)) (hb : Below w.heap.size w w') : Hid (Wbx w' g t0 t1 t2 t3 t4 t5 t6 t7) := hid (h.out.below hb h.out.lt)

theorem pair_same (a b : ByteArray) (w : World) : (Op.equalIn 9999 23 (.agg #[.string a, .string b]) (.agg #[.string a, .string b])).run Tryz.prog w = .ok true w := by
  go_simp
theorem part_at (t0 t1 t2 t3 t4 t5 t6 t7 : ByteArray) (w : World) :
    (part 23 #[.string t0, .string t1, .string t2, .string t3, .string t4, .string t5, .string t6, .string t7] 0).run Tryz.prog w = .ok (.agg #[.string t0, .string t1]) w ∧
    (part 23 #[.string t0, .string t1, .string t2, .string t3, .string t4, .string t5, .string t6, .string t7] 2).run Tryz.prog w = .ok (.agg #[.string t2, .string t3]) w ∧
    (part 23 #[.string t0, .string t1, .string t2, .string t3, .string t4, .string t5, .string t6, .string t7] 4).run Tryz.prog w = .ok (.agg #[.string t4, .string t5]) w ∧
    (part 23 #[.string t0, .string t1, .string t2, .string t3, .string t4, .string t5, .string t6, .string t7] 6).run Tryz.prog w = .ok (.agg #[.string t6, .string t7]) w := by
  refine ⟨?_, ?_, ?_, ?_⟩ <;> kernel_rfl
theorem cells_ival : Tryz.prog.cellsOf 23 = 2 := by kernel_rfl
theorem want_same (t0 t1 t2 t3 t4 t5 t6 t7 : ByteArray) (w : World) : (Op.equalIn 10000 44 (.agg #[.string t0, .string t1, .string t2, .string t3, .string t4, .string t5, .string t6, .string t7]) (.agg #[.string t0, .string t1, .string t2, .string t3, .string t4, .string t5, .string t6, .string t7])).run Tryz.prog w = .ok true w := by
  obtain ⟨i, hi⟩ : ∃ i, Tryz.prog.info? 23 = some i := Option.isSome_iff_exists.1 (by kernel_rfl)
  rw [show (10000 : Nat) = 9999 + 1 from rfl, run_equalIn_array w 9999 _ _ Tryz.underlying44 hi, cells_ival]
  obtain ⟨p0, p1, p2, p3⟩ := part_at t0 t1 t2 t3 t4 t5 t6 t7 w
  show (Op.eqItems 9999 23 2 _ _ [0, 1, 2, 3]).run _ _ = _
  simp only [Op.eqItems, Sem.run_bind, p0, p1, p2, p3, Nat.zero_mul, Nat.one_mul, Nat.reduceMul, Result.andThen_ok, pair_same, Bool.not_true, Bool.false_eq_true, if_false, Sem.run_pure]

theorem rends4 {w : World} {g : Nat} {a b c d : Rat} {k : Nat} (h : Qrw w g 4 (sel4 a b c d) k) (hk : k ≤ 1073741824) :
    Calls Tryz.prog 14 #[.slice (some ⟨g, 0, none⟩) 4 4] w fun e w' => e = .returned (.agg #[.string (qtxt (lo4 a b c d)), .string (qtxt (hi4 a b c d))]) ∧ Below w.heap.size w w' :=
  rends h (by decide) (by decide) hk
/-- A number that is read, whatever it is: by the reference, by Has of a good interval. -/
def XTells (a b x : ByteArray) (f : Int) (t : Bool) : Prop := (f = 0 ∧ GoodQ x ∧ t = decide (qnum a ≤ qnum x ∧ qnum x ≤ qnum b)) ∨ (f ≠ 0 ∧ BadQ x f ∧ t = false)
theorem x_any (a b x : ByteArray) : ∃ f t, XTells a b x f t := by
  rcases goodQ_or_bad x with h | ⟨k, h⟩
  · exact ⟨0, _, .inl ⟨rfl, h, rfl⟩⟩
  · exact ⟨k, false, .inr ⟨h.ne, h, rfl⟩⟩
theorem ratof_x {a b x : ByteArray} {f : Int} {t : Bool} (h : XTells a b x f t) (hx : x.size ≤ maxLen) (w : World) :
    Calls Tryz.prog 8 #[.string x] w fun e w' => ∃ s p n c p' n' c', e = .returned (.tuple #[.agg #[.bool s, .slice p n c, .slice p' n' c'], .int .i64 f]) ∧ (f = 0 → QR w' (.agg #[.bool s, .slice p n c, .slice p' n' c']) (qnum x) 100) ∧ Below w.heap.size w w' := by
  rcases h with ⟨rfl, h, _⟩ | ⟨hf, h, _⟩
  · refine (ratof_good h w).mono ?_
    rintro e w' ⟨v, rfl, hv, hb⟩
    obtain ⟨s, p, n, c, p', n', c', rfl⟩ := hv.opened
    exact ⟨_, _, _, _, _, _, _, rfl, fun _ => hv, hb⟩
  · refine (ratof_bad h w hx).mono ?_
    rintro e w' ⟨s, p, n, c, p', n', c', rfl, hb⟩
    exact ⟨_, _, _, _, _, _, _, rfl, fun e => absurd e hf, hb⟩
theorem has_x {a b x : ByteArray} {f : Int} {t : Bool} (h : XTells a b x f t) (hg : GoodI a b) (hx : x.size ≤ maxLen) (w : World) :
    Calls Tryz.prog 10 #[.agg #[.string a, .string b], .string x] w fun e w' => e = .returned (.tuple #[.bool t, errv f]) ∧ Below w.heap.size w w' := by
  rcases h with ⟨rfl, h, rfl⟩ | ⟨hf, h, rfl⟩
  · exact ihas_c hg h w
  · rw [errv_some hf]; exact ihas_b hg h hx w
theorem same_any (k : Int) (w : World) (hd : Door w) : Calls Tryz.prog 6 #[errv k, .int .i64 k] w fun r w' => r = .returned (.bool true) ∧ Below w.heap.size w w' := by
  have h := same_error k k w hd
  rw [beq_self_eq_true] at h
  exact h
theorem ratof_any (x : ByteArray) (hx : x.size ≤ maxLen) (w : World) :
    Calls Tryz.prog 8 #[.string x] w fun e w' => ∃ s p n c p' n' c' f, e = .returned (.tuple #[.agg #[.bool s, .slice p n c, .slice p' n' c'], .int .i64 f]) ∧ Below w.heap.size w w' := by
  obtain ⟨f, t, h⟩ := x_any x x x
  refine (ratof_x h hx w).mono ?_
  rintro e w' ⟨s, p, n, c, p', n', c', rfl, _, hb⟩
  exact ⟨_, _, _, _, _, _, _, _, rfl, hb⟩
theorem rival_any (a b : ByteArray) (ha : a.size ≤ maxLen) (hb0 : b.size ≤ maxLen) (w : World) :
    Calls Tryz.prog 5 #[.agg #[.string a, .string b]] w fun e w' => ∃ s5a p5a n5a c5a p5b n5b c5b s6a p6a n6a c6a p6b n6b c6b k, e = .returned (.tuple #[.agg #[.bool s5a, .slice p5a n5a c5a, .slice p5b n5b c5b], .agg #[.bool s6a, .slice p6a n6a c6a, .slice p6b n6b c6b], .int .i64 k]) ∧ Below w.heap.size w w' := by
  rcases goodI_or_bad a b with h | ⟨k, h⟩
  · refine (rival_good h ha hb0 w).mono ?_
    rintro e w' ⟨v, u, rfl, hv, hu, hb⟩
    obtain ⟨s, p, n, c, p', n', c', rfl⟩ := hv.opened
    obtain ⟨s2, p2, n2, c2, p2', n2', c2', rfl⟩ := hu.opened
    exact ⟨_, _, _, _, _, _, _, _, _, _, _, _, _, _, _, rfl, hb⟩
  · refine (rival_bad h ha hb0 w).mono ?_
    rintro e w' ⟨s5a, p5a, n5a, c5a, p5b, n5b, c5b, s6a, p6a, n6a, c6a, p6b, n6b, c6b, rfl, hb⟩
    exact ⟨_, _, _, _, _, _, _, _, _, _, _, _, _, _, _, rfl, hb⟩
theorem iadd_good2 {a b c d : ByteArray} (h1 : GoodI a b) (h2 : GoodI c d) (w : World) :
    Calls Tryz.prog 18 #[.agg #[.string a, .string b], .agg #[.string c, .string d]] w fun e w' => e = .returned (.tuple #[.agg #[.string (qtxt (qnum a + qnum c)), .string (qtxt (qnum b + qnum d))], .nilIface]) ∧ Below w.heap.size w w' := by
  have h := iadd_good h1 h2 w
  have h3 := h1.2.2
  have h4 := h2.2.2
  rw [mn_first (show qnum a + qnum c ≤ qnum b + qnum d by grind), mx_second (show qnum a + qnum c ≤ qnum b + qnum d by grind)] at h
  exact h

end Go.Proofs.YtkdeopikojgboaaGreatDoor

/-
  IvalTells: the first interval is none.
-/
namespace Go.Proofs.YtkdeopikojgboaaGreatDoor
open Go.RowKit
open Num4
open Num (dg isNat dval)
set_option linter.unusedVariables false
set_option maxRecDepth 100000
set_option linter.unusedSimpArgs false

set_option maxHeartbeats 16000000 in
theorem itells_a (al ah bl bh x : ByteArray) (hal : al.size ≤ maxLen) (hah : ah.size ≤ maxLen) (hbl : bl.size ≤ maxLen) (hbh : bh.size ≤ maxLen) (hx : x.size ≤ maxLen) (w : World) {k : Int} (ha : BadI al ah k) (hd : Door w) :
    Calls Tryz.prog 3 #[.agg #[.string al, .string ah], .agg #[.string bl, .string bh], .string x] w fun e w' => e = .returned (.bool true) ∧ Below w.heap.size w w' := by
  have HA := hid ha
  have HKA := hid ha.ne
  have hka : (k == 0) = false := by simpa using ha.ne
  have HW := hid (show WrongI al ah bl bh k from .inl ha)
  have HDR := hid hd
  have hne := errv_neq
  have heq := errv_eql
  have hws := want_same
  have B := hid (Below.refl w.heap.size w)
  have hb1 := (Below.refl _ _).alloc (Nat.le_refl w.heap.size) (.cells #[.string al, .string ah] 23)
  have hx2 := Vbx.new w al ah
  replace B := bb B hb1
  have X3 := hid hx2
  have hs3 : (w.alloc (.cells #[.string al, .string ah] 23)).heap.size = w.heap.size + 1 := by simp
  clear hb1 hx2
  have hb4 := (Below.refl _ _).alloc (Nat.le_refl (w.alloc (.cells #[.string al, .string ah] 23)).heap.size) (.cells #[.string bl, .string bh] 23)
  have hx5 := Vbx.new (w.alloc (.cells #[.string al, .string ah] 23)) bl bh
  rw [hs3] at hx5
  replace X3 := vx X3 hb4
  replace B := bb B hb4
  have X4 := hid hx5
  have hs6 : ((w.alloc (.cells #[.string al, .string ah] 23)).alloc (.cells #[.string bl, .string bh] 23)).heap.size = w.heap.size + 1 + 1 := by simp [hs3]
  clear hb4 hx5
  clear hs6 hd ha
  go_enter Tryz.func3, Tryz.ntmps3
  obtain ⟨cc7a, cc7b⟩ := X3.out.both
  obtain ⟨cc8a, cc8b⟩ := X4.out.both
  go_wp2_with fail
  generalize hW : (w.alloc (.cells #[.string al, .string ah] 23)).alloc (.cells #[.string bl, .string bh] 23) = W9 at *
  clear hW
  have LG := hid (show w.heap.size < W9.heap.size from X3.out.lt)
  refine (spanned_true W9).mono ?_
  rintro e w10 ⟨rfl, hb⟩
  replace X3 := vx X3 hb
  replace X4 := vx X4 hb
  replace B := bb B hb
  clear cc7a cc7b cc8a cc8b
  clear hb 
  obtain ⟨cc11a, cc11b⟩ := X3.out.both
  obtain ⟨cc12a, cc12b⟩ := X4.out.both
  go_wp2_with fail
  refine (rival_bad HA.out hal hah w10).mono ?_
  rintro e w13 ⟨s5a, p5a, n5a, c5a, p5b, n5b, c5b, s6a, p6a, n6a, c6a, p6b, n6b, c6b, rfl, hb⟩
  replace X3 := vx X3 hb
  replace X4 := vx X4 hb
  replace B := bb B hb
  clear cc11a cc11b cc12a cc12b
  clear hb 
  have hb14 := (Below.refl _ _).alloc (Nat.le_refl w13.heap.size) (.cells #[.bool s5a, .slice p5a n5a c5a, .slice p5b n5b c5b] 30)
  have hx15 := Qbx.new w13 s5a p5a n5a c5a p5b n5b c5b
  have L1 := hid X4.out.lt
  replace X3 := vx X3 hb14
  replace X4 := vx X4 hb14
  replace B := bb B hb14
  have X8 := hid hx15
  have hs16 : (w13.alloc (.cells #[.bool s5a, .slice p5a n5a c5a, .slice p5b n5b c5b] 30)).heap.size = w13.heap.size + 1 := by simp
  clear hb14 hx15
  have hb17 := (Below.refl _ _).alloc (Nat.le_refl (w13.alloc (.cells #[.bool s5a, .slice p5a n5a c5a, .slice p5b n5b c5b] 30)).heap.size) (.cells #[.bool s6a, .slice p6a n6a c6a, .slice p6b n6b c6b] 30)
  have hx18 := Qbx.new (w13.alloc (.cells #[.bool s5a, .slice p5a n5a c5a, .slice p5b n5b c5b] 30)) s6a p6a n6a c6a p6b n6b c6b
  rw [hs16] at hx18
  replace X3 := vx X3 hb17
  replace X4 := vx X4 hb17
  replace X8 := qx X8 hb17
  replace B := bb B hb17
  have X9 := hid hx18
  have hs19 : ((w13.alloc (.cells #[.bool s5a, .slice p5a n5a c5a, .slice p5b n5b c5b] 30)).alloc (.cells #[.bool s6a, .slice p6a n6a c6a, .slice p6b n6b c6b] 30)).heap.size = w13.heap.size + 1 + 1 := by simp [hs16]
  clear hb17 hx18
  obtain ⟨cc20a, cc20b⟩ := X3.out.both
  obtain ⟨cc21a, cc21b⟩ := X4.out.both
  obtain ⟨cc22a, cc22b, cc22c⟩ := X8.out.cells
  obtain ⟨cc23a, cc23b, cc23c⟩ := X9.out.cells
  go_wp2_with fail
  generalize hW : (w13.alloc (.cells #[.bool s5a, .slice p5a n5a c5a, .slice p5b n5b c5b] 30)).alloc (.cells #[.bool s6a, .slice p6a n6a c6a, .slice p6b n6b c6b] 30) = W24 at *
  clear hW
  refine (icheck_bad HA.out hal hah W24).mono ?_
  rintro e w25 ⟨rfl, hb⟩
  replace X3 := vx X3 hb
  replace X4 := vx X4 hb
  replace B := bb B hb
  clear cc20a cc20b cc21a cc21b cc22a cc22b cc22c cc23a cc23b cc23c
  clear hb 
  obtain ⟨cc26a, cc26b⟩ := X3.out.both
  obtain ⟨cc27a, cc27b⟩ := X4.out.both
  go_wp2_with fail
  refine (same_no k HKA.out w25 (HDR.out.below B.out)).mono ?_
  rintro e w28 ⟨rfl, hb⟩
  replace X3 := vx X3 hb
  replace X4 := vx X4 hb
  replace B := bb B hb
  clear cc26a cc26b cc27a cc27b
  clear hb 
  obtain ⟨cc29a, cc29b⟩ := X3.out.both
  obtain ⟨cc30a, cc30b⟩ := X4.out.both
  go_wp2_with fail
  refine (ratof_any x hx w28).mono ?_
  rintro e w31 ⟨s7a, p7a, n7a, c7a, p7b, n7b, c7b, f, rfl, hb⟩
  replace X3 := vx X3 hb
  replace X4 := vx X4 hb
  replace B := bb B hb
  clear cc29a cc29b cc30a cc30b
  clear hb 
  have hb32 := (Below.refl _ _).alloc (Nat.le_refl w31.heap.size) (.cells #[.bool s7a, .slice p7a n7a c7a, .slice p7b n7b c7b] 30)
  have hx33 := Qbx.new w31 s7a p7a n7a c7a p7b n7b c7b
  have L2 := hid X4.out.lt
  replace X3 := vx X3 hb32
  replace X4 := vx X4 hb32
  replace B := bb B hb32
  have X12 := hid hx33
  have hs34 : (w31.alloc (.cells #[.bool s7a, .slice p7a n7a c7a, .slice p7b n7b c7b] 30)).heap.size = w31.heap.size + 1 := by simp
  clear hb32 hx33
  obtain ⟨cc35a, cc35b⟩ := X3.out.both
  obtain ⟨cc36a, cc36b⟩ := X4.out.both
  obtain ⟨cc37a, cc37b, cc37c⟩ := X12.out.cells
  go_wp2_with fail
  generalize hW : w31.alloc (.cells #[.bool s7a, .slice p7a n7a c7a, .slice p7b n7b c7b] 30) = W38 at *
  clear hW
  refine (two_some k f HKA.out W38).mono ?_
  rintro e w' ⟨rfl, rfl⟩
  obtain ⟨cc40a, cc40b⟩ := X3.out.both
  obtain ⟨cc41a, cc41b⟩ := X4.out.both
  go_wp2_with fail
  refine (ihas_a HA.out hal hah W38).mono ?_
  rintro e w42 ⟨rfl, hb⟩
  replace X3 := vx X3 hb
  replace X4 := vx X4 hb
  replace B := bb B hb
  clear cc35a cc35b cc36a cc36b cc37a cc37b cc37c cc40a cc40b cc41a cc41b
  clear hb 
  obtain ⟨cc43a, cc43b⟩ := X3.out.both
  obtain ⟨cc44a, cc44b⟩ := X4.out.both
  go_wp2_with fail
  refine (same_no k HKA.out w42 (HDR.out.below B.out)).mono ?_
  rintro e w45 ⟨rfl, hb⟩
  replace X3 := vx X3 hb
  replace X4 := vx X4 hb
  replace B := bb B hb
  clear cc43a cc43b cc44a cc44b
  clear hb 
  obtain ⟨cc46a, cc46b⟩ := X3.out.both
  obtain ⟨cc47a, cc47b⟩ := X4.out.both
  go_wp2_with fail
  refine (rival_any bl bh hbl hbh w45).mono ?_
  rintro e w48 ⟨s1a, p1a, n1a, c1a, p1b, n1b, c1b, s2a, p2a, n2a, c2a, p2b, n2b, c2b, g, rfl, hb⟩
  replace X3 := vx X3 hb
  replace X4 := vx X4 hb
  replace B := bb B hb
  clear cc46a cc46b cc47a cc47b
  clear hb 
  have hb49 := (Below.refl _ _).alloc (Nat.le_refl w48.heap.size) (.cells #[.bool s1a, .slice p1a n1a c1a, .slice p1b n1b c1b] 30)
  have hx50 := Qbx.new w48 s1a p1a n1a c1a p1b n1b c1b
  have L3 := hid X4.out.lt
  replace X3 := vx X3 hb49
  replace X4 := vx X4 hb49
  replace B := bb B hb49
  have X18 := hid hx50
  have hs51 : (w48.alloc (.cells #[.bool s1a, .slice p1a n1a c1a, .slice p1b n1b c1b] 30)).heap.size = w48.heap.size + 1 := by simp
  clear hb49 hx50
  have hb52 := (Below.refl _ _).alloc (Nat.le_refl (w48.alloc (.cells #[.bool s1a, .slice p1a n1a c1a, .slice p1b n1b c1b] 30)).heap.size) (.cells #[.bool s2a, .slice p2a n2a c2a, .slice p2b n2b c2b] 30)
  have hx53 := Qbx.new (w48.alloc (.cells #[.bool s1a, .slice p1a n1a c1a, .slice p1b n1b c1b] 30)) s2a p2a n2a c2a p2b n2b c2b
  rw [hs51] at hx53
  replace X3 := vx X3 hb52
  replace X4 := vx X4 hb52
  replace X18 := qx X18 hb52
  replace B := bb B hb52
  have X19 := hid hx53
  have hs54 : ((w48.alloc (.cells #[.bool s1a, .slice p1a n1a c1a, .slice p1b n1b c1b] 30)).alloc (.cells #[.bool s2a, .slice p2a n2a c2a, .slice p2b n2b c2b] 30)).heap.size = w48.heap.size + 1 + 1 := by simp [hs51]
  clear hb52 hx53
  obtain ⟨cc55a, cc55b⟩ := X3.out.both
  obtain ⟨cc56a, cc56b⟩ := X4.out.both
  obtain ⟨cc57a, cc57b, cc57c⟩ := X18.out.cells
  obtain ⟨cc58a, cc58b, cc58c⟩ := X19.out.cells
  go_wp2_with fail
  generalize hW : (w48.alloc (.cells #[.bool s1a, .slice p1a n1a c1a, .slice p1b n1b c1b] 30)).alloc (.cells #[.bool s2a, .slice p2a n2a c2a, .slice p2b n2b c2b] 30) = W59 at *
  clear hW
  refine (two_some k g HKA.out W59).mono ?_
  rintro e w' ⟨rfl, rfl⟩
  have hb61 := (Below.refl _ _).alloc (Nat.le_refl W59.heap.size) (.cells #[.string ⟨#[]⟩, .string ⟨#[]⟩, .string ⟨#[]⟩, .string ⟨#[]⟩, .string ⟨#[]⟩, .string ⟨#[]⟩, .string ⟨#[]⟩, .string ⟨#[]⟩] 44)
  have hx62 := Wbx.new W59 ⟨#[]⟩ ⟨#[]⟩ ⟨#[]⟩ ⟨#[]⟩ ⟨#[]⟩ ⟨#[]⟩ ⟨#[]⟩ ⟨#[]⟩
  rw [hs54] at hx62
  replace X3 := vx X3 hb61
  replace X4 := vx X4 hb61
  replace B := bb B hb61
  have X22 := hid hx62
  have hs63 : (W59.alloc (.cells #[.string ⟨#[]⟩, .string ⟨#[]⟩, .string ⟨#[]⟩, .string ⟨#[]⟩, .string ⟨#[]⟩, .string ⟨#[]⟩, .string ⟨#[]⟩, .string ⟨#[]⟩] 44)).heap.size = w48.heap.size + 1 + 1 + 1 := by simp [hs54]
  clear hb61 hx62
  obtain ⟨cc64a, cc64b⟩ := X3.out.both
  obtain ⟨cc65a, cc65b⟩ := X4.out.both
  obtain ⟨cc66a, cc66b, cc66c, cc66d, cc66e, cc66f, cc66g, cc66h⟩ := X22.out.cells
  go_wp2_with fail
  generalize hW : W59.alloc (.cells #[.string ⟨#[]⟩, .string ⟨#[]⟩, .string ⟨#[]⟩, .string ⟨#[]⟩, .string ⟨#[]⟩, .string ⟨#[]⟩, .string ⟨#[]⟩, .string ⟨#[]⟩] 44) = W67 at *
  clear hW
  refine (iadd_bad HW.out hal hah hbl hbh W67).mono ?_
  rintro e w68 ⟨rfl, hb⟩
  replace X3 := vx X3 hb
  replace X4 := vx X4 hb
  replace X22 := ux X22 hb
  replace B := bb B hb
  clear cc55a cc55b cc56a cc56b cc57a cc57b cc57c cc58a cc58b cc58c cc64a cc64b cc65a cc65b cc66a cc66b cc66c cc66d cc66e cc66f cc66g cc66h
  clear hb 
  have hb69 := (Below.refl _ _).alloc (Nat.le_refl w68.heap.size) (.cells #[.string ⟨#[]⟩, .string ⟨#[]⟩] 23)
  have hx70 := Vbx.new w68 ⟨#[]⟩ ⟨#[]⟩
  have L4 := hid X22.out.lt
  replace X3 := vx X3 hb69
  replace X4 := vx X4 hb69
  replace X22 := ux X22 hb69
  replace B := bb B hb69
  have Xc := hid hx70
  have hs71 : (w68.alloc (.cells #[.string ⟨#[]⟩, .string ⟨#[]⟩] 23)).heap.size = w68.heap.size + 1 := by simp
  clear hb69 hx70
  obtain ⟨cc72a, cc72b⟩ := X3.out.both
  obtain ⟨cc73a, cc73b⟩ := X4.out.both
  obtain ⟨cc74a, cc74b, cc74c, cc74d, cc74e, cc74f, cc74g, cc74h⟩ := X22.out.cells
  obtain ⟨cc75a, cc75b⟩ := Xc.out.both
  go_wp2_with fail
  generalize hW : w68.alloc (.cells #[.string ⟨#[]⟩, .string ⟨#[]⟩] 23) = W76 at *
  clear hW
  refine (same_no k HKA.out W76 (HDR.out.below B.out)).mono ?_
  rintro e w77 ⟨rfl, hb⟩
  replace X3 := vx X3 hb
  replace X4 := vx X4 hb
  replace X22 := ux X22 hb
  replace Xc := vx Xc hb
  replace B := bb B hb
  clear cc72a cc72b cc73a cc73b cc74a cc74b cc74c cc74d cc74e cc74f cc74g cc74h cc75a cc75b
  clear hb 
  obtain ⟨cc78a, cc78b⟩ := X3.out.both
  obtain ⟨cc79a, cc79b⟩ := X4.out.both
  obtain ⟨cc80a, cc80b, cc80c, cc80d, cc80e, cc80f, cc80g, cc80h⟩ := X22.out.cells
  obtain ⟨cc81a, cc81b⟩ := Xc.out.both
  go_wp2_with fail
  refine (imul_bad HW.out hal hah hbl hbh w77).mono ?_
  rintro e w82 ⟨rfl, hb⟩
  replace X3 := vx X3 hb
  replace X4 := vx X4 hb
  replace X22 := ux X22 hb
  replace Xc := vx Xc hb
  replace B := bb B hb
  clear cc78a cc78b cc79a cc79b cc80a cc80b cc80c cc80d cc80e cc80f cc80g cc80h cc81a cc81b
  clear hb 
  have hb83 := (Below.refl _ _).alloc (Nat.le_refl w82.heap.size) (.cells #[.string ⟨#[]⟩, .string ⟨#[]⟩] 23)
  have hx84 := Vbx.new w82 ⟨#[]⟩ ⟨#[]⟩
  have L5 := hid Xc.out.lt
  replace X3 := vx X3 hb83
  replace X4 := vx X4 hb83
  replace X22 := ux X22 hb83
  replace Xc := vx Xc hb83
  replace B := bb B hb83
  have Xd := hid hx84
  have hs85 : (w82.alloc (.cells #[.string ⟨#[]⟩, .string ⟨#[]⟩] 23)).heap.size = w82.heap.size + 1 := by simp
  clear hb83 hx84
  obtain ⟨cc86a, cc86b⟩ := X3.out.both
  obtain ⟨cc87a, cc87b⟩ := X4.out.both
  obtain ⟨cc88a, cc88b, cc88c, cc88d, cc88e, cc88f, cc88g, cc88h⟩ := X22.out.cells
  obtain ⟨cc89a, cc89b⟩ := Xc.out.both
  obtain ⟨cc90a, cc90b⟩ := Xd.out.both
  go_wp2_with fail
  generalize hW : w82.alloc (.cells #[.string ⟨#[]⟩, .string ⟨#[]⟩] 23) = W91 at *
  clear hW
  refine (same_no k HKA.out W91 (HDR.out.below B.out)).mono ?_
  rintro e w92 ⟨rfl, hb⟩
  replace X3 := vx X3 hb
  replace X4 := vx X4 hb
  replace X22 := ux X22 hb
  replace Xc := vx Xc hb
  replace Xd := vx Xd hb
  replace B := bb B hb
  clear cc86a cc86b cc87a cc87b cc88a cc88b cc88c cc88d cc88e cc88f cc88g cc88h cc89a cc89b cc90a cc90b
  clear hb 
  obtain ⟨cc93a, cc93b⟩ := X3.out.both
  obtain ⟨cc94a, cc94b⟩ := X4.out.both
  obtain ⟨cc95a, cc95b, cc95c, cc95d, cc95e, cc95f, cc95g, cc95h⟩ := X22.out.cells
  obtain ⟨cc96a, cc96b⟩ := Xc.out.both
  obtain ⟨cc97a, cc97b⟩ := Xd.out.both
  go_wp2_with fail
  refine (ihull_bad HW.out hal hah hbl hbh w92).mono ?_
  rintro e w98 ⟨rfl, hb⟩
  replace X3 := vx X3 hb
  replace X4 := vx X4 hb
  replace X22 := ux X22 hb
  replace Xc := vx Xc hb
  replace Xd := vx Xd hb
  replace B := bb B hb
  clear cc93a cc93b cc94a cc94b cc95a cc95b cc95c cc95d cc95e cc95f cc95g cc95h cc96a cc96b cc97a cc97b
  clear hb 
  have hb99 := (Below.refl _ _).alloc (Nat.le_refl w98.heap.size) (.cells #[.string ⟨#[]⟩, .string ⟨#[]⟩] 23)
  have hx100 := Vbx.new w98 ⟨#[]⟩ ⟨#[]⟩
  have L6 := hid Xd.out.lt
  replace X3 := vx X3 hb99
  replace X4 := vx X4 hb99
  replace X22 := ux X22 hb99
  replace Xc := vx Xc hb99
  replace Xd := vx Xd hb99
  replace B := bb B hb99
  have Xk := hid hx100
  have hs101 : (w98.alloc (.cells #[.string ⟨#[]⟩, .string ⟨#[]⟩] 23)).heap.size = w98.heap.size + 1 := by simp
  clear hb99 hx100
  obtain ⟨cc102a, cc102b⟩ := X3.out.both
  obtain ⟨cc103a, cc103b⟩ := X4.out.both
  obtain ⟨cc104a, cc104b, cc104c, cc104d, cc104e, cc104f, cc104g, cc104h⟩ := X22.out.cells
  obtain ⟨cc105a, cc105b⟩ := Xc.out.both
  obtain ⟨cc106a, cc106b⟩ := Xd.out.both
  obtain ⟨cc107a, cc107b⟩ := Xk.out.both
  go_wp2_with fail
  generalize hW : w98.alloc (.cells #[.string ⟨#[]⟩, .string ⟨#[]⟩] 23) = W108 at *
  clear hW
  refine (same_no k HKA.out W108 (HDR.out.below B.out)).mono ?_
  rintro e w109 ⟨rfl, hb⟩
  replace X3 := vx X3 hb
  replace X4 := vx X4 hb
  replace X22 := ux X22 hb
  replace Xc := vx Xc hb
  replace Xd := vx Xd hb
  replace Xk := vx Xk hb
  replace B := bb B hb
  clear cc102a cc102b cc103a cc103b cc104a cc104b cc104c cc104d cc104e cc104f cc104g cc104h cc105a cc105b cc106a cc106b cc107a cc107b
  clear hb 
  obtain ⟨cc110a, cc110b⟩ := X3.out.both
  obtain ⟨cc111a, cc111b⟩ := X4.out.both
  obtain ⟨cc112a, cc112b, cc112c, cc112d, cc112e, cc112f, cc112g, cc112h⟩ := X22.out.cells
  obtain ⟨cc113a, cc113b⟩ := Xc.out.both
  obtain ⟨cc114a, cc114b⟩ := Xd.out.both
  obtain ⟨cc115a, cc115b⟩ := Xk.out.both
  go_wp2_with fail
  refine (idiv_bad HW.out hal hah hbl hbh w109).mono ?_
  rintro e w116 ⟨rfl, hb⟩
  replace X3 := vx X3 hb
  replace X4 := vx X4 hb
  replace X22 := ux X22 hb
  replace Xc := vx Xc hb
  replace Xd := vx Xd hb
  replace Xk := vx Xk hb
  replace B := bb B hb
  clear cc110a cc110b cc111a cc111b cc112a cc112b cc112c cc112d cc112e cc112f cc112g cc112h cc113a cc113b cc114a cc114b cc115a cc115b
  clear hb 
  have hb117 := (Below.refl _ _).alloc (Nat.le_refl w116.heap.size) (.cells #[.string ⟨#[]⟩, .string ⟨#[]⟩] 23)
  have hx118 := Vbx.new w116 ⟨#[]⟩ ⟨#[]⟩
  have L7 := hid Xk.out.lt
  replace X3 := vx X3 hb117
  replace X4 := vx X4 hb117
  replace X22 := ux X22 hb117
  replace Xc := vx Xc hb117
  replace Xd := vx Xd hb117
  replace Xk := vx Xk hb117
  replace B := bb B hb117
  have Xm := hid hx118
  have hs119 : (w116.alloc (.cells #[.string ⟨#[]⟩, .string ⟨#[]⟩] 23)).heap.size = w116.heap.size + 1 := by simp
  clear hb117 hx118
  obtain ⟨cc120a, cc120b⟩ := X3.out.both
  obtain ⟨cc121a, cc121b⟩ := X4.out.both
  obtain ⟨cc122a, cc122b, cc122c, cc122d, cc122e, cc122f, cc122g, cc122h⟩ := X22.out.cells
  obtain ⟨cc123a, cc123b⟩ := Xc.out.both
  obtain ⟨cc124a, cc124b⟩ := Xd.out.both
  obtain ⟨cc125a, cc125b⟩ := Xk.out.both
  obtain ⟨cc126a, cc126b⟩ := Xm.out.both
  go_wp2_with fail
  generalize hW : w116.alloc (.cells #[.string ⟨#[]⟩, .string ⟨#[]⟩] 23) = W127 at *
  clear hW
  refine (same_no k HKA.out W127 (HDR.out.below B.out)).mono ?_
  rintro e w128 ⟨rfl, hb⟩
  replace X22 := ux X22 hb
  replace Xc := vx Xc hb
  replace Xd := vx Xd hb
  replace Xk := vx Xk hb
  replace Xm := vx Xm hb
  replace B := bb B hb
  clear cc120a cc120b cc121a cc121b cc122a cc122b cc122c cc122d cc122e cc122f cc122g cc122h cc123a cc123b cc124a cc124b cc125a cc125b cc126a cc126b
  clear hb 
  obtain ⟨cc129a, cc129b, cc129c, cc129d, cc129e, cc129f, cc129g, cc129h⟩ := X22.out.cells
  obtain ⟨cc130a, cc130b⟩ := Xc.out.both
  obtain ⟨cc131a, cc131b⟩ := Xd.out.both
  obtain ⟨cc132a, cc132b⟩ := Xk.out.both
  obtain ⟨cc133a, cc133b⟩ := Xm.out.both
  have hb134 := (Below.refl _ _).alloc (Nat.le_refl w128.heap.size) (.cells #[.string ⟨#[]⟩, .string ⟨#[]⟩, .string ⟨#[]⟩, .string ⟨#[]⟩, .string ⟨#[]⟩, .string ⟨#[]⟩, .string ⟨#[]⟩, .string ⟨#[]⟩] 44)
  have hx135 := Wbx.new w128 ⟨#[]⟩ ⟨#[]⟩ ⟨#[]⟩ ⟨#[]⟩ ⟨#[]⟩ ⟨#[]⟩ ⟨#[]⟩ ⟨#[]⟩
  have L8 := hid Xm.out.lt
  replace X22 := ux X22 hb134
  replace Xc := vx Xc hb134
  replace Xd := vx Xd hb134
  replace Xk := vx Xk hb134
  replace Xm := vx Xm hb134
  replace B := bb B hb134
  have X31 := hid hx135
  have hs136 : (w128.alloc (.cells #[.string ⟨#[]⟩, .string ⟨#[]⟩, .string ⟨#[]⟩, .string ⟨#[]⟩, .string ⟨#[]⟩, .string ⟨#[]⟩, .string ⟨#[]⟩, .string ⟨#[]⟩] 44)).heap.size = w128.heap.size + 1 := by simp
  clear hb134 hx135
  obtain ⟨cc137a, cc137b, cc137c, cc137d, cc137e, cc137f, cc137g, cc137h⟩ := X22.out.cells
  obtain ⟨cc138a, cc138b⟩ := Xc.out.both
  obtain ⟨cc139a, cc139b⟩ := Xd.out.both
  obtain ⟨cc140a, cc140b⟩ := Xk.out.both
  obtain ⟨cc141a, cc141b⟩ := Xm.out.both
  obtain ⟨cc142a, cc142b, cc142c, cc142d, cc142e, cc142f, cc142g, cc142h⟩ := X31.out.cells
  go_wp2_with fail
  go_ret
  exact ⟨rfl, B.out⟩

end Go.Proofs.YtkdeopikojgboaaGreatDoor

/-
  IvalTells: bad.
-/
namespace Go.Proofs.YtkdeopikojgboaaGreatDoor
open Go.RowKit
open Num4
open Num (dg isNat dval)
set_option linter.unusedVariables false
set_option maxRecDepth 100000
set_option linter.unusedSimpArgs false

set_option maxHeartbeats 32000000 in
theorem itells_bad (al ah bl bh x : ByteArray) (hal : al.size ≤ maxLen) (hah : ah.size ≤ maxLen) (hbl : bl.size ≤ maxLen) (hbh : bh.size ≤ maxLen) (hx : x.size ≤ maxLen) (w : World) {k : Int} (ha : GoodI al ah) (hb0 : BadI bl bh k) (hd : Door w) :
    Calls Tryz.prog 3 #[.agg #[.string al, .string ah], .agg #[.string bl, .string bh], .string x] w fun e w' => e = .returned (.bool true) ∧ Below w.heap.size w w' := by
  obtain ⟨f, t, hxt⟩ := x_any al ah x
  have HX := hid hxt
  have GA := hid ha
  have HBB := hid hb0
  have HKB := hid hb0.ne
  have hkb : (k == 0) = false := by simpa using hb0.ne
  have HW := hid (show WrongI al ah bl bh k from .inr ⟨ha, hb0⟩)
  have HDR := hid hd
  have hne := errv_neq
  have heq := errv_eql
  have hws := want_same
  have B := hid (Below.refl w.heap.size w)
  have hb1 := (Below.refl _ _).alloc (Nat.le_refl w.heap.size) (.cells #[.string al, .string ah] 23)
  have hx2 := Vbx.new w al ah
  replace B := bb B hb1
  have X3 := hid hx2
  have hs3 : (w.alloc (.cells #[.string al, .string ah] 23)).heap.size = w.heap.size + 1 := by simp
  clear hb1 hx2
  have hb4 := (Below.refl _ _).alloc (Nat.le_refl (w.alloc (.cells #[.string al, .string ah] 23)).heap.size) (.cells #[.string bl, .string bh] 23)
  have hx5 := Vbx.new (w.alloc (.cells #[.string al, .string ah] 23)) bl bh
  rw [hs3] at hx5
  replace X3 := vx X3 hb4
  replace B := bb B hb4
  have X4 := hid hx5
  have hs6 : ((w.alloc (.cells #[.string al, .string ah] 23)).alloc (.cells #[.string bl, .string bh] 23)).heap.size = w.heap.size + 1 + 1 := by simp [hs3]
  clear hb4 hx5
  clear hs6 hd hxt ha hb0
  go_enter Tryz.func3, Tryz.ntmps3
  obtain ⟨cc7a, cc7b⟩ := X3.out.both
  obtain ⟨cc8a, cc8b⟩ := X4.out.both
  go_wp2_with fail
  generalize hW : (w.alloc (.cells #[.string al, .string ah] 23)).alloc (.cells #[.string bl, .string bh] 23) = W9 at *
  clear hW
  have LG := hid (show w.heap.size < W9.heap.size from X3.out.lt)
  refine (spanned_true W9).mono ?_
  rintro e w10 ⟨rfl, hb⟩
  replace X3 := vx X3 hb
  replace X4 := vx X4 hb
  replace B := bb B hb
  clear cc7a cc7b cc8a cc8b
  clear hb 
  obtain ⟨cc11a, cc11b⟩ := X3.out.both
  obtain ⟨cc12a, cc12b⟩ := X4.out.both
  go_wp2_with fail
  refine (rival_good GA.out hal hah w10).mono ?_
  rintro e w13 ⟨v, u, rfl, hv, hu, hb⟩
  obtain ⟨spa, ppa, npa, cpa, ppb, npb, cpb, rfl⟩ := hv.opened
  obtain ⟨htp, hup⟩ := hv.two
  obtain ⟨sqa, pqa, nqa, cqa, pqb, nqb, cqb, rfl⟩ := hu.opened
  obtain ⟨htq, huq⟩ := hu.two
  replace X3 := vx X3 hb
  replace X4 := vx X4 hb
  replace B := bb B hb
  clear cc11a cc11b cc12a cc12b
  have HNp := hid htp
  have HDp := hid hup
  have HNq := hid htq
  have HDq := hid huq
  clear hb hv htp hup hu htq huq
  have hb14 := (Below.refl _ _).alloc (Nat.le_refl w13.heap.size) (.cells #[.bool spa, .slice ppa npa cpa, .slice ppb npb cpb] 30)
  have hx15 := Qbx.new w13 spa ppa npa cpa ppb npb cpb
  have L1 := hid X4.out.lt
  replace X3 := vx X3 hb14
  replace X4 := vx X4 hb14
  replace HNp := wr HNp hb14
  replace HDp := wr HDp hb14
  replace HNq := wr HNq hb14
  replace HDq := wr HDq hb14
  replace B := bb B hb14
  have X8 := hid hx15
  have hs16 : (w13.alloc (.cells #[.bool spa, .slice ppa npa cpa, .slice ppb npb cpb] 30)).heap.size = w13.heap.size + 1 := by simp
  clear hb14 hx15
  have hb17 := (Below.refl _ _).alloc (Nat.le_refl (w13.alloc (.cells #[.bool spa, .slice ppa npa cpa, .slice ppb npb cpb] 30)).heap.size) (.cells #[.bool sqa, .slice pqa nqa cqa, .slice pqb nqb cqb] 30)
  have hx18 := Qbx.new (w13.alloc (.cells #[.bool spa, .slice ppa npa cpa, .slice ppb npb cpb] 30)) sqa pqa nqa cqa pqb nqb cqb
  rw [hs16] at hx18
  replace X3 := vx X3 hb17
  replace X4 := vx X4 hb17
  replace X8 := qx X8 hb17
  replace HNp := wr HNp hb17
  replace HDp := wr HDp hb17
  replace HNq := wr HNq hb17
  replace HDq := wr HDq hb17
  replace B := bb B hb17
  have X9 := hid hx18
  have hs19 : ((w13.alloc (.cells #[.bool spa, .slice ppa npa cpa, .slice ppb npb cpb] 30)).alloc (.cells #[.bool sqa, .slice pqa nqa cqa, .slice pqb nqb cqb] 30)).heap.size = w13.heap.size + 1 + 1 := by simp [hs16]
  clear hb17 hx18
  obtain ⟨cc20a, cc20b⟩ := X3.out.both
  obtain ⟨cc21a, cc21b⟩ := X4.out.both
  obtain ⟨cc22a, cc22b, cc22c⟩ := X8.out.cells
  obtain ⟨cc23a, cc23b, cc23c⟩ := X9.out.cells
  go_wp2_with fail
  generalize hW : (w13.alloc (.cells #[.bool spa, .slice ppa npa cpa, .slice ppb npb cpb] 30)).alloc (.cells #[.bool sqa, .slice pqa nqa cqa, .slice pqb nqb cqb] 30) = W24 at *
  clear hW
  refine (icheck_good GA.out W24).mono ?_
  rintro e w25 ⟨rfl, hb⟩
  replace X3 := vx X3 hb
  replace X4 := vx X4 hb
  replace X8 := qx X8 hb
  replace X9 := qx X9 hb
  replace HNp := wr HNp hb
  replace HDp := wr HDp hb
  replace HNq := wr HNq hb
  replace HDq := wr HDq hb
  replace B := bb B hb
  clear cc20a cc20b cc21a cc21b cc22a cc22b cc22c cc23a cc23b cc23c
  clear hb 
  obtain ⟨cc26a, cc26b⟩ := X3.out.both
  obtain ⟨cc27a, cc27b⟩ := X4.out.both
  obtain ⟨cc28a, cc28b, cc28c⟩ := X8.out.cells
  obtain ⟨cc29a, cc29b, cc29c⟩ := X9.out.cells
  go_wp2_with fail
  refine (same_nil w25 (HDR.out.below B.out)).mono ?_
  rintro e w30 ⟨rfl, hb⟩
  replace X3 := vx X3 hb
  replace X4 := vx X4 hb
  replace X8 := qx X8 hb
  replace X9 := qx X9 hb
  replace HNp := wr HNp hb
  replace HDp := wr HDp hb
  replace HNq := wr HNq hb
  replace HDq := wr HDq hb
  replace B := bb B hb
  clear cc26a cc26b cc27a cc27b cc28a cc28b cc28c cc29a cc29b cc29c
  clear hb 
  obtain ⟨cc31a, cc31b⟩ := X3.out.both
  obtain ⟨cc32a, cc32b⟩ := X4.out.both
  obtain ⟨cc33a, cc33b, cc33c⟩ := X8.out.cells
  obtain ⟨cc34a, cc34b, cc34c⟩ := X9.out.cells
  go_wp2_with fail
  refine (ratof_x HX.out hx w30).mono ?_
  rintro e w35 ⟨sxa, pxa, nxa, cxa, pxb, nxb, cxb, rfl, hq, hb⟩
  have HQX := hid hq
  replace X3 := vx X3 hb
  replace X4 := vx X4 hb
  replace X8 := qx X8 hb
  replace X9 := qx X9 hb
  replace HNp := wr HNp hb
  replace HDp := wr HDp hb
  replace HNq := wr HNq hb
  replace HDq := wr HDq hb
  replace B := bb B hb
  clear cc31a cc31b cc32a cc32b cc33a cc33b cc33c cc34a cc34b cc34c
  clear hb hq
  have hb36 := (Below.refl _ _).alloc (Nat.le_refl w35.heap.size) (.cells #[.bool sxa, .slice pxa nxa cxa, .slice pxb nxb cxb] 30)
  have hx37 := Qbx.new w35 sxa pxa nxa cxa pxb nxb cxb
  have L2 := hid X9.out.lt
  replace X3 := vx X3 hb36
  replace X4 := vx X4 hb36
  replace X8 := qx X8 hb36
  replace X9 := qx X9 hb36
  replace HNp := wr HNp hb36
  replace HDp := wr HDp hb36
  replace HNq := wr HNq hb36
  replace HDq := wr HDq hb36
  replace B := bb B hb36
  replace HQX := hid (fun e => (HQX.out e).on hb36)
  have X12 := hid hx37
  have hs38 : (w35.alloc (.cells #[.bool sxa, .slice pxa nxa cxa, .slice pxb nxb cxb] 30)).heap.size = w35.heap.size + 1 := by simp
  clear hb36 hx37
  obtain ⟨cc39a, cc39b⟩ := X3.out.both
  obtain ⟨cc40a, cc40b⟩ := X4.out.both
  obtain ⟨cc41a, cc41b, cc41c⟩ := X8.out.cells
  obtain ⟨cc42a, cc42b, cc42c⟩ := X9.out.cells
  obtain ⟨cc43a, cc43b, cc43c⟩ := X12.out.cells
  go_wp2_with fail
  generalize hW : w35.alloc (.cells #[.bool sxa, .slice pxa nxa cxa, .slice pxb nxb cxb] 30) = W44 at *
  clear hW
  refine (two_zero f W44).mono ?_
  rintro e w' ⟨rfl, rfl⟩
  obtain ⟨cc46a, cc46b⟩ := X3.out.both
  obtain ⟨cc47a, cc47b⟩ := X4.out.both
  obtain ⟨cc48a, cc48b, cc48c⟩ := X8.out.cells
  obtain ⟨cc49a, cc49b, cc49c⟩ := X9.out.cells
  obtain ⟨cc50a, cc50b, cc50c⟩ := X12.out.cells
  go_wp2_with fail
  refine (has_x HX.out GA.out hx W44).mono ?_
  rintro e w51 ⟨rfl, hb⟩
  replace X3 := vx X3 hb
  replace X4 := vx X4 hb
  replace X8 := qx X8 hb
  replace X9 := qx X9 hb
  replace X12 := qx X12 hb
  replace HNp := wr HNp hb
  replace HDp := wr HDp hb
  replace HNq := wr HNq hb
  replace HDq := wr HDq hb
  replace B := bb B hb
  replace HQX := hid (fun e => (HQX.out e).on hb)
  clear cc39a cc39b cc40a cc40b cc41a cc41b cc41c cc42a cc42b cc42c cc43a cc43b cc43c cc46a cc46b cc47a cc47b cc48a cc48b cc48c cc49a cc49b cc49c cc50a cc50b cc50c
  clear hb 
  obtain ⟨cc52a, cc52b⟩ := X3.out.both
  obtain ⟨cc53a, cc53b⟩ := X4.out.both
  obtain ⟨cc54a, cc54b, cc54c⟩ := X8.out.cells
  obtain ⟨cc55a, cc55b, cc55c⟩ := X9.out.cells
  obtain ⟨cc56a, cc56b, cc56c⟩ := X12.out.cells
  go_wp2_with fail
  refine (same_any f w51 (HDR.out.below B.out)).mono ?_
  rintro e w57 ⟨rfl, hb⟩
  replace X3 := vx X3 hb
  replace X4 := vx X4 hb
  replace X8 := qx X8 hb
  replace X9 := qx X9 hb
  replace X12 := qx X12 hb
  replace HNp := wr HNp hb
  replace HDp := wr HDp hb
  replace HNq := wr HNq hb
  replace HDq := wr HDq hb
  replace B := bb B hb
  replace HQX := hid (fun e => (HQX.out e).on hb)
  clear cc52a cc52b cc53a cc53b cc54a cc54b cc54c cc55a cc55b cc55c cc56a cc56b cc56c
  clear hb 
  obtain ⟨cc58a, cc58b⟩ := X3.out.both
  obtain ⟨cc59a, cc59b⟩ := X4.out.both
  obtain ⟨cc60a, cc60b, cc60c⟩ := X8.out.cells
  obtain ⟨cc61a, cc61b, cc61c⟩ := X9.out.cells
  obtain ⟨cc62a, cc62b, cc62c⟩ := X12.out.cells
  go_upto_region 8 with fail
  go_cut [17] (fun s17 wx => s17 = .bool t ∧ Hid (Vbx wx w.heap.size al ah) ∧ Hid (Vbx wx (w.heap.size + 1) bl bh) ∧ Hid (Qbx wx w13.heap.size spa (.slice ppa npa cpa) (.slice ppb npb cpb)) ∧ Hid (Qbx wx (w13.heap.size + 1) sqa (.slice pqa nqa cqa) (.slice pqb nqb cqb)) ∧ Hid (WhlR wx (.agg #[.bool spa, .slice ppa npa cpa]) (qnum al).num 100) ∧ Hid (WhlR wx (.agg #[.bool false, .slice ppb npb cpb]) ((qnum al).den : Int) 100) ∧ Hid (WhlR wx (.agg #[.bool sqa, .slice pqa nqa cqa]) (qnum ah).num 100) ∧ Hid (WhlR wx (.agg #[.bool false, .slice pqb nqb cqb]) ((qnum ah).den : Int) 100) ∧ Hid (Below w.heap.size w wx))
  case first =>
    rcases HX.out with ⟨rfl, hg, ht⟩ | ⟨hf, hg, ht⟩ <;> (have HTT := hid ht; clear ht HX)
    · have hqx := HQX.out rfl
      obtain ⟨htx, hux⟩ := hqx.two
      have HNx := hid htx
      have HDx := hid hux
      clear hqx htx hux HQX
      go_wp2_with fail
      refine (rcmp (QR.mk2 HNp.out HDp.out) (QR.mk2 HNx.out HDx.out) (by decide)).mono ?_
      rintro e w63 ⟨rfl, hb⟩
      replace X3 := vx X3 hb
      replace X4 := vx X4 hb
      replace X8 := qx X8 hb
      replace X9 := qx X9 hb
      replace X12 := qx X12 hb
      replace HNp := wr HNp hb
      replace HDp := wr HDp hb
      replace HNq := wr HNq hb
      replace HDq := wr HDq hb
      replace HNx := wr HNx hb
      replace HDx := wr HDx hb
      replace B := bb B hb
      clear cc58a cc58b cc59a cc59b cc60a cc60b cc60c cc61a cc61b cc61c cc62a cc62b cc62c
      clear hb 
      obtain ⟨cc64a, cc64b⟩ := X3.out.both
      obtain ⟨cc65a, cc65b⟩ := X4.out.both
      obtain ⟨cc66a, cc66b, cc66c⟩ := X8.out.cells
      obtain ⟨cc67a, cc67b, cc67c⟩ := X9.out.cells
      obtain ⟨cc68a, cc68b, cc68c⟩ := X12.out.cells
      obtain ⟨z1, hs1⟩ : ∃ z, (qnum al - qnum x).num.sign = z := ⟨_, rfl⟩
      have hg1 := rsg_gt (qnum al) (qnum x)
      rw [hs1] at hg1
      rw [hs1]
      have HS1 := hid hg1
      clear hs1 hg1
      by_cases h1 : qnum x < qnum al
      · have hz : ¬ z1 ≤ 0 := by have := HS1.out.2 h1; omega
        go_wp2_with fail
        go_meet
        exact ⟨congrArg Value.bool (by rw [HTT.out]; exact (decide_eq_false (p := qnum al ≤ qnum x ∧ qnum x ≤ qnum ah) (fun e => Rat.not_lt.2 e.1 h1)).symm), X3, X4, X8, X9, HNp, HDp, HNq, HDq, B⟩
      · have hz : z1 ≤ 0 := Int.not_lt.1 (fun e => h1 (HS1.out.1 e))
        go_wp2_with fail
        refine (rcmp (QR.mk2 HNx.out HDx.out) (QR.mk2 HNq.out HDq.out) (by decide)).mono ?_
        rintro e w69 ⟨rfl, hb⟩
        replace X3 := vx X3 hb
        replace X4 := vx X4 hb
        replace X8 := qx X8 hb
        replace X9 := qx X9 hb
        replace X12 := qx X12 hb
        replace HNp := wr HNp hb
        replace HDp := wr HDp hb
        replace HNq := wr HNq hb
        replace HDq := wr HDq hb
        replace HNx := wr HNx hb
        replace HDx := wr HDx hb
        replace B := bb B hb
        clear cc64a cc64b cc65a cc65b cc66a cc66b cc66c cc67a cc67b cc67c cc68a cc68b cc68c
        clear hb 
        obtain ⟨cc70a, cc70b⟩ := X3.out.both
        obtain ⟨cc71a, cc71b⟩ := X4.out.both
        obtain ⟨cc72a, cc72b, cc72c⟩ := X8.out.cells
        obtain ⟨cc73a, cc73b, cc73c⟩ := X9.out.cells
        obtain ⟨cc74a, cc74b, cc74c⟩ := X12.out.cells
        obtain ⟨z2, hs2⟩ : ∃ z, (qnum x - qnum ah).num.sign = z := ⟨_, rfl⟩
        have hg2 := rsg_gt (qnum x) (qnum ah)
        rw [hs2] at hg2
        rw [hs2]
        have HS2 := hid hg2
        clear hs2 hg2
        by_cases h2 : qnum ah < qnum x
        · have hy : ¬ z2 ≤ 0 := by have := HS2.out.2 h2; omega
          go_wp2_with fail
          go_meet
          exact ⟨congrArg Value.bool (by rw [HTT.out]; first | exact (decide_eq_false (p := qnum al ≤ qnum x ∧ qnum x ≤ qnum ah) (fun e => Rat.not_lt.2 e.2 h2)).symm | exact (decide_eq_false (Int.not_le.2 (HS2.out.2 h2))).trans (decide_eq_false (p := qnum al ≤ qnum x ∧ qnum x ≤ qnum ah) (fun e => Rat.not_lt.2 e.2 h2)).symm), X3, X4, X8, X9, HNp, HDp, HNq, HDq, B⟩
        · have hy : z2 ≤ 0 := Int.not_lt.1 (fun e => h2 (HS2.out.1 e))
          go_wp2_with fail
          go_meet
          exact ⟨congrArg Value.bool (by rw [HTT.out]; exact (decide_eq_true ⟨Rat.not_lt.1 h1, Rat.not_lt.1 h2⟩).symm), X3, X4, X8, X9, HNp, HDp, HNq, HDq, B⟩
    · have hf0 : (f == 0) = false := by simpa using hf
      go_wp2_with fail
      go_meet
      exact ⟨congrArg Value.bool HTT.out.symm, X3, X4, X8, X9, HNp, HDp, HNq, HDq, B⟩
  case rest =>
    clear X3 X4 X8 X9 X12 HNp HDp HNq HDq HQX B cc58a cc58b cc59a cc59b cc60a cc60b cc60c cc61a cc61b cc61c cc62a cc62b cc62c
    obtain ⟨rfl, X3, X4, X8, X9, HNp, HDp, HNq, HDq, B⟩ := hcut
    obtain ⟨cc401a, cc401b⟩ := X3.out.both
    obtain ⟨cc402a, cc402b⟩ := X4.out.both
    obtain ⟨cc403a, cc403b, cc403c⟩ := X8.out.cells
    obtain ⟨cc404a, cc404b, cc404c⟩ := X9.out.cells
    go_wp2_with fail
    refine (rival_bad HBB.out hbl hbh wc).mono ?_
    rintro e w405 ⟨s1a, p1a, n1a, c1a, p1b, n1b, c1b, s2a, p2a, n2a, c2a, p2b, n2b, c2b, rfl, hb⟩
    replace X3 := vx X3 hb
    replace X4 := vx X4 hb
    replace X8 := qx X8 hb
    replace X9 := qx X9 hb
    replace HNp := wr HNp hb
    replace HDp := wr HDp hb
    replace HNq := wr HNq hb
    replace HDq := wr HDq hb
    replace B := bb B hb
    clear cc401a cc401b cc402a cc402b cc403a cc403b cc403c cc404a cc404b cc404c
    clear hb 
    have hb406 := (Below.refl _ _).alloc (Nat.le_refl w405.heap.size) (.cells #[.bool s1a, .slice p1a n1a c1a, .slice p1b n1b c1b] 30)
    have hx407 := Qbx.new w405 s1a p1a n1a c1a p1b n1b c1b
    have L3 := hid X9.out.lt
    replace X3 := vx X3 hb406
    replace X4 := vx X4 hb406
    replace X8 := qx X8 hb406
    replace X9 := qx X9 hb406
    replace HNp := wr HNp hb406
    replace HDp := wr HDp hb406
    replace HNq := wr HNq hb406
    replace HDq := wr HDq hb406
    replace B := bb B hb406
    have X18 := hid hx407
    have hs408 : (w405.alloc (.cells #[.bool s1a, .slice p1a n1a c1a, .slice p1b n1b c1b] 30)).heap.size = w405.heap.size + 1 := by simp
    clear hb406 hx407
    have hb409 := (Below.refl _ _).alloc (Nat.le_refl (w405.alloc (.cells #[.bool s1a, .slice p1a n1a c1a, .slice p1b n1b c1b] 30)).heap.size) (.cells #[.bool s2a, .slice p2a n2a c2a, .slice p2b n2b c2b] 30)
    have hx410 := Qbx.new (w405.alloc (.cells #[.bool s1a, .slice p1a n1a c1a, .slice p1b n1b c1b] 30)) s2a p2a n2a c2a p2b n2b c2b
    rw [hs408] at hx410
    replace X3 := vx X3 hb409
    replace X4 := vx X4 hb409
    replace X8 := qx X8 hb409
    replace X9 := qx X9 hb409
    replace X18 := qx X18 hb409
    replace HNp := wr HNp hb409
    replace HDp := wr HDp hb409
    replace HNq := wr HNq hb409
    replace HDq := wr HDq hb409
    replace B := bb B hb409
    have X19 := hid hx410
    have hs411 : ((w405.alloc (.cells #[.bool s1a, .slice p1a n1a c1a, .slice p1b n1b c1b] 30)).alloc (.cells #[.bool s2a, .slice p2a n2a c2a, .slice p2b n2b c2b] 30)).heap.size = w405.heap.size + 1 + 1 := by simp [hs408]
    clear hb409 hx410
    obtain ⟨cc412a, cc412b⟩ := X3.out.both
    obtain ⟨cc413a, cc413b⟩ := X4.out.both
    obtain ⟨cc414a, cc414b, cc414c⟩ := X18.out.cells
    obtain ⟨cc415a, cc415b, cc415c⟩ := X19.out.cells
    go_wp2_with fail
    generalize hW : (w405.alloc (.cells #[.bool s1a, .slice p1a n1a c1a, .slice p1b n1b c1b] 30)).alloc (.cells #[.bool s2a, .slice p2a n2a c2a, .slice p2b n2b c2b] 30) = W416 at *
    clear hW
    refine (two_zero k W416).mono ?_
    rintro e w' ⟨rfl, rfl⟩
    have hb418 := (Below.refl _ _).alloc (Nat.le_refl W416.heap.size) (.cells #[.string ⟨#[]⟩, .string ⟨#[]⟩, .string ⟨#[]⟩, .string ⟨#[]⟩, .string ⟨#[]⟩, .string ⟨#[]⟩, .string ⟨#[]⟩, .string ⟨#[]⟩] 44)
    have hx419 := Wbx.new W416 ⟨#[]⟩ ⟨#[]⟩ ⟨#[]⟩ ⟨#[]⟩ ⟨#[]⟩ ⟨#[]⟩ ⟨#[]⟩ ⟨#[]⟩
    rw [hs411] at hx419
    replace X3 := vx X3 hb418
    replace X4 := vx X4 hb418
    replace B := bb B hb418
    have X22 := hid hx419
    have hs420 : (W416.alloc (.cells #[.string ⟨#[]⟩, .string ⟨#[]⟩, .string ⟨#[]⟩, .string ⟨#[]⟩, .string ⟨#[]⟩, .string ⟨#[]⟩, .string ⟨#[]⟩, .string ⟨#[]⟩] 44)).heap.size = w405.heap.size + 1 + 1 + 1 := by simp [hs411]
    clear hb418 hx419
    obtain ⟨cc421a, cc421b⟩ := X3.out.both
    obtain ⟨cc422a, cc422b⟩ := X4.out.both
    obtain ⟨cc423a, cc423b, cc423c, cc423d, cc423e, cc423f, cc423g, cc423h⟩ := X22.out.cells
    go_wp2_with fail
    generalize hW : W416.alloc (.cells #[.string ⟨#[]⟩, .string ⟨#[]⟩, .string ⟨#[]⟩, .string ⟨#[]⟩, .string ⟨#[]⟩, .string ⟨#[]⟩, .string ⟨#[]⟩, .string ⟨#[]⟩] 44) = W424 at *
    clear hW
    refine (iadd_bad HW.out hal hah hbl hbh W424).mono ?_
    rintro e w425 ⟨rfl, hb⟩
    replace X3 := vx X3 hb
    replace X4 := vx X4 hb
    replace X22 := ux X22 hb
    replace B := bb B hb
    clear cc412a cc412b cc413a cc413b cc414a cc414b cc414c cc415a cc415b cc415c cc421a cc421b cc422a cc422b cc423a cc423b cc423c cc423d cc423e cc423f cc423g cc423h
    clear hb 
    have hb426 := (Below.refl _ _).alloc (Nat.le_refl w425.heap.size) (.cells #[.string ⟨#[]⟩, .string ⟨#[]⟩] 23)
    have hx427 := Vbx.new w425 ⟨#[]⟩ ⟨#[]⟩
    have L4 := hid X22.out.lt
    replace X3 := vx X3 hb426
    replace X4 := vx X4 hb426
    replace X22 := ux X22 hb426
    replace B := bb B hb426
    have Xc := hid hx427
    have hs428 : (w425.alloc (.cells #[.string ⟨#[]⟩, .string ⟨#[]⟩] 23)).heap.size = w425.heap.size + 1 := by simp
    clear hb426 hx427
    obtain ⟨cc429a, cc429b⟩ := X3.out.both
    obtain ⟨cc430a, cc430b⟩ := X4.out.both
    obtain ⟨cc431a, cc431b, cc431c, cc431d, cc431e, cc431f, cc431g, cc431h⟩ := X22.out.cells
    obtain ⟨cc432a, cc432b⟩ := Xc.out.both
    go_wp2_with fail
    generalize hW : w425.alloc (.cells #[.string ⟨#[]⟩, .string ⟨#[]⟩] 23) = W433 at *
    clear hW
    refine (same_no k HKB.out W433 (HDR.out.below B.out)).mono ?_
    rintro e w434 ⟨rfl, hb⟩
    replace X3 := vx X3 hb
    replace X4 := vx X4 hb
    replace X22 := ux X22 hb
    replace Xc := vx Xc hb
    replace B := bb B hb
    clear cc429a cc429b cc430a cc430b cc431a cc431b cc431c cc431d cc431e cc431f cc431g cc431h cc432a cc432b
    clear hb 
    obtain ⟨cc435a, cc435b⟩ := X3.out.both
    obtain ⟨cc436a, cc436b⟩ := X4.out.both
    obtain ⟨cc437a, cc437b, cc437c, cc437d, cc437e, cc437f, cc437g, cc437h⟩ := X22.out.cells
    obtain ⟨cc438a, cc438b⟩ := Xc.out.both
    go_wp2_with fail
    refine (imul_bad HW.out hal hah hbl hbh w434).mono ?_
    rintro e w439 ⟨rfl, hb⟩
    replace X3 := vx X3 hb
    replace X4 := vx X4 hb
    replace X22 := ux X22 hb
    replace Xc := vx Xc hb
    replace B := bb B hb
    clear cc435a cc435b cc436a cc436b cc437a cc437b cc437c cc437d cc437e cc437f cc437g cc437h cc438a cc438b
    clear hb 
    have hb440 := (Below.refl _ _).alloc (Nat.le_refl w439.heap.size) (.cells #[.string ⟨#[]⟩, .string ⟨#[]⟩] 23)
    have hx441 := Vbx.new w439 ⟨#[]⟩ ⟨#[]⟩
    have L5 := hid Xc.out.lt
    replace X3 := vx X3 hb440
    replace X4 := vx X4 hb440
    replace X22 := ux X22 hb440
    replace Xc := vx Xc hb440
    replace B := bb B hb440
    have Xd := hid hx441
    have hs442 : (w439.alloc (.cells #[.string ⟨#[]⟩, .string ⟨#[]⟩] 23)).heap.size = w439.heap.size + 1 := by simp
    clear hb440 hx441
    obtain ⟨cc443a, cc443b⟩ := X3.out.both
    obtain ⟨cc444a, cc444b⟩ := X4.out.both
    obtain ⟨cc445a, cc445b, cc445c, cc445d, cc445e, cc445f, cc445g, cc445h⟩ := X22.out.cells
    obtain ⟨cc446a, cc446b⟩ := Xc.out.both
    obtain ⟨cc447a, cc447b⟩ := Xd.out.both
    go_wp2_with fail
    generalize hW : w439.alloc (.cells #[.string ⟨#[]⟩, .string ⟨#[]⟩] 23) = W448 at *
    clear hW
    refine (same_no k HKB.out W448 (HDR.out.below B.out)).mono ?_
    rintro e w449 ⟨rfl, hb⟩
    replace X3 := vx X3 hb
    replace X4 := vx X4 hb
    replace X22 := ux X22 hb
    replace Xc := vx Xc hb
    replace Xd := vx Xd hb
    replace B := bb B hb
    clear cc443a cc443b cc444a cc444b cc445a cc445b cc445c cc445d cc445e cc445f cc445g cc445h cc446a cc446b cc447a cc447b
    clear hb 
    obtain ⟨cc450a, cc450b⟩ := X3.out.both
    obtain ⟨cc451a, cc451b⟩ := X4.out.both
    obtain ⟨cc452a, cc452b, cc452c, cc452d, cc452e, cc452f, cc452g, cc452h⟩ := X22.out.cells
    obtain ⟨cc453a, cc453b⟩ := Xc.out.both
    obtain ⟨cc454a, cc454b⟩ := Xd.out.both
    go_wp2_with fail
    refine (ihull_bad HW.out hal hah hbl hbh w449).mono ?_
    rintro e w455 ⟨rfl, hb⟩
    replace X3 := vx X3 hb
    replace X4 := vx X4 hb
    replace X22 := ux X22 hb
    replace Xc := vx Xc hb
    replace Xd := vx Xd hb
    replace B := bb B hb
    clear cc450a cc450b cc451a cc451b cc452a cc452b cc452c cc452d cc452e cc452f cc452g cc452h cc453a cc453b cc454a cc454b
    clear hb 
    have hb456 := (Below.refl _ _).alloc (Nat.le_refl w455.heap.size) (.cells #[.string ⟨#[]⟩, .string ⟨#[]⟩] 23)
    have hx457 := Vbx.new w455 ⟨#[]⟩ ⟨#[]⟩
    have L6 := hid Xd.out.lt
    replace X3 := vx X3 hb456
    replace X4 := vx X4 hb456
    replace X22 := ux X22 hb456
    replace Xc := vx Xc hb456
    replace Xd := vx Xd hb456
    replace B := bb B hb456
    have Xk := hid hx457
    have hs458 : (w455.alloc (.cells #[.string ⟨#[]⟩, .string ⟨#[]⟩] 23)).heap.size = w455.heap.size + 1 := by simp
    clear hb456 hx457
    obtain ⟨cc459a, cc459b⟩ := X3.out.both
    obtain ⟨cc460a, cc460b⟩ := X4.out.both
    obtain ⟨cc461a, cc461b, cc461c, cc461d, cc461e, cc461f, cc461g, cc461h⟩ := X22.out.cells
    obtain ⟨cc462a, cc462b⟩ := Xc.out.both
    obtain ⟨cc463a, cc463b⟩ := Xd.out.both
    obtain ⟨cc464a, cc464b⟩ := Xk.out.both
    go_wp2_with fail
    generalize hW : w455.alloc (.cells #[.string ⟨#[]⟩, .string ⟨#[]⟩] 23) = W465 at *
    clear hW
    refine (same_no k HKB.out W465 (HDR.out.below B.out)).mono ?_
    rintro e w466 ⟨rfl, hb⟩
    replace X3 := vx X3 hb
    replace X4 := vx X4 hb
    replace X22 := ux X22 hb
    replace Xc := vx Xc hb
    replace Xd := vx Xd hb
    replace Xk := vx Xk hb
    replace B := bb B hb
    clear cc459a cc459b cc460a cc460b cc461a cc461b cc461c cc461d cc461e cc461f cc461g cc461h cc462a cc462b cc463a cc463b cc464a cc464b
    clear hb 
    obtain ⟨cc467a, cc467b⟩ := X3.out.both
    obtain ⟨cc468a, cc468b⟩ := X4.out.both
    obtain ⟨cc469a, cc469b, cc469c, cc469d, cc469e, cc469f, cc469g, cc469h⟩ := X22.out.cells
    obtain ⟨cc470a, cc470b⟩ := Xc.out.both
    obtain ⟨cc471a, cc471b⟩ := Xd.out.both
    obtain ⟨cc472a, cc472b⟩ := Xk.out.both
    go_wp2_with fail
    refine (idiv_bad HW.out hal hah hbl hbh w466).mono ?_
    rintro e w473 ⟨rfl, hb⟩
    replace X3 := vx X3 hb
    replace X4 := vx X4 hb
    replace X22 := ux X22 hb
    replace Xc := vx Xc hb
    replace Xd := vx Xd hb
    replace Xk := vx Xk hb
    replace B := bb B hb
    clear cc467a cc467b cc468a cc468b cc469a cc469b cc469c cc469d cc469e cc469f cc469g cc469h cc470a cc470b cc471a cc471b cc472a cc472b
    clear hb 
    have hb474 := (Below.refl _ _).alloc (Nat.le_refl w473.heap.size) (.cells #[.string ⟨#[]⟩, .string ⟨#[]⟩] 23)
    have hx475 := Vbx.new w473 ⟨#[]⟩ ⟨#[]⟩
    have L7 := hid Xk.out.lt
    replace X3 := vx X3 hb474
    replace X4 := vx X4 hb474
    replace X22 := ux X22 hb474
    replace Xc := vx Xc hb474
    replace Xd := vx Xd hb474
    replace Xk := vx Xk hb474
    replace B := bb B hb474
    have Xm := hid hx475
    have hs476 : (w473.alloc (.cells #[.string ⟨#[]⟩, .string ⟨#[]⟩] 23)).heap.size = w473.heap.size + 1 := by simp
    clear hb474 hx475
    obtain ⟨cc477a, cc477b⟩ := X3.out.both
    obtain ⟨cc478a, cc478b⟩ := X4.out.both
    obtain ⟨cc479a, cc479b, cc479c, cc479d, cc479e, cc479f, cc479g, cc479h⟩ := X22.out.cells
    obtain ⟨cc480a, cc480b⟩ := Xc.out.both
    obtain ⟨cc481a, cc481b⟩ := Xd.out.both
    obtain ⟨cc482a, cc482b⟩ := Xk.out.both
    obtain ⟨cc483a, cc483b⟩ := Xm.out.both
    go_wp2_with fail
    generalize hW : w473.alloc (.cells #[.string ⟨#[]⟩, .string ⟨#[]⟩] 23) = W484 at *
    clear hW
    refine (same_no k HKB.out W484 (HDR.out.below B.out)).mono ?_
    rintro e w485 ⟨rfl, hb⟩
    replace X22 := ux X22 hb
    replace Xc := vx Xc hb
    replace Xd := vx Xd hb
    replace Xk := vx Xk hb
    replace Xm := vx Xm hb
    replace B := bb B hb
    clear cc477a cc477b cc478a cc478b cc479a cc479b cc479c cc479d cc479e cc479f cc479g cc479h cc480a cc480b cc481a cc481b cc482a cc482b cc483a cc483b
    clear hb 
    obtain ⟨cc486a, cc486b, cc486c, cc486d, cc486e, cc486f, cc486g, cc486h⟩ := X22.out.cells
    obtain ⟨cc487a, cc487b⟩ := Xc.out.both
    obtain ⟨cc488a, cc488b⟩ := Xd.out.both
    obtain ⟨cc489a, cc489b⟩ := Xk.out.both
    obtain ⟨cc490a, cc490b⟩ := Xm.out.both
    have hb491 := (Below.refl _ _).alloc (Nat.le_refl w485.heap.size) (.cells #[.string ⟨#[]⟩, .string ⟨#[]⟩, .string ⟨#[]⟩, .string ⟨#[]⟩, .string ⟨#[]⟩, .string ⟨#[]⟩, .string ⟨#[]⟩, .string ⟨#[]⟩] 44)
    have hx492 := Wbx.new w485 ⟨#[]⟩ ⟨#[]⟩ ⟨#[]⟩ ⟨#[]⟩ ⟨#[]⟩ ⟨#[]⟩ ⟨#[]⟩ ⟨#[]⟩
    have L8 := hid Xm.out.lt
    replace X22 := ux X22 hb491
    replace Xc := vx Xc hb491
    replace Xd := vx Xd hb491
    replace Xk := vx Xk hb491
    replace Xm := vx Xm hb491
    replace B := bb B hb491
    have X31 := hid hx492
    have hs493 : (w485.alloc (.cells #[.string ⟨#[]⟩, .string ⟨#[]⟩, .string ⟨#[]⟩, .string ⟨#[]⟩, .string ⟨#[]⟩, .string ⟨#[]⟩, .string ⟨#[]⟩, .string ⟨#[]⟩] 44)).heap.size = w485.heap.size + 1 := by simp
    clear hb491 hx492
    obtain ⟨cc494a, cc494b, cc494c, cc494d, cc494e, cc494f, cc494g, cc494h⟩ := X22.out.cells
    obtain ⟨cc495a, cc495b⟩ := Xc.out.both
    obtain ⟨cc496a, cc496b⟩ := Xd.out.both
    obtain ⟨cc497a, cc497b⟩ := Xk.out.both
    obtain ⟨cc498a, cc498b⟩ := Xm.out.both
    obtain ⟨cc499a, cc499b, cc499c, cc499d, cc499e, cc499f, cc499g, cc499h⟩ := X31.out.cells
    go_wp2_with fail
    go_ret
    exact ⟨rfl, B.out⟩

end Go.Proofs.YtkdeopikojgboaaGreatDoor
