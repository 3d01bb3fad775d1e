import Derived.Test.YtokojbgpboccnaaBunProofSturmOwn15
import Derived.Test.YtokojbgpboccnaaBunProofSturmOwn12
import Derived.Test.YtokojbgpboccnaaBunProofSturmOwn1
import Derived.Test.YtokojbgpboccnaaBunProofSturmOwn4
import Derived.WideShapes
/-
  POLYNOMIALS WITH WHOLE COEFFICIENTS, IN MEMORY: rows of Integers.
-/
namespace Go.Proofs.Ytokojbgpboccnaa
open Go.RowKit
open Num
set_option linter.unusedVariables false
set_option maxRecDepth 100000
set_option linter.unusedSimpArgs false
/-- A value reads as an integer, its size apart. -/
def ZF (w : World) (v : Value) (z : Int) : Prop := ∃ k, Whl w v z k
/-- So many limbs of the reference's are enough. -/
def Zm (z : Int) (m : Nat) : Prop := z.natAbs < Num4.B ^ m
theorem Zm.mono {z : Int} {m n : Nat} (h : Zm z m) (hn : m ≤ n) : Zm z n := Nat.lt_of_lt_of_le h (Nat.pow_le_pow_right (by decide) hn)
theorem Zm.mul {z y : Int} {m n : Nat} (h : Zm z m) (h' : Zm y n) : Zm (z * y) (m + n) := by
  unfold Zm
  rw [Int.natAbs_mul, Nat.pow_add]
  exact Nat.mul_lt_mul'' h h'
theorem Zm.one : Zm 1 1 := by unfold Zm; decide
theorem Zm.pow {z : Int} {m : Nat} (h : Zm z m) : ∀ n : Nat, Zm (z ^ n) (n * m + 1)
  | 0 => by rw [Int.pow_zero, Nat.zero_mul]; exact Zm.one
  | n + 1 => by rw [Int.pow_succ, show (n + 1) * m + 1 = (n * m + 1) + m by rw [Nat.succ_mul]; omega]; exact (Zm.pow h n).mul h
theorem Zm.sub {z y : Int} {m : Nat} (h : Zm z m) (h' : Zm y m) : Zm (z - y) (m + 1) := by
  unfold Zm at *
  have e : Num4.B ^ (m + 1) = Num4.B ^ m * 10000 := rfl
  rw [e]; omega
theorem Zm.le {z y : Int} {m : Nat} (h : Zm z m) (hy : y.natAbs ≤ z.natAbs) : Zm y m := Nat.lt_of_le_of_lt hy h
theorem ZF.on {w w' : World} {v : Value} {z : Int} (h : ZF w v z) (hb : Below w.heap.size w w') : ZF w' v z := by
  obtain ⟨k, h⟩ := h
  exact ⟨k, h.on hb⟩
theorem ZF.opened {w : World} {v : Value} {z : Int} (h : ZF w v z) : ∃ s p n c, v = .agg #[.bool s, .slice p n c] := by
  obtain ⟨k, h⟩ := h
  exact h.opened
theorem ZF.moved {w w' : World} {v : Value} {z : Int} (h : ZF w v z) (hm : ∀ v z k, Whl w v z k → Whl w' v z k) : ZF w' v z := by
  obtain ⟨k, h⟩ := h
  exact ⟨k, hm _ _ _ h⟩
theorem ZF.drew {w : World} {v : Value} {z : Int} (h : ZF w v z) : ZF w.drew v z := h.on (Below.drew (Below.refl _ _))
theorem ZF.cast {w : World} {v : Value} {z y : Int} (h : ZF w v z) (e : z = y) : ZF w v y := by rw [← e]; exact h
theorem ZF.zero (w : World) : ZF w (.agg #[.bool false, .slice none 0 0]) 0 := ⟨1, cells_whl_zero w 1⟩
/-! Rows. -/
def iag (r : Zr) : Value := .agg #[.bool r.1, .slice r.2.1 r.2.2.1 r.2.2.2]
def Iz : Zr := (false, none, 0, 0)
def C2 (cur : Array Value) (j : Nat) (r : Zr) : Prop := cur[j]? = some (.bool r.1) ∧ cur[j + 1]? = some (.slice r.2.1 r.2.2.1 r.2.2.2)
def At2 (w : World) (b j : Nat) (r : Zr) : Prop := w.cell? ⟨b, j, none⟩ = some (.bool r.1) ∧ w.cell? ⟨b, j + 1, none⟩ = some (.slice r.2.1 r.2.2.1 r.2.2.2)
theorem At2.of {w : World} {b j : Nat} {cur : Array Value} {T : TypeId} {f : Nat × Nat} {r : Zr} (h : w.heap[b]? = some (.cells cur T f)) (hc : C2 cur j r) : At2 w b j r := by
  obtain ⟨h0, h1⟩ := hc
  refine ⟨?_, ?_⟩ <;> simp [World.cell?, h, h0, h1]
theorem At2.kept {w w' : World} {b j : Nat} {r : Zr} (h : At2 w b j r) (e : w'.heap[b]? = w.heap[b]?) : At2 w' b j r := by
  obtain ⟨h0, h1⟩ := h
  exact ⟨(World.cell?_of_block e).trans h0, (World.cell?_of_block e).trans h1⟩
theorem C2.other {cur : Array Value} {j k : Nat} {r : Zr} (h : C2 cur j r) (hk : k < j ∨ j + 1 < k) (x : Value) : C2 (cur.setIfInBounds k x) j r := by
  obtain ⟨h0, h1⟩ := h
  refine ⟨?_, ?_⟩
  · rw [Array.getElem?_setIfInBounds_ne (by omega)]; exact h0
  · rw [Array.getElem?_setIfInBounds_ne (by omega)]; exact h1
def put2 (cur : Array Value) (j : Nat) (r : Zr) : Array Value := (cur.setIfInBounds j (.bool r.1)).setIfInBounds (j + 1) (.slice r.2.1 r.2.2.1 r.2.2.2)
theorem C2.self (cur : Array Value) {j : Nat} (h : j + 1 < cur.size) (r : Zr) : C2 (put2 cur j r) j r := by
  unfold put2
  refine ⟨?_, ?_⟩
  · rw [Array.getElem?_setIfInBounds_ne (by omega), Array.getElem?_setIfInBounds_self_of_lt (by omega)]
  · rw [Array.getElem?_setIfInBounds_self_of_lt (by simp; omega)]
theorem C2.far {cur : Array Value} {i j : Nat} {r s : Zr} (h : C2 cur (i * 2) r) (hne : i ≠ j) : C2 (put2 cur (j * 2) s) (i * 2) r := (h.other (by omega) _).other (by omega) _
theorem size_put2 (cur : Array Value) (j : Nat) (r : Zr) : (put2 cur j r).size = cur.size := by simp [put2]
theorem ni_put2 {cur : Array Value} (h : ∀ u ∈ cur.toList, NI u) (j : Nat) (r : Zr) : ∀ u ∈ (put2 cur j r).toList, NI u := by
  intro u hu
  unfold put2 at hu
  rcases mem_set hu with hu | rfl
  · rcases mem_set hu with hu | rfl
    · exact h u hu
    · exact NI.bool _
  · exact NI.slc _ _ _
/-- Another one at a place. -/
def upi (rs : Nat → Zr) (i : Nat) (r : Zr) : Nat → Zr := fun k => if k = i then r else rs k
theorem upi_self (rs : Nat → Zr) (i : Nat) (r : Zr) : upi rs i r i = r := if_pos rfl
theorem upi_ne (rs : Nat → Zr) {i k : Nat} (r : Zr) (h : k ≠ i) : upi rs i r k = rs k := if_neg h
/-- Block b begins with n Integers, may be written, and holds no numbers of its own. -/
def IRw (w : World) (b n : Nat) (rs : Nat → Zr) : Prop := ∃ cur, w.heap[b]? = some (.cells cur 47 (0, 0)) ∧ n * 2 ≤ cur.size ∧ (∀ i, i < n → C2 cur (i * 2) (rs i)) ∧ ∀ u ∈ cur.toList, NI u
theorem IRw.lt {w : World} {b n : Nat} {rs : Nat → Zr} (h : IRw w b n rs) : b < w.heap.size := by
  obtain ⟨cur, h, _⟩ := h
  exact (Array.getElem?_eq_some_iff.1 h).1
theorem IRw.kept {w w' : World} {b n : Nat} {rs : Nat → Zr} (h : IRw w b n rs) (e : w'.heap[b]? = w.heap[b]?) : IRw w' b n rs := by
  obtain ⟨cur, h, h2⟩ := h
  exact ⟨cur, e.trans h, h2⟩
theorem IRw.on {w w' : World} {b n : Nat} {rs : Nat → Zr} (h : IRw w b n rs) (hb : Below w.heap.size w w') : IRw w' b n rs := h.kept (hb.block b h.lt)
theorem IRw.at {w : World} {b n : Nat} {rs : Nat → Zr} (h : IRw w b n rs) {i : Nat} (hi : i < n) : At2 w b (i * 2) (rs i) := by
  obtain ⟨cur, h, _, h2, _⟩ := h
  exact At2.of h (h2 i hi)
theorem IRw.cells {w : World} {b n : Nat} {rs : Nat → Zr} (h : IRw w b n rs) {i : Nat} (hi : i < n) : w.cell? ⟨b, i * 2, none⟩ = some (.bool (rs i).1) ∧ w.cell? ⟨b, i * 2 + 1, none⟩ = some (.slice (rs i).2.1 (rs i).2.2.1 (rs i).2.2.2) := h.at hi
theorem IRw.noint {w : World} {b n : Nat} {rs : Nat → Zr} (h : IRw w b n rs) : NoInt w b := by
  obtain ⟨cur, h, _, _, h2⟩ := h
  intro cur' T f e u hu
  rw [h] at e
  cases e
  exact h2 u hu
theorem IRw.less {w : World} {b n m : Nat} {rs : Nat → Zr} (h : IRw w b n rs) (hm : m ≤ n) : IRw w b m rs := by
  obtain ⟨cur, h, h1, h2, h3⟩ := h
  exact ⟨cur, h, by omega, fun i hi => h2 i (by omega), h3⟩
/-- What a walk needs to write the i-th one. -/
theorem IRw.stores {w : World} {b n : Nat} {rs : Nat → Zr} (h : IRw w b n rs) {i : Nat} (hi : i < n) :
    (w.cell? ⟨b, i * 2, none⟩ = some (.bool (rs i).1) ∧ w.frozen? ⟨b, i * 2, none⟩ = false) ∧
    ((∀ x, (w.setCell ⟨b, i * 2, none⟩ x).cell? ⟨b, i * 2 + 1, none⟩ = some (.slice (rs i).2.1 (rs i).2.2.1 (rs i).2.2.2)) ∧ (∀ x, (w.setCell ⟨b, i * 2, none⟩ x).frozen? ⟨b, i * 2 + 1, none⟩ = false)) := by
  obtain ⟨cur, h, hs, h2, _⟩ := h
  obtain ⟨c0, c1⟩ := h2 i hi
  have fr : ∀ {w : World} {cur : Array Value} {k : Nat}, w.heap[b]? = some (.cells cur 47 (0, 0)) → w.frozen? ⟨b, k, none⟩ = false := by
    intro w cur k h
    simp [World.frozen?, h]
  refine ⟨⟨by simp [World.cell?, h, c0], fr h⟩, fun x => ?_, fun x => fr (heap_set h x)⟩
  simp only [World.cell?, heap_set h x]
  rw [Array.getElem?_setIfInBounds_ne (by omega)]; exact c1
theorem IRw.put {w : World} {b m : Nat} {rs : Nat → Zr} (h : IRw w b m rs) {i : Nat} (hi : i < m) (s : Bool) (p : Option Addr) (n c : Nat) :
    IRw ((w.setCell ⟨b, i * 2, none⟩ (.bool s)).setCell ⟨b, i * 2 + 1, none⟩ (.slice p n c)) b m (upi rs i (s, p, n, c)) := by
  obtain ⟨cur, h, hs, h2, h3⟩ := h
  refine ⟨put2 cur (i * 2) (s, p, n, c), ?_, by rw [size_put2]; exact hs, fun k hk => ?_, ni_put2 h3 _ _⟩
  · exact heap_set (heap_set h _) _
  · by_cases hki : k = i
    · subst hki
      rw [upi_self]
      exact C2.self cur (by omega) _
    · rw [upi_ne _ _ hki]
      exact (h2 k hk).far hki
theorem IRw.far {w : World} {b m g : Nat} {rs : Nat → Zr} (h : IRw w b m rs) (i : Nat) (hne : g ≠ b) (s : Bool) (p : Option Addr) (n c : Nat) : ((w.setCell ⟨b, i * 2, none⟩ (.bool s)).setCell ⟨b, i * 2 + 1, none⟩ (.slice p n c)).heap[g]? = w.heap[g]? := by
  rw [Below.heap_setCell _ _ _ _ (by exact hne), Below.heap_setCell _ _ _ _ (by exact hne)]
theorem IRw.below {w0 w : World} {K b m : Nat} {rs : Nat → Zr} (h : IRw w b m rs) (hb : Below K w0 w) (i : Nat) (hK : K ≤ b) (s : Bool) (p : Option Addr) (n c : Nat) : Below K w0 ((w.setCell ⟨b, i * 2, none⟩ (.bool s)).setCell ⟨b, i * 2 + 1, none⟩ (.slice p n c)) :=
  (hb.setCell (p := ⟨b, i * 2, none⟩) hK _).setCell (p := ⟨b, i * 2 + 1, none⟩) hK _
theorem IRw.dr {w : World} {b n : Nat} {rs : Nat → Zr} (h : IRw w b n rs) : IRw w.drew b n rs := h
theorem ZF.grown {w w' : World} {v : Value} {z : Int} {g : Nat} (h : ZF w v z) (hn : NoInt w g) (hg : w.grownBy w' (some g)) : ZF w' v z := h.moved fun _ _ _ hv => by
  obtain ⟨s, sv, xs, h1, h2, h3⟩ := hv
  exact ⟨s, sv, xs, h1, h2.grown hn hg, h3⟩
theorem ZF.put {w : World} {v : Value} {z : Int} {b n : Nat} {rs : Nat → Nr} (h : ZF w v z) (hr : NRw w b n rs) (i : Nat) (s1 : Bool) (p1 : Option Addr) (n1 c1 : Nat) (s2 : Bool) (p2 : Option Addr) (n2 c2 : Nat) : ZF ((((w.setCell ⟨b, i * 4, none⟩ (.bool s1)).setCell ⟨b, i * 4 + 1, none⟩ (.slice p1 n1 c1)).setCell ⟨b, i * 4 + 2, none⟩ (.bool s2)).setCell ⟨b, i * 4 + 3, none⟩ (.slice p2 n2 c2)) v z := h.grown hr.noint (set4_grown w b i s1 p1 n1 c1 s2 p2 n2 c2)
/-! The same, where the walk writes the place otherwise. -/
theorem IRw.cellsO {w : World} {b n : Nat} {rs : Nat → Zr} (h : IRw w b n rs) {i : Nat} (hi : i < n) {o : Nat} (ho : o = i * 2) : w.cell? ⟨b, o, none⟩ = some (.bool (rs i).1) ∧ w.cell? ⟨b, o + 1, none⟩ = some (.slice (rs i).2.1 (rs i).2.2.1 (rs i).2.2.2) := by subst ho; exact h.cells hi
theorem IRw.storesO {w : World} {b n : Nat} {rs : Nat → Zr} (h : IRw w b n rs) {i : Nat} (hi : i < n) {o : Nat} (ho : o = i * 2) :
    (w.cell? ⟨b, o, none⟩ = some (.bool (rs i).1) ∧ w.frozen? ⟨b, o, none⟩ = false) ∧
    ((∀ x, (w.setCell ⟨b, o, none⟩ x).cell? ⟨b, o + 1, none⟩ = some (.slice (rs i).2.1 (rs i).2.2.1 (rs i).2.2.2)) ∧ (∀ x, (w.setCell ⟨b, o, none⟩ x).frozen? ⟨b, o + 1, none⟩ = false)) := by subst ho; exact h.stores hi
theorem IRw.putO {w : World} {b m : Nat} {rs : Nat → Zr} (h : IRw w b m rs) {i : Nat} (hi : i < m) {o : Nat} (ho : o = i * 2) (s : Bool) (p : Option Addr) (n c : Nat) :
    IRw ((w.setCell ⟨b, o, none⟩ (.bool s)).setCell ⟨b, o + 1, none⟩ (.slice p n c)) b m (upi rs i (s, p, n, c)) := by subst ho; exact h.put hi s p n c
theorem IRw.farO {w : World} {b m g : Nat} {rs : Nat → Zr} (h : IRw w b m rs) (i : Nat) (hne : g ≠ b) {o : Nat} (ho : o = i * 2) (s : Bool) (p : Option Addr) (n c : Nat) : ((w.setCell ⟨b, o, none⟩ (.bool s)).setCell ⟨b, o + 1, none⟩ (.slice p n c)).heap[g]? = w.heap[g]? := by subst ho; exact h.far i hne s p n c
theorem IRw.belowO {w0 w : World} {K b m : Nat} {rs : Nat → Zr} (h : IRw w b m rs) (hb : Below K w0 w) (i : Nat) (hK : K ≤ b) {o : Nat} (ho : o = i * 2) (s : Bool) (p : Option Addr) (n c : Nat) : Below K w0 ((w.setCell ⟨b, o, none⟩ (.bool s)).setCell ⟨b, o + 1, none⟩ (.slice p n c)) := by subst ho; exact h.below hb i hK s p n c
/-- A slice value reads as these integers. -/
def IN (w : World) (v : Value) (l : List Int) : Prop := ∃ (a : Option Addr) (c : Nat) (rs : Nat → Zr), v = .slice a l.length c ∧ l.length ≤ c ∧ c ≤ maxLen ∧ ∀ i, i < l.length → ∃ b, a = some ⟨b, 0, none⟩ ∧ b < w.heap.size ∧ At2 w b (i * 2) (rs i) ∧ ZF w (iag (rs i)) (zc l i)
theorem IN.on {w w' : World} {v : Value} {l : List Int} (h : IN w v l) (hb : Below w.heap.size w w') : IN w' v l := by
  obtain ⟨a, c, rs, h1, h2, h3, h4⟩ := h
  refine ⟨a, c, rs, h1, h2, h3, fun i hi => ?_⟩
  obtain ⟨b, e, hl, ha, hq⟩ := h4 i hi
  exact ⟨b, e, Nat.lt_of_lt_of_le hl hb.size, ha.kept (hb.block b hl), hq.on hb⟩
theorem IN.opened {w : World} {v : Value} {l : List Int} (h : IN w v l) : ∃ a c, v = .slice a l.length c ∧ l.length ≤ c ∧ c ≤ maxLen := by
  obtain ⟨a, c, rs, h1, h2, h3, _⟩ := h
  exact ⟨a, c, h1, h2, h3⟩
theorem IN.nil (w : World) {a : Option Addr} {c : Nat} (hc : c ≤ maxLen) : IN w (.slice a 0 c) [] := ⟨a, c, fun _ => Iz, rfl, Nat.zero_le _, hc, fun i hi => absurd hi (Nat.not_lt_zero _)⟩
theorem zc_take {l : List Int} {i n : Nat} (h : i < n) : zc (l.take n) i = zc l i := by simp [zc, List.getElem?_take, h]
theorem IN.take {w : World} {l : List Int} {a : Option Addr} {n c m : Nat} (h : IN w (.slice a n c) l) (hm : m ≤ l.length) : IN w (.slice a m c) (l.take m) := by
  obtain ⟨a', c', rs, h1, h2, h3, h4⟩ := h
  obtain ⟨rfl, rfl, rfl⟩ := Value.slice.inj h1
  have hl : (l.take m).length = m := by rw [List.length_take]; omega
  refine ⟨a, c, rs, by rw [hl], by omega, h3, fun i hi => ?_⟩
  rw [hl] at hi
  rw [zc_take hi]
  exact h4 i (by omega)
end Go.Proofs.Ytokojbgpboccnaa

/-
  PACKAGE pgcd: slices.Clone.
-/
namespace Go.Proofs.Ytokojbgpboccnaa
open Go.RowKit
open Num
set_option linter.unusedVariables false
set_option maxRecDepth 100000
set_option linter.unusedSimpArgs false

/-- The k-th cell of an Integer. -/
def icell (r : Zr) (k : Nat) : Value := if k = 0 then .bool r.1 else .slice r.2.1 r.2.2.1 r.2.2.2
theorem At2.cell {w : World} {b i : Nat} {r : Zr} (h : At2 w b (i * 2) r) {j : Nat} (h1 : i * 2 ≤ j) (h2 : j < i * 2 + 2) : w.cell? ⟨b, j, none⟩ = some (icell r (j - i * 2)) := by
  obtain ⟨c0, c1⟩ := h
  rcases (show j = i * 2 ∨ j = i * 2 + 1 by omega) with h | h
  · rw [h, c0]; simp [icell]
  · rw [h, c1]; simp [icell]
end Go.Proofs.Ytokojbgpboccnaa

/-
  PACKAGE pgcd: trim.
-/
namespace Go.Proofs.Ytokojbgpboccnaa
open Go.RowKit
open Num
set_option linter.unusedVariables false
set_option maxRecDepth 100000
set_option linter.unusedSimpArgs false

/-- None is longer. -/
def Zl (l : List Int) (m : Nat) : Prop := ∀ i, Zm (zc l i) m
end Go.Proofs.Ytokojbgpboccnaa

/-
  PACKAGE pgcd: remainder.
-/
namespace Go.Proofs.Ytokojbgpboccnaa
open Go.RowKit
open Num
set_option linter.unusedVariables false
set_option maxRecDepth 100000
set_option linter.unusedSimpArgs false

theorem Zm.neg {z : Int} {m : Nat} (h : Zm z m) : Zm (-z) m := by unfold Zm; rw [Int.natAbs_neg]; exact h
theorem Zm.zero {m : Nat} : Zm 0 m := by unfold Zm; exact Nat.pow_pos (by decide)
end Go.Proofs.Ytokojbgpboccnaa

/-
  PACKAGE pgcd: divided.
-/
namespace Go.Proofs.Ytokojbgpboccnaa
open Go.RowKit
open Num
set_option linter.unusedVariables false
set_option maxRecDepth 100000
set_option linter.unusedSimpArgs false

end Go.Proofs.Ytokojbgpboccnaa

/-
  PACKAGE pgcd: over, polynomial.
-/
namespace Go.Proofs.Ytokojbgpboccnaa
open Go.RowKit
open Num
set_option linter.unusedVariables false
set_option maxRecDepth 100000
set_option linter.unusedSimpArgs false
end Go.Proofs.Ytokojbgpboccnaa

/-
  PACKAGE pgcd: power.
-/
namespace Go.Proofs.Ytokojbgpboccnaa
open Go.RowKit
open Num
set_option linter.unusedVariables false
set_option maxRecDepth 100000
set_option linter.unusedSimpArgs false

end Go.Proofs.Ytokojbgpboccnaa

/-
  PACKAGE pgcd: what holds in each round of gcd. Nothing of a program.
-/
namespace Go.Proofs.Ytokojbgpboccnaa
open Go.RowKit
open Num
set_option linter.unusedVariables false
def Szp (m : Nat) (p q : List Int) : Prop := ∃ a b, Zl p a ∧ Zl q b ∧ ((q.length < p.length ∧ a + 1 ≤ psA (10 - p.length) * (m + 1) ∧ b + 1 ≤ psA (11 - p.length) * (m + 1)) ∨ (q.length ≤ p.length ∧ a ≤ m ∧ b ≤ m))
theorem Szp.next {m : Nat} {p q : List Int} (h : Szp m p q) (h0 : q ≠ []) (hl : p.length ≤ 9) : ∃ a b, Zl p a ∧ Zl q b ∧ a + (p.length - q.length + 1) * (b + 1) + 1 ≤ 3363 * (m + 1) ∧ b + 1 ≤ 3363 * (m + 1) ∧ ∀ c : List Int, c.length < q.length → Zl c (a + (p.length - q.length + 1) * (b + 1)) → Szp m q c := by
  have hq := List.length_pos_iff.2 h0
  have e10 : psA 10 = 3363 := by decide
  obtain ⟨a, b, h1, h2, h3⟩ := h
  have key : a + (p.length - q.length + 1) * (b + 1) + 1 ≤ psA (11 - q.length) * (m + 1) ∧ b + 1 ≤ psA (10 - q.length) * (m + 1) := by
    rcases h3 with ⟨h3, h4, h5⟩ | ⟨h3, h4, h5⟩
    · have k1 := psA_step (10 - p.length) (p.length - q.length + 1) (by omega) (by omega)
      rw [show 10 - p.length + (p.length - q.length + 1) = 11 - q.length by omega, show 10 - p.length + 1 = 11 - p.length by omega] at k1
      have k2 := Nat.mul_le_mul_right (m + 1) k1
      have k3 := Nat.mul_le_mul_left (p.length - q.length + 1) h5
      have k4 := psA_mono (i := 11 - p.length) (j := 10 - q.length) (by omega) (by omega)
      have k5 := Nat.mul_le_mul_right (m + 1) k4
      rw [Nat.add_mul, Nat.mul_assoc] at k2
      omega
    · have k1 := psA_self (n := 11 - q.length) (by omega) (by omega)
      have k2 := Nat.mul_le_mul_right (m + 1) (show p.length - q.length + 1 + 1 ≤ psA (11 - q.length) by omega)
      have k3 := Nat.mul_le_mul_left (p.length - q.length + 1) (show b + 1 ≤ m + 1 by omega)
      have k4 := psA_self (n := 10 - q.length) (by omega) (by omega)
      have k5 := Nat.mul_le_mul_right (m + 1) (show 1 ≤ psA (10 - q.length) by omega)
      rw [Nat.add_mul] at k2
      omega
  have b1 := Nat.mul_le_mul_right (m + 1) (psA_mono (i := 11 - q.length) (j := 10) (by omega) (by omega))
  have b2 := Nat.mul_le_mul_right (m + 1) (psA_mono (i := 10 - q.length) (j := 10) (by omega) (by omega))
  rw [e10] at b1 b2
  refine ⟨a, b, h1, h2, by omega, by omega, fun c hc hz => ⟨b, _, h2, hz, .inl ⟨hc, key.2, key.1⟩⟩⟩
/-- A round's state. -/
def Gst (m : Nat) (lp lq p q : List Int) (g h : Int) : Prop := (Ztr p ∧ Ztr q ∧ p.length ≤ 9 ∧ q.length ≤ p.length) ∧ Szp m p q ∧ (g ≠ 0 ∧ h ≠ 0 ∧ Zm g (3363 * (m + 1)) ∧ Zm h (30000 * (m + 1))) ∧ gcdp (zq lp) (zq lq) = gcdp (zq p) (zq q) ∧ (q ≠ [] → SInv g h (zc p) (zc q) (p.length - 1) (q.length - 1))
theorem Gst.start {m : Nat} {p q : List Int} (hp : Ztr p) (hq : Ztr q) (hs : Zl p m) (hs' : Zl q m) (hl : p.length ≤ 9) (hle : q.length ≤ p.length) : Gst m p q p q 1 1 :=
  ⟨⟨hp, hq, hl, hle⟩, ⟨m, m, hs, hs', .inr ⟨hle, Nat.le_refl _, Nat.le_refl _⟩⟩, ⟨by decide, by decide, Zm.one.mono (by omega), Zm.one.mono (by omega)⟩, rfl, fun _ => SInv.start _ _ _ _⟩
theorem over_exact {r : List Int} {K : Int} (hK : K ≠ 0) (hd : ∀ i, K ∣ zc r i) (ht : Ztr r) : Ztr (r.map (· / K)) ∧ ∀ i, zc r i = K * zc (r.map (· / K)) i := by
  have e : ∀ i, zc r i = K * zc (r.map (· / K)) i := fun i => by
    rw [show zc (r.map (· / K)) i = zc r i / K from by
      unfold zc
      rw [List.getElem?_map]
      cases r[i]? <;> simp]
    exact (Int.mul_ediv_cancel' (hd i)).symm
  refine ⟨?_, e⟩
  rcases ht with rfl | ht
  · exact .inl rfl
  · refine .inr fun h => ht ?_
    rw [List.length_map] at h
    rw [e, h]; exact Int.mul_zero _
theorem Zl.over {r : List Int} {K : Int} {a : Nat} (h : Zl r a) : Zl (r.map (· / K)) a := fun i => by
  rw [show zc (r.map (· / K)) i = zc r i / K from by
    unfold zc
    rw [List.getElem?_map]
    cases r[i]? <;> simp]
  exact (h i).le (Int.natAbs_ediv_le_natAbs _ _)
theorem Gst.next {m d a b : Nat} {lp lq p q r : List Int} {g h : Int} (H : Gst m lp lq p q g h) (hd : q.length = d + 1) (hr : Ztr r) (hl : r.length ≤ d)
    (hS : SRed (zc q) (zc q d) (p.length - q.length) (p.length - q.length + 1) (zc p) (zc r)) (hb : Zl q b) (hbm : b + 1 ≤ 3363 * (m + 1)) (hz : Zl r (a + (p.length - q.length + 1) * (b + 1)))
    (hn : ∀ c : List Int, c.length < q.length → Zl c (a + (p.length - q.length + 1) * (b + 1)) → Szp m q c) :
    g * h ^ (p.length - q.length) ≠ 0 ∧ (∀ h', (q.length < p.length → h' = zc q d ^ (p.length - q.length) / h ^ (p.length - q.length - 1)) → (q.length = p.length → h' = h) → Gst m lp lq q (r.map (· / (g * h ^ (p.length - q.length)))) (zc q d) h') := by
  obtain ⟨⟨hp, hq, hl9, hle⟩, _, ⟨hg, hh, hgm, hhm⟩, he, hi⟩ := H
  have h0 : q ≠ [] := by rintro rfl; simp at hd
  have hi := hi h0
  have hd' : d = q.length - 1 := by omega
  have hdv := ig_rest hi hq h0 hle (by rw [hd'] at hS; exact hS) (fun i hi => zc_ge (by omega))
  have hK : g * h ^ (p.length - q.length) ≠ 0 := Int.mul_ne_zero hg (spow_ne hh _)
  obtain ⟨ht, hc⟩ := over_exact hK hdv hr
  have hl0 : zc q d ≠ 0 := by rw [hd']; exact hq.top h0
  refine ⟨hK, fun h' hs1 hs2 => ⟨⟨hq, ht, by omega, by rw [List.length_map]; omega⟩, hn _ (by rw [List.length_map]; omega) hz.over, ?_, ?_, ?_⟩⟩
  · by_cases hlt : q.length < p.length
    · have hsd := ig_scale hi h0 hlt
      rw [← hd'] at hsd
      have e1 : h' * h ^ (p.length - q.length - 1) = zc q d ^ (p.length - q.length) := by rw [hs1 hlt]; exact Int.ediv_mul_cancel hsd
      refine ⟨hl0, scale_ne hl0 (by rw [show p.length - q.length - 1 = (p.length - q.length) - 1 from rfl] at e1; exact e1), (hb d).mono (by omega), ?_⟩
      rw [hs1 hlt]
      have h1 : Zm (zc q d ^ (p.length - q.length) / h ^ (p.length - q.length - 1)) ((p.length - q.length) * b + 1) := ((hb d).pow _).le (Int.natAbs_ediv_le_natAbs _ _)
      refine h1.mono ?_
      have h2 := Nat.mul_le_mul_right b (show p.length - q.length ≤ 8 by omega)
      omega
    · rw [hs2 (by omega)]
      exact ⟨hl0, hh, (hb d).mono (by omega), hhm⟩
  · rw [he]
    exact ig_next hp hq h0 hle hg hh (by rw [hd'] at hS; exact hS) hc ht
  · intro hc0
    have h3 := ig_inv (h' := h') hi hq h0 hle hg hh (by rw [hd'] at hS; exact hS) hc (by rw [List.length_map]; omega) hc0 (fun e => hs2 (by omega)) (fun e => by
      have hsd := ig_scale hi h0 e
      rw [hs1 e, hd']
      exact Int.ediv_mul_cancel hsd)
    rw [← hd'] at h3
    rw [show q.length - 1 = d by omega]
    exact h3
theorem Gst.end {m : Nat} {lp lq p : List Int} {g h : Int} (H : Gst m lp lq p [] g h) : Ztr p ∧ p.length ≤ 9 ∧ mnc (zq p) = gcdp (zq lp) (zq lq) ∧ Zl p (3363 * (m + 1)) := by
  obtain ⟨⟨hp, _, hl9, _⟩, ⟨a, b, h1, _, h3⟩, _, he, _⟩ := H
  refine ⟨hp, hl9, ?_, fun i => (h1 i).mono ?_⟩
  · rw [he]
    exact (gcdp_end hp.trm).symm
  · rcases h3 with ⟨_, h4, _⟩ | ⟨_, h4, _⟩
    · have b1 := Nat.mul_le_mul_right (m + 1) (psA_mono (i := 10 - p.length) (j := 10) (by omega) (by omega))
      have e10 : psA 10 = 3363 := by decide
      rw [e10] at b1
      omega
    · omega
end Go.Proofs.Ytokojbgpboccnaa

/-
  PACKAGE poly: Polynomial.Add.
-/
namespace Go.Proofs.Ytokojbgpboccnaa
open Go.RowKit
open Num
set_option linter.unusedVariables false
set_option maxRecDepth 100000
set_option linter.unusedSimpArgs false

set_option maxHeartbeats 4000000 in
theorem padd_one {w : World} {v u : Value} {l r : List Rat} {m n : Nat} (h : PN w v l) (h' : PN w u r) (hs : Sml l m) (hs' : Sml r n) (hm : m ≤ 68719476736) (hn : n ≤ 68719476736) (hl : l.length ≤ 1000000) (hle : r.length ≤ l.length) :
    Calls Try.prog 19 #[v, u] w fun e w' => ∃ v', e = .returned v' ∧ PN w' v' (addp l r) ∧ Below w.heap.size w w' := by
  obtain ⟨a, c, rfl, hn1, hc1⟩ := h.opened
  obtain ⟨a', c', rfl, hn2, hc2⟩ := h'.opened
  have HP := hid h
  have HP' := hid h'
  have SL := hid hs
  have SR := hid hs'
  have HM := hid hm
  have HM' := hid hn
  have HC := hid (nclone h hl)
  have HK : Hid (addp l r = trimQ (lof l.length fun i => co l i + co r i)) := hid (by rw [addp, Nat.max_eq_left (by omega)])
  obtain ⟨nl, hNL⟩ : ∃ nl, l.length = nl := ⟨_, rfl⟩
  obtain ⟨nr, hNR⟩ : ∃ nr, r.length = nr := ⟨_, rfl⟩
  have NL := hid hNL
  have NR := hid hNR
  rw [hNL] at hn1 hl hle HP HC HK ⊢
  rw [hNR] at hn2 hle HP' ⊢
  clear h h' hs hs' hm hn hNL hNR
  unfold maxLen at hc1 hc2
  go_enter Try.func19, Try.ntmps19
  go_wp2_with fail
  refine HC.out.mono ?_
  rintro e w1 ⟨v1, rfl, ho, hb⟩
  have B := hid hb
  clear hb HC
  rcases ho with ⟨h0, a1, c1, rfl, hc3⟩ | ⟨b0, c1, rs, rfl, hb0, hrow, hn3, hc3, hw⟩
  · have h00 : nl = 0 := by rw [← NL.out, h0]; rfl
    subst h00
    obtain rfl : nr = 0 := by omega
    have HT := hid (trim_pn (PN.nil w1 (a := a1) hc3))
    unfold maxLen at hc3
    go_wp2_with fail
    go_loopw [19] (fun i wr => i = .int .i64 0 ∧ ∃ j, wr = w1.drewN j) (fun i _ => 0)
    case atStart => exact ⟨rfl, 0, rfl⟩
    case round =>
      obtain ⟨rfl, j, rfl⟩ := hrel
      have HT := hid (trim_pn (PN.nil (w1.drewN j) (a := a1) (c := c1) (by unfold maxLen; omega)))
      have BJ := hid (below_drewN (Below.refl w1.heap.size w1) j)
      go_wp2_with fail
      refine HT.out.mono ?_
      rintro e w2 ⟨rfl, hb⟩
      go_wp2_with fail
      go_ret
      have e0 : addp l r = [] := by rw [HK.out]; rfl
      rw [e0]
      exact ⟨_, rfl, PN.nil w2 (by unfold maxLen; omega), (B.out.trans (BJ.out.mono B.out.size)).trans (hb.mono (B.out.trans (BJ.out.mono B.out.size)).size)⟩
  · rw [NL.out] at hrow hn3 hw ⊢
    have HB := hid hb0
    have ROW := hid hrow
    have HW : Hid (∀ j, j < nl → NF w1 (nag (rs j)) (co l j + if j < 0 then co r j else 0)) := hid (fun j hj => (hw j hj).cast (by rw [if_neg (by omega)]; grind))
    have HC3 := hid hc3
    clear hrow hw hb0
    unfold maxLen at hc3
    go_wp2_with fail
    go_loopw [19] (fun i wr => ∃ (k : Nat) (rs : Nat → Nr), k ≤ nr ∧ i = .int .i64 k ∧ Hid (NRw wr b0 nl rs) ∧ Hid (∀ j, j < nl → NF wr (nag (rs j)) (co l j + if j < k then co r j else 0)) ∧ Hid (Below w.heap.size w wr)) (fun i _ => nr - (intOf i).toNat)
    case atStart => exact ⟨0, rs, by omega, rfl, ROW, HW, B⟩
    case round =>
      clear ROW HW B
      obtain ⟨k, rs, hk, rfl, ROW, HW, B⟩ := hrel
      by_cases hlt : k < nr
      · have hkn : k < nl := by omega
        obtain ⟨b5, s5a, p5a, n5a, c5a, s5b, p5b, n5b, c5b, rfl, hb5, cd5, hq5⟩ := pn_at HP'.out B.out (i := k) (by rw [NR.out]; exact hlt)
        obtain ⟨s6a, p6a, n6a, c6a, s6b, p6b, n6b, c6b, hz6⟩ : ∃ s6a p6a n6a c6a s6b p6b n6b c6b, rs k = ((s6a, p6a, n6a, c6a), (s6b, p6b, n6b, c6b)) := ⟨_, _, _, _, _, _, _, _, rfl⟩
        have hq6 := HW.out k hkn
        rw [hz6, if_neg (by omega)] at hq6
        dsimp only [nag] at hq6
        have HQ := hid hq5
        have HS := hid (hq6.cast (show co l k + 0 = co l k by grind))
        have HN3 := hid hn3
        clear hq5 hq6
        have LB := hid ROW.out.lt
        obtain ⟨hb101, hx102, hs103⟩ := Nbx.made wr s5a s5b (.slice p5a n5a c5a) (.slice p5b n5b c5b)
        replace HQ := nf HQ hb101
        replace HS := nf HS hb101
        replace ROW := rwo ROW hb101
        replace HW := hid (fun q_ hq_ => (HW.out q_ hq_).on hb101)
        replace B := bb B hb101
        have X7 := hid hx102
        clear hb101 hx102
        have cc104 := X7.out.cells
        have cr := ROW.out.cells hkn
        rw [hz6] at cr
        go_wp2_with fail
        generalize hW : wr.alloc (.cells #[.bool s5a, .slice p5a n5a c5a, .bool s5b, .slice p5b n5b c5b] 49) = W105 at *
        clear hW
        clear cr
        have cc106 := X7.out.cells
        replace X7 := hid X7.out.dr
        replace HQ := hid HQ.out.drew
        replace HS := hid HS.out.drew
        replace HW := hid (fun q_ hq_ => (HW.out q_ hq_).drew)
        replace ROW := hid ROW.out.dr
        replace B := hid (Below.drew B.out)
        have cr := ROW.out.cells hkn
        rw [hz6] at cr
        have cc107 := X7.out.cells
        go_region_with (first
          | (go_at_call 29; refine (nadd_f HS.out HQ.out (SL.out.2 k) (SR.out.2 k) HM.out HM'.out).mono ?_; rintro e w109 ⟨v, rfl, hv, hb⟩; obtain ⟨s7a, p7a, n7a, c7a, s7b, p7b, n7b, c7b, rfl⟩ := hv.opened; replace X7 := nx X7 hb; replace HQ := nf HQ hb; replace HS := nf HS hb; replace ROW := rwo ROW hb; replace HW := hid (fun q_ hq_ => (HW.out q_ hq_).on hb); replace B := bb B hb; clear cc104 cc106 cc107; have HV := hid hv; clear hb hv cr; have cc110 := X7.out.cells; have cr := ROW.out.cells hkn; rw [hz6] at cr; have cc111 := ROW.out.stores hkn; replace X7 := hid (X7.out.kept (ROW.out.far k (by have := HB.out; have := LB.out; omega) s7a p7a n7a c7a s7b p7b n7b c7b)); replace HQ := hid (HQ.out.put ROW.out k s7a p7a n7a c7a s7b p7b n7b c7b); replace HS := hid (HS.out.put ROW.out k s7a p7a n7a c7a s7b p7b n7b c7b); replace HV := hid (HV.out.put ROW.out k s7a p7a n7a c7a s7b p7b n7b c7b); replace HW := hid (fun q_ hq_ => (HW.out q_ hq_).put ROW.out k s7a p7a n7a c7a s7b p7b n7b c7b); replace B := hid (ROW.out.below B.out k (by have := HB.out; have := LB.out; omega) s7a p7a n7a c7a s7b p7b n7b c7b); replace ROW := hid (ROW.out.put hkn s7a p7a n7a c7a s7b p7b n7b c7b); have mk108_0 := hid True.intro))
        all_goals
          go_wp2_with fail
          go_roundw
          case rel => exact ⟨k + 1, _, by omega, by go_num, ROW, hid (fun j hj => by
            by_cases hjk : j = k
            · subst hjk; rw [upd_self, if_pos (by omega)]; exact HV.out
            · rw [upd_ne _ _ hjk]; exact (HW.out j hj).cast (by split <;> split <;> first | rfl | omega)), B⟩
          case measure => simp [intOf]; omega
      · obtain rfl : k = nr := by omega
        have HP2 : Hid (PN wr (.slice (some ⟨b0, 0, none⟩) nl c1) (lof nl fun i => co l i + co r i)) := hid (ROW.out.pn (by simp [lof]) hn3 HC3.out (fun i hi => (HW.out i hi).cast (by rw [co_lof, if_pos hi]; split; rfl; rw [co_ge (l := r) (by rw [NR.out]; omega)])))
        go_wp2_with fail
        refine (trim_p HP2.out).mono ?_
        rintro e w2 ⟨v2, rfl, hp, hb⟩
        have HR := hid hp
        have B2 := hid (B.out.trans (hb.mono B.out.size))
        clear hp hb
        go_wp2_with fail
        go_ret
        exact ⟨_, rfl, by rw [HK.out]; exact HR.out, B2.out⟩

set_option maxHeartbeats 4000000 in
theorem padd_swap {w : World} {v u : Value} {l r : List Rat} {m n : Nat} (h : PN w v l) (h' : PN w u r) (hs : Sml l m) (hs' : Sml r n) (hm : m ≤ 68719476736) (hn : n ≤ 68719476736) (hl : l.length ≤ 1000000) (hle : r.length < l.length) :
    Calls Try.prog 19 #[u, v] w fun e w' => ∃ v', e = .returned v' ∧ PN w' v' (addp l r) ∧ Below w.heap.size w w' := by
  obtain ⟨a, c, rfl, hn1, hc1⟩ := h.opened
  obtain ⟨a', c', rfl, hn2, hc2⟩ := h'.opened
  have HP := hid h
  have HP' := hid h'
  have SL := hid hs
  have SR := hid hs'
  have HM := hid hm
  have HM' := hid hn
  have HC := hid (nclone h hl)
  have HK : Hid (addp l r = trimQ (lof l.length fun i => co l i + co r i)) := hid (by rw [addp, Nat.max_eq_left (by omega)])
  obtain ⟨nl, hNL⟩ : ∃ nl, l.length = nl := ⟨_, rfl⟩
  obtain ⟨nr, hNR⟩ : ∃ nr, r.length = nr := ⟨_, rfl⟩
  have NL := hid hNL
  have NR := hid hNR
  rw [hNL] at hn1 hl hle HP HC HK ⊢
  rw [hNR] at hn2 hle HP' ⊢
  clear h h' hs hs' hm hn hNL hNR
  unfold maxLen at hc1 hc2
  have hle2 : (nr : Int) < (nl : Int) := by omega
  go_enter Try.func19, Try.ntmps19
  go_wp2_with fail
  refine HC.out.mono ?_
  rintro e w1 ⟨v1, rfl, ho, hb⟩
  have B := hid hb
  clear hb HC
  rcases ho with ⟨h0, a1, c1, rfl, hc3⟩ | ⟨b0, c1, rs, rfl, hb0, hrow, hn3, hc3, hw⟩
  · have h00 : nl = 0 := by rw [← NL.out, h0]; rfl
    subst h00
    obtain rfl : nr = 0 := by omega
    have HT := hid (trim_pn (PN.nil w1 (a := a1) hc3))
    unfold maxLen at hc3
    go_wp2_with fail
    go_loopw [19] (fun i wr => i = .int .i64 0 ∧ ∃ j, wr = w1.drewN j) (fun i _ => 0)
    case atStart => exact ⟨rfl, 0, rfl⟩
    case round =>
      obtain ⟨rfl, j, rfl⟩ := hrel
      have HT := hid (trim_pn (PN.nil (w1.drewN j) (a := a1) (c := c1) (by unfold maxLen; omega)))
      have BJ := hid (below_drewN (Below.refl w1.heap.size w1) j)
      go_wp2_with fail
      refine HT.out.mono ?_
      rintro e w2 ⟨rfl, hb⟩
      go_wp2_with fail
      go_ret
      have e0 : addp l r = [] := by rw [HK.out]; rfl
      rw [e0]
      exact ⟨_, rfl, PN.nil w2 (by unfold maxLen; omega), (B.out.trans (BJ.out.mono B.out.size)).trans (hb.mono (B.out.trans (BJ.out.mono B.out.size)).size)⟩
  · rw [NL.out] at hrow hn3 hw ⊢
    have HB := hid hb0
    have ROW := hid hrow
    have HW : Hid (∀ j, j < nl → NF w1 (nag (rs j)) (co l j + if j < 0 then co r j else 0)) := hid (fun j hj => (hw j hj).cast (by rw [if_neg (by omega)]; grind))
    have HC3 := hid hc3
    clear hrow hw hb0
    unfold maxLen at hc3
    go_wp2_with fail
    go_loopw [19] (fun i wr => ∃ (k : Nat) (rs : Nat → Nr), k ≤ nr ∧ i = .int .i64 k ∧ Hid (NRw wr b0 nl rs) ∧ Hid (∀ j, j < nl → NF wr (nag (rs j)) (co l j + if j < k then co r j else 0)) ∧ Hid (Below w.heap.size w wr)) (fun i _ => nr - (intOf i).toNat)
    case atStart => exact ⟨0, rs, by omega, rfl, ROW, HW, B⟩
    case round =>
      clear ROW HW B
      obtain ⟨k, rs, hk, rfl, ROW, HW, B⟩ := hrel
      by_cases hlt : k < nr
      · have hkn : k < nl := by omega
        obtain ⟨b5, s5a, p5a, n5a, c5a, s5b, p5b, n5b, c5b, rfl, hb5, cd5, hq5⟩ := pn_at HP'.out B.out (i := k) (by rw [NR.out]; exact hlt)
        obtain ⟨s6a, p6a, n6a, c6a, s6b, p6b, n6b, c6b, hz6⟩ : ∃ s6a p6a n6a c6a s6b p6b n6b c6b, rs k = ((s6a, p6a, n6a, c6a), (s6b, p6b, n6b, c6b)) := ⟨_, _, _, _, _, _, _, _, rfl⟩
        have hq6 := HW.out k hkn
        rw [hz6, if_neg (by omega)] at hq6
        dsimp only [nag] at hq6
        have HQ := hid hq5
        have HS := hid (hq6.cast (show co l k + 0 = co l k by grind))
        have HN3 := hid hn3
        clear hq5 hq6
        have LB := hid ROW.out.lt
        obtain ⟨hb101, hx102, hs103⟩ := Nbx.made wr s5a s5b (.slice p5a n5a c5a) (.slice p5b n5b c5b)
        replace HQ := nf HQ hb101
        replace HS := nf HS hb101
        replace ROW := rwo ROW hb101
        replace HW := hid (fun q_ hq_ => (HW.out q_ hq_).on hb101)
        replace B := bb B hb101
        have X7 := hid hx102
        clear hb101 hx102
        have cc104 := X7.out.cells
        have cr := ROW.out.cells hkn
        rw [hz6] at cr
        go_wp2_with fail
        generalize hW : wr.alloc (.cells #[.bool s5a, .slice p5a n5a c5a, .bool s5b, .slice p5b n5b c5b] 49) = W105 at *
        clear hW
        clear cr
        have cc106 := X7.out.cells
        replace X7 := hid X7.out.dr
        replace HQ := hid HQ.out.drew
        replace HS := hid HS.out.drew
        replace HW := hid (fun q_ hq_ => (HW.out q_ hq_).drew)
        replace ROW := hid ROW.out.dr
        replace B := hid (Below.drew B.out)
        have cr := ROW.out.cells hkn
        rw [hz6] at cr
        have cc107 := X7.out.cells
        go_region_with (first
          | (go_at_call 29; refine (nadd_f HS.out HQ.out (SL.out.2 k) (SR.out.2 k) HM.out HM'.out).mono ?_; rintro e w109 ⟨v, rfl, hv, hb⟩; obtain ⟨s7a, p7a, n7a, c7a, s7b, p7b, n7b, c7b, rfl⟩ := hv.opened; replace X7 := nx X7 hb; replace HQ := nf HQ hb; replace HS := nf HS hb; replace ROW := rwo ROW hb; replace HW := hid (fun q_ hq_ => (HW.out q_ hq_).on hb); replace B := bb B hb; clear cc104 cc106 cc107; have HV := hid hv; clear hb hv cr; have cc110 := X7.out.cells; have cr := ROW.out.cells hkn; rw [hz6] at cr; have cc111 := ROW.out.stores hkn; replace X7 := hid (X7.out.kept (ROW.out.far k (by have := HB.out; have := LB.out; omega) s7a p7a n7a c7a s7b p7b n7b c7b)); replace HQ := hid (HQ.out.put ROW.out k s7a p7a n7a c7a s7b p7b n7b c7b); replace HS := hid (HS.out.put ROW.out k s7a p7a n7a c7a s7b p7b n7b c7b); replace HV := hid (HV.out.put ROW.out k s7a p7a n7a c7a s7b p7b n7b c7b); replace HW := hid (fun q_ hq_ => (HW.out q_ hq_).put ROW.out k s7a p7a n7a c7a s7b p7b n7b c7b); replace B := hid (ROW.out.below B.out k (by have := HB.out; have := LB.out; omega) s7a p7a n7a c7a s7b p7b n7b c7b); replace ROW := hid (ROW.out.put hkn s7a p7a n7a c7a s7b p7b n7b c7b); have mk108_0 := hid True.intro))
        all_goals
          go_wp2_with fail
          go_roundw
          case rel => exact ⟨k + 1, _, by omega, by go_num, ROW, hid (fun j hj => by
            by_cases hjk : j = k
            · subst hjk; rw [upd_self, if_pos (by omega)]; exact HV.out
            · rw [upd_ne _ _ hjk]; exact (HW.out j hj).cast (by split <;> split <;> first | rfl | omega)), B⟩
          case measure => simp [intOf]; omega
      · obtain rfl : k = nr := by omega
        have HP2 : Hid (PN wr (.slice (some ⟨b0, 0, none⟩) nl c1) (lof nl fun i => co l i + co r i)) := hid (ROW.out.pn (by simp [lof]) hn3 HC3.out (fun i hi => (HW.out i hi).cast (by rw [co_lof, if_pos hi]; split; rfl; rw [co_ge (l := r) (by rw [NR.out]; omega)])))
        go_wp2_with fail
        refine (trim_p HP2.out).mono ?_
        rintro e w2 ⟨v2, rfl, hp, hb⟩
        have HR := hid hp
        have B2 := hid (B.out.trans (hb.mono B.out.size))
        clear hp hb
        go_wp2_with fail
        go_ret
        exact ⟨_, rfl, by rw [HK.out]; exact HR.out, B2.out⟩

theorem addp_comm (l r : List Rat) : addp l r = addp r l := trm_ext (trm_addp _ _) (trm_addp _ _) fun i => by rw [co_addp, co_addp]; grind
/-- The sum. -/
theorem padd_p {w : World} {v u : Value} {l r : List Rat} {m n : Nat} (h : PN w v l) (h' : PN w u r) (hs : Sml l m) (hs' : Sml r n) (hm : m ≤ 68719476736) (hn : n ≤ 68719476736) (hl : l.length ≤ 1000000) (hr : r.length ≤ 1000000) :
    Calls Try.prog 19 #[v, u] w fun e w' => ∃ v', e = .returned v' ∧ PN w' v' (addp l r) ∧ Below w.heap.size w w' := by
  by_cases hle : r.length ≤ l.length
  · exact padd_one h h' hs hs' hm hn hl hle
  · rw [addp_comm]
    exact padd_swap h' h hs' hs hn hm hr (by omega)

end Go.Proofs.Ytokojbgpboccnaa

/-
  PACKAGE pgcd: MonicOf.
-/
namespace Go.Proofs.Ytokojbgpboccnaa
open Go.RowKit
open Num
set_option linter.unusedVariables false
set_option maxRecDepth 100000
set_option linter.unusedSimpArgs false
end Go.Proofs.Ytokojbgpboccnaa

/-
  PACKAGE poly: what goes into all coefficients. Nothing of a walk but Parts.
-/
namespace Go.Proofs.Ytokojbgpboccnaa
open Go.RowKit
open Num
set_option linter.unusedVariables false
set_option maxRecDepth 100000
set_option linter.unusedSimpArgs false
end Go.Proofs.Ytokojbgpboccnaa

/-
  PACKAGE poly: divided.
-/
namespace Go.Proofs.Ytokojbgpboccnaa
open Go.RowKit
open Num
set_option linter.unusedVariables false
set_option maxRecDepth 100000
set_option linter.unusedSimpArgs false

end Go.Proofs.Ytokojbgpboccnaa

/-
  PACKAGE poly: Primitive.
-/
namespace Go.Proofs.Ytokojbgpboccnaa
open Go.RowKit
open Num
set_option linter.unusedVariables false
set_option maxRecDepth 100000
set_option linter.unusedSimpArgs false

end Go.Proofs.Ytokojbgpboccnaa

/-
  PACKAGE pgcd: cleared.
-/
namespace Go.Proofs.Ytokojbgpboccnaa
open Go.RowKit
open Num
set_option linter.unusedVariables false
set_option maxRecDepth 100000
set_option linter.unusedSimpArgs false
end Go.Proofs.Ytokojbgpboccnaa

/-
  PACKAGE poly: Deriv.
-/
namespace Go.Proofs.Ytokojbgpboccnaa
open Go.RowKit
open Num
set_option linter.unusedVariables false
set_option maxRecDepth 100000
set_option linter.unusedSimpArgs false

/-- The derivative, so far. -/
def dco (l : List Rat) (k j : Nat) : Rat := if j + 1 < k then co l (j + 1) * ((j : Rat) + 1) else 0
theorem dco_all (l : List Rat) : trimQ (lof l.length (dco l l.length)) = slope l := by
  refine trim_ext fun i => ?_
  rw [co_lof, co_lof, dco]
  by_cases h : i < l.length - 1
  · rw [if_pos h, if_pos (by omega), if_pos (by omega)]
  · rw [if_neg h]
    by_cases h2 : i < l.length
    · rw [if_pos h2, if_neg (by omega)]
    · rw [if_neg h2]

set_option maxHeartbeats 4000000 in
theorem pderiv_p {w : World} {v : Value} {l : List Rat} {m : Nat} (h : PN w v l) (hs : Sml l m) (hm : m ≤ 68719476736) (hl : l.length ≤ 1000000) :
    Calls Try.prog 26 #[v] w fun e w' => ∃ v', e = .returned v' ∧ PN w' v' (slope l) ∧ Below w.heap.size w w' := by
  obtain ⟨a, c, rfl, hn1, hc1⟩ := h.opened
  have HP := hid h
  have SL := hid hs
  have HM := hid hm
  have HK := hid (dco_all l)
  obtain ⟨nl, hNL⟩ : ∃ nl, l.length = nl := ⟨_, rfl⟩
  have NL := hid hNL
  rw [hNL] at hn1 hl HP HK ⊢
  clear h hs hm hNL
  unfold maxLen at hc1
  go_enter Try.func26, Try.ntmps26
  go_wp2_with (refine wpList_make_ns _ rfl _ _ _ rfl Try.underlying37 nl rfl rfl (by omega) ?_)
  intro w0 hrow hb0 hs0
  have B := hid hb0
  have ROW := hid hrow
  have HW : Hid (∀ t, t < nl → NF w0 (nag Nz) (dco l 0 t)) := hid (fun t ht => (NF.zero w0).cast (by rw [dco, if_neg (by omega)]))
  clear hrow hb0 hs0
  go_wp2_with fail
  obtain ⟨b0, hb0⟩ : ∃ b0, b0 = w.heap.size := ⟨_, rfl⟩
  have HB := hid (show w.heap.size ≤ b0 by omega)
  rw [← hb0] at ROW ⊢
  clear hb0
  have W0 : ∃ rs : Nat → Nr, Hid (NRw w0 b0 nl rs) ∧ Hid (∀ t, t < nl → NF w0 (nag (rs t)) (dco l 0 t)) := ⟨_, ROW, HW⟩
  clear ROW HW
  obtain ⟨rs0, ROW, HW⟩ := W0
  go_loopw [11] (fun x wr => ∃ (i : Nat) (rs : Nat → Nr), i ≤ nl ∧ x = .int .i64 i ∧ Hid (NRw wr b0 nl rs) ∧ Hid (∀ t, t < nl → NF wr (nag (rs t)) (dco l i t)) ∧ Hid (Below w.heap.size w wr)) (fun x _ => nl - (intOf x).toNat)
  case atStart => exact ⟨0, rs0, by omega, rfl, ROW, HW, B⟩
  case round =>
    clear ROW HW B
    obtain ⟨i, rs, hi, rfl, ROW, HW, B⟩ := hrel
    by_cases hlt : i < nl
    · obtain ⟨b5, s5a, p5a, n5a, c5a, s5b, p5b, n5b, c5b, rfl, hb5, cd5, hq5⟩ := pn_at HP.out B.out (i := i) (by rw [NL.out]; exact hlt)
      have HQ := hid hq5
      clear hq5
      rcases i with _ | j
      · have LB := hid ROW.out.lt
        obtain ⟨hb101, hx102, hs103⟩ := Nbx.made wr s5a s5b (.slice p5a n5a c5a) (.slice p5b n5b c5b)
        replace HQ := nf HQ hb101
        replace ROW := rwo ROW hb101
        replace HW := hid (fun q_ hq_ => (HW.out q_ hq_).on hb101)
        replace B := bb B hb101
        have X5 := hid hx102
        clear hb101 hx102
        have cc104 := X5.out.cells
        go_wp2_with fail
        generalize hW : wr.alloc (.cells #[.bool s5a, .slice p5a n5a c5a, .bool s5b, .slice p5b n5b c5b] 49) = W105 at *
        clear hW
        clear cd5 cc104
        go_roundw
        case rel => exact ⟨1, rs, by omega, by go_num, ROW, hid (fun t ht => (HW.out t ht).cast (by rw [dco, dco, if_neg (by omega), if_neg (by omega)])), B⟩
        case measure => simp [intOf]; omega
      · have hjn : j < nl := by omega
        have hx1 : (0 : Int) ≤ (j : Int) := by omega
        have hx2 : (j : Int) < (nl : Int) := by omega
        have hx3 : IntKind.i64.wrap (j : Int) = (j : Int) := IntWalk.i64_in _ (by omega)
        have hx4 : IntKind.i64.wrap ((j : Int) + 1 - 1) = (j : Int) := by rw [Int.add_sub_cancel]; exact hx3
        have LB := hid ROW.out.lt
        obtain ⟨hb101, hx102, hs103⟩ := Nbx.made wr s5a s5b (.slice p5a n5a c5a) (.slice p5b n5b c5b)
        replace HQ := nf HQ hb101
        replace ROW := rwo ROW hb101
        replace HW := hid (fun q_ hq_ => (HW.out q_ hq_).on hb101)
        replace B := bb B hb101
        have X5 := hid hx102
        clear hb101 hx102
        have cc104 := X5.out.cells
        go_wp2_with fail
        generalize hW : wr.alloc (.cells #[.bool s5a, .slice p5a n5a c5a, .bool s5b, .slice p5b n5b c5b] 49) = W105 at *
        clear hW
        clear cd5 cc104
        have cc401 := X5.out.cells
        replace X5 := hid X5.out.dr
        replace HQ := hid HQ.out.drew
        replace HW := hid (fun q_ hq_ => (HW.out q_ hq_).drew)
        replace ROW := hid ROW.out.dr
        replace B := hid (Below.drew B.out)
        have cc402 := X5.out.cells
        go_region_held3 (fun w' => w'.cell? ⟨wr.heap.size, 0, none⟩ = some (.bool s5a) ∧ w'.cell? ⟨wr.heap.size, 1, none⟩ = some (.slice p5a n5a c5a) ∧ w'.cell? ⟨wr.heap.size, 2, none⟩ = some (.bool s5b) ∧ w'.cell? ⟨wr.heap.size, 3, none⟩ = some (.slice p5b n5b c5b)) (go_keep) (first
          | (have hm := mk403_1; clear hm; go_at_call 37; refine (nmul_f HQ.out HN.out (SL.out.2 (j + 1)) (Sm.int (m := 2) (by have : Num4.B ^ 2 = 100000000 := rfl; omega) (by decide)) HM.out (by decide)).mono ?_; rintro e w408 ⟨v, rfl, hv, hb⟩; obtain ⟨s8a, p8a, n8a, c8a, s8b, p8b, n8b, c8b, rfl⟩ := hv.opened; replace X5 := nx X5 hb; replace HQ := nf HQ hb; replace HN := nf HN hb; replace ROW := rwo ROW hb; replace HW := hid (fun q_ hq_ => (HW.out q_ hq_).on hb); replace B := bb B hb; clear cc407; have HX := hid hv; clear hb hv; have cc409 := X5.out.cells; have cc410 := ROW.out.stores hjn; replace X5 := hid (X5.out.kept (ROW.out.far j (by have := HB.out; have := LB.out; omega) s8a p8a n8a c8a s8b p8b n8b c8b)); replace HQ := hid (HQ.out.put ROW.out j s8a p8a n8a c8a s8b p8b n8b c8b); replace HN := hid (HN.out.put ROW.out j s8a p8a n8a c8a s8b p8b n8b c8b); replace HX := hid (HX.out.put ROW.out j s8a p8a n8a c8a s8b p8b n8b c8b); replace HW := hid (fun q_ hq_ => (HW.out q_ hq_).put ROW.out j s8a p8a n8a c8a s8b p8b n8b c8b); replace B := hid (ROW.out.below B.out j (by have := HB.out; have := LB.out; omega) s8a p8a n8a c8a s8b p8b n8b c8b); replace ROW := hid (ROW.out.put hjn s8a p8a n8a c8a s8b p8b n8b c8b); have cc411 := X5.out.cells; have mk403_2 := hid True.intro)
          | (have hm := mk403_0; clear hm; go_at_call 38; refine (wholeq HO.out).mono ?_; rintro e w406 ⟨v, rfl, hv, hb⟩; obtain ⟨s7a, p7a, n7a, c7a, s7b, p7b, n7b, c7b, rfl⟩ := hv.opened; replace X5 := nx X5 hb; replace HQ := nf HQ hb; replace ROW := rwo ROW hb; replace HW := hid (fun q_ hq_ => (HW.out q_ hq_).on hb); replace B := bb B hb; clear cc405; have HN := hid hv.nf; clear hb hv; have cc407 := X5.out.cells; have mk403_1 := hid True.intro)
          | (go_at_call 39; refine (of_small ((j : Int) + 1) (by omega) _).mono ?_; rintro e w404 ⟨v, rfl, hv, hb⟩; obtain ⟨s6, p6, n6, c6, rfl⟩ := hv.opened; replace X5 := nx X5 hb; replace HQ := nf HQ hb; replace ROW := rwo ROW hb; replace HW := hid (fun q_ hq_ => (HW.out q_ hq_).on hb); replace B := bb B hb; clear cc401 cc402; have HO := hid hv; clear hb hv; have cc405 := X5.out.cells; have mk403_0 := hid True.intro))
        go_wp2_with fail
        go_roundw
        case rel => exact ⟨j + 1 + 1, _, by omega, by go_num, ROW, hid (fun i hi => by
            by_cases hij : i = j
            · subst hij; rw [upd_self, dco, if_pos (by omega)]; exact HX.out.cast (by push_cast; rfl)
            · rw [upd_ne _ _ hij]; exact (HW.out i hi).cast (by rw [dco, dco]; by_cases h : i + 1 < j + 1; rw [if_pos h, if_pos (by omega)]; rw [if_neg h, if_neg (by omega)])), B⟩
        case measure => simp [intOf]; omega
    · obtain rfl : i = nl := by omega
      have HP2 : Hid (PN wr (.slice (some ⟨b0, 0, none⟩) i i) (lof i (dco l i))) := hid (ROW.out.pn (by simp [lof]) (Nat.le_refl _) (by unfold maxLen; omega) (fun t ht => (HW.out t ht).cast (by rw [co_lof, if_pos ht])))
      go_wp2_with fail
      refine (trim_p HP2.out).mono ?_
      rintro e w2 ⟨v2, rfl, hp, hb⟩
      have HR := hid hp
      have B2 := hid (B.out.trans (hb.mono B.out.size))
      clear hp hb
      go_wp2_with fail
      go_ret
      exact ⟨_, rfl, by rw [← HK.out]; exact HR.out, B2.out⟩

end Go.Proofs.Ytokojbgpboccnaa

/-
  LISTS OF POLYNOMIALS in memory of the call's own.
-/
namespace Go.Proofs.Ytokojbgpboccnaa
open Go.RowKit
open Num
set_option linter.unusedVariables false
set_option maxRecDepth 100000
set_option linter.unusedSimpArgs false

theorem infoP : (Try.prog.info? 37).map (fun i => (i.zero, i.size, i.bytes)) = some (some (.slice none 0 0), 1, 24) := by kernel_rfl
/-- The i-th of some values. -/
def vat (vs : List Value) (i : Nat) : Value := vs[i]?.getD (.slice none 0 0)
/-- A list of polynomials of the call's own. -/
def OwnF (w : World) (K : Nat) (v : Value) (fs : List (List Rat)) : Prop := ∃ vs : List Value, w.ownsRow K 37 1 v vs.length vs ∧ vs.length = fs.length ∧ (∀ u ∈ vs, ∃ p n c, u = .slice p n c) ∧ (∀ g, v.ownBlock = some g → NoInt w g ∧ ∀ s, w.cell? ⟨g, 0, none⟩ ≠ some (.bool s)) ∧ ∀ i, i < fs.length → PN w (vat vs i) (fs[i]?.getD [])
theorem OwnF.nil (w : World) (K : Nat) : OwnF w K (.slice none 0 0) [] := ⟨[], World.ownsRow_nil w _ _ _, rfl, fun u hu => by simp at hu, fun g hg => by simp [Value.ownBlock] at hg, fun i hi => by simp at hi⟩
theorem OwnF.lt {w : World} {K g : Nat} {v : Value} {fs : List (List Rat)} (h : OwnF w K v fs) (hg : v.ownBlock = some g) : K ≤ g ∧ g < w.heap.size := by
  obtain ⟨vs, h1, _⟩ := h
  exact World.ownsRow.lt h1 g hg
theorem OwnF.on {w w' : World} {K : Nat} {v : Value} {fs : List (List Rat)} (h : OwnF w K v fs) (hb : Below w.heap.size w w') : OwnF w' K v fs := by
  have hlt := fun g hg => (h.lt (g := g) hg).2
  obtain ⟨vs, ⟨h0, h1⟩, h2, h3, h4, h5⟩ := h
  refine ⟨vs, ⟨h0, ?_⟩, h2, h3, fun g hg => ⟨(h4 g hg).1.below hb (hlt g hg), fun s => by rw [hb.cell (p := ⟨g, 0, none⟩) (hlt g hg)]; exact (h4 g hg).2 s⟩, fun i hi => (h5 i hi).on hb⟩
  rcases h1 with h1 | ⟨g, cap, cur, rfl, hK, h1, h6⟩
  · exact .inl h1
  · exact .inr ⟨g, cap, cur, rfl, hK, (hb.block g (Array.getElem?_eq_some_iff.1 h1).1).trans h1, h6⟩
theorem PN.gb {w w' : World} {v : Value} {l : List Rat} {g : Nat} (h : PN w v l) (hg : w.grownBy w' (some g)) (hn : NoInt w g) (hb : ∀ s, w.cell? ⟨g, 0, none⟩ ≠ some (.bool s)) : PN w' v l := by
  obtain ⟨a, c, rs, h1, h2, h3, h4⟩ := h
  refine ⟨a, c, rs, h1, h2, h3, fun i hi => ?_⟩
  obtain ⟨b, e, hl, hA, hq⟩ := h4 i hi
  obtain ⟨b', e', _, hA', _⟩ := h4 0 (by omega)
  have hbb : b' = b := by rw [e] at e'; cases e'; rfl
  subst hbb
  have hne : b' ≠ g := by
    rintro rfl
    exact hb _ hA'.1
  exact ⟨b', e, Nat.lt_of_lt_of_le hl hg.size, hA.kept (hg.block b' hl (fun e => hne (Option.some.inj e))), hq.grown hn hg⟩
/-- 'append(factors, one)'. -/
theorem wpList_append_f {w : World} {ops : Array Oper} {rest : List Oper} {o : Oper} {a : Act} {Q : Exit → Act → World → Prop} (hgd : o.guard = none) (s x : Operand)
    (ho : o.op = .call { callee := .builtin .append, args := #[s, x], argTypes := #[41, 41] })
    (K : Nat) (v : Value) (fs : List (List Rat)) (hs : a.eval s = v) (hown : OwnF w K v fs) (hK : K ≤ w.heap.size) (hl : fs.length ≤ 1000)
    (ad : Nat) (c : Nat) (hx : a.eval x = .slice (some ⟨ad, 0, none⟩) 1 c) {p : Option Addr} {n c' : Nat} {l : List Rat} (q0 : w.cell? ⟨ad, 0, none⟩ = some (.slice p n c')) (hp : PN w (.slice p n c') l)
    {w0 : World} {K0 : Nat} (hK0 : K0 ≤ K) (hB : Below K0 w0 w)
    (h : ∀ v' w', OwnF w' K v' (fs ++ [l]) → (∀ u r, PN w u r → PN w' u r) → Below K0 w0 w' → wpList Try.prog ops Q rest (a.put o.dst v') w') : wpList Try.prog ops Q (o :: rest) a w := by
  obtain ⟨i, hi, hz0, hz1, hz2⟩ := info_parts infoP
  have hlt := fun g hg => hown.lt (g := g) hg
  obtain ⟨vs, h1, h2, h3, h4, h5⟩ := hown
  refine wpList_append_ni hgd s x 41 ho K 37 i (.slice none 0 0) 1 24 Try.underlying41 hi hz0 hz1 hz2 rfl (by decide) v vs.length vs hs h1 (fun g hg => (h4 g hg).1) ?_ ⟨ad, 0, none⟩ 1 c [.slice p n c'] hx rfl ?_ ?_ ?_ ?_ ?_ hK ?_
  · intro u hu
    simp [Value.cells] at hu
    subst hu
    exact NI.slc _ _ _
  · intro j u hj
    match j, hj with
    | 0, hj => simp at hj; subst hj; simpa [Addr.add] using q0
  · intro u hu; simp at hu; subst hu; rfl
  · intro u hu; simp at hu; subst hu; exact NI.slc _ _ _
  · unfold maxLen; omega
  · omega
  · intro v' w' g1 g2 g3
    have hB2 : Below K0 w0 w' := hB.grown g2 (by omega) fun g hg => Nat.le_trans hK0 (hlt g hg).1
    have hP : ∀ u r, PN w u r → PN w' u r := by
      intro u r hu
      cases ho : v.ownBlock with
      | none =>
        rw [ho] at g2
        exact hu.on ((Below.refl w.heap.size w).grown g2 (Nat.le_refl _) fun g hg => by cases hg)
      | some g =>
        rw [ho] at g2
        exact hu.gb g2 (h4 g ho).1 (h4 g ho).2
    refine h v' w' ⟨vs ++ [.slice p n c'], by rw [List.length_append]; exact g1, by rw [List.length_append, List.length_append, h2]; rfl, fun u hu => ?_, fun g hg => ⟨g3 g hg, fun s => ?_⟩, fun i hi => ?_⟩ hP hB2
    · rcases List.mem_append.1 hu with hu | hu
      · exact h3 u hu
      · simp at hu; exact ⟨_, _, _, hu⟩
    · rcases g1.2 with ⟨_, h0⟩ | ⟨g', cap, cur, rfl, hK', e1, e2, e3, e4, e5⟩
      · omega
      · simp [Value.ownBlock] at hg
        subst hg
        have hc : ∃ u, cur[0]? = some u ∧ ∃ p n c, u = .slice p n c := by
          have h6 : (vs ++ [.slice p n c'])[0]? ≠ none := by simp
          obtain ⟨u, hu⟩ := Option.ne_none_iff_exists'.1 h6
          have hu2 := hu
          rw [← e5, List.getElem?_take, if_pos (by omega), Array.getElem?_toList] at hu2
          refine ⟨u, hu2, ?_⟩
          have hm := List.mem_of_getElem? hu
          rcases List.mem_append.1 hm with hm | hm
          · exact h3 u hm
          · simp at hm; exact ⟨_, _, _, hm⟩
        obtain ⟨u, hu, p2, n2, c2, rfl⟩ := hc
        simp [World.cell?, e1, hu]
    · rw [List.length_append, List.length_singleton] at hi
      by_cases hlt2 : i < fs.length
      · have e1 : vat (vs ++ [.slice p n c']) i = vat vs i := by unfold vat; rw [List.getElem?_append_left (by omega)]
        rw [e1, List.getElem?_append_left hlt2]
        exact hP _ _ (h5 i hlt2)
      · obtain rfl : i = fs.length := by omega
        have e1 : vat (vs ++ [.slice p n c']) fs.length = .slice p n c' := by unfold vat; rw [← h2, List.getElem?_concat_length]; rfl
        rw [e1, List.getElem?_concat_length]
        exact hP _ _ hp

end Go.Proofs.Ytokojbgpboccnaa

/-
  STURM: a chain whose polynomials are taken times numbers; how long they are. Nothing of a program.
-/
namespace Go.Proofs.Ytokojbgpboccnaa
open Num4
open Num (dg isNat dval)
set_option linter.unusedVariables false

/-- The chain without rounds to spare: nothing of nothing. -/
noncomputable def chz : Nat → List Rat → List Rat → List (List Rat)
  | 0, _, _ => []
  | n + 1, f, g => if f = [] then [] else f :: chz n g (nrem f g)
theorem chz_nil (n : Nat) (g : List Rat) : chz n [] g = [] := by cases n <;> simp [chz]
theorem chz_cons {n : Nat} {f g : List Rat} (h : f ≠ []) : chz (n + 1) f g = f :: chz n g (nrem f g) := by simp [chz, h]
theorem chz_chnx : ∀ (n : Nat) (f g : List Rat), Trm f → Trm g → f ≠ [] → g.length ≤ n → chz (n + 1) f g = chnx n f g := by
  intro n
  induction n with
  | zero =>
    intro f g hf hg h0 hl
    obtain rfl : g = [] := List.length_eq_zero_iff.1 (by omega)
    rw [chz_cons h0]; rfl
  | succ n ih =>
    intro f g hf hg h0 hl
    rw [chz_cons h0]
    by_cases h : g = []
    · subst h; rw [chz_nil, chnx_nil]
    · rw [chnx_cons h]
      congr 1
      exact ih g (nrem f g) hg (trm_nrem f g) h (by have := nrem_len hf hg h; omega)
theorem slp_len (f : List Rat) : (slope f).length ≤ f.length - 1 := by
  have := trim_len (lof (f.length - 1) fun i => co f (i + 1) * ((i : Rat) + 1))
  unfold slope
  unfold lof at this ⊢
  rw [List.length_map, List.length_range] at this
  exact this
theorem chainp_chz {f : List Rat} (hf : Trm f) (h0 : f ≠ []) : chainp f = chz (f.length + 1) f (slope f) :=
  (chz_chnx f.length f (slope f) hf (trm_slope f) h0 (by have := slp_len f; omega)).symm

/-- The same, taken times a number of this kind. -/
def Rl (Sc : Rat → Prop) (f g : List Rat) : Prop := Trm f ∧ f.length = g.length ∧ ∃ k, Sc k ∧ ∀ i, co f i = co g i * k
/-- Kinds of numbers above nought. -/
structure Kd (Sc : Rat → Prop) : Prop where
  one : Sc 1
  pos : ∀ k, Sc k → 0 < k
  mul : ∀ k l, Sc k → Sc l → Sc (k * l)
theorem kd_one : Kd (fun k => k = 1) := ⟨rfl, fun k h => by rw [h]; decide, fun k l h h' => by rw [h, h']; grind⟩
theorem Rl.refl {Sc : Rat → Prop} (hS : Kd Sc) {f : List Rat} (hf : Trm f) : Rl Sc f f := ⟨hf, rfl, 1, hS.one, fun i => by grind⟩
theorem Rl.trans {Sc : Rat → Prop} (hS : Kd Sc) {f g h : List Rat} (h1 : Rl Sc f g) (h2 : Rl Sc g h) : Rl Sc f h := by
  obtain ⟨a1, a2, k, a3, a4⟩ := h1
  obtain ⟨b1, b2, l, b3, b4⟩ := h2
  exact ⟨a1, a2.trans b2, l * k, hS.mul _ _ b3 a3, fun i => by rw [a4, b4]; grind⟩
theorem pv_times {f g : List Rat} {k : Rat} (h : ∀ i, co f i = co g i * k) (x : Rat) : pv f x = k * pv g x := by
  rw [← pv_psc]
  exact pv_congr (fun i => by rw [h, co_psc]; grind) x
theorem Rl.eq {f g : List Rat} (h : Rl (fun k => k = 1) f g) (hg : Trm g) : f = g := by
  obtain ⟨h1, _, k, rfl, h3⟩ := h
  exact trm_ext h1 hg fun i => by rw [h3]; grind
theorem Rl.nil {Sc : Rat → Prop} {f g : List Rat} (h : Rl Sc f g) : f = [] ↔ g = [] := by
  rw [← List.length_eq_zero_iff, ← List.length_eq_zero_iff, h.2.1]
theorem co_of_times {f g : List Rat} {k : Rat} (h : ∀ x, pv f x = k * pv g x) (i : Nat) : co f i = co g i * k := by
  have h1 : ∀ x, pv f x = pv (psc k g) x := fun x => by rw [h, pv_psc]
  rw [co_of_pv h1 i, co_psc]; grind
theorem len_of_times {f g : List Rat} {k : Rat} (hf : Trm f) (hg : Trm g) (hk : k ≠ 0) (h : ∀ i, co f i = co g i * k) : f.length = g.length := by
  have key : ∀ {f g : List Rat}, Trm f → (∀ i, co f i ≠ 0 → co g i ≠ 0) → f.length ≤ g.length := by
    intro f g hf h
    by_cases h0 : f = []
    · rw [h0]; exact Nat.zero_le _
    · have h1 := h _ (trm_last hf h0)
      have h2 : f.length - 1 < g.length := by
        apply Classical.byContradiction
        intro hh
        exact h1 (co_ge (by omega))
      omega
  refine Nat.le_antisymm (key hf fun i hi e => hi (by rw [h, e]; grind)) (key hg fun i hi e => ?_)
  rw [h] at e
  rcases Rat.mul_eq_zero.1 e with e | e
  · exact hi e
  · exact hk e
/-- What is left of two that are taken times numbers. -/
theorem nrem_times {f g f' g' : List Rat} {k l : Rat} (hf : Trm f) (hg : Trm g) (hf' : Trm f') (hg' : Trm g') (h0 : g ≠ []) (hk : k ≠ 0) (hl : l ≠ 0) (h : ∀ i, co f' i = co f i * k) (h' : ∀ i, co g' i = co g i * l) :
    (∀ i, co (nrem f' g') i = co (nrem f g) i * k) ∧ (nrem f' g').length = (nrem f g).length := by
  have hlg := len_of_times hg' hg hl h'
  have h0' : g' ≠ [] := fun e => by rw [e] at hlg; exact h0 (List.length_eq_zero_iff.1 hlg.symm)
  have hp : ∀ x, pv (trimQ (psc k (nrem f g))) x = k * pv (nrem f g) x := fun x => by rw [pv_trim, pv_psc]
  have e1 : nrem f' g' = trimQ (psc k (nrem f g)) := by
    refine ((nrem_of (y := trimQ (psc (k / l) (quop f g))) hf' hg' h0' (trm_trim _) (trm_trim _) ?_ fun x => ?_).2).symm
    · have h1 := nrem_len hf hg h0
      have h2 := trim_len (psc k (nrem f g))
      unfold psc at h2 ⊢
      rw [List.length_map] at h2
      omega
    · have h1 := pv_nrem f g x
      have hi := rat_inv hl
      rw [pv_trim, pv_psc, hp, pv_times h, pv_times h', h1, Rat.div_def]
      have hi2 : l⁻¹ * l = 1 := Rat.inv_mul_cancel _ hl
      grind
  have e2 : ∀ i, co (nrem f' g') i = co (nrem f g) i * k := co_of_times fun x => by rw [e1, hp]
  exact ⟨e2, len_of_times (trm_nrem _ _) (trm_nrem _ _) hk e2⟩
theorem Rl.nrem {Sc : Rat → Prop} (hS : Kd Sc) {f g f' g' : List Rat} (h : Rl Sc f' f) (h' : Rl Sc g' g) (hf : Trm f) (hg : Trm g) (h0 : g ≠ []) : Rl Sc (nrem f' g') (nrem f g) := by
  obtain ⟨a1, a2, k, a3, a4⟩ := h
  obtain ⟨b1, b2, l, b3, b4⟩ := h'
  have hk := hS.pos _ a3
  have hl := hS.pos _ b3
  obtain ⟨h1, h2⟩ := nrem_times hf hg a1 b1 h0 (fun e => by rw [e] at hk; exact absurd hk (by decide)) (fun e => by rw [e] at hl; exact absurd hl (by decide)) a4 b4
  exact ⟨trm_nrem _ _, h2, k, a3, h1⟩
/-- Polynomial by polynomial. -/
def Scl (Sc : Rat → Prop) : List (List Rat) → List (List Rat) → Prop
  | [], [] => True
  | f :: c, g :: d => Rl Sc f g ∧ Scl Sc c d
  | _, _ => False
theorem Scl.snoc {Sc : Rat → Prop} {f g : List Rat} (h : Rl Sc f g) : ∀ {c d : List (List Rat)}, Scl Sc c d → Scl Sc (c ++ [f]) (d ++ [g])
  | [], [], _ => ⟨h, trivial⟩
  | _ :: _, _ :: _, hc => ⟨hc.1, Scl.snoc h hc.2⟩
  | [], _ :: _, hc => hc.elim
  | _ :: _, [], hc => hc.elim
theorem Scl.eq : ∀ {c d : List (List Rat)}, Scl (fun k => k = 1) c d → (∀ f ∈ d, Trm f) → c = d
  | [], [], _, _ => rfl
  | f :: c, g :: d, h, hd => by rw [h.1.eq (hd g List.mem_cons_self), Scl.eq h.2 fun f hf => hd f (List.mem_cons_of_mem _ hf)]
  | [], _ :: _, hc, _ => hc.elim
  | _ :: _, [], hc, _ => hc.elim
theorem Scl.len {Sc : Rat → Prop} : ∀ {c d : List (List Rat)}, Scl Sc c d → c.length = d.length
  | [], [], _ => rfl
  | f :: c, g :: d, h => by rw [List.length_cons, List.length_cons, Scl.len h.2]
  | [], _ :: _, hc => hc.elim
  | _ :: _, [], hc => hc.elim
/-! ### How long they are -/
theorem rem_cml {q : List Rat} {b : Nat} (hq : Trm q) (h0 : q ≠ []) (hb : Cml q b) : ∀ (n : Nat) (p : List Rat) (a : Nat), Trm p → Cml p a → p.length + 1 ≤ n + q.length → ∃ y r, Trm y ∧ Trm r ∧ r.length < q.length ∧ (∀ x, pv p x = pv y x * pv q x + pv r x) ∧ Cml r (a + n * (b + 1)) := by
  intro n
  induction n with
  | zero =>
    intro p a hp ha hl
    exact ⟨[], p, rfl, hp, by omega, fun x => by show _ = 0 * _ + _; grind, by rw [Nat.zero_mul]; exact ha⟩
  | succ n ih =>
    intro p a hp ha hl
    by_cases hlt : p.length < q.length
    · exact ⟨[], p, rfl, hp, hlt, fun x => by show _ = 0 * _ + _; grind, ha.mono (by omega)⟩
    · have h1 := ha.step hb hq h0
      have h2 := stepp_less hp hq h0 (by omega)
      obtain ⟨y, r, y1, r1, r2, e, r3⟩ := ih (stepp p q) (a + b + 1) (trm_stepp p q) h1 (by omega)
      refine ⟨trimQ (padd y (mon (p.length - q.length) (top p / top q))), r, trm_trim _, r1, r2, fun x => ?_, r3.mono ?_⟩
      · rw [pv_trim, pv_padd, pv_mon]
        have h3 := pv_stepp p q x
        rw [e] at h3
        grind
      · rw [Nat.succ_mul]; omega
theorem Cml.turn {f g : List Rat} {n : Nat} (h : Cml f n) (e : ∀ i, co g i = -co f i) : Cml g n := by
  obtain ⟨h1, D, h2, h3, h4⟩ := h
  refine ⟨h1, D, h2, h3, fun i => ?_⟩
  obtain ⟨z, h5, h6⟩ := h4 i
  exact ⟨-z, by rw [Int.natAbs_neg]; exact h5, by rw [e, Rat.intCast_neg, ← h6]; grind⟩
theorem cml_nrem {p q : List Rat} {a b : Nat} (hp : Trm p) (hq : Trm q) (h0 : q ≠ []) (ha : Cml p a) (hb : Cml q b) : Cml (nrem p q) (a + (p.length + 1 - q.length) * (b + 1)) := by
  obtain ⟨y, r, y1, r1, r2, e, r3⟩ := rem_cml hq h0 hb (p.length + 1 - q.length) p a hp ha (by omega)
  have hn : trimQ (psc (-1) r) = nrem p q := (nrem_of hp hq h0 y1 (trm_trim _) (by have := trim_len (psc (-1) r); unfold psc at this ⊢; rw [List.length_map] at this; omega) fun x => by rw [pv_trim, pv_psc, e]; grind).2
  exact r3.turn fun i => by rw [← hn, co_trim, co_psc]; grind
/-- Two that follow each other: how long they are. -/
def Szq (m : Nat) (p q : List Rat) : Prop := ∃ a b, Cml p a ∧ Cml q b ∧ ((q.length < p.length ∧ a + 1 ≤ psA (10 - p.length) * (m + 1) ∧ b + 1 ≤ psA (11 - p.length) * (m + 1)) ∨ (q.length ≤ p.length ∧ a ≤ m ∧ b ≤ m))
theorem Szq.next {m : Nat} {p q : List Rat} (h : Szq m p q) (hp : Trm p) (hq : Trm q) (h0 : q ≠ []) (hl : p.length ≤ 9) : Cml q (3363 * (m + 1)) ∧ ∃ c, Cml (nrem p q) c ∧ c ≤ 3363 * (m + 1) ∧ ∀ s, Cml s c → s.length < q.length → Szq m q s := by
  have hq1 := List.length_pos_iff.2 h0
  have e10 : psA 10 = 3363 := by decide
  obtain ⟨a, b, h1, h2, h3⟩ := h
  have hle : q.length ≤ p.length := by rcases h3 with h | h <;> omega
  have key : a + (p.length + 1 - q.length) * (b + 1) + 1 ≤ psA (11 - q.length) * (m + 1) ∧ b + 1 ≤ psA (10 - q.length) * (m + 1) := by
    rcases h3 with ⟨h3, h4, h5⟩ | ⟨h3, h4, h5⟩
    · have k1 := psA_step (10 - p.length) (p.length + 1 - q.length) (by omega) (by omega)
      rw [show 10 - p.length + (p.length + 1 - q.length) = 11 - q.length by omega, show 10 - p.length + 1 = 11 - p.length by omega] at k1
      have k2 := Nat.mul_le_mul_right (m + 1) k1
      have k3 := Nat.mul_le_mul_left (p.length + 1 - q.length) h5
      have k4 := psA_mono (i := 11 - p.length) (j := 10 - q.length) (by omega) (by omega)
      have k5 := Nat.mul_le_mul_right (m + 1) k4
      rw [Nat.add_mul, Nat.mul_assoc] at k2
      omega
    · have k1 := psA_self (n := 11 - q.length) (by omega) (by omega)
      have k2 := Nat.mul_le_mul_right (m + 1) (show p.length + 1 - q.length + 1 ≤ psA (11 - q.length) by omega)
      have k3 := Nat.mul_le_mul_left (p.length + 1 - q.length) (show b + 1 ≤ m + 1 by omega)
      have k4 := psA_self (n := 10 - q.length) (by omega) (by omega)
      have k5 := Nat.mul_le_mul_right (m + 1) (show 1 ≤ psA (10 - q.length) by omega)
      rw [Nat.add_mul] at k2
      omega
  have b1 := Nat.mul_le_mul_right (m + 1) (psA_mono (i := 11 - q.length) (j := 10) (by omega) (by omega))
  have b2 := Nat.mul_le_mul_right (m + 1) (psA_mono (i := 10 - q.length) (j := 10) (by omega) (by omega))
  rw [e10] at b1 b2
  exact ⟨h2.mono (by omega), _, cml_nrem hp hq h0 h1 h2, by omega, fun s hs hls => ⟨b, _, h2, hs, .inl ⟨hls, key.2, key.1⟩⟩⟩
theorem Szq.one {m : Nat} {p q : List Rat} (h : Szq m p q) (hl : p.length ≤ 9) : Cml p (3363 * (m + 1)) := by
  have e10 : psA 10 = 3363 := by decide
  obtain ⟨a, b, h1, h2, h3⟩ := h
  rcases h3 with ⟨h3, h4, h5⟩ | ⟨h3, h4, h5⟩
  · have b1 := Nat.mul_le_mul_right (m + 1) (psA_mono (i := 10 - p.length) (j := 10) (by omega) (by omega))
    rw [e10] at b1
    exact h1.mono (by omega)
  · exact h1.mono (by omega)

theorem nrem_neg {f g y r : List Rat} (hf : Trm f) (hg : Trm g) (h0 : g ≠ []) (hy : Trm y) (hr : Trm r) (hl : r.length < g.length) (e : ∀ x, pv f x = pv y x * pv g x + pv r x) : lof r.length (fun t => -co r t) = nrem f g := by
  have hn : trimQ (psc (-1) r) = nrem f g := (nrem_of hf hg h0 hy (trm_trim _) (by have := trim_len (psc (-1) r); unfold psc at this ⊢; rw [List.length_map] at this; omega) fun x => by rw [pv_trim, pv_psc, e]; grind).2
  rw [← hn]
  have hll : (lof r.length (fun t => -co r t)).length = r.length := by simp [lof]
  refine trm_ext (trm_of_last ?_) (trm_trim _) fun i => ?_
  · by_cases h : r = []
    · exact .inl (List.length_eq_zero_iff.1 (by rw [hll, h]; rfl))
    · refine .inr ?_
      have h1 := List.length_pos_iff.2 h
      rw [hll, co_lof, if_pos (by omega)]
      have h2 := trm_last hr h
      grind
  · rw [co_lof, co_trim, co_psc]
    by_cases h : i < r.length
    · rw [if_pos h]; grind
    · rw [if_neg h, co_ge (by omega)]; grind

/-! ### What a round keeps -/
/-- T: the chain; fs: what there is of it, times numbers; lk, nx: the next two, times numbers. -/
def Chs (Sc : Rat → Prop) (m : Nat) (T fs : List (List Rat)) (lk nx : List Rat) : Prop := ∃ (ds : List (List Rat)) (n : Nat) (g h : List Rat), T = ds ++ chz n g h ∧ Scl Sc fs ds ∧ Trm g ∧ Rl Sc lk g ∧
  (lk ≠ [] → lk.length ≤ n ∧ Trm h ∧ Rl Sc nx h ∧ Szq m lk nx ∧ nx.length < lk.length ∧ lk.length + fs.length ≤ 9) ∧ (∀ f ∈ fs, Cml f (3363 * (m + 1)) ∧ f.length ≤ 9) ∧ fs.length ≤ 9
theorem Chs.end {Sc : Rat → Prop} {m : Nat} {T fs : List (List Rat)} {nx : List Rat} (h : Chs Sc m T fs [] nx) : Scl Sc fs T ∧ (∀ f ∈ fs, Cml f (3363 * (m + 1)) ∧ f.length ≤ 9) ∧ fs.length ≤ 9 := by
  obtain ⟨ds, n, g, h, e, h1, h2, h3, _, h5, h6⟩ := h
  rw [h3.nil.1 rfl, chz_nil, List.append_nil] at e
  rw [e]
  exact ⟨h1, h5, h6⟩
theorem Chs.start {Sc : Rat → Prop} {m : Nat} {p lk nx : List Rat} (hp : Trm p) (h0 : p ≠ []) (h1 : Rl Sc lk p) (h2 : Rl Sc nx (slope p)) (hc1 : Cml lk m) (hc2 : Cml nx m) (hl : p.length ≤ 9) : Chs Sc m (chainp p) [] lk nx := by
  have h3 := slp_len p
  have h4 := List.length_pos_iff.2 h0
  have e1 := h1.2.1
  have e2 := h2.2.1
  exact ⟨[], p.length + 1, p, slope p, chainp_chz hp h0, trivial, hp, h1, fun _ => ⟨by omega, trm_slope p, h2, ⟨m, m, hc1, hc2, .inr ⟨by omega, Nat.le_refl _, Nat.le_refl _⟩⟩, by omega, by simp; omega⟩, fun f hf => by simp at hf, by simp⟩
/-- Before the last one. -/
theorem Chs.next {Sc : Rat → Prop} (hS : Kd Sc) {m : Nat} {T fs : List (List Rat)} {lk nx : List Rat} (H : Chs Sc m T fs lk nx) (hlk : lk ≠ []) (hnx : nx ≠ []) :
    Trm lk ∧ Trm nx ∧ lk.length ≤ 9 ∧ nx.length < lk.length ∧ Cml lk (3363 * (m + 1)) ∧ Cml nx (3363 * (m + 1)) ∧ ∃ c, Cml (nrem lk nx) c ∧ c ≤ 3363 * (m + 1) ∧ ∀ s, Rl Sc s (nrem lk nx) → Cml s c → Chs Sc m T (fs ++ [lk]) nx s := by
  obtain ⟨ds, n, g, h, e, h1, h2, h3, h4, h5, h6⟩ := H
  obtain ⟨a1, a2, a3, a4, a5, a6⟩ := h4 hlk
  have hg0 : g ≠ [] := fun e => hlk (h3.nil.2 e)
  have hh0 : h ≠ [] := fun e => hnx (a3.nil.2 e)
  have hl1 := List.length_pos_iff.2 hlk
  obtain ⟨c0, c, c1, c2, c3⟩ := a4.next h3.1 a3.1 hnx (by omega)
  obtain ⟨n, rfl⟩ : ∃ k, n = k + 1 := ⟨n - 1, by omega⟩
  rw [chz_cons hg0] at e
  have hr := Rl.nrem hS h3 a3 h2 a2 hh0
  have hrl := nrem_len h3.1 a3.1 hnx
  have c4 := a4.one (by omega)
  refine ⟨h3.1, a3.1, by omega, a5, c4, c0, c, c1, c2, fun s hs hsc => ⟨ds ++ [g], n, h, nrem g h, by rw [e, List.append_assoc]; rfl, h1.snoc h3, a2, a3, fun _ => ⟨by omega, trm_nrem _ _, hs.trans hS hr, c3 s hsc (by rw [hs.2.1]; exact hrl), by rw [hs.2.1]; exact hrl, by rw [List.length_append]; simp; omega⟩, fun f hf => ?_, by rw [List.length_append]; simp; omega⟩⟩
  rcases List.mem_append.1 hf with hf | hf
  · exact h5 f hf
  · simp at hf; subst hf; exact ⟨c4, by omega⟩
/-- The last one. -/
theorem Chs.last {Sc : Rat → Prop} {m : Nat} {T fs : List (List Rat)} {lk : List Rat} (H : Chs Sc m T fs lk []) (hlk : lk ≠ []) : Chs Sc m T (fs ++ [lk]) [] [] := by
  obtain ⟨ds, n, g, h, e, h1, h2, h3, h4, h5, h6⟩ := H
  obtain ⟨a1, a2, a3, a4, a5, a6⟩ := h4 hlk
  have hg0 : g ≠ [] := fun e => hlk (h3.nil.2 e)
  have hl1 := List.length_pos_iff.2 hlk
  have hh0 : h = [] := a3.nil.1 rfl
  subst hh0
  obtain ⟨n, rfl⟩ : ∃ k, n = k + 1 := ⟨n - 1, by omega⟩
  rw [chz_cons hg0, chz_nil] at e
  refine ⟨ds ++ [g], 0, [], [], by rw [e]; simp [chz], h1.snoc h3, rfl, ⟨rfl, rfl, a3.2.2⟩, fun h => absurd rfl h, fun f hf => ?_, by rw [List.length_append]; simp; omega⟩
  rcases List.mem_append.1 hf with hf | hf
  · exact h5 f hf
  · simp at hf; subst hf; exact ⟨a4.one (by omega), by omega⟩
end Go.Proofs.Ytokojbgpboccnaa

/-
  PACKAGE sturm: ChangesOf.
-/
namespace Go.Proofs.Ytokojbgpboccnaa
open Go.RowKit
open Num
set_option linter.unusedVariables false
set_option maxRecDepth 100000
set_option linter.unusedSimpArgs false

theorem sgn_neg {q : Rat} (h : q < 0) : q.num.sign = -1 := by
  have h1 : q.num < 0 := Int.not_le.1 fun h2 => by have := Rat.num_nonneg.1 h2; grind
  exact Int.sign_eq_neg_one_of_neg h1
theorem sgn_pos {q : Rat} (h : 0 < q) : q.num.sign = 1 := by
  have h1 : 0 < q.num := by
    have h2 : 0 ≤ q.num := Rat.num_nonneg.2 (Rat.le_of_lt h)
    have h3 : q.num ≠ 0 := fun e => by have := Rat.num_eq_zero.1 e; rw [this] at h; exact absurd h (by decide)
    omega
  exact Int.sign_eq_one_of_pos h1
theorem sgn_all (a : Rat) : (a < 0 ∧ a.num.sign = -1) ∨ (a = 0 ∧ a.num.sign = 0) ∨ (0 < a ∧ a.num.sign = 1) := by
  rcases tri a with h | h | h
  · exact .inl ⟨h, sgn_neg h⟩
  · exact .inr (.inl ⟨h, by rw [h]; rfl⟩)
  · exact .inr (.inr ⟨h, sgn_pos h⟩)
theorem chq_drop {l : List Rat} {i : Nat} (h : i < l.length) (a : Rat) : chq a (l.drop i) = if co l i = 0 then chq a (l.drop (i + 1)) else (if a * co l i < 0 then 1 else 0) + chq (co l i) (l.drop (i + 1)) := by
  have e : co l i = l[i] := by simp [co, h]
  rw [List.drop_eq_getElem_cons h, e]
  rfl

set_option maxHeartbeats 4000000 in
/-- How often the sign changes. -/
theorem chg_p {w : World} {v : Value} {l : List Rat} (h : PN w v l) (hl : l.length ≤ 1000000000000) :
    Calls Try.prog 15 #[v] w fun e w' => e = .returned (.int .i64 ((chq 0 l : Nat) : Int)) ∧ Below w.heap.size w w' := by
  obtain ⟨a, c, rfl, hn1, hc1⟩ := h.opened
  have HP := hid h
  have HQL := hid (chq_len l 0)
  obtain ⟨nl, hNL⟩ : ∃ nl, l.length = nl := ⟨_, rfl⟩
  have NL := hid hNL
  rw [hNL] at hn1 hl HP HQL ⊢
  unfold maxLen at hc1
  clear h hNL
  go_enter Try.func15, Try.ntmps15
  go_wp2_with fail
  go_loopw [3, 4, 10] (fun ch la x wr => ∃ (i n : Nat) (q : Rat) (z : Int), i ≤ nl ∧ x = .int .i64 i ∧ ch = .int .i64 n ∧ la = .int .i64 z ∧ Hid (z = q.num.sign) ∧ Hid (n + chq q (l.drop i) = chq 0 l) ∧ n ≤ i ∧ Hid (Below w.heap.size w wr)) (fun _ _ x _ => nl - (intOf x).toNat)
  case atStart => exact ⟨0, 0, 0, 0, by omega, rfl, rfl, rfl, hid rfl, hid (by rw [List.drop_zero, Nat.zero_add]), Nat.le_refl _, hid (Below.refl _ _)⟩
  case round =>
    obtain ⟨i, n, q, z, hi, rfl, rfl, rfl, HZ, HI, hni, B⟩ := hrel
    by_cases hlt : i < nl
    · obtain ⟨b5, s5a, p5a, n5a, c5a, s5b, p5b, n5b, c5b, rfl, hb5, cd5, hq5⟩ := pn_at HP.out B.out (i := i) (by rw [NL.out]; exact hlt)
      have HQ := hid hq5
      have HD := hid (chq_drop (l := l) (i := i) (by rw [NL.out]; exact hlt) q)
      obtain ⟨x, hx⟩ : ∃ x, x = co l i := ⟨_, rfl⟩
      rw [← hx] at HD HQ
      clear hq5 hx
      obtain ⟨hb201, hx202, hs203⟩ := Nbx.made wr s5a s5b (.slice p5a n5a c5a) (.slice p5b n5b c5b)
      replace HQ := nf HQ hb201
      replace B := bb B hb201
      have X5 := hid hx202
      clear hb201 hx202
      have cc204 := X5.out.cells
      rcases sgn_all x with ⟨hs, hz⟩ | ⟨hs, hz⟩ | ⟨hs, hz⟩
      · have HS := hid hs
        have HN := hid (nsgn_f HQ.out hz)
        clear hs hz
        by_cases hzz : z = 1
        · have HC : Hid (q * x < 0) := hid (by
            have h1 := HZ.out
            rw [hzz] at h1
            rcases sgn_all q with ⟨k1, k2⟩ | ⟨k1, k2⟩ | ⟨k1, k2⟩
            · rw [k2] at h1; cases h1
            · rw [k2] at h1; cases h1
            · exact mul_pn k1 HS.out)
          have HX0 : Hid (x ≠ 0) := hid (fun e => by have := HS.out; rw [e] at this; exact absurd this (by decide))
          have HS2 : Hid ((-1 : Int) = x.num.sign) := hid (sgn_neg HS.out).symm
          subst hzz
          go_wp2_with fail
          refine HN.out.mono ?_
          rintro e w2 ⟨rfl, hb⟩
          replace B := bb B hb
          clear hb HN
          go_wp2_with fail
          go_roundw
          case rel => exact ⟨i + 1, n + 1, x, -1, by omega, by go_num, by go_num, rfl, HS2, hid (by rw [← HI.out, HD.out, if_neg HX0.out, if_pos HC.out]; omega), by omega, B⟩
          case measure => simp [intOf]; omega
        · have HC : Hid (¬ q * x < 0) := hid (fun hh => by
            have h1 := HZ.out
            rcases sgn_all q with ⟨k1, k2⟩ | ⟨k1, k2⟩ | ⟨k1, k2⟩
            · have := mul_neg' k1 HS.out; grind
            · rw [k1] at hh; grind
            · exact hzz (by rw [h1, k2]))
          have HX0 : Hid (x ≠ 0) := hid (fun e => by have := HS.out; rw [e] at this; exact absurd this (by decide))
          have HS2 : Hid ((-1 : Int) = x.num.sign) := hid (sgn_neg HS.out).symm
          go_wp2_with fail
          refine HN.out.mono ?_
          rintro e w2 ⟨rfl, hb⟩
          replace B := bb B hb
          clear hb HN
          go_wp2_with fail
          go_roundw
          case rel => exact ⟨i + 1, n, x, -1, by omega, by go_num, rfl, rfl, HS2, hid (by rw [← HI.out, HD.out, if_neg HX0.out, if_neg HC.out]; omega), by omega, B⟩
          case measure => simp [intOf]; omega
      · have HS := hid hs
        have HN := hid (nsgn_f HQ.out hz)
        clear hs hz
        go_wp2_with fail
        refine HN.out.mono ?_
        rintro e w2 ⟨rfl, hb⟩
        replace B := bb B hb
        clear hb HN
        go_wp2_with fail
        go_roundw
        case rel => exact ⟨i + 1, n, q, z, by omega, by go_num, rfl, rfl, HZ, hid (by rw [← HI.out, HD.out, if_pos HS.out]), by omega, B⟩
        case measure => simp [intOf]; omega
      · have HS := hid hs
        have HN := hid (nsgn_f HQ.out hz)
        clear hs hz
        by_cases hzz : z = -1
        · have HC : Hid (q * x < 0) := hid (by
            have h1 := HZ.out
            rw [hzz] at h1
            rcases sgn_all q with ⟨k1, k2⟩ | ⟨k1, k2⟩ | ⟨k1, k2⟩
            · exact mul_np k1 HS.out
            · rw [k2] at h1; cases h1
            · rw [k2] at h1; cases h1)
          have HX0 : Hid (x ≠ 0) := hid (fun e => by have := HS.out; rw [e] at this; exact absurd this (by decide))
          have HS2 : Hid ((1 : Int) = x.num.sign) := hid (sgn_pos HS.out).symm
          subst hzz
          go_wp2_with fail
          refine HN.out.mono ?_
          rintro e w2 ⟨rfl, hb⟩
          replace B := bb B hb
          clear hb HN
          go_wp2_with fail
          go_roundw
          case rel => exact ⟨i + 1, n + 1, x, 1, by omega, by go_num, by go_num, rfl, HS2, hid (by rw [← HI.out, HD.out, if_neg HX0.out, if_pos HC.out]; omega), by omega, B⟩
          case measure => simp [intOf]; omega
        · have HC : Hid (¬ q * x < 0) := hid (fun hh => by
            have h1 := HZ.out
            rcases sgn_all q with ⟨k1, k2⟩ | ⟨k1, k2⟩ | ⟨k1, k2⟩
            · exact hzz (by rw [h1, k2])
            · rw [k1] at hh; grind
            · have := Rat.mul_pos k1 HS.out; grind)
          have HX0 : Hid (x ≠ 0) := hid (fun e => by have := HS.out; rw [e] at this; exact absurd this (by decide))
          have HS2 : Hid ((1 : Int) = x.num.sign) := hid (sgn_pos HS.out).symm
          go_wp2_with fail
          refine HN.out.mono ?_
          rintro e w2 ⟨rfl, hb⟩
          replace B := bb B hb
          clear hb HN
          go_wp2_with fail
          go_roundw
          case rel => exact ⟨i + 1, n, x, 1, by omega, by go_num, rfl, rfl, HS2, hid (by rw [← HI.out, HD.out, if_neg HX0.out, if_neg HC.out]; omega), by omega, B⟩
          case measure => simp [intOf]; omega
    · obtain rfl : i = nl := by omega
      have hE : n = chq 0 l := by have := HI.out; rw [List.drop_of_length_le (by rw [NL.out]; exact Nat.le_refl _)] at this; exact this
      have HE := hid hE
      clear hE
      go_wp2_with fail
      go_ret
      exact ⟨ret_int (by rw [← HE.out]), B.out⟩

end Go.Proofs.Ytokojbgpboccnaa

/-
  PACKAGE poly: Polynomial.Mul.
-/
namespace Go.Proofs.Ytokojbgpboccnaa
open Go.RowKit
open Num
set_option linter.unusedVariables false
set_option maxRecDepth 100000
set_option linter.unusedSimpArgs false

/-- Sums of products: so many rows of them, and so many of the next row. -/
def psum (l r : List Rat) (i t : Nat) : Rat := sumN (fun a => if a ≤ t then co l a * co r (t - a) else 0) i
def pprod (l r : List Rat) (i j t : Nat) : Rat := psum l r i t + if i ≤ t ∧ t < i + j then co l i * co r (t - i) else 0
theorem pprod_start (l r : List Rat) (i t : Nat) : pprod l r i 0 t = psum l r i t := by
  rw [pprod, if_neg (by omega)]; grind
theorem pprod_self (l r : List Rat) (i j : Nat) : pprod l r i j (i + j) = psum l r i (i + j) := by
  rw [pprod, if_neg (by omega)]; grind
theorem pprod_next (l r : List Rat) (i j : Nat) : pprod l r i (j + 1) (i + j) = psum l r i (i + j) + co l i * co r j := by
  rw [pprod, if_pos (by omega), Nat.add_sub_cancel_left]
theorem pprod_ne (l r : List Rat) {i j t : Nat} (h : t ≠ i + j) : pprod l r i (j + 1) t = pprod l r i j t := by
  rw [pprod, pprod]
  by_cases h1 : i ≤ t ∧ t < i + j
  · rw [if_pos h1, if_pos (by omega)]
  · rw [if_neg h1, if_neg (by omega)]
theorem pprod_end (l r : List Rat) {i j t : Nat} (h : r.length ≤ j) : pprod l r i j t = psum l r (i + 1) t := by
  show _ = psum l r i t + (if i ≤ t then co l i * co r (t - i) else 0)
  rw [pprod]
  congr 1
  by_cases h1 : i ≤ t
  · rw [if_pos h1]
    by_cases h2 : t < i + j
    · rw [if_pos ⟨h1, h2⟩]
    · rw [if_neg (by omega), co_ge (l := r) (by omega)]; grind
  · rw [if_neg (by omega), if_neg h1]
theorem part_all (l r : List Rat) (t : Nat) : psum l r l.length t = cnv l r t := by
  have h1 : cnv l r t = sumN (fun a => if a ≤ t then co l a * co r (t - a) else 0) (t + 1) := sumN_congr fun k hk => (if_pos (by omega)).symm
  rw [h1, psum]
  rcases Nat.le_total l.length (t + 1) with h | h
  · exact (sumN_more _ h fun k h2 h3 => by
      show (if k ≤ t then co l k * _ else 0) = 0
      rw [co_ge h2]; split <;> grind).symm
  · exact sumN_more _ h fun k h2 h3 => by
      show (if k ≤ t then co l k * _ else 0) = 0
      rw [if_neg (by omega)]
theorem Sml.rows {l r : List Rat} {m n : Nat} (h : Sml l m) (h' : Sml r n) (t : Nat) : ∀ i, Sm (psum l r i t) (i * (m + n + 1) + 1) := by
  intro i
  induction i with
  | zero => exact Sm.zero (by omega)
  | succ i ih =>
    show Sm (psum l r i t + if i ≤ t then co l i * co r (t - i) else 0) _
    refine (ih.add (n := m + n) ?_).mono (by rw [Nat.succ_mul]; omega)
    split
    · exact (h.2 i).mul (h'.2 (t - i))
    · exact Sm.zero (by have := h.1; omega)
theorem mulp_of (l r : List Rat) : trimQ (lof (l.length + r.length) fun t => psum l r l.length t) = mulp l r := by
  refine trim_ext fun i => ?_
  rw [co_lof, co_lof]
  by_cases h : i < l.length + r.length - 1
  · rw [if_pos h, if_pos (by omega), part_all]
  · rw [if_neg h]
    split
    · rw [part_all, cnv_big (by omega)]
    · rfl

set_option maxHeartbeats 8000000 in
theorem pmul_p {w : World} {v u : Value} {l r : List Rat} {m n : Nat} (h : PN w v l) (h' : PN w u r) (hs : Sml l m) (hs' : Sml r n) (hm : l.length * (m + n + 1) + m + n + 2 ≤ 68719476736) (hl : l.length ≤ 1000000) (hr : r.length ≤ 1000000) :
    Calls Try.prog 25 #[v, u] w fun e w' => ∃ v', e = .returned v' ∧ PN w' v' (mulp l r) ∧ Below w.heap.size w w' := by
  obtain ⟨a, c, rfl, hn1, hc1⟩ := h.opened
  obtain ⟨a', c', rfl, hn2, hc2⟩ := h'.opened
  have HP := hid h
  have HP' := hid h'
  have SL := hid hs
  have SR := hid hs'
  have HM := hid (show m + n + 2 ≤ 68719476736 by omega)
  have HI0 : Hid (∀ i, i ≤ l.length → i * (m + n + 1) + 1 ≤ 68719476736) := hid (fun i hi => by have := Nat.mul_le_mul_right (m + n + 1) hi; omega)
  have HK := hid (mulp_of l r)
  obtain ⟨nl, hNL⟩ : ∃ nl, l.length = nl := ⟨_, rfl⟩
  obtain ⟨nr, hNR⟩ : ∃ nr, r.length = nr := ⟨_, rfl⟩
  have NL := hid hNL
  have NR := hid hNR
  rw [hNL] at hn1 hl HP HK HI0 ⊢
  rw [hNR] at hn2 hr HP' HK ⊢
  clear h h' hs hs' hm hNL hNR
  unfold maxLen at hc1 hc2
  go_enter Try.func25, Try.ntmps25
  go_wp2_with (refine wpList_make_ns _ rfl _ _ _ rfl Try.underlying37 (nl + nr) (by show Value.int .i64 ((nl : Int) + nr) = _; push_cast; rfl) (by show Value.int .i64 ((nl : Int) + nr) = _; push_cast; rfl) (by omega) ?_)
  intro w0 hrow hb0 hs0
  have B := hid hb0
  have ROW := hid hrow
  have HB := hid (Nat.le_refl w.heap.size)
  have HW : Hid (∀ t, t < nl + nr → NF w0 (nag Nz) (psum l r 0 t)) := hid (fun t ht => NF.zero w0)
  clear hrow hb0 hs0
  go_wp2_with fail
  obtain ⟨b0, hb0⟩ : ∃ b0, b0 = w.heap.size := ⟨_, rfl⟩
  have HB := hid (show w.heap.size ≤ b0 by omega)
  rw [← hb0] at ROW ⊢
  clear hb0
  have W0 : ∃ rs : Nat → Nr, Hid (NRw w0 b0 (nl + nr) rs) ∧ Hid (∀ t, t < nl + nr → NF w0 (nag (rs t)) (psum l r 0 t)) := ⟨_, ROW, HW⟩
  clear ROW HW
  obtain ⟨rs0, ROW, HW⟩ := W0
  go_loopw [18] (fun x wr => ∃ (i : Nat) (rs : Nat → Nr), i ≤ nl ∧ x = .int .i64 i ∧ Hid (NRw wr b0 (nl + nr) rs) ∧ Hid (∀ t, t < nl + nr → NF wr (nag (rs t)) (psum l r i t)) ∧ Hid (Below w.heap.size w wr)) (fun x _ => nl - (intOf x).toNat)
  case atStart => exact ⟨0, rs0, by omega, rfl, ROW, HW, B⟩
  case round =>
    clear ROW HW B
    obtain ⟨i, rs, hi, rfl, ROW, HW, B⟩ := hrel
    by_cases hlt : i < nl
    · obtain ⟨b5, s5a, p5a, n5a, c5a, s5b, p5b, n5b, c5b, rfl, hb5, cd5, hq5⟩ := pn_at HP.out B.out (i := i) (by rw [NL.out]; exact hlt)
      have HQ := hid hq5
      have HI := hid (HI0.out i hi)
      clear hq5
      have LB := hid ROW.out.lt
      obtain ⟨hb301, hx302, hs303⟩ := Nbx.made wr s5a s5b (.slice p5a n5a c5a) (.slice p5b n5b c5b)
      replace HQ := nf HQ hb301
      replace ROW := rwo ROW hb301
      replace HW := hid (fun q_ hq_ => (HW.out q_ hq_).on hb301)
      replace B := bb B hb301
      have X7 := hid hx302
      clear hb301 hx302
      have cc304 := X7.out.cells
      go_wp2_with fail
      generalize hW : wr.alloc (.cells #[.bool s5a, .slice p5a n5a c5a, .bool s5b, .slice p5b n5b c5b] 49) = W305 at *
      clear hW
      obtain ⟨g7, hg7⟩ : ∃ g7, g7 = wr.heap.size := ⟨_, rfl⟩
      rw [← hg7] at X7 LB ⊢
      have LG := LB
      clear cc304 hg7 LB cd5
      go_loopw [25] (fun x wr => ∃ (j : Nat) (rs : Nat → Nr), j ≤ nr ∧ x = .int .i64 j ∧ Hid (NRw wr b0 (nl + nr) rs) ∧ Hid (∀ t, t < nl + nr → NF wr (nag (rs t)) (pprod l r i j t)) ∧ Hid (Nbx wr g7 s5a (.slice p5a n5a c5a) s5b (.slice p5b n5b c5b)) ∧ Hid (NF wr (.agg #[.bool s5a, .slice p5a n5a c5a, .bool s5b, .slice p5b n5b c5b]) (co l i)) ∧ Hid (Below w.heap.size w wr)) (fun x _ => nr - (intOf x).toNat)
      case atStart => exact ⟨0, rs, by omega, rfl, ROW, hid (fun t ht => (HW.out t ht).cast (pprod_start l r i t).symm), X7, HQ, B⟩
      case round =>
        clear ROW HW B X7 HQ
        obtain ⟨j, rs, hj, rfl, ROW, HW, X7, HQ, B⟩ := hrel
        by_cases hltj : j < nr
        · have hkn : i + j < nl + nr := by omega
          have hx1 : (0 : Int) ≤ (i : Int) + (j : Int) := by omega
          have hx2 : (i : Int) + (j : Int) < (nl : Int) + (nr : Int) := by omega
          have hx3 : ((i : Int) + (j : Int)).toNat = i + j := by omega
          have hx4 : IntKind.i64.wrap ((i : Int) + (j : Int)) = (i : Int) + (j : Int) := IntWalk.i64_in _ (by omega)
          obtain ⟨b6, s6a, p6a, n6a, c6a, s6b, p6b, n6b, c6b, rfl, hb6, cd6, hq6⟩ := pn_at HP'.out B.out (i := j) (by rw [NR.out]; exact hltj)
          obtain ⟨s7a, p7a, n7a, c7a, s7b, p7b, n7b, c7b, hz7⟩ : ∃ s7a p7a n7a c7a s7b p7b n7b c7b, rs (i + j) = ((s7a, p7a, n7a, c7a), (s7b, p7b, n7b, c7b)) := ⟨_, _, _, _, _, _, _, _, rfl⟩
          have hq7 := HW.out (i + j) hkn
          rw [hz7] at hq7
          dsimp only [nag] at hq7
          have HD := hid hq6
          have HS := hid (hq7.cast (pprod_self l r i j))
          clear hq6 hq7
          obtain ⟨hb101, hx102, hs103⟩ := Nbx.made wr s6a s6b (.slice p6a n6a c6a) (.slice p6b n6b c6b)
          have L2 := hid X7.out.lt
          replace X7 := nx X7 hb101
          replace HQ := nf HQ hb101
          replace HD := nf HD hb101
          replace HS := nf HS hb101
          replace ROW := rwo ROW hb101
          replace HW := hid (fun q_ hq_ => (HW.out q_ hq_).on hb101)
          replace B := bb B hb101
          have X9 := hid hx102
          clear hb101 hx102
          have cc104 := X7.out.cells
          have cc105 := X9.out.cells
          have cr := ROW.out.cells hkn
          rw [hz7] at cr
          go_wp2_with fail
          generalize hW : wr.alloc (.cells #[.bool s6a, .slice p6a n6a c6a, .bool s6b, .slice p6b n6b c6b] 49) = W106 at *
          clear hW
          clear cr cd6 cc104 cc105
          have cc107 := X7.out.cells
          have cc108 := X9.out.cells
          replace X7 := hid X7.out.dr
          replace X9 := hid X9.out.dr
          replace HQ := hid HQ.out.drew
          replace HD := hid HD.out.drew
          replace HS := hid HS.out.drew
          replace HW := hid (fun q_ hq_ => (HW.out q_ hq_).drew)
          replace ROW := hid ROW.out.dr
          replace B := hid (Below.drew B.out)
          have cr := ROW.out.cells hkn
          rw [hz7] at cr
          have cc109 := X7.out.cells
          have cc110 := X9.out.cells
          go_region_with (first
            | (have hm := mk111_0; clear hm; go_at_call 29; refine (nadd_f HS.out HV.out (SL.out.rows SR.out (i + j) i) ((SL.out.2 i).mul (SR.out.2 j)) HI.out (by have := HM.out; omega)).mono ?_; rintro e w115 ⟨v, rfl, hv, hb⟩; obtain ⟨s9a, p9a, n9a, c9a, s9b, p9b, n9b, c9b, rfl⟩ := hv.opened; replace X7 := nx X7 hb; replace X9 := nx X9 hb; replace HQ := nf HQ hb; replace HD := nf HD hb; replace HS := nf HS hb; replace HV := nf HV hb; replace ROW := rwo ROW hb; replace HW := hid (fun q_ hq_ => (HW.out q_ hq_).on hb); replace B := bb B hb; clear cc113 cc114; have HX := hid hv; clear hb hv cr; have cc116 := X7.out.cells; have cc117 := X9.out.cells; have cr := ROW.out.cells hkn; rw [hz7] at cr; have cc118 := ROW.out.stores hkn; replace X7 := hid (X7.out.kept (ROW.out.far (i + j) (by have := HB.out; have := LG.out; have := L2.out; omega) s9a p9a n9a c9a s9b p9b n9b c9b)); replace X9 := hid (X9.out.kept (ROW.out.far (i + j) (by have := HB.out; have := LG.out; have := L2.out; omega) s9a p9a n9a c9a s9b p9b n9b c9b)); replace HQ := hid (HQ.out.put ROW.out (i + j) s9a p9a n9a c9a s9b p9b n9b c9b); replace HD := hid (HD.out.put ROW.out (i + j) s9a p9a n9a c9a s9b p9b n9b c9b); replace HS := hid (HS.out.put ROW.out (i + j) s9a p9a n9a c9a s9b p9b n9b c9b); replace HV := hid (HV.out.put ROW.out (i + j) s9a p9a n9a c9a s9b p9b n9b c9b); replace HX := hid (HX.out.put ROW.out (i + j) s9a p9a n9a c9a s9b p9b n9b c9b); replace HW := hid (fun q_ hq_ => (HW.out q_ hq_).put ROW.out (i + j) s9a p9a n9a c9a s9b p9b n9b c9b); replace B := hid (ROW.out.below B.out (i + j) (by have := HB.out; have := LG.out; have := L2.out; omega) s9a p9a n9a c9a s9b p9b n9b c9b); replace ROW := hid (ROW.out.put hkn s9a p9a n9a c9a s9b p9b n9b c9b); have mk111_1 := hid True.intro)
            | (go_at_call 37; refine (nmul_f HQ.out HD.out (SL.out.2 i) (SR.out.2 j) (by have := HM.out; omega) (by have := HM.out; omega)).mono ?_; rintro e w112 ⟨v, rfl, hv, hb⟩; obtain ⟨s8a, p8a, n8a, c8a, s8b, p8b, n8b, c8b, rfl⟩ := hv.opened; replace X7 := nx X7 hb; replace X9 := nx X9 hb; replace HQ := nf HQ hb; replace HD := nf HD hb; replace HS := nf HS hb; replace ROW := rwo ROW hb; replace HW := hid (fun q_ hq_ => (HW.out q_ hq_).on hb); replace B := bb B hb; clear cc107 cc108 cc109 cc110; have HV := hid hv; clear hb hv cr; have cc113 := X7.out.cells; have cc114 := X9.out.cells; have cr := ROW.out.cells hkn; rw [hz7] at cr; have mk111_0 := hid True.intro))
          all_goals
            go_wp2_with fail
            go_roundw
            case rel => exact ⟨j + 1, _, by omega, by go_num, ROW, hid (fun t ht => by
              by_cases htj : t = i + j
              · subst htj; rw [upd_self, pprod_next]; exact HX.out
              · rw [upd_ne _ _ htj, pprod_ne _ _ htj]; exact HW.out t ht), X7, HQ, B⟩
            case measure => simp [intOf]; omega
        · obtain rfl : j = nr := by omega
          go_wp2_with fail
          go_roundw
          case rel => exact ⟨i + 1, rs, by omega, by go_num, ROW, hid (fun t ht => (HW.out t ht).cast (pprod_end l r (by rw [NR.out]; exact Nat.le_refl _))), B⟩
          case measure => simp [intOf]; omega
    · obtain rfl : i = nl := by omega
      have HP2 : Hid (PN wr (.slice (some ⟨b0, 0, none⟩) (i + nr) (i + nr)) (lof (i + nr) fun t => psum l r i t)) := hid (ROW.out.pn (by simp [lof]) (Nat.le_refl _) (by unfold maxLen; omega) (fun t ht => (HW.out t ht).cast (by rw [co_lof, if_pos ht])))
      go_wp2_with fail
      refine (trim_p HP2.out).mono ?_
      rintro e w2 ⟨v2, rfl, hp, hb⟩
      have HR := hid hp
      have B2 := hid (B.out.trans (hb.mono B.out.size))
      clear hp hb
      go_wp2_with fail
      go_ret
      exact ⟨_, rfl, by rw [← HK.out]; exact HR.out, B2.out⟩

end Go.Proofs.Ytokojbgpboccnaa
