/-
  PACKAGE rat: A Number IN MEMORY.
-/
import Derived.Test.YtjeeepcnaaadmaaWholeMore
import Derived.Test.YtjeeepcnaaadmaaWholeOf
namespace Go.Proofs.Ytjeeepcnaaadmaa
open Go.RowKit
open Num
set_option linter.unusedVariables false
set_option maxRecDepth 100000
set_option linter.unusedSimpArgs false

/-- A block of four cells: a Number. -/
def Nbx (w : World) (g : Nat) (s : Bool) (sv : Value) (s' : Bool) (sv' : Value) : Prop := w.heap[g]? = some (.cells #[.bool s, sv, .bool s', sv'] 51 (0, 0))
theorem Nbx.lt {w : World} {g : Nat} {s s' : Bool} {sv sv' : Value} (h : Nbx w g s sv s' sv') : g < w.heap.size := lt_of_block h
theorem Nbx.cells {w : World} {g : Nat} {s s' : Bool} {sv sv' : Value} (h : Nbx w g s sv s' sv') : w.cell? ⟨g, 0, none⟩ = some (.bool s) ∧ w.cell? ⟨g, 1, none⟩ = some sv ∧ w.cell? ⟨g, 2, none⟩ = some (.bool s') ∧ w.cell? ⟨g, 3, none⟩ = some sv' := by
  have : w.heap[g]? = some (.cells #[.bool s, sv, .bool s', sv'] 51 (0, 0)) := h
  refine ⟨?_, ?_, ?_, ?_⟩ <;> simp [World.cell?, this]
theorem Nbx.free {w : World} {g : Nat} {s s' : Bool} {sv sv' : Value} (h : Nbx w g s sv s' sv') (i : Nat) : w.frozen? ⟨g, i, none⟩ = false := by
  have : w.heap[g]? = some (.cells #[.bool s, sv, .bool s', sv'] 51 (0, 0)) := h
  simp [World.frozen?, this]
theorem Nbx.below {w w' : World} {g K : Nat} {s s' : Bool} {sv sv' : Value} (h : Nbx w g s sv s' sv') (hb : Below K w w') (hK : g < K) : Nbx w' g s sv s' sv' := (hb.block g hK).trans h
theorem Nbx.new (w : World) (s s' : Bool) (sv sv' : Value) : Nbx (w.alloc (.cells #[.bool s, sv, .bool s', sv'] 51)) w.heap.size s sv s' sv' := by
  show (w.heap.push _)[w.heap.size]? = _
  simp
theorem Nbx.other {w : World} {g g2 : Nat} {s s' : Bool} {sv sv' : Value} (h : Nbx w g s sv s' sv') (hne : g ≠ g2) (i : Nat) (v : Value) : Nbx (w.setCell ⟨g2, i, none⟩ v) g s sv s' sv' := by
  show (w.setCell ⟨g2, i, none⟩ v).heap[g]? = _
  rw [Below.heap_setCell _ _ _ _ (by exact hne)]; exact h

theorem Nbx.set0 {w : World} {g : Nat} {s s' : Bool} {sv sv' : Value} (h : Nbx w g s sv s' sv') (x : Bool) : Nbx (w.setCell ⟨g, 0, none⟩ (.bool x)) g x sv s' sv' := by
  have : w.heap[g]? = some (.cells #[.bool s, sv, .bool s', sv'] 51 (0, 0)) := h
  show (w.setCell ⟨g, 0, none⟩ (.bool x)).heap[g]? = _
  simp only [World.setCell, Array.getElem?_modify, this]
  simp
theorem Nbx.set1 {w : World} {g : Nat} {s s' : Bool} {sv sv' : Value} (h : Nbx w g s sv s' sv') (x : Value) : Nbx (w.setCell ⟨g, 1, none⟩ x) g s x s' sv' := by
  have : w.heap[g]? = some (.cells #[.bool s, sv, .bool s', sv'] 51 (0, 0)) := h
  show (w.setCell ⟨g, 1, none⟩ x).heap[g]? = _
  simp only [World.setCell, Array.getElem?_modify, this]
  simp
theorem Nbx.set2 {w : World} {g : Nat} {s s' : Bool} {sv sv' : Value} (h : Nbx w g s sv s' sv') (x : Bool) : Nbx (w.setCell ⟨g, 2, none⟩ (.bool x)) g s sv x sv' := by
  have : w.heap[g]? = some (.cells #[.bool s, sv, .bool s', sv'] 51 (0, 0)) := h
  show (w.setCell ⟨g, 2, none⟩ (.bool x)).heap[g]? = _
  simp only [World.setCell, Array.getElem?_modify, this]
  simp
theorem Nbx.set3 {w : World} {g : Nat} {s s' : Bool} {sv sv' : Value} (h : Nbx w g s sv s' sv') (x : Value) : Nbx (w.setCell ⟨g, 3, none⟩ x) g s sv s' x := by
  have : w.heap[g]? = some (.cells #[.bool s, sv, .bool s', sv'] 51 (0, 0)) := h
  show (w.setCell ⟨g, 3, none⟩ x).heap[g]? = _
  simp only [World.setCell, Array.getElem?_modify, this]
  simp
/-- What a walk needs to write all four. -/
theorem Nbx.stores {w : World} {g : Nat} {s s' : Bool} {sv sv' : Value} (h : Nbx w g s sv s' sv') :
    (w.cell? ⟨g, 0, none⟩ = some (.bool s) ∧ w.frozen? ⟨g, 0, none⟩ = false) ∧
    ((∀ x, (w.setCell ⟨g, 0, none⟩ (.bool x)).cell? ⟨g, 1, none⟩ = some sv) ∧ (∀ x, (w.setCell ⟨g, 0, none⟩ (.bool x)).frozen? ⟨g, 1, none⟩ = false)) ∧
    ((∀ x y, ((w.setCell ⟨g, 0, none⟩ (.bool x)).setCell ⟨g, 1, none⟩ y).cell? ⟨g, 2, none⟩ = some (.bool s')) ∧ (∀ x y, ((w.setCell ⟨g, 0, none⟩ (.bool x)).setCell ⟨g, 1, none⟩ y).frozen? ⟨g, 2, none⟩ = false)) ∧
    ((∀ x y z, (((w.setCell ⟨g, 0, none⟩ (.bool x)).setCell ⟨g, 1, none⟩ y).setCell ⟨g, 2, none⟩ (.bool z)).cell? ⟨g, 3, none⟩ = some sv') ∧ (∀ x y z, (((w.setCell ⟨g, 0, none⟩ (.bool x)).setCell ⟨g, 1, none⟩ y).setCell ⟨g, 2, none⟩ (.bool z)).frozen? ⟨g, 3, none⟩ = false)) :=
  ⟨⟨h.cells.1, h.free 0⟩, ⟨fun x => (h.set0 x).cells.2.1, fun x => (h.set0 x).free 1⟩, ⟨fun x y => ((h.set0 x).set1 y).cells.2.2.1, fun x y => ((h.set0 x).set1 y).free 2⟩,
    fun x y z => (((h.set0 x).set1 y).set2 z).cells.2.2.2, fun x y z => (((h.set0 x).set1 y).set2 z).free 3⟩
theorem Lim.nbx {w : World} {v : Value} {xs : List Nat} {g : Nat} {s s' : Bool} {p p' : Option Addr} {n n' c c' : Nat} (h : Lim w v xs) (hx : Nbx w g s (.slice p n c) s' (.slice p' n' c')) (i : Nat) (u : Value) : Lim (w.setCell ⟨g, i, none⟩ u) v xs := by
  have hg : w.heap[g]? = some (.cells #[.bool s, .slice p n c, .bool s', .slice p' n' c'] 51 (0, 0)) := hx
  obtain ⟨h1, q, d, h2, h3, h4, h5⟩ := h
  refine ⟨h1, q, d, h2, h3, h4, ?_⟩
  rcases h5 with h5 | ⟨b, off, h6, h7, h8⟩
  · exact .inl h5
  · refine .inr ⟨b, off, h6, by simpa [World.setCell] using h7, fun i hi => ?_⟩
    have h9 := h8 i hi
    by_cases hb : b = g
    · subst hb
      simp only [World.cell?, hg] at h9
      have hh : ∀ k : Nat, (#[Value.bool s, Value.slice p n c, Value.bool s', Value.slice p' n' c'] : Array Value)[k]? ≠ some (.int .u32 (dg xs i)) := by
        intro k
        rcases k with _ | _ | _ | _ | k <;> simp
      exact absurd h9 (hh _)
    · rw [← h9]
      exact World.cell?_of_block (Below.heap_setCell _ _ _ _ (by exact hb))
theorem Whl.nbx {w : World} {v : Value} {z : Int} {k g : Nat} {s s' : Bool} {p p' : Option Addr} {n n' c c' : Nat} (h : Whl w v z k) (hx : Nbx w g s (.slice p n c) s' (.slice p' n' c')) (i : Nat) (u : Value) : Whl (w.setCell ⟨g, i, none⟩ u) v z k := by
  obtain ⟨s', sv', xs, h1, h2, h3⟩ := h
  exact ⟨s', sv', xs, h1, h2.nbx hx i u, h3⟩
/-- The last store of four cells. -/
theorem Nbx.last {w0 w : World} {g K : Nat} {s s' : Bool} {p p' : Option Addr} {n n' c c' : Nat} (h : Nbx w g s (.slice p n c) s' (.slice p' n' c')) (hb : Below K w0 w) (hg : K ≤ g) (a b : Bool) (q q' : Option Addr) (m m' d d' : Nat) :
    Nbx ((((w.setCell ⟨g, 0, none⟩ (.bool a)).setCell ⟨g, 1, none⟩ (.slice q m d)).setCell ⟨g, 2, none⟩ (.bool b)).setCell ⟨g, 3, none⟩ (.slice q' m' d')) g a (.slice q m d) b (.slice q' m' d') ∧
    Below K w0 ((((w.setCell ⟨g, 0, none⟩ (.bool a)).setCell ⟨g, 1, none⟩ (.slice q m d)).setCell ⟨g, 2, none⟩ (.bool b)).setCell ⟨g, 3, none⟩ (.slice q' m' d')) ∧
    (∀ {v z k}, Whl w v z k → Whl ((((w.setCell ⟨g, 0, none⟩ (.bool a)).setCell ⟨g, 1, none⟩ (.slice q m d)).setCell ⟨g, 2, none⟩ (.bool b)).setCell ⟨g, 3, none⟩ (.slice q' m' d')) v z k) := by
  have h1 := h.set0 a
  have h2 := h1.set1 (.slice q m d)
  have h3 := h2.set2 b
  refine ⟨h3.set3 _, (((hb.setCell (p := ⟨g, 0, none⟩) hg _).setCell (p := ⟨g, 1, none⟩) hg _).setCell (p := ⟨g, 2, none⟩) hg _).setCell (p := ⟨g, 3, none⟩) hg _, fun hv => ?_⟩
  exact (((hv.nbx h 0 _).nbx h1 1 _).nbx h2 2 _).nbx h3 3 _

theorem load_num {w : World} {g : Nat} {s s' : Bool} {sv sv' : Value} (h2 : Nbx w g s sv s' sv') : (loadVar 51 ⟨g, 0, none⟩).run Try.prog w = .ok (.agg #[.bool s, sv, .bool s', sv']) w := by
  obtain ⟨h0, h1, h3, h4⟩ := h2.cells
  simp [go_sem, h0, h1, h3, h4]
theorem res_num_tmp {fn : Func} {t t' : Tmp} {tmps : Array Value} {w : World} {g : Nat} {s s' : Bool} {sv sv' u : Value} (hf : fn.results = #[.cell t 51, .tmp t']) (ht : tmps.getD t undef = .pointer (some ⟨g, 0, none⟩)) (hu : tmps.getD t' undef = u) (h2 : Nbx w g s sv s' sv') :
    (results fn tmps).run Try.prog w = .ok (.tuple #[.agg #[.bool s, sv, .bool s', sv'], u]) w := by
  have h1 := at_addr (P := Try.prog) (w := w) ht
  have h3 := load_num h2
  simp only [Array.getD_eq_getD_getElem?] at h1 hu
  simp [results, hf, Sem.run_bind, h1, h3, hu]

theorem res_num {fn : Func} {t : Tmp} {tmps : Array Value} {w : World} {g : Nat} {s s' : Bool} {sv sv' : Value} (hf : fn.results = #[.cell t 51]) (ht : tmps.getD t undef = .pointer (some ⟨g, 0, none⟩)) (h2 : Nbx w g s sv s' sv') :
    (results fn tmps).run Try.prog w = .ok (.agg #[.bool s, sv, .bool s', sv']) w := by
  have h1 := at_addr (P := Try.prog) (w := w) ht
  have h3 := load_num h2
  simp only [Array.getD_eq_getD_getElem?] at h1
  simp [results, hf, Sem.run_bind, h1, h3]

/-- A value reads as a fraction, both parts of k limbs or fewer. -/
def Rtl (w : World) (v : Value) (q : Rat) (k : Nat) : Prop :=
  ∃ s p n c s' p' n' c', v = .agg #[.bool s, .slice p n c, .bool s', .slice p' n' c'] ∧ Whl w (.agg #[.bool s, .slice p n c]) q.num k ∧
    ∃ d : Int, Whl w (.agg #[.bool s', .slice p' n' c']) d k ∧ (d = q.den ∨ (d = 0 ∧ q.den = 1))
theorem Rtl.below {w w' : World} {v : Value} {q : Rat} {k K : Nat} (h : Rtl w v q k) (hb : Below K w w') (hK : w.heap.size ≤ K) : Rtl w' v q k := by
  obtain ⟨s, p, n, c, s', p', n', c', h1, h2, d, h3, h4⟩ := h
  exact ⟨s, p, n, c, s', p', n', c', h1, h2.below hb hK, d, h3.below hb hK, h4⟩
theorem Rtl.on {w w' : World} {v : Value} {q : Rat} {k : Nat} (h : Rtl w v q k) (hb : Below w.heap.size w w') : Rtl w' v q k := h.below hb (Nat.le_refl _)
theorem Rtl.mono {w : World} {v : Value} {q : Rat} {k m : Nat} (h : Rtl w v q k) (hk : k ≤ m) : Rtl w v q m := by
  obtain ⟨s, p, n, c, s', p', n', c', h1, h2, d, h3, h4⟩ := h
  exact ⟨s, p, n, c, s', p', n', c', h1, h2.mono hk, d, h3.mono hk, h4⟩
theorem Rtl.opened {w : World} {v : Value} {q : Rat} {k : Nat} (h : Rtl w v q k) : ∃ s p n c s' p' n' c', v = .agg #[.bool s, .slice p n c, .bool s', .slice p' n' c'] := by
  obtain ⟨s, p, n, c, s', p', n', c', h1, _⟩ := h
  exact ⟨s, p, n, c, s', p', n', c', h1⟩

theorem Box.both {w : World} {g : Nat} {s : Bool} {sv : Value} (h : Box w g s sv) : w.cell? ⟨g, 0, none⟩ = some (.bool s) ∧ w.cell? ⟨g, 1, none⟩ = some sv := ⟨h.cell0, h.cell1⟩
theorem Box.dr {w : World} {g : Nat} {s : Bool} {sv : Value} (h : Box w g s sv) : Box w.drew g s sv := h
theorem Nbx.dr {w : World} {g : Nat} {s s' : Bool} {sv sv' : Value} (h : Nbx w g s sv s' sv') : Nbx w.drew g s sv s' sv' := h

/-- Facts that are carried past a call. -/
theorem bx {w w' : World} {g : Nat} {s : Bool} {sv : Value} (h : Hid (Box w g s sv)) (hb : Below w.heap.size w w') : Hid (Box w' g s sv) := hid (h.out.below hb h.out.lt)
theorem nx {w w' : World} {g : Nat} {s s' : Bool} {sv sv' : Value} (h : Hid (Nbx w g s sv s' sv')) (hb : Below w.heap.size w w') : Hid (Nbx w' g s sv s' sv') := hid (h.out.below hb h.out.lt)
theorem wl {w w' : World} {v : Value} {z : Int} {k : Nat} (h : Hid (Whl w v z k)) (hb : Below w.heap.size w w') : Hid (Whl w' v z k) := hid (h.out.on hb)
theorem bb {w0 w w' : World} (h : Hid (Below w0.heap.size w0 w)) (hb : Below w.heap.size w w') : Hid (Below w0.heap.size w0 w') := hid (h.out.trans (hb.mono h.out.size))

/-- What a quotient is. -/
theorem divInt_parts (z y : Int) (hy : y ≠ 0) : (Rat.divInt z y).num = z / (if y < 0 then -(Int.gcd z y : Int) else (Int.gcd z y : Int)) ∧ ((Rat.divInt z y).den : Int) = y / (if y < 0 then -(Int.gcd z y : Int) else (Int.gcd z y : Int)) := by
  have hg : Int.gcd y z = Int.gcd z y := Int.gcd_comm y z
  have hd1 : (Int.gcd z y : Int) ∣ z := Int.gcd_dvd_left z y
  have hd2 : (Int.gcd z y : Int) ∣ y := Int.gcd_dvd_right z y
  rw [Rat.num_divInt, Rat.den_divInt, hg, if_neg hy]
  by_cases h : y < 0
  · rw [if_pos h, Int.sign_eq_neg_one_of_neg h]
    constructor
    · rw [Int.neg_one_mul, Int.neg_ediv_of_dvd hd1, Int.ediv_neg]
    · rw [Int.natCast_ediv, Int.ofNat_natAbs_of_nonpos (by omega), Int.neg_ediv_of_dvd hd2, Int.ediv_neg]
  · rw [if_neg h, Int.sign_eq_one_of_pos (by omega)]
    constructor
    · rw [Int.one_mul]
    · rw [Int.natCast_ediv, Int.natAbs_of_nonneg (by omega)]

end Go.Proofs.Ytjeeepcnaaadmaa

