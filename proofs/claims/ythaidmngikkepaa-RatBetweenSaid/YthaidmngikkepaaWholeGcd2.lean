/-
  PACKAGE whole: THE PAIR's gcd, a recursion.
-/
import Derived.Test.YthaidmngikkepaaWholeGcd
import Derived.Test.YthaidmngikkepaaWholeMore
namespace Go.Proofs.Ythaidmngikkepaa
open Go.RowKit
open Num
set_option linter.unusedVariables false
set_option maxRecDepth 100000
set_option linter.unusedSimpArgs false

/-- The blocks at the head of gcd. -/
theorem gcd_head (w : World) (s s' : Bool) (sv sv' : Value) : Pbx ((((w.alloc (.cells #[.bool s, sv, .bool s', sv'] 75)).alloc (.cells #[.bool false, .slice none 0 0] 49)).alloc (.cells #[.bool false, .slice none 0 0] 49)).alloc (.cells #[.bool false, .slice none 0 0] 49)) w.heap.size s sv s' sv' ∧ Box ((((w.alloc (.cells #[.bool s, sv, .bool s', sv'] 75)).alloc (.cells #[.bool false, .slice none 0 0] 49)).alloc (.cells #[.bool false, .slice none 0 0] 49)).alloc (.cells #[.bool false, .slice none 0 0] 49)) (w.heap.size + 1) false (.slice none 0 0) ∧ Box ((((w.alloc (.cells #[.bool s, sv, .bool s', sv'] 75)).alloc (.cells #[.bool false, .slice none 0 0] 49)).alloc (.cells #[.bool false, .slice none 0 0] 49)).alloc (.cells #[.bool false, .slice none 0 0] 49)) (w.heap.size + 1 + 1) false (.slice none 0 0) ∧ Box ((((w.alloc (.cells #[.bool s, sv, .bool s', sv'] 75)).alloc (.cells #[.bool false, .slice none 0 0] 49)).alloc (.cells #[.bool false, .slice none 0 0] 49)).alloc (.cells #[.bool false, .slice none 0 0] 49)) (w.heap.size + 1 + 1 + 1) false (.slice none 0 0) ∧ Below w.heap.size w ((((w.alloc (.cells #[.bool s, sv, .bool s', sv'] 75)).alloc (.cells #[.bool false, .slice none 0 0] 49)).alloc (.cells #[.bool false, .slice none 0 0] 49)).alloc (.cells #[.bool false, .slice none 0 0] 49)) ∧ ((((w.alloc (.cells #[.bool s, sv, .bool s', sv'] 75)).alloc (.cells #[.bool false, .slice none 0 0] 49)).alloc (.cells #[.bool false, .slice none 0 0] 49)).alloc (.cells #[.bool false, .slice none 0 0] 49)).heap.size = w.heap.size + 1 + 1 + 1 + 1 := by
  have x0 := Pbx.new w s s' sv sv'
  have bw := (Below.refl _ _).alloc (Nat.le_refl w.heap.size) (.cells #[.bool s, sv, .bool s', sv'] 75)
  have sz : (w.alloc (.cells #[.bool s, sv, .bool s', sv'] 75)).heap.size = w.heap.size + 1 := by simp
  obtain ⟨h1, h2, h3, h4, h5⟩ := boxes3 (w.alloc (.cells #[.bool s, sv, .bool s', sv'] 75)) false false false (.slice none 0 0) (.slice none 0 0) (.slice none 0 0) ⟨_, _, _, rfl⟩ ⟨_, _, _, rfl⟩ ⟨_, _, _, rfl⟩
  rw [sz] at h1 h2 h3 h4 h5
  exact ⟨x0.below h4 (by omega), h1, h2, h3, bw.trans (h4.mono (by omega)), h5⟩

/-- Three boxes. -/
def Trio (w : World) (g h k : Nat) : Prop := (∃ s v, Box w g s v) ∧ (∃ s v, Box w h s v) ∧ (∃ s v, Box w k s v) ∧ g ≠ h ∧ g ≠ k ∧ h ≠ k
theorem Trio.below {w w' : World} {g h k : Nat} (ht : Trio w g h k) (hb : Below w.heap.size w w') : Trio w' g h k := by
  obtain ⟨⟨s, v, h0⟩, ⟨s1, v1, h1⟩, ⟨s2, v2, h2⟩, hn⟩ := ht
  exact ⟨⟨_, _, h0.below hb h0.lt⟩, ⟨_, _, h1.below hb h1.lt⟩, ⟨_, _, h2.below hb h2.lt⟩, hn⟩
theorem Trio.lt {w : World} {g h k : Nat} (ht : Trio w g h k) : g < w.heap.size ∧ h < w.heap.size ∧ k < w.heap.size := by
  obtain ⟨⟨s, v, h0⟩, ⟨s1, v1, h1⟩, ⟨s2, v2, h2⟩, hn⟩ := ht
  exact ⟨h0.lt, h1.lt, h2.lt⟩
/-- What a walk needs to write all three. -/
theorem Trio.stores {w : World} {g h k : Nat} (ht : Trio w g h k) : ∃ u0 u1 u2 u3 u4 u5,
    ((w.cell? ⟨g, 0, none⟩ = some u0) ∧ (w.frozen? ⟨g, 0, none⟩ = false)) ∧
    ((∀ x, (w.setCell ⟨g, 0, none⟩ (.bool x)).cell? ⟨g, 1, none⟩ = some u1) ∧ (∀ x, (w.setCell ⟨g, 0, none⟩ (.bool x)).frozen? ⟨g, 1, none⟩ = false)) ∧
    ((∀ a b, ((w.setCell ⟨g, 0, none⟩ a).setCell ⟨g, 1, none⟩ b).cell? ⟨h, 0, none⟩ = some u2) ∧ (∀ a b, ((w.setCell ⟨g, 0, none⟩ a).setCell ⟨g, 1, none⟩ b).frozen? ⟨h, 0, none⟩ = false)) ∧
    ((∀ a b x, (((w.setCell ⟨g, 0, none⟩ a).setCell ⟨g, 1, none⟩ b).setCell ⟨h, 0, none⟩ (.bool x)).cell? ⟨h, 1, none⟩ = some u3) ∧ (∀ a b x, (((w.setCell ⟨g, 0, none⟩ a).setCell ⟨g, 1, none⟩ b).setCell ⟨h, 0, none⟩ (.bool x)).frozen? ⟨h, 1, none⟩ = false)) ∧
    ((∀ a b c d, ((((w.setCell ⟨g, 0, none⟩ a).setCell ⟨g, 1, none⟩ b).setCell ⟨h, 0, none⟩ c).setCell ⟨h, 1, none⟩ d).cell? ⟨k, 0, none⟩ = some u4) ∧ (∀ a b c d, ((((w.setCell ⟨g, 0, none⟩ a).setCell ⟨g, 1, none⟩ b).setCell ⟨h, 0, none⟩ c).setCell ⟨h, 1, none⟩ d).frozen? ⟨k, 0, none⟩ = false)) ∧
    ((∀ a b c d x, (((((w.setCell ⟨g, 0, none⟩ a).setCell ⟨g, 1, none⟩ b).setCell ⟨h, 0, none⟩ c).setCell ⟨h, 1, none⟩ d).setCell ⟨k, 0, none⟩ (.bool x)).cell? ⟨k, 1, none⟩ = some u5) ∧ (∀ a b c d x, (((((w.setCell ⟨g, 0, none⟩ a).setCell ⟨g, 1, none⟩ b).setCell ⟨h, 0, none⟩ c).setCell ⟨h, 1, none⟩ d).setCell ⟨k, 0, none⟩ (.bool x)).frozen? ⟨k, 1, none⟩ = false)) := by
  obtain ⟨⟨s, v, h0⟩, ⟨s1, v1, h1⟩, ⟨s2, v2, h2⟩, n1, n2, n3⟩ := ht
  have k1 := fun a b => (h1.other (g2 := g) (Ne.symm n1) 0 a).other (g2 := g) (Ne.symm n1) 1 b
  have k2 := fun a b c d => (((h2.other (g2 := g) (Ne.symm n2) 0 a).other (g2 := g) (Ne.symm n2) 1 b).other (g2 := h) (Ne.symm n3) 0 c).other (g2 := h) (Ne.symm n3) 1 d
  exact ⟨_, _, _, _, _, _, ⟨h0.cell0, h0.free 0⟩, ⟨fun x => (h0.set0 x).cell1, fun x => (h0.set0 x).free 1⟩, ⟨fun a b => (k1 a b).cell0, fun a b => (k1 a b).free 0⟩, ⟨fun a b x => ((k1 a b).set0 x).cell1, fun a b x => ((k1 a b).set0 x).free 1⟩,
    ⟨fun a b c d => (k2 a b c d).cell0, fun a b c d => (k2 a b c d).free 0⟩, ⟨fun a b c d x => ((k2 a b c d).set0 x).cell1, fun a b c d x => ((k2 a b c d).set0 x).free 1⟩⟩
/-- The stores of three results. -/
theorem Trio.last {w0 w : World} {g h k K : Nat} (ht : Trio w g h k) (hb : Below K w0 w) (hg : K ≤ g) (hh : K ≤ h) (hk : K ≤ k) (a0 a1 a2 : Bool) (p0 p1 p2 : Option Addr) (n0 n1 n2 c0 c1 c2 : Nat) :
    Box ((((((w.setCell ⟨g, 0, none⟩ (.bool a0)).setCell ⟨g, 1, none⟩ (.slice p0 n0 c0)).setCell ⟨h, 0, none⟩ (.bool a1)).setCell ⟨h, 1, none⟩ (.slice p1 n1 c1)).setCell ⟨k, 0, none⟩ (.bool a2)).setCell ⟨k, 1, none⟩ (.slice p2 n2 c2)) g a0 (.slice p0 n0 c0) ∧
    Box ((((((w.setCell ⟨g, 0, none⟩ (.bool a0)).setCell ⟨g, 1, none⟩ (.slice p0 n0 c0)).setCell ⟨h, 0, none⟩ (.bool a1)).setCell ⟨h, 1, none⟩ (.slice p1 n1 c1)).setCell ⟨k, 0, none⟩ (.bool a2)).setCell ⟨k, 1, none⟩ (.slice p2 n2 c2)) h a1 (.slice p1 n1 c1) ∧
    Box ((((((w.setCell ⟨g, 0, none⟩ (.bool a0)).setCell ⟨g, 1, none⟩ (.slice p0 n0 c0)).setCell ⟨h, 0, none⟩ (.bool a1)).setCell ⟨h, 1, none⟩ (.slice p1 n1 c1)).setCell ⟨k, 0, none⟩ (.bool a2)).setCell ⟨k, 1, none⟩ (.slice p2 n2 c2)) k a2 (.slice p2 n2 c2) ∧
    Below K w0 ((((((w.setCell ⟨g, 0, none⟩ (.bool a0)).setCell ⟨g, 1, none⟩ (.slice p0 n0 c0)).setCell ⟨h, 0, none⟩ (.bool a1)).setCell ⟨h, 1, none⟩ (.slice p1 n1 c1)).setCell ⟨k, 0, none⟩ (.bool a2)).setCell ⟨k, 1, none⟩ (.slice p2 n2 c2)) ∧
    (∀ {v z m}, Whl w v z m → Whl ((((((w.setCell ⟨g, 0, none⟩ (.bool a0)).setCell ⟨g, 1, none⟩ (.slice p0 n0 c0)).setCell ⟨h, 0, none⟩ (.bool a1)).setCell ⟨h, 1, none⟩ (.slice p1 n1 c1)).setCell ⟨k, 0, none⟩ (.bool a2)).setCell ⟨k, 1, none⟩ (.slice p2 n2 c2)) v z m) := by
  obtain ⟨⟨s, v, h0⟩, ⟨s1, v1, h1⟩, ⟨s2, v2, h2⟩, n1', n2', n3'⟩ := ht
  obtain ⟨r1, r2, r3⟩ := h0.last hb hg a0 p0 n0 c0
  have k1 := (h1.other (g2 := g) (Ne.symm n1') 0 (.bool a0)).other (g2 := g) (Ne.symm n1') 1 (.slice p0 n0 c0)
  have k2 := (((h2.other (g2 := g) (Ne.symm n2') 0 (.bool a0)).other (g2 := g) (Ne.symm n2') 1 (.slice p0 n0 c0)).other (g2 := h) (Ne.symm n3') 0 (.bool a1)).other (g2 := h) (Ne.symm n3') 1 (.slice p1 n1 c1)
  obtain ⟨q1, q2, q3⟩ := k1.last r2 hh a1 p1 n1 c1
  obtain ⟨t1, t2, t3⟩ := k2.last q2 hk a2 p2 n2 c2
  exact ⟨(((r1.other n1' _ _).other n1' _ _).other n2' _ _).other n2' _ _, (q1.other n3' _ _).other n3' _ _, t1, t2, fun hv => t3 (q3 (r3 hv))⟩
/-- What stays of another block. -/
theorem Pbx.past {w : World} {x : Nat} {s s' : Bool} {sv sv' : Value} (hx : Pbx w x s sv s' sv') (g h k : Nat) (n0 : x ≠ g) (n1 : x ≠ h) (n2 : x ≠ k) :
    (∀ a b, ((w.setCell ⟨g, 0, none⟩ a).setCell ⟨g, 1, none⟩ b).cell? ⟨x, 0, none⟩ = some (.bool s)) ∧
    (∀ a b, ((w.setCell ⟨g, 0, none⟩ a).setCell ⟨g, 1, none⟩ b).cell? ⟨x, 1, none⟩ = some sv) ∧
    (∀ a b c d, ((((w.setCell ⟨g, 0, none⟩ a).setCell ⟨g, 1, none⟩ b).setCell ⟨h, 0, none⟩ c).setCell ⟨h, 1, none⟩ d).cell? ⟨x, 0, none⟩ = some (.bool s)) ∧
    (∀ a b c d, ((((w.setCell ⟨g, 0, none⟩ a).setCell ⟨g, 1, none⟩ b).setCell ⟨h, 0, none⟩ c).setCell ⟨h, 1, none⟩ d).cell? ⟨x, 1, none⟩ = some sv) ∧
    (∀ a b c d e f, ((((((w.setCell ⟨g, 0, none⟩ a).setCell ⟨g, 1, none⟩ b).setCell ⟨h, 0, none⟩ c).setCell ⟨h, 1, none⟩ d).setCell ⟨k, 0, none⟩ e).setCell ⟨k, 1, none⟩ f).cell? ⟨x, 0, none⟩ = some (.bool s)) ∧
    (∀ a b c d e f, ((((((w.setCell ⟨g, 0, none⟩ a).setCell ⟨g, 1, none⟩ b).setCell ⟨h, 0, none⟩ c).setCell ⟨h, 1, none⟩ d).setCell ⟨k, 0, none⟩ e).setCell ⟨k, 1, none⟩ f).cell? ⟨x, 1, none⟩ = some sv) :=
  ⟨fun a b => ((hx.other (g2 := g) n0 0 a).other (g2 := g) n0 1 b).cells.1,
    fun a b => ((hx.other (g2 := g) n0 0 a).other (g2 := g) n0 1 b).cells.2.1,
    fun a b c d => ((((hx.other (g2 := g) n0 0 a).other (g2 := g) n0 1 b).other (g2 := h) n1 0 c).other (g2 := h) n1 1 d).cells.1,
    fun a b c d => ((((hx.other (g2 := g) n0 0 a).other (g2 := g) n0 1 b).other (g2 := h) n1 0 c).other (g2 := h) n1 1 d).cells.2.1,
    fun a b c d e f => ((((((hx.other (g2 := g) n0 0 a).other (g2 := g) n0 1 b).other (g2 := h) n1 0 c).other (g2 := h) n1 1 d).other (g2 := k) n2 0 e).other (g2 := k) n2 1 f).cells.1,
    fun a b c d e f => ((((((hx.other (g2 := g) n0 0 a).other (g2 := g) n0 1 b).other (g2 := h) n1 0 c).other (g2 := h) n1 1 d).other (g2 := k) n2 0 e).other (g2 := k) n2 1 f).cells.2.1⟩
theorem Box.past {w : World} {x : Nat} {s : Bool} {sv : Value} (hx : Box w x s sv) (g h k : Nat) (n0 : x ≠ g) (n1 : x ≠ h) (n2 : x ≠ k) :
    (∀ a b, ((w.setCell ⟨g, 0, none⟩ a).setCell ⟨g, 1, none⟩ b).cell? ⟨x, 0, none⟩ = some (.bool s)) ∧
    (∀ a b, ((w.setCell ⟨g, 0, none⟩ a).setCell ⟨g, 1, none⟩ b).cell? ⟨x, 1, none⟩ = some sv) ∧
    (∀ a b c d, ((((w.setCell ⟨g, 0, none⟩ a).setCell ⟨g, 1, none⟩ b).setCell ⟨h, 0, none⟩ c).setCell ⟨h, 1, none⟩ d).cell? ⟨x, 0, none⟩ = some (.bool s)) ∧
    (∀ a b c d, ((((w.setCell ⟨g, 0, none⟩ a).setCell ⟨g, 1, none⟩ b).setCell ⟨h, 0, none⟩ c).setCell ⟨h, 1, none⟩ d).cell? ⟨x, 1, none⟩ = some sv) ∧
    (∀ a b c d e f, ((((((w.setCell ⟨g, 0, none⟩ a).setCell ⟨g, 1, none⟩ b).setCell ⟨h, 0, none⟩ c).setCell ⟨h, 1, none⟩ d).setCell ⟨k, 0, none⟩ e).setCell ⟨k, 1, none⟩ f).cell? ⟨x, 0, none⟩ = some (.bool s)) ∧
    (∀ a b c d e f, ((((((w.setCell ⟨g, 0, none⟩ a).setCell ⟨g, 1, none⟩ b).setCell ⟨h, 0, none⟩ c).setCell ⟨h, 1, none⟩ d).setCell ⟨k, 0, none⟩ e).setCell ⟨k, 1, none⟩ f).cell? ⟨x, 1, none⟩ = some sv) :=
  ⟨fun a b => ((hx.other (g2 := g) n0 0 a).other (g2 := g) n0 1 b).cell0,
    fun a b => ((hx.other (g2 := g) n0 0 a).other (g2 := g) n0 1 b).cell1,
    fun a b c d => ((((hx.other (g2 := g) n0 0 a).other (g2 := g) n0 1 b).other (g2 := h) n1 0 c).other (g2 := h) n1 1 d).cell0,
    fun a b c d => ((((hx.other (g2 := g) n0 0 a).other (g2 := g) n0 1 b).other (g2 := h) n1 0 c).other (g2 := h) n1 1 d).cell1,
    fun a b c d e f => ((((((hx.other (g2 := g) n0 0 a).other (g2 := g) n0 1 b).other (g2 := h) n1 0 c).other (g2 := h) n1 1 d).other (g2 := k) n2 0 e).other (g2 := k) n2 1 f).cell0,
    fun a b c d e f => ((((((hx.other (g2 := g) n0 0 a).other (g2 := g) n0 1 b).other (g2 := h) n1 0 c).other (g2 := h) n1 1 d).other (g2 := k) n2 0 e).other (g2 := k) n2 1 f).cell1⟩
theorem Box.past6 {w : World} {x : Nat} {s : Bool} {sv : Value} (hx : Box w x s sv) (g h k : Nat) (n0 : x ≠ g) (n1 : x ≠ h) (n2 : x ≠ k) (a b c d e f : Value) : Box ((((((w.setCell ⟨g, 0, none⟩ a).setCell ⟨g, 1, none⟩ b).setCell ⟨h, 0, none⟩ c).setCell ⟨h, 1, none⟩ d).setCell ⟨k, 0, none⟩ e).setCell ⟨k, 1, none⟩ f) x s sv := ((((((hx.other (g2 := g) n0 0 a).other (g2 := g) n0 1 b).other (g2 := h) n1 0 c).other (g2 := h) n1 1 d).other (g2 := k) n2 0 e).other (g2 := k) n2 1 f)
/-- A box that is written anew with what it holds. -/
theorem Box.same {w : World} {g h k : Nat} {s : Bool} {sv : Value} (hx : Box w g s sv) (n1 : g ≠ h) (n2 : g ≠ k) :
    Box ((w.setCell ⟨g, 0, none⟩ (.bool s)).setCell ⟨g, 1, none⟩ sv) g s sv ∧
    (∀ a b, Box ((((w.setCell ⟨g, 0, none⟩ (.bool s)).setCell ⟨g, 1, none⟩ sv).setCell ⟨h, 0, none⟩ a).setCell ⟨h, 1, none⟩ b) g s sv) ∧
    (∀ a b c d, Box ((((((w.setCell ⟨g, 0, none⟩ (.bool s)).setCell ⟨g, 1, none⟩ sv).setCell ⟨h, 0, none⟩ a).setCell ⟨h, 1, none⟩ b).setCell ⟨k, 0, none⟩ c).setCell ⟨k, 1, none⟩ d) g s sv) := by
  have h0 := (hx.set0 s).set1 hx.2
  exact ⟨h0, fun a b => (h0.other n1 0 a).other n1 1 b, fun a b c d => (((h0.other n1 0 a).other n1 1 b).other n2 0 c).other n2 1 d⟩

theorem res_three {fn : Func} {t t' t'' : Tmp} {tmps : Array Value} {w : World} {g g' g'' : Nat} {s s' s'' : Bool} {sv sv' sv'' : Value} (hf : fn.results = #[.cell t 49, .cell t' 49, .cell t'' 49]) (ht : tmps.getD t undef = .pointer (some ⟨g, 0, none⟩)) (ht' : tmps.getD t' undef = .pointer (some ⟨g', 0, none⟩)) (ht'' : tmps.getD t'' undef = .pointer (some ⟨g'', 0, none⟩)) (h2 : Box w g s sv) (h2' : Box w g' s' sv') (h2'' : Box w g'' s'' sv'') :
    (results fn tmps).run Try.prog w = .ok (.tuple #[.agg #[.bool s, sv], .agg #[.bool s', sv'], .agg #[.bool s'', sv'']]) w := by
  have h1 := at_addr (P := Try.prog) (w := w) ht
  have h1' := at_addr (P := Try.prog) (w := w) ht'
  have h1'' := at_addr (P := Try.prog) (w := w) ht''
  have h3 := load_whl h2
  have h3' := load_whl h2'
  have h3'' := load_whl h2''
  simp only [Array.getD_eq_getD_getElem?] at h1 h1' h1''
  simp [results, hf, Sem.run_bind, h1, h3, h1', h3', h1'', h3'']

/-- What gcd tells. -/
def Gcds (w : World) (a b : Int) (K : Nat) (e : Ending) (w' : World) : Prop :=
  ∃ v1 v2 v3, e = .returned (.tuple #[v1, v2, v3]) ∧ Whl w' v1 (zg a b).1 K ∧ Whl w' v2 (zg a b).2.1 K ∧ Whl w' v3 (zg a b).2.2 K ∧ Below w.heap.size w w'

theorem Box.drew {w : World} {g : Nat} {s : Bool} {sv : Value} (h : Box w g s sv) : Box w.drew g s sv := h
theorem Trio.drew {w : World} {g h k : Nat} (ht : Trio w g h k) : Trio w.drew g h k := ht
theorem natAbs_sign_le (a : Int) : a.sign.natAbs ≤ 1 := by rw [Int.natAbs_sign]; split <;> omega

end Go.Proofs.Ythaidmngikkepaa

