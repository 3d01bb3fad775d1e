/-
  PACKAGE whole: THE PAIR's gcd, a recursion.
-/
import Derived.Test.YtckkbjnipacodaaWholeGcd
import Derived.Test.YtckkbjnipacodaaWholeMore
namespace Go.Proofs.Ytckkbjnipacodaa
open Go.RowKit
open Num
set_option linter.unusedVariables false
set_option maxRecDepth 100000
set_option linter.unusedSimpArgs false

/-- The blocks at the head of gcd. -/
theorem gcd_head (w : World) (s s' : Bool) (sv sv' : Value) : Pbx ((((w.alloc (.cells #[.bool s, sv, .bool s', sv'] 53)).alloc (.cells #[.bool false, .slice none 0 0] 51)).alloc (.cells #[.bool false, .slice none 0 0] 51)).alloc (.cells #[.bool false, .slice none 0 0] 51)) w.heap.size s sv s' sv' ∧ Box ((((w.alloc (.cells #[.bool s, sv, .bool s', sv'] 53)).alloc (.cells #[.bool false, .slice none 0 0] 51)).alloc (.cells #[.bool false, .slice none 0 0] 51)).alloc (.cells #[.bool false, .slice none 0 0] 51)) (w.heap.size + 1) false (.slice none 0 0) ∧ Box ((((w.alloc (.cells #[.bool s, sv, .bool s', sv'] 53)).alloc (.cells #[.bool false, .slice none 0 0] 51)).alloc (.cells #[.bool false, .slice none 0 0] 51)).alloc (.cells #[.bool false, .slice none 0 0] 51)) (w.heap.size + 1 + 1) false (.slice none 0 0) ∧ Box ((((w.alloc (.cells #[.bool s, sv, .bool s', sv'] 53)).alloc (.cells #[.bool false, .slice none 0 0] 51)).alloc (.cells #[.bool false, .slice none 0 0] 51)).alloc (.cells #[.bool false, .slice none 0 0] 51)) (w.heap.size + 1 + 1 + 1) false (.slice none 0 0) ∧ Below w.heap.size w ((((w.alloc (.cells #[.bool s, sv, .bool s', sv'] 53)).alloc (.cells #[.bool false, .slice none 0 0] 51)).alloc (.cells #[.bool false, .slice none 0 0] 51)).alloc (.cells #[.bool false, .slice none 0 0] 51)) ∧ ((((w.alloc (.cells #[.bool s, sv, .bool s', sv'] 53)).alloc (.cells #[.bool false, .slice none 0 0] 51)).alloc (.cells #[.bool false, .slice none 0 0] 51)).alloc (.cells #[.bool false, .slice none 0 0] 51)).heap.size = w.heap.size + 1 + 1 + 1 + 1 := by
  have x0 := Pbx.new w s s' sv sv'
  have bw := (Below.refl _ _).alloc (Nat.le_refl w.heap.size) (.cells #[.bool s, sv, .bool s', sv'] 53)
  have sz : (w.alloc (.cells #[.bool s, sv, .bool s', sv'] 53)).heap.size = w.heap.size + 1 := by simp
  obtain ⟨h1, h2, h3, h4, h5⟩ := boxes3 (w.alloc (.cells #[.bool s, sv, .bool s', sv'] 53)) false false false (.slice none 0 0) (.slice none 0 0) (.slice none 0 0) ⟨_, _, _, rfl⟩ ⟨_, _, _, rfl⟩ ⟨_, _, _, rfl⟩
  rw [sz] at h1 h2 h3 h4 h5
  exact ⟨x0.below h4 (by omega), h1, h2, h3, bw.trans (h4.mono (by omega)), h5⟩

/-- Three boxes. -/
def Trio (w : World) (g h k : Nat) : Prop := (∃ s v, Box w g s v) ∧ (∃ s v, Box w h s v) ∧ (∃ s v, Box w k s v) ∧ g ≠ h ∧ g ≠ k ∧ h ≠ k
theorem Trio.below {w w' : World} {g h k : Nat} (ht : Trio w g h k) (hb : Below w.heap.size w w') : Trio w' g h k := by
  obtain ⟨⟨s, v, h0⟩, ⟨s1, v1, h1⟩, ⟨s2, v2, h2⟩, hn⟩ := ht
  exact ⟨⟨_, _, h0.below hb h0.lt⟩, ⟨_, _, h1.below hb h1.lt⟩, ⟨_, _, h2.below hb h2.lt⟩, hn⟩
theorem Trio.lt {w : World} {g h k : Nat} (ht : Trio w g h k) : g < w.heap.size ∧ h < w.heap.size ∧ k < w.heap.size := by
  obtain ⟨⟨s, v, h0⟩, ⟨s1, v1, h1⟩, ⟨s2, v2, h2⟩, hn⟩ := ht
  exact ⟨h0.lt, h1.lt, h2.lt⟩
/-- What a walk needs to write all three. -/
theorem Trio.stores {w : World} {g h k : Nat} (ht : Trio w g h k) : ∃ u0 u1 u2 u3 u4 u5,
    ((w.cell? ⟨g, 0, none⟩ = some u0) ∧ (w.frozen? ⟨g, 0, none⟩ = false)) ∧
    ((∀ x, (w.setCell ⟨g, 0, none⟩ (.bool x)).cell? ⟨g, 1, none⟩ = some u1) ∧ (∀ x, (w.setCell ⟨g, 0, none⟩ (.bool x)).frozen? ⟨g, 1, none⟩ = false)) ∧
    ((∀ a b, ((w.setCell ⟨g, 0, none⟩ a).setCell ⟨g, 1, none⟩ b).cell? ⟨h, 0, none⟩ = some u2) ∧ (∀ a b, ((w.setCell ⟨g, 0, none⟩ a).setCell ⟨g, 1, none⟩ b).frozen? ⟨h, 0, none⟩ = false)) ∧
    ((∀ a b x, (((w.setCell ⟨g, 0, none⟩ a).setCell ⟨g, 1, none⟩ b).setCell ⟨h, 0, none⟩ (.bool x)).cell? ⟨h, 1, none⟩ = some u3) ∧ (∀ a b x, (((w.setCell ⟨g, 0, none⟩ a).setCell ⟨g, 1, none⟩ b).setCell ⟨h, 0, none⟩ (.bool x)).frozen? ⟨h, 1, none⟩ = false)) ∧
    ((∀ a b c d, ((((w.setCell ⟨g, 0, none⟩ a).setCell ⟨g, 1, none⟩ b).setCell ⟨h, 0, none⟩ c).setCell ⟨h, 1, none⟩ d).cell? ⟨k, 0, none⟩ = some u4) ∧ (∀ a b c d, ((((w.setCell ⟨g, 0, none⟩ a).setCell ⟨g, 1, none⟩ b).setCell ⟨h, 0, none⟩ c).setCell ⟨h, 1, none⟩ d).frozen? ⟨k, 0, none⟩ = false)) ∧
    ((∀ a b c d x, (((((w.setCell ⟨g, 0, none⟩ a).setCell ⟨g, 1, none⟩ b).setCell ⟨h, 0, none⟩ c).setCell ⟨h, 1, none⟩ d).setCell ⟨k, 0, none⟩ (.bool x)).cell? ⟨k, 1, none⟩ = some u5) ∧ (∀ a b c d x, (((((w.setCell ⟨g, 0, none⟩ a).setCell ⟨g, 1, none⟩ b).setCell ⟨h, 0, none⟩ c).setCell ⟨h, 1, none⟩ d).setCell ⟨k, 0, none⟩ (.bool x)).frozen? ⟨k, 1, none⟩ = false)) := by
  obtain ⟨⟨s, v, h0⟩, ⟨s1, v1, h1⟩, ⟨s2, v2, h2⟩, n1, n2, n3⟩ := ht
  have k1 := fun a b => (h1.other (g2 := g) (Ne.symm n1) 0 a).other (g2 := g) (Ne.symm n1) 1 b
  have k2 := fun a b c d => (((h2.other (g2 := g) (Ne.symm n2) 0 a).other (g2 := g) (Ne.symm n2) 1 b).other (g2 := h) (Ne.symm n3) 0 c).other (g2 := h) (Ne.symm n3) 1 d
  exact ⟨_, _, _, _, _, _, ⟨h0.cell0, h0.free 0⟩, ⟨fun x => (h0.set0 x).cell1, fun x => (h0.set0 x).free 1⟩, ⟨fun a b => (k1 a b).cell0, fun a b => (k1 a b).free 0⟩, ⟨fun a b x => ((k1 a b).set0 x).cell1, fun a b x => ((k1 a b).set0 x).free 1⟩,
    ⟨fun a b c d => (k2 a b c d).cell0, fun a b c d => (k2 a b c d).free 0⟩, ⟨fun a b c d x => ((k2 a b c d).set0 x).cell1, fun a b c d x => ((k2 a b c d).set0 x).free 1⟩⟩
/-- The stores of three results. -/
theorem Trio.last {w0 w : World} {g h k K : Nat} (ht : Trio w g h k) (hb : Below K w0 w) (hg : K ≤ g) (hh : K ≤ h) (hk : K ≤ k) (a0 a1 a2 : Bool) (p0 p1 p2 : Option Addr) (n0 n1 n2 c0 c1 c2 : Nat) :
    Box ((((((w.setCell ⟨g, 0, none⟩ (.bool a0)).setCell ⟨g, 1, none⟩ (.slice p0 n0 c0)).setCell ⟨h, 0, none⟩ (.bool a1)).setCell ⟨h, 1, none⟩ (.slice p1 n1 c1)).setCell ⟨k, 0, none⟩ (.bool a2)).setCell ⟨k, 1, none⟩ (.slice p2 n2 c2)) g a0 (.slice p0 n0 c0) ∧
    Box ((((((w.setCell ⟨g, 0, none⟩ (.bool a0)).setCell ⟨g, 1, none⟩ (.slice p0 n0 c0)).setCell ⟨h, 0, none⟩ (.bool a1)).setCell ⟨h, 1, none⟩ (.slice p1 n1 c1)).setCell ⟨k, 0, none⟩ (.bool a2)).setCell ⟨k, 1, none⟩ (.slice p2 n2 c2)) h a1 (.slice p1 n1 c1) ∧
    Box ((((((w.setCell ⟨g, 0, none⟩ (.bool a0)).setCell ⟨g, 1, none⟩ (.slice p0 n0 c0)).setCell ⟨h, 0, none⟩ (.bool a1)).setCell ⟨h, 1, none⟩ (.slice p1 n1 c1)).setCell ⟨k, 0, none⟩ (.bool a2)).setCell ⟨k, 1, none⟩ (.slice p2 n2 c2)) k a2 (.slice p2 n2 c2) ∧
    Below K w0 ((((((w.setCell ⟨g, 0, none⟩ (.bool a0)).setCell ⟨g, 1, none⟩ (.slice p0 n0 c0)).setCell ⟨h, 0, none⟩ (.bool a1)).setCell ⟨h, 1, none⟩ (.slice p1 n1 c1)).setCell ⟨k, 0, none⟩ (.bool a2)).setCell ⟨k, 1, none⟩ (.slice p2 n2 c2)) ∧
    (∀ {v z m}, Whl w v z m → Whl ((((((w.setCell ⟨g, 0, none⟩ (.bool a0)).setCell ⟨g, 1, none⟩ (.slice p0 n0 c0)).setCell ⟨h, 0, none⟩ (.bool a1)).setCell ⟨h, 1, none⟩ (.slice p1 n1 c1)).setCell ⟨k, 0, none⟩ (.bool a2)).setCell ⟨k, 1, none⟩ (.slice p2 n2 c2)) v z m) := by
  obtain ⟨⟨s, v, h0⟩, ⟨s1, v1, h1⟩, ⟨s2, v2, h2⟩, n1', n2', n3'⟩ := ht
  obtain ⟨r1, r2, r3⟩ := h0.last hb hg a0 p0 n0 c0
  have k1 := (h1.other (g2 := g) (Ne.symm n1') 0 (.bool a0)).other (g2 := g) (Ne.symm n1') 1 (.slice p0 n0 c0)
  have k2 := (((h2.other (g2 := g) (Ne.symm n2') 0 (.bool a0)).other (g2 := g) (Ne.symm n2') 1 (.slice p0 n0 c0)).other (g2 := h) (Ne.symm n3') 0 (.bool a1)).other (g2 := h) (Ne.symm n3') 1 (.slice p1 n1 c1)
  obtain ⟨q1, q2, q3⟩ := k1.last r2 hh a1 p1 n1 c1
  obtain ⟨t1, t2, t3⟩ := k2.last q2 hk a2 p2 n2 c2
  exact ⟨(((r1.other n1' _ _).other n1' _ _).other n2' _ _).other n2' _ _, (q1.other n3' _ _).other n3' _ _, t1, t2, fun hv => t3 (q3 (r3 hv))⟩
/-- What stays of another block. -/
theorem Pbx.past {w : World} {x : Nat} {s s' : Bool} {sv sv' : Value} (hx : Pbx w x s sv s' sv') (g h k : Nat) (n0 : x ≠ g) (n1 : x ≠ h) (n2 : x ≠ k) :
    (∀ a b, ((w.setCell ⟨g, 0, none⟩ a).setCell ⟨g, 1, none⟩ b).cell? ⟨x, 0, none⟩ = some (.bool s)) ∧
    (∀ a b, ((w.setCell ⟨g, 0, none⟩ a).setCell ⟨g, 1, none⟩ b).cell? ⟨x, 1, none⟩ = some sv) ∧
    (∀ a b c d, ((((w.setCell ⟨g, 0, none⟩ a).setCell ⟨g, 1, none⟩ b).setCell ⟨h, 0, none⟩ c).setCell ⟨h, 1, none⟩ d).cell? ⟨x, 0, none⟩ = some (.bool s)) ∧
    (∀ a b c d, ((((w.setCell ⟨g, 0, none⟩ a).setCell ⟨g, 1, none⟩ b).setCell ⟨h, 0, none⟩ c).setCell ⟨h, 1, none⟩ d).cell? ⟨x, 1, none⟩ = some sv) ∧
    (∀ a b c d e f, ((((((w.setCell ⟨g, 0, none⟩ a).setCell ⟨g, 1, none⟩ b).setCell ⟨h, 0, none⟩ c).setCell ⟨h, 1, none⟩ d).setCell ⟨k, 0, none⟩ e).setCell ⟨k, 1, none⟩ f).cell? ⟨x, 0, none⟩ = some (.bool s)) ∧
    (∀ a b c d e f, ((((((w.setCell ⟨g, 0, none⟩ a).setCell ⟨g, 1, none⟩ b).setCell ⟨h, 0, none⟩ c).setCell ⟨h, 1, none⟩ d).setCell ⟨k, 0, none⟩ e).setCell ⟨k, 1, none⟩ f).cell? ⟨x, 1, none⟩ = some sv) :=
  ⟨fun a b => ((hx.other (g2 := g) n0 0 a).other (g2 := g) n0 1 b).cells.1,
    fun a b => ((hx.other (g2 := g) n0 0 a).other (g2 := g) n0 1 b).cells.2.1,
    fun a b c d => ((((hx.other (g2 := g) n0 0 a).other (g2 := g) n0 1 b).other (g2 := h) n1 0 c).other (g2 := h) n1 1 d).cells.1,
    fun a b c d => ((((hx.other (g2 := g) n0 0 a).other (g2 := g) n0 1 b).other (g2 := h) n1 0 c).other (g2 := h) n1 1 d).cells.2.1,
    fun a b c d e f => ((((((hx.other (g2 := g) n0 0 a).other (g2 := g) n0 1 b).other (g2 := h) n1 0 c).other (g2 := h) n1 1 d).other (g2 := k) n2 0 e).other (g2 := k) n2 1 f).cells.1,
    fun a b c d e f => ((((((hx.other (g2 := g) n0 0 a).other (g2 := g) n0 1 b).other (g2 := h) n1 0 c).other (g2 := h) n1 1 d).other (g2 := k) n2 0 e).other (g2 := k) n2 1 f).cells.2.1⟩
theorem Box.past {w : World} {x : Nat} {s : Bool} {sv : Value} (hx : Box w x s sv) (g h k : Nat) (n0 : x ≠ g) (n1 : x ≠ h) (n2 : x ≠ k) :
    (∀ a b, ((w.setCell ⟨g, 0, none⟩ a).setCell ⟨g, 1, none⟩ b).cell? ⟨x, 0, none⟩ = some (.bool s)) ∧
    (∀ a b, ((w.setCell ⟨g, 0, none⟩ a).setCell ⟨g, 1, none⟩ b).cell? ⟨x, 1, none⟩ = some sv) ∧
    (∀ a b c d, ((((w.setCell ⟨g, 0, none⟩ a).setCell ⟨g, 1, none⟩ b).setCell ⟨h, 0, none⟩ c).setCell ⟨h, 1, none⟩ d).cell? ⟨x, 0, none⟩ = some (.bool s)) ∧
    (∀ a b c d, ((((w.setCell ⟨g, 0, none⟩ a).setCell ⟨g, 1, none⟩ b).setCell ⟨h, 0, none⟩ c).setCell ⟨h, 1, none⟩ d).cell? ⟨x, 1, none⟩ = some sv) ∧
    (∀ a b c d e f, ((((((w.setCell ⟨g, 0, none⟩ a).setCell ⟨g, 1, none⟩ b).setCell ⟨h, 0, none⟩ c).setCell ⟨h, 1, none⟩ d).setCell ⟨k, 0, none⟩ e).setCell ⟨k, 1, none⟩ f).cell? ⟨x, 0, none⟩ = some (.bool s)) ∧
    (∀ a b c d e f, ((((((w.setCell ⟨g, 0, none⟩ a).setCell ⟨g, 1, none⟩ b).setCell ⟨h, 0, none⟩ c).setCell ⟨h, 1, none⟩ d).setCell ⟨k, 0, none⟩ e).setCell ⟨k, 1, none⟩ f).cell? ⟨x, 1, none⟩ = some sv) :=
  ⟨fun a b => ((hx.other (g2 := g) n0 0 a).other (g2 := g) n0 1 b).cell0,
    fun a b => ((hx.other (g2 := g) n0 0 a).other (g2 := g) n0 1 b).cell1,
    fun a b c d => ((((hx.other (g2 := g) n0 0 a).other (g2 := g) n0 1 b).other (g2 := h) n1 0 c).other (g2 := h) n1 1 d).cell0,
    fun a b c d => ((((hx.other (g2 := g) n0 0 a).other (g2 := g) n0 1 b).other (g2 := h) n1 0 c).other (g2 := h) n1 1 d).cell1,
    fun a b c d e f => ((((((hx.other (g2 := g) n0 0 a).other (g2 := g) n0 1 b).other (g2 := h) n1 0 c).other (g2 := h) n1 1 d).other (g2 := k) n2 0 e).other (g2 := k) n2 1 f).cell0,
    fun a b c d e f => ((((((hx.other (g2 := g) n0 0 a).other (g2 := g) n0 1 b).other (g2 := h) n1 0 c).other (g2 := h) n1 1 d).other (g2 := k) n2 0 e).other (g2 := k) n2 1 f).cell1⟩
theorem Box.past6 {w : World} {x : Nat} {s : Bool} {sv : Value} (hx : Box w x s sv) (g h k : Nat) (n0 : x ≠ g) (n1 : x ≠ h) (n2 : x ≠ k) (a b c d e f : Value) : Box ((((((w.setCell ⟨g, 0, none⟩ a).setCell ⟨g, 1, none⟩ b).setCell ⟨h, 0, none⟩ c).setCell ⟨h, 1, none⟩ d).setCell ⟨k, 0, none⟩ e).setCell ⟨k, 1, none⟩ f) x s sv := ((((((hx.other (g2 := g) n0 0 a).other (g2 := g) n0 1 b).other (g2 := h) n1 0 c).other (g2 := h) n1 1 d).other (g2 := k) n2 0 e).other (g2 := k) n2 1 f)
/-- A box that is written anew with what it holds. -/
theorem Box.same {w : World} {g h k : Nat} {s : Bool} {sv : Value} (hx : Box w g s sv) (n1 : g ≠ h) (n2 : g ≠ k) :
    Box ((w.setCell ⟨g, 0, none⟩ (.bool s)).setCell ⟨g, 1, none⟩ sv) g s sv ∧
    (∀ a b, Box ((((w.setCell ⟨g, 0, none⟩ (.bool s)).setCell ⟨g, 1, none⟩ sv).setCell ⟨h, 0, none⟩ a).setCell ⟨h, 1, none⟩ b) g s sv) ∧
    (∀ a b c d, Box ((((((w.setCell ⟨g, 0, none⟩ (.bool s)).setCell ⟨g, 1, none⟩ sv).setCell ⟨h, 0, none⟩ a).setCell ⟨h, 1, none⟩ b).setCell ⟨k, 0, none⟩ c).setCell ⟨k, 1, none⟩ d) g s sv) := by
  have h0 := (hx.set0 s).set1 hx.2
  exact ⟨h0, fun a b => (h0.other n1 0 a).other n1 1 b, fun a b c d => (((h0.other n1 0 a).other n1 1 b).other n2 0 c).other n2 1 d⟩

theorem res_three {fn : Func} {t t' t'' : Tmp} {tmps : Array Value} {w : World} {g g' g'' : Nat} {s s' s'' : Bool} {sv sv' sv'' : Value} (hf : fn.results = #[.cell t 51, .cell t' 51, .cell t'' 51]) (ht : tmps.getD t undef = .pointer (some ⟨g, 0, none⟩)) (ht' : tmps.getD t' undef = .pointer (some ⟨g', 0, none⟩)) (ht'' : tmps.getD t'' undef = .pointer (some ⟨g'', 0, none⟩)) (h2 : Box w g s sv) (h2' : Box w g' s' sv') (h2'' : Box w g'' s'' sv'') :
    (results fn tmps).run Try.prog w = .ok (.tuple #[.agg #[.bool s, sv], .agg #[.bool s', sv'], .agg #[.bool s'', sv'']]) w := by
  have h1 := at_addr (P := Try.prog) (w := w) ht
  have h1' := at_addr (P := Try.prog) (w := w) ht'
  have h1'' := at_addr (P := Try.prog) (w := w) ht''
  have h3 := load_whl h2
  have h3' := load_whl h2'
  have h3'' := load_whl h2''
  simp only [Array.getD_eq_getD_getElem?] at h1 h1' h1''
  simp [results, hf, Sem.run_bind, h1, h3, h1', h3', h1'', h3'']

/-- What gcd tells. -/
def Gcds (w : World) (a b : Int) (K : Nat) (e : Ending) (w' : World) : Prop :=
  ∃ v1 v2 v3, e = .returned (.tuple #[v1, v2, v3]) ∧ Whl w' v1 (zg a b).1 K ∧ Whl w' v2 (zg a b).2.1 K ∧ Whl w' v3 (zg a b).2.2 K ∧ Below w.heap.size w w'

theorem Box.drew {w : World} {g : Nat} {s : Bool} {sv : Value} (h : Box w g s sv) : Box w.drew g s sv := h
theorem Trio.drew {w : World} {g h k : Nat} (ht : Trio w g h k) : Trio w.drew g h k := ht
theorem natAbs_sign_le (a : Int) : a.sign.natAbs ≤ 1 := by rw [Int.natAbs_sign]; split <;> omega

set_option maxHeartbeats 2000000 in
theorem gcd_zero {w : World} {v : Value} {a : Int} {K : Nat} (h : Pair w v a 0 K) (hK1 : 1 ≤ K) :
    Calls Try.prog 45 #[v] w (Gcds w a 0 K) := by
  obtain ⟨s, p, n, c, s', p', n', c', rfl, ha, hb⟩ := h
  obtain ⟨x0, x1, x2, x3, bw, sz⟩ := gcd_head w s s' (.slice p n c) (.slice p' n' c')
  have HD := hid (div_whl_zero (ha.on bw) (hb.on bw))
  have HA := hid ha
  have X0 := hid x0
  have XT := hid (show Trio _ (w.heap.size + 1) (w.heap.size + 1 + 1) (w.heap.size + 1 + 1 + 1) from ⟨⟨_, _, x1⟩, ⟨_, _, x2⟩, ⟨_, _, x3⟩, by omega, by omega, by omega⟩)
  have BW := hid bw
  have SZ := hid sz
  clear ha hb x0 x1 x2 x3 bw sz
  go_enter Try.func45, Try.ntmps45
  go_wp2_with fail
  refine HD.out.mono ?_
  rintro e w4 ⟨rfl, hb4⟩
  obtain ⟨y0, y1, by5, ys⟩ := boxes2 w4 false false (.slice none 0 0) (.slice none 0 0) ⟨_, _, _, rfl⟩ ⟨_, _, _, rfl⟩
  have hb5 := hb4.trans (by5.mono hb4.size)
  have p5 := X0.out.below hb5 X0.out.lt
  have P5 := hid p5
  have T5 := hid (XT.out.below hb5)
  have HA5 := hid (HA.out.on (BW.out.trans (hb5.mono BW.out.size)))
  have HB5 := hid (BW.out.trans (hb5.mono BW.out.size))
  clear hb4 y0 y1 by5 ys hb5 p5 HD
  have n1 : ¬ w.heap.size = w.heap.size + 1 := by omega
  have n2 : ¬ w.heap.size = w.heap.size + 1 + 1 := by omega
  have n3 : ¬ w.heap.size = w.heap.size + 1 + 1 + 1 := by omega
  go_wp2_with fail
  obtain ⟨a0, a1, a2, a3⟩ := P5.out.cells
  obtain ⟨b0, b1, b2, b3⟩ := (show Pbx ((w4.alloc (.cells #[.bool false, .slice none 0 0] 51)).alloc (.cells #[.bool false, .slice none 0 0] 51)).drew _ _ _ _ _ from P5.out).cells
  go_region_held3 (fun w' => w'.cell? ⟨w.heap.size, 0, none⟩ = some (.bool s) ∧ w'.cell? ⟨w.heap.size, 1, none⟩ = some (.slice p n c)) (go_keep) (first
    | (go_at_call 66; refine (abs_whl (HA5.out.on (Below.drew (Below.refl _ _)))).mono ?_; rintro e w6 ⟨v6, rfl, hv6, hb6⟩; obtain ⟨s6, p6, n6, c6, rfl⟩ := hv6.opened; replace hb6 := below_undrew' hb6; have p6' := P5.out.below hb6 P5.out.lt; obtain ⟨d0, d1, d2, d3⟩ := p6'.cells; have HV6 := hid hv6; have HB6 := hid hb6; clear hv6; clear hb6; clear p6')
    | (go_at_call 68; refine (sgn_whl (HA5.out.on HB6.out)).mono ?_; rintro e w65 ⟨rfl, hb65⟩; have HV65 := hid (HV6.out.on hb65); replace hb65 := HB6.out.trans (hb65.mono HB6.out.size); have p65 := P5.out.below hb65 P5.out.lt; obtain ⟨g0, g1, g2, g3⟩ := p65.cells; have HB65 := hid hb65; clear hb65; clear p65)
    | (go_at_call 67; refine (of_small a.sign (by have := natAbs_sign_le a; omega) _).mono ?_; rintro e w7 ⟨v7, rfl, hv7, hb7⟩; obtain ⟨s7, p7, n7, c7, rfl⟩ := hv7.opened; have hb67 := HB65.out.trans (hb7.mono HB65.out.size); have p7' := P5.out.below hb67 P5.out.lt; obtain ⟨e0, e1, e2, e3⟩ := p7'.cells; obtain ⟨y2, y3, z0, z1, z2, z3⟩ := p7'.past (w.heap.size + 1) (w.heap.size + 1 + 1) (w.heap.size + 1 + 1 + 1) (by omega) (by omega) (by omega); have t7 := T5.out.below hb67; obtain ⟨u0, u1, u2, u3, u4, u5, ⟨k0, f0⟩, ⟨k1, f1⟩, ⟨k2, f2⟩, ⟨k3, f3⟩, ⟨k4, f4⟩, k5, f5⟩ := t7.stores; have T7 := hid t7; have HV67 := hid (HV65.out.on hb7); have HV7 := hid hv7; have HB7 := hid hb67; clear hv7; clear hb7; clear p7'; clear t7; clear hb67))
  go_wp2_with fail
  obtain ⟨r1, r2, r3, r4, r5⟩ := T7.out.last (HB5.out.trans (HB7.out.mono HB5.out.size)) (show w.heap.size ≤ w.heap.size + 1 by omega) (show w.heap.size ≤ w.heap.size + 1 + 1 by omega) (show w.heap.size ≤ w.heap.size + 1 + 1 + 1 by omega) s6 s7 false p6 p7 none n6 n7 0 c6 c7 0
  refine bodyPost_ret (res_three rfl rfl rfl rfl r1 r2 r3) rfl ?_
  refine ⟨_, _, _, rfl, ?_, ?_, ?_, r4⟩
  · rw [zg_zero]; exact r5 HV67.out
  · rw [zg_zero]; exact (r5 HV7.out).mono hK1
  · rw [zg_zero]; exact ⟨false, _, [], rfl, Lim.nil _, .inl rfl, Nat.zero_le _, fun e => by simp at e, rfl⟩

set_option maxHeartbeats 4000000 in
theorem gcd_step {w : World} {v : Value} {a b : Int} {K : Nat} (h : Pair w v a b K) (hb0 : b ≠ 0) (hK1 : 1 ≤ K) (hK : K ≤ 68719476736)
    (ih : ∀ (w : World) (v : Value), Pair w v b (a % b) K → Calls Try.prog 45 #[v] w (Gcds w b (a % b) K)) :
    Calls Try.prog 45 #[v] w (Gcds w a b K) := by
  obtain ⟨s, p, n, c, s', p', n', c', rfl, ha, hb⟩ := h
  obtain ⟨x0, x1, x2, x3, bw, sz⟩ := gcd_head w s s' (.slice p n c) (.slice p' n' c')
  have HD := hid (div_whl (ha.on bw) (hb.on bw) hb0 (by omega) (by omega))
  have HIH := hid ih
  have hyb : (zg a b).2.2.natAbs < B ^ K := by
    have h1 := (zg_small a b hb0).2
    have h2 := ha.lt
    have h3 : 1 < B ^ K := Nat.lt_of_lt_of_le (show 1 < B ^ 1 by decide) (Nat.pow_le_pow_right B_pos hK1)
    omega
  have HYB := hid hyb
  have HA := hid ha
  have HB := hid hb
  have X0 := hid x0
  have XT := hid (show Trio _ (w.heap.size + 1) (w.heap.size + 1 + 1) (w.heap.size + 1 + 1 + 1) from ⟨⟨_, _, x1⟩, ⟨_, _, x2⟩, ⟨_, _, x3⟩, by omega, by omega, by omega⟩)
  have BW := hid bw
  have SZ := hid sz
  have B0 := hid hb0
  have KB := hid (show 1 ≤ K ∧ K ≤ 68719476736 from ⟨hK1, hK⟩)
  clear ha hb x0 x1 x2 x3 bw sz hb0 hK hK1 ih hyb
  go_enter Try.func45, Try.ntmps45
  go_wp2_with fail
  refine HD.out.mono ?_
  rintro e w4 ⟨vq, vr, rfl, hq, hr, hb4⟩
  obtain ⟨sq, pq, nq, cq, rfl⟩ := hq.opened
  obtain ⟨sr, pr, nr, cr, rfl⟩ := hr.opened
  obtain ⟨y0, y1, by5, ys⟩ := boxes2 w4 sq sr (.slice pq nq cq) (.slice pr nr cr) ⟨_, _, _, rfl⟩ ⟨_, _, _, rfl⟩
  have hb5 := hb4.trans (by5.mono hb4.size)
  have P5 := hid (X0.out.below hb5 X0.out.lt)
  have T5 := hid (XT.out.below hb5)
  have B5 := hid (BW.out.trans (hb5.mono BW.out.size))
  have HQ5 := hid (hq.on by5)
  have HC := hid (HIH.out _ (.agg #[.bool s', .slice p' n' c', .bool sr, .slice pr nr cr]) ⟨_, _, _, _, _, _, _, _, rfl, HB.out.on B5.out, hr.on by5⟩)
  obtain ⟨a0, a1, a2, a3⟩ := P5.out.cells
  have Y0 := hid y0
  have YS := hid ys
  have LT4 := hid (show w.heap.size + 1 + 1 + 1 < w4.heap.size from Nat.lt_of_lt_of_le XT.out.lt.2.2 hb4.size)
  clear hq hr hb4 y0 y1 by5 ys hb5 HD
  go_wp2_with fail
  refine HC.out.mono ?_
  rintro e w6 ⟨v1, v2, v3, rfl, h1, h2, h3, hb6⟩
  obtain ⟨s1, p1, n1, c1, rfl⟩ := h1.opened
  obtain ⟨s2, p2, n2, c2, rfl⟩ := h2.opened
  obtain ⟨s3, p3, n3, c3, rfl⟩ := h3.opened
  obtain ⟨z0, z1, by7, ys7⟩ := boxes2 w6 false false (.slice none 0 0) (.slice none 0 0) ⟨_, _, _, rfl⟩ ⟨_, _, _, rfl⟩
  have hb7 := hb6.trans (by7.mono hb6.size)
  have hs6 := hb6.size
  rw [YS.out] at hs6
  have t7 := T5.out.below hb7
  have tz : Trio _ (w.heap.size + 1) w6.heap.size (w6.heap.size + 1) := ⟨t7.1, ⟨_, _, z0⟩, ⟨_, _, z1⟩, by have := LT4.out; omega, by have := LT4.out; omega, by omega⟩
  obtain ⟨u0, u1, u2, u3, u4, u5, ⟨k0, f0⟩, ⟨k1, f1⟩, ⟨k2, f2⟩, ⟨k3, f3⟩, ⟨k4, f4⟩, k5, f5⟩ := tz.stores
  have TZ := hid tz
  have B7 := hid (B5.out.trans (hb7.mono B5.out.size))
  have Y7 := hid (Y0.out.below hb7 Y0.out.lt)
  have HQ7 := hid (HQ5.out.on hb7)
  have HG7 := hid (h1.on by7)
  have HU7 := hid (h2.on by7)
  have HV7 := hid (h3.on by7)
  have T7 := hid t7
  have LT6 := hid (show w4.heap.size + 1 + 1 ≤ w6.heap.size from hs6)
  clear hb6 hb7 by7 z0 z1 ys7 t7 HC tz h1 h2 h3 hs6
  go_wp2_with fail
  clear k0 f0 k1 f1 k2 f2 k3 f3 k4 f4 k5 f5
  generalize hW : ((((((((w6.alloc (.cells #[.bool false, .slice none 0 0] 51)).alloc (.cells #[.bool false, .slice none 0 0] 51)).setCell ⟨w.heap.size + 1, 0, none⟩ (.bool s1)).setCell ⟨w.heap.size + 1, 1, none⟩ (.slice p1 n1 c1)).setCell ⟨w6.heap.size, 0, none⟩ (.bool s2)).setCell ⟨w6.heap.size, 1, none⟩ (.slice p2 n2 c2)).setCell ⟨w6.heap.size + 1, 0, none⟩ (.bool s3)).setCell ⟨w6.heap.size + 1, 1, none⟩ (.slice p3 n3 c3)) = W
  have hlt4 := LT4.out
  have hlt6 := LT6.out
  have hF := TZ.out.last B7.out (show w.heap.size ≤ w.heap.size + 1 by omega) (show w.heap.size ≤ w6.heap.size by omega) (show w.heap.size ≤ w6.heap.size + 1 by omega) s1 s2 s3 p1 p2 p3 n1 n2 n3 c1 c2 c3
  have j5 := Y7.out.past6 (w.heap.size + 1) w6.heap.size (w6.heap.size + 1) (by omega) (by omega) (by omega) (.bool s1) (.slice p1 n1 c1) (.bool s2) (.slice p2 n2 c2) (.bool s3) (.slice p3 n3 c3)
  obtain ⟨_, ⟨_, _, q1⟩, ⟨_, _, q2⟩, _⟩ := T7.out
  have j1 := q1.past6 (w.heap.size + 1) w6.heap.size (w6.heap.size + 1) (by omega) (by omega) (by omega) (.bool s1) (.slice p1 n1 c1) (.bool s2) (.slice p2 n2 c2) (.bool s3) (.slice p3 n3 c3)
  have j2 := q2.past6 (w.heap.size + 1) w6.heap.size (w6.heap.size + 1) (by omega) (by omega) (by omega) (.bool s1) (.slice p1 n1 c1) (.bool s2) (.slice p2 n2 c2) (.bool s3) (.slice p3 n3 c3)
  rw [hW] at hF j5 j1 j2
  obtain ⟨r1, r2, r3, r4, r5⟩ := hF
  have HT := hid (show Trio W (w.heap.size + 1) (w.heap.size + 1 + 1) (w.heap.size + 1 + 1 + 1) from ⟨⟨_, _, r1⟩, ⟨_, _, j1⟩, ⟨_, _, j2⟩, by omega, by omega, by omega⟩)
  have hM := mul_whl (r5 HQ7.out).drew (r5 HV7.out).drew (by have := KB.out; omega) (by have := KB.out; omega)
  have hu := r5 HU7.out
  have hS := fun w' v' (hb : Below W.heap.size W w') (hv' : Whl w' v' (a / b * (zg b (a % b)).2.2) (K + 1 + K)) => sub_whl (hu.on hb) hv' (by have := KB.out; omega) (by have := KB.out; omega)
  have HM := hid hM
  have HS := hid hS
  have HG := hid (r5 HG7.out)
  have HV := hid (r5 HV7.out)
  have b10 := r1.drew.cell0
  have b11 := r1.drew.cell1
  have b20 := r2.drew.cell0
  have b21 := r2.drew.cell1
  have b30 := r3.drew.cell0
  have b31 := r3.drew.cell1
  have b50 := j5.drew.cell0
  have b51 := j5.drew.cell1
  have R1 := hid r1
  have R2 := hid r2
  have R3 := hid r3
  have R4 := hid r4
  have R5 := hid j5
  have L46 := hid (And.intro hlt4 hlt6)
  clear r1 r2 r3 r4 r5 j1 j2 j5 q1 q2 hM hS hu hlt4 hlt6 HQ7 HG7 HU7 HV7 T7 Y7 TZ B7 HA HB X0 XT BW SZ P5 T5 B5 HQ5 Y0 YS LT4 LT6 HIH hW a0 a1 a2 a3
  go_region_held3 (fun w' => w'.cell? ⟨w.heap.size + 1, 0, none⟩ = some (.bool s1) ∧ w'.cell? ⟨w.heap.size + 1, 1, none⟩ = some (.slice p1 n1 c1) ∧ w'.cell? ⟨w6.heap.size, 0, none⟩ = some (.bool s2) ∧ w'.cell? ⟨w6.heap.size, 1, none⟩ = some (.slice p2 n2 c2) ∧ w'.cell? ⟨w6.heap.size + 1, 0, none⟩ = some (.bool s3) ∧ w'.cell? ⟨w6.heap.size + 1, 1, none⟩ = some (.slice p3 n3 c3) ∧ w'.cell? ⟨w4.heap.size, 0, none⟩ = some (.bool sq) ∧ w'.cell? ⟨w4.heap.size, 1, none⟩ = some (.slice pq nq cq)) (go_keep) (first
    | (go_at_call 47; refine HM.out.mono ?_; rintro e w8 ⟨v8, rfl, hv8, hb8⟩; obtain ⟨s8, p8, n8, c8, rfl⟩ := hv8.opened; replace hb8 := below_undrew' hb8; obtain ⟨d10, d11⟩ := R1.out.keep hb8; obtain ⟨d20, d21⟩ := R2.out.keep hb8; obtain ⟨d30, d31⟩ := R3.out.keep hb8; obtain ⟨d50, d51⟩ := R5.out.keep hb8; have HV8 := hid hv8; have HB8 := hid hb8; clear hv8; clear hb8)
    | (go_at_call 69; refine (HS.out _ _ HB8.out HV8.out).mono ?_; rintro e w9 ⟨v9, rfl, hv9, hb9⟩; obtain ⟨s9, p9, n9, c9, rfl⟩ := hv9.opened; replace hb9 := HB8.out.trans (hb9.mono HB8.out.size);
       have y1 := R1.out.below hb9 R1.out.lt; have y2 := R2.out.below hb9 R2.out.lt; have y3 := R3.out.below hb9 R3.out.lt; have y5 := R5.out.below hb9 R5.out.lt;
       have e10 := y1.cell0; have e11 := y1.cell1; have e20 := y2.cell0; have e21 := y2.cell1; have e30 := y3.cell0; have e31 := y3.cell1; have e50 := y5.cell0; have e51 := y5.cell1;
       obtain ⟨m20, m21, m22, m23, m24, m25⟩ := y2.past (w.heap.size + 1) (w.heap.size + 1 + 1) (w.heap.size + 1 + 1 + 1) (by have := L46.out; omega) (by have := L46.out; omega) (by have := L46.out; omega);
       obtain ⟨m30, m31, m32, m33, m34, m35⟩ := y3.past (w.heap.size + 1) (w.heap.size + 1 + 1) (w.heap.size + 1 + 1 + 1) (by have := L46.out; omega) (by have := L46.out; omega) (by have := L46.out; omega);
       obtain ⟨m50, m51, m52, m53, m54, m55⟩ := y5.past (w.heap.size + 1) (w.heap.size + 1 + 1) (w.heap.size + 1 + 1 + 1) (by have := L46.out; omega) (by have := L46.out; omega) (by have := L46.out; omega);
       obtain ⟨o0, o1, o2⟩ := y1.same (h := w.heap.size + 1 + 1) (k := w.heap.size + 1 + 1 + 1) (by omega) (by omega);
       have o00 := o0.cell0; have o01 := o0.cell1; have o10 := fun a b => (o1 a b).cell0; have o11 := fun a b => (o1 a b).cell1; have o20 := fun a b c d => (o2 a b c d).cell0; have o21 := fun a b c d => (o2 a b c d).cell1;
       have t9 := HT.out.below hb9; obtain ⟨u0, u1, u2, u3, u4, u5, ⟨k0, f0⟩, ⟨k1, f1⟩, ⟨k2, f2⟩, ⟨k3, f3⟩, ⟨k4, f4⟩, k5, f5⟩ := t9.stores; have T9 := hid t9; have HV9 := hid hv9; have HB9 := hid hb9; clear hv9; clear hb9; clear t9; clear y1; clear y2; clear y3; clear y5; clear o0; clear o1; clear o2))
  go_wp2_with fail
  obtain ⟨r1, r2, r3, r4, r5⟩ := T9.out.last (R4.out.trans (HB9.out.mono R4.out.size)) (show w.heap.size ≤ w.heap.size + 1 by omega) (show w.heap.size ≤ w.heap.size + 1 + 1 by omega) (show w.heap.size ≤ w.heap.size + 1 + 1 + 1 by omega) s1 s3 s9 p1 p3 p9 n1 n3 n9 c1 c3 c9
  refine bodyPost_ret (res_three rfl rfl rfl rfl r1 r2 r3) rfl ?_
  refine ⟨_, _, _, rfl, ?_, ?_, ?_, r4⟩
  · rw [zg_step a b B0.out]; exact r5 (HG.out.on HB9.out)
  · rw [zg_step a b B0.out]; exact r5 (HV.out.on HB9.out)
  · refine (r5 HV9.out |> fun h => ?_ : Whl _ _ _ K)
    rw [zg_step a b B0.out] at HYB ⊢
    exact h.fit K HYB.out

theorem gcd_whl (K : Nat) (hK1 : 1 ≤ K) (hK : K ≤ 68719476736) (a b : Int) : ∀ (w : World) (v : Value), Pair w v a b K → Calls Try.prog 45 #[v] w (Gcds w a b K) := by
  refine zg_ind (P := fun a b => ∀ (w : World) (v : Value), Pair w v a b K → Calls Try.prog 45 #[v] w (Gcds w a b K)) ?_ ?_ a b
  · intro a w v h; exact gcd_zero h hK1
  · intro a b hb ih w v h; exact gcd_step h hb hK1 hK ih

end Go.Proofs.Ytckkbjnipacodaa

