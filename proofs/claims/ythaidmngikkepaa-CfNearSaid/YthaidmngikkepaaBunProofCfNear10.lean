import Derived.Test.YthaidmngikkepaaBunProofCfNear9
import Derived.Test.YthaidmngikkepaaBunProofCfNear4
/-
  PACKAGE whole: THE PAIR's gcd, a recursion.
-/
namespace Go.Proofs.Ythaidmngikkepaa
open Go.RowKit
open Num
set_option linter.unusedVariables false
set_option maxRecDepth 100000
set_option linter.unusedSimpArgs false

/-- The blocks at the head of gcd. -/
theorem gcd_head (w : World) (s s' : Bool) (sv sv' : Value) : Pbx ((((w.alloc (.cells #[.bool s, sv, .bool s', sv'] 75)).alloc (.cells #[.bool false, .slice none 0 0] 49)).alloc (.cells #[.bool false, .slice none 0 0] 49)).alloc (.cells #[.bool false, .slice none 0 0] 49)) w.heap.size s sv s' sv' ∧ Box ((((w.alloc (.cells #[.bool s, sv, .bool s', sv'] 75)).alloc (.cells #[.bool false, .slice none 0 0] 49)).alloc (.cells #[.bool false, .slice none 0 0] 49)).alloc (.cells #[.bool false, .slice none 0 0] 49)) (w.heap.size + 1) false (.slice none 0 0) ∧ Box ((((w.alloc (.cells #[.bool s, sv, .bool s', sv'] 75)).alloc (.cells #[.bool false, .slice none 0 0] 49)).alloc (.cells #[.bool false, .slice none 0 0] 49)).alloc (.cells #[.bool false, .slice none 0 0] 49)) (w.heap.size + 1 + 1) false (.slice none 0 0) ∧ Box ((((w.alloc (.cells #[.bool s, sv, .bool s', sv'] 75)).alloc (.cells #[.bool false, .slice none 0 0] 49)).alloc (.cells #[.bool false, .slice none 0 0] 49)).alloc (.cells #[.bool false, .slice none 0 0] 49)) (w.heap.size + 1 + 1 + 1) false (.slice none 0 0) ∧ Below w.heap.size w ((((w.alloc (.cells #[.bool s, sv, .bool s', sv'] 75)).alloc (.cells #[.bool false, .slice none 0 0] 49)).alloc (.cells #[.bool false, .slice none 0 0] 49)).alloc (.cells #[.bool false, .slice none 0 0] 49)) ∧ ((((w.alloc (.cells #[.bool s, sv, .bool s', sv'] 75)).alloc (.cells #[.bool false, .slice none 0 0] 49)).alloc (.cells #[.bool false, .slice none 0 0] 49)).alloc (.cells #[.bool false, .slice none 0 0] 49)).heap.size = w.heap.size + 1 + 1 + 1 + 1 := by
  have x0 := Pbx.new w s s' sv sv'
  have bw := (Below.refl _ _).alloc (Nat.le_refl w.heap.size) (.cells #[.bool s, sv, .bool s', sv'] 75)
  have sz : (w.alloc (.cells #[.bool s, sv, .bool s', sv'] 75)).heap.size = w.heap.size + 1 := by simp
  obtain ⟨h1, h2, h3, h4, h5⟩ := boxes3 (w.alloc (.cells #[.bool s, sv, .bool s', sv'] 75)) false false false (.slice none 0 0) (.slice none 0 0) (.slice none 0 0) ⟨_, _, _, rfl⟩ ⟨_, _, _, rfl⟩ ⟨_, _, _, rfl⟩
  rw [sz] at h1 h2 h3 h4 h5
  exact ⟨x0.below h4 (by omega), h1, h2, h3, bw.trans (h4.mono (by omega)), h5⟩

/-- Three boxes. -/
def Trio (w : World) (g h k : Nat) : Prop := (∃ s v, Box w g s v) ∧ (∃ s v, Box w h s v) ∧ (∃ s v, Box w k s v) ∧ g ≠ h ∧ g ≠ k ∧ h ≠ k
theorem Trio.below {w w' : World} {g h k : Nat} (ht : Trio w g h k) (hb : Below w.heap.size w w') : Trio w' g h k := by
  obtain ⟨⟨s, v, h0⟩, ⟨s1, v1, h1⟩, ⟨s2, v2, h2⟩, hn⟩ := ht
  exact ⟨⟨_, _, h0.below hb h0.lt⟩, ⟨_, _, h1.below hb h1.lt⟩, ⟨_, _, h2.below hb h2.lt⟩, hn⟩
theorem Trio.lt {w : World} {g h k : Nat} (ht : Trio w g h k) : g < w.heap.size ∧ h < w.heap.size ∧ k < w.heap.size := by
  obtain ⟨⟨s, v, h0⟩, ⟨s1, v1, h1⟩, ⟨s2, v2, h2⟩, hn⟩ := ht
  exact ⟨h0.lt, h1.lt, h2.lt⟩
/-- What a walk needs to write all three. -/
theorem Trio.stores {w : World} {g h k : Nat} (ht : Trio w g h k) : ∃ u0 u1 u2 u3 u4 u5,
    ((w.cell? ⟨g, 0, none⟩ = some u0) ∧ (w.frozen? ⟨g, 0, none⟩ = false)) ∧
    ((∀ x, (w.setCell ⟨g, 0, none⟩ (.bool x)).cell? ⟨g, 1, none⟩ = some u1) ∧ (∀ x, (w.setCell ⟨g, 0, none⟩ (.bool x)).frozen? ⟨g, 1, none⟩ = false)) ∧
    ((∀ a b, ((w.setCell ⟨g, 0, none⟩ a).setCell ⟨g, 1, none⟩ b).cell? ⟨h, 0, none⟩ = some u2) ∧ (∀ a b, ((w.setCell ⟨g, 0, none⟩ a).setCell ⟨g, 1, none⟩ b).frozen? ⟨h, 0, none⟩ = false)) ∧
    ((∀ a b x, (((w.setCell ⟨g, 0, none⟩ a).setCell ⟨g, 1, none⟩ b).setCell ⟨h, 0, none⟩ (.bool x)).cell? ⟨h, 1, none⟩ = some u3) ∧ (∀ a b x, (((w.setCell ⟨g, 0, none⟩ a).setCell ⟨g, 1, none⟩ b).setCell ⟨h, 0, none⟩ (.bool x)).frozen? ⟨h, 1, none⟩ = false)) ∧
    ((∀ a b c d, ((((w.setCell ⟨g, 0, none⟩ a).setCell ⟨g, 1, none⟩ b).setCell ⟨h, 0, none⟩ c).setCell ⟨h, 1, none⟩ d).cell? ⟨k, 0, none⟩ = some u4) ∧ (∀ a b c d, ((((w.setCell ⟨g, 0, none⟩ a).setCell ⟨g, 1, none⟩ b).setCell ⟨h, 0, none⟩ c).setCell ⟨h, 1, none⟩ d).frozen? ⟨k, 0, none⟩ = false)) ∧
    ((∀ a b c d x, (((((w.setCell ⟨g, 0, none⟩ a).setCell ⟨g, 1, none⟩ b).setCell ⟨h, 0, none⟩ c).setCell ⟨h, 1, none⟩ d).setCell ⟨k, 0, none⟩ (.bool x)).cell? ⟨k, 1, none⟩ = some u5) ∧ (∀ a b c d x, (((((w.setCell ⟨g, 0, none⟩ a).setCell ⟨g, 1, none⟩ b).setCell ⟨h, 0, none⟩ c).setCell ⟨h, 1, none⟩ d).setCell ⟨k, 0, none⟩ (.bool x)).frozen? ⟨k, 1, none⟩ = false)) := by
  obtain ⟨⟨s, v, h0⟩, ⟨s1, v1, h1⟩, ⟨s2, v2, h2⟩, n1, n2, n3⟩ := ht
  have k1 := fun a b => (h1.other (g2 := g) (Ne.symm n1) 0 a).other (g2 := g) (Ne.symm n1) 1 b
  have k2 := fun a b c d => (((h2.other (g2 := g) (Ne.symm n2) 0 a).other (g2 := g) (Ne.symm n2) 1 b).other (g2 := h) (Ne.symm n3) 0 c).other (g2 := h) (Ne.symm n3) 1 d
  exact ⟨_, _, _, _, _, _, ⟨h0.cell0, h0.free 0⟩, ⟨fun x => (h0.set0 x).cell1, fun x => (h0.set0 x).free 1⟩, ⟨fun a b => (k1 a b).cell0, fun a b => (k1 a b).free 0⟩, ⟨fun a b x => ((k1 a b).set0 x).cell1, fun a b x => ((k1 a b).set0 x).free 1⟩,
    ⟨fun a b c d => (k2 a b c d).cell0, fun a b c d => (k2 a b c d).free 0⟩, ⟨fun a b c d x => ((k2 a b c d).set0 x).cell1, fun a b c d x => ((k2 a b c d).set0 x).free 1⟩⟩
/-- The stores of three results. -/
theorem Trio.last {w0 w : World} {g h k K : Nat} (ht : Trio w g h k) (hb : Below K w0 w) (hg : K ≤ g) (hh : K ≤ h) (hk : K ≤ k) (a0 a1 a2 : Bool) (p0 p1 p2 : Option Addr) (n0 n1 n2 c0 c1 c2 : Nat) :
    Box ((((((w.setCell ⟨g, 0, none⟩ (.bool a0)).setCell ⟨g, 1, none⟩ (.slice p0 n0 c0)).setCell ⟨h, 0, none⟩ (.bool a1)).setCell ⟨h, 1, none⟩ (.slice p1 n1 c1)).setCell ⟨k, 0, none⟩ (.bool a2)).setCell ⟨k, 1, none⟩ (.slice p2 n2 c2)) g a0 (.slice p0 n0 c0) ∧
    Box ((((((w.setCell ⟨g, 0, none⟩ (.bool a0)).setCell ⟨g, 1, none⟩ (.slice p0 n0 c0)).setCell ⟨h, 0, none⟩ (.bool a1)).setCell ⟨h, 1, none⟩ (.slice p1 n1 c1)).setCell ⟨k, 0, none⟩ (.bool a2)).setCell ⟨k, 1, none⟩ (.slice p2 n2 c2)) h a1 (.slice p1 n1 c1) ∧
    Box ((((((w.setCell ⟨g, 0, none⟩ (.bool a0)).setCell ⟨g, 1, none⟩ (.slice p0 n0 c0)).setCell ⟨h, 0, none⟩ (.bool a1)).setCell ⟨h, 1, none⟩ (.slice p1 n1 c1)).setCell ⟨k, 0, none⟩ (.bool a2)).setCell ⟨k, 1, none⟩ (.slice p2 n2 c2)) k a2 (.slice p2 n2 c2) ∧
    Below K w0 ((((((w.setCell ⟨g, 0, none⟩ (.bool a0)).setCell ⟨g, 1, none⟩ (.slice p0 n0 c0)).setCell ⟨h, 0, none⟩ (.bool a1)).setCell ⟨h, 1, none⟩ (.slice p1 n1 c1)).setCell ⟨k, 0, none⟩ (.bool a2)).setCell ⟨k, 1, none⟩ (.slice p2 n2 c2)) ∧
    (∀ {v z m}, Whl w v z m → Whl ((((((w.setCell ⟨g, 0, none⟩ (.bool a0)).setCell ⟨g, 1, none⟩ (.slice p0 n0 c0)).setCell ⟨h, 0, none⟩ (.bool a1)).setCell ⟨h, 1, none⟩ (.slice p1 n1 c1)).setCell ⟨k, 0, none⟩ (.bool a2)).setCell ⟨k, 1, none⟩ (.slice p2 n2 c2)) v z m) := by
  obtain ⟨⟨s, v, h0⟩, ⟨s1, v1, h1⟩, ⟨s2, v2, h2⟩, n1', n2', n3'⟩ := ht
  obtain ⟨r1, r2, r3⟩ := h0.last hb hg a0 p0 n0 c0
  have k1 := (h1.other (g2 := g) (Ne.symm n1') 0 (.bool a0)).other (g2 := g) (Ne.symm n1') 1 (.slice p0 n0 c0)
  have k2 := (((h2.other (g2 := g) (Ne.symm n2') 0 (.bool a0)).other (g2 := g) (Ne.symm n2') 1 (.slice p0 n0 c0)).other (g2 := h) (Ne.symm n3') 0 (.bool a1)).other (g2 := h) (Ne.symm n3') 1 (.slice p1 n1 c1)
  obtain ⟨q1, q2, q3⟩ := k1.last r2 hh a1 p1 n1 c1
  obtain ⟨t1, t2, t3⟩ := k2.last q2 hk a2 p2 n2 c2
  exact ⟨(((r1.other n1' _ _).other n1' _ _).other n2' _ _).other n2' _ _, (q1.other n3' _ _).other n3' _ _, t1, t2, fun hv => t3 (q3 (r3 hv))⟩
/-- What stays of another block. -/
theorem Pbx.past {w : World} {x : Nat} {s s' : Bool} {sv sv' : Value} (hx : Pbx w x s sv s' sv') (g h k : Nat) (n0 : x ≠ g) (n1 : x ≠ h) (n2 : x ≠ k) :
    (∀ a b, ((w.setCell ⟨g, 0, none⟩ a).setCell ⟨g, 1, none⟩ b).cell? ⟨x, 0, none⟩ = some (.bool s)) ∧
    (∀ a b, ((w.setCell ⟨g, 0, none⟩ a).setCell ⟨g, 1, none⟩ b).cell? ⟨x, 1, none⟩ = some sv) ∧
    (∀ a b c d, ((((w.setCell ⟨g, 0, none⟩ a).setCell ⟨g, 1, none⟩ b).setCell ⟨h, 0, none⟩ c).setCell ⟨h, 1, none⟩ d).cell? ⟨x, 0, none⟩ = some (.bool s)) ∧
    (∀ a b c d, ((((w.setCell ⟨g, 0, none⟩ a).setCell ⟨g, 1, none⟩ b).setCell ⟨h, 0, none⟩ c).setCell ⟨h, 1, none⟩ d).cell? ⟨x, 1, none⟩ = some sv) ∧
    (∀ a b c d e f, ((((((w.setCell ⟨g, 0, none⟩ a).setCell ⟨g, 1, none⟩ b).setCell ⟨h, 0, none⟩ c).setCell ⟨h, 1, none⟩ d).setCell ⟨k, 0, none⟩ e).setCell ⟨k, 1, none⟩ f).cell? ⟨x, 0, none⟩ = some (.bool s)) ∧
    (∀ a b c d e f, ((((((w.setCell ⟨g, 0, none⟩ a).setCell ⟨g, 1, none⟩ b).setCell ⟨h, 0, none⟩ c).setCell ⟨h, 1, none⟩ d).setCell ⟨k, 0, none⟩ e).setCell ⟨k, 1, none⟩ f).cell? ⟨x, 1, none⟩ = some sv) :=
  ⟨fun a b => ((hx.other (g2 := g) n0 0 a).other (g2 := g) n0 1 b).cells.1,
    fun a b => ((hx.other (g2 := g) n0 0 a).other (g2 := g) n0 1 b).cells.2.1,
    fun a b c d => ((((hx.other (g2 := g) n0 0 a).other (g2 := g) n0 1 b).other (g2 := h) n1 0 c).other (g2 := h) n1 1 d).cells.1,
    fun a b c d => ((((hx.other (g2 := g) n0 0 a).other (g2 := g) n0 1 b).other (g2 := h) n1 0 c).other (g2 := h) n1 1 d).cells.2.1,
    fun a b c d e f => ((((((hx.other (g2 := g) n0 0 a).other (g2 := g) n0 1 b).other (g2 := h) n1 0 c).other (g2 := h) n1 1 d).other (g2 := k) n2 0 e).other (g2 := k) n2 1 f).cells.1,
    fun a b c d e f => ((((((hx.other (g2 := g) n0 0 a).other (g2 := g) n0 1 b).other (g2 := h) n1 0 c).other (g2 := h) n1 1 d).other (g2 := k) n2 0 e).other (g2 := k) n2 1 f).cells.2.1⟩
theorem Box.past {w : World} {x : Nat} {s : Bool} {sv : Value} (hx : Box w x s sv) (g h k : Nat) (n0 : x ≠ g) (n1 : x ≠ h) (n2 : x ≠ k) :
    (∀ a b, ((w.setCell ⟨g, 0, none⟩ a).setCell ⟨g, 1, none⟩ b).cell? ⟨x, 0, none⟩ = some (.bool s)) ∧
    (∀ a b, ((w.setCell ⟨g, 0, none⟩ a).setCell ⟨g, 1, none⟩ b).cell? ⟨x, 1, none⟩ = some sv) ∧
    (∀ a b c d, ((((w.setCell ⟨g, 0, none⟩ a).setCell ⟨g, 1, none⟩ b).setCell ⟨h, 0, none⟩ c).setCell ⟨h, 1, none⟩ d).cell? ⟨x, 0, none⟩ = some (.bool s)) ∧
    (∀ a b c d, ((((w.setCell ⟨g, 0, none⟩ a).setCell ⟨g, 1, none⟩ b).setCell ⟨h, 0, none⟩ c).setCell ⟨h, 1, none⟩ d).cell? ⟨x, 1, none⟩ = some sv) ∧
    (∀ a b c d e f, ((((((w.setCell ⟨g, 0, none⟩ a).setCell ⟨g, 1, none⟩ b).setCell ⟨h, 0, none⟩ c).setCell ⟨h, 1, none⟩ d).setCell ⟨k, 0, none⟩ e).setCell ⟨k, 1, none⟩ f).cell? ⟨x, 0, none⟩ = some (.bool s)) ∧
    (∀ a b c d e f, ((((((w.setCell ⟨g, 0, none⟩ a).setCell ⟨g, 1, none⟩ b).setCell ⟨h, 0, none⟩ c).setCell ⟨h, 1, none⟩ d).setCell ⟨k, 0, none⟩ e).setCell ⟨k, 1, none⟩ f).cell? ⟨x, 1, none⟩ = some sv) :=
  ⟨fun a b => ((hx.other (g2 := g) n0 0 a).other (g2 := g) n0 1 b).cell0,
    fun a b => ((hx.other (g2 := g) n0 0 a).other (g2 := g) n0 1 b).cell1,
    fun a b c d => ((((hx.other (g2 := g) n0 0 a).other (g2 := g) n0 1 b).other (g2 := h) n1 0 c).other (g2 := h) n1 1 d).cell0,
    fun a b c d => ((((hx.other (g2 := g) n0 0 a).other (g2 := g) n0 1 b).other (g2 := h) n1 0 c).other (g2 := h) n1 1 d).cell1,
    fun a b c d e f => ((((((hx.other (g2 := g) n0 0 a).other (g2 := g) n0 1 b).other (g2 := h) n1 0 c).other (g2 := h) n1 1 d).other (g2 := k) n2 0 e).other (g2 := k) n2 1 f).cell0,
    fun a b c d e f => ((((((hx.other (g2 := g) n0 0 a).other (g2 := g) n0 1 b).other (g2 := h) n1 0 c).other (g2 := h) n1 1 d).other (g2 := k) n2 0 e).other (g2 := k) n2 1 f).cell1⟩
theorem Box.past6 {w : World} {x : Nat} {s : Bool} {sv : Value} (hx : Box w x s sv) (g h k : Nat) (n0 : x ≠ g) (n1 : x ≠ h) (n2 : x ≠ k) (a b c d e f : Value) : Box ((((((w.setCell ⟨g, 0, none⟩ a).setCell ⟨g, 1, none⟩ b).setCell ⟨h, 0, none⟩ c).setCell ⟨h, 1, none⟩ d).setCell ⟨k, 0, none⟩ e).setCell ⟨k, 1, none⟩ f) x s sv := ((((((hx.other (g2 := g) n0 0 a).other (g2 := g) n0 1 b).other (g2 := h) n1 0 c).other (g2 := h) n1 1 d).other (g2 := k) n2 0 e).other (g2 := k) n2 1 f)
/-- A box that is written anew with what it holds. -/
theorem Box.same {w : World} {g h k : Nat} {s : Bool} {sv : Value} (hx : Box w g s sv) (n1 : g ≠ h) (n2 : g ≠ k) :
    Box ((w.setCell ⟨g, 0, none⟩ (.bool s)).setCell ⟨g, 1, none⟩ sv) g s sv ∧
    (∀ a b, Box ((((w.setCell ⟨g, 0, none⟩ (.bool s)).setCell ⟨g, 1, none⟩ sv).setCell ⟨h, 0, none⟩ a).setCell ⟨h, 1, none⟩ b) g s sv) ∧
    (∀ a b c d, Box ((((((w.setCell ⟨g, 0, none⟩ (.bool s)).setCell ⟨g, 1, none⟩ sv).setCell ⟨h, 0, none⟩ a).setCell ⟨h, 1, none⟩ b).setCell ⟨k, 0, none⟩ c).setCell ⟨k, 1, none⟩ d) g s sv) := by
  have h0 := (hx.set0 s).set1 hx.2
  exact ⟨h0, fun a b => (h0.other n1 0 a).other n1 1 b, fun a b c d => (((h0.other n1 0 a).other n1 1 b).other n2 0 c).other n2 1 d⟩

theorem res_three {fn : Func} {t t' t'' : Tmp} {tmps : Array Value} {w : World} {g g' g'' : Nat} {s s' s'' : Bool} {sv sv' sv'' : Value} (hf : fn.results = #[.cell t 49, .cell t' 49, .cell t'' 49]) (ht : tmps.getD t undef = .pointer (some ⟨g, 0, none⟩)) (ht' : tmps.getD t' undef = .pointer (some ⟨g', 0, none⟩)) (ht'' : tmps.getD t'' undef = .pointer (some ⟨g'', 0, none⟩)) (h2 : Box w g s sv) (h2' : Box w g' s' sv') (h2'' : Box w g'' s'' sv'') :
    (results fn tmps).run Try.prog w = .ok (.tuple #[.agg #[.bool s, sv], .agg #[.bool s', sv'], .agg #[.bool s'', sv'']]) w := by
  have h1 := at_addr (P := Try.prog) (w := w) ht
  have h1' := at_addr (P := Try.prog) (w := w) ht'
  have h1'' := at_addr (P := Try.prog) (w := w) ht''
  have h3 := load_whl h2
  have h3' := load_whl h2'
  have h3'' := load_whl h2''
  simp only [Array.getD_eq_getD_getElem?] at h1 h1' h1''
  simp [results, hf, Sem.run_bind, h1, h3, h1', h3', h1'', h3'']

/-- What gcd tells. -/
def Gcds (w : World) (a b : Int) (K : Nat) (e : Ending) (w' : World) : Prop :=
  ∃ v1 v2 v3, e = .returned (.tuple #[v1, v2, v3]) ∧ Whl w' v1 (zg a b).1 K ∧ Whl w' v2 (zg a b).2.1 K ∧ Whl w' v3 (zg a b).2.2 K ∧ Below w.heap.size w w'

theorem Box.drew {w : World} {g : Nat} {s : Bool} {sv : Value} (h : Box w g s sv) : Box w.drew g s sv := h
theorem Trio.drew {w : World} {g h k : Nat} (ht : Trio w g h k) : Trio w.drew g h k := ht
theorem natAbs_sign_le (a : Int) : a.sign.natAbs ≤ 1 := by rw [Int.natAbs_sign]; split <;> omega

end Go.Proofs.Ythaidmngikkepaa

/-
  PACKAGE whole: ITS FUNCTIONS OF TEXTS.
-/
namespace Go.Proofs.Ythaidmngikkepaa
open Go.RowKit
open Num
set_option linter.unusedVariables false
set_option maxRecDepth 100000
set_option linter.unusedSimpArgs false

theorem results_tmp4 {fn : Func} {t u v x : Tmp} (h : fn.results = #[.tmp t, .tmp u, .tmp v, .tmp x]) (tmps : Array Value) (P : Program) (w : World) :
    (results fn tmps).run P w = .ok (.tuple #[tmps.getD t undef, tmps.getD u undef, tmps.getD v undef, tmps.getD x undef]) w := by
  simp [results, h]

set_option maxHeartbeats 400000 in
theorem zcheck_bad {a : ByteArray} {k : Int} (h : BadZ a k) (ha : a.size ≤ maxLen) (w : World) :
    Calls Try.prog 17 #[.string a] w fun e w' => e = .returned (errno k) ∧ Below w.heap.size w w' := by
  have HP := hid (zread_bad h w ha)
  clear h
  go_enter Try.func17, Try.ntmps17
  go_wp2_with fail
  refine HP.out.mono ?_
  rintro e w1 ⟨rfl, hb1⟩
  have HB1 := hid (hb1.trans (((Below.refl _ w1).alloc (Nat.le_refl _) (.cells #[.bool false, .slice none 0 0] 49)).mono hb1.size))
  clear hb1
  go_wp2_with fail
  go_ret
  exact ⟨rfl, HB1.out⟩

set_option maxHeartbeats 400000 in
theorem zcheck_good {a : ByteArray} (h : GoodZ a) (w : World) :
    Calls Try.prog 17 #[.string a] w fun e w' => e = .returned .nilIface ∧ Below w.heap.size w w' := by
  have HP := hid (zread_good h w)
  clear h
  go_enter Try.func17, Try.ntmps17
  go_wp2_with fail
  refine HP.out.mono ?_
  rintro e w1 ⟨v, rfl, hv, hb1⟩
  obtain ⟨s, p, n, c, rfl⟩ := hv.opened
  have HB1 := hid (hb1.trans (((Below.refl _ w1).alloc (Nat.le_refl _) (.cells #[.bool s, .slice p n c] 49)).mono hb1.size))
  clear hb1 hv
  go_wp2_with fail
  go_ret
  exact ⟨rfl, HB1.out⟩

set_option maxHeartbeats 400000 in
theorem zmul_bad {a b : ByteArray} {k : Int} (h : WrongZ a b k) (ha : a.size ≤ maxLen) (hb : b.size ≤ maxLen) (w : World) :
    Calls Try.prog 26 #[.string a, .string b] w fun e w' => e = .returned (.tuple #[.string ⟨#[]⟩, errno k]) ∧ Below w.heap.size w w' := by
  have HP := hid (zpair_bad h ha hb w)
  clear h
  go_enter Try.func26, Try.ntmps26
  go_wp2_with fail
  refine HP.out.mono ?_
  rintro e w1 ⟨rfl, hb1⟩
  have HB1 := hid (hb1.trans (((Below.refl _ w1).alloc (Nat.le_refl _) (.cells #[.bool false, .slice none 0 0, .bool false, .slice none 0 0] 75)).mono hb1.size))
  clear hb1
  go_wp2_with fail
  go_ret2
  exact ⟨rfl, HB1.out⟩

set_option maxHeartbeats 1000000 in
theorem zmul_good {a b : ByteArray} (ha : GoodZ a) (hb : GoodZ b) (w : World) :
    Calls Try.prog 26 #[.string a, .string b] w fun e w' => e = .returned (.tuple #[.string (ztxt (znum a * znum b)), .nilIface]) ∧ Below w.heap.size w w' := by
  have HP := hid (zpair_good ha hb w)
  clear ha hb
  go_enter Try.func26, Try.ntmps26
  go_wp2_with fail
  refine HP.out.mono ?_
  rintro e w1 ⟨v, rfl, ⟨s, p, n, c, s', p', n', c', rfl, h1, h2⟩, hb1⟩
  have hb2 := (Below.refl _ w1).alloc (Nat.le_refl _) (.cells #[.bool s, .slice p n c, .bool s', .slice p' n' c'] 75)
  have HO := hid (mul_whl (h1.on hb2) (h2.on hb2) (by omega) (by omega))
  have HB1 := hid (hb1.trans (hb2.mono hb1.size))
  clear h1 h2 hb1 hb2
  go_wp2_with fail
  refine HO.out.mono ?_
  rintro e w2 ⟨v, rfl, hv, hb3⟩
  have HS := hid (string_whl hv (by omega))
  have HB3 := hid (HB1.out.trans (hb3.mono HB1.out.size))
  clear hv hb3
  go_wp2_with fail
  refine HS.out.mono ?_
  rintro e w3 ⟨rfl, hb4⟩
  have HB4 := hid (HB3.out.trans (hb4.mono HB3.out.size))
  clear hb4
  go_wp2_with fail
  go_ret2
  exact ⟨rfl, HB4.out⟩


end Go.Proofs.Ythaidmngikkepaa

/-
  RECORDS IN MEMORY: slices of Integers.
-/
namespace Go.Proofs.Ythaidmngikkepaa
open Go.RowKit
open Num
set_option linter.unusedVariables false
set_option maxRecDepth 100000
set_option linter.unusedSimpArgs false

theorem flat_get (m : Nat) : ∀ (L : List (List Value)), (∀ r ∈ L, r.length = m) → ∀ i j, i < L.length → j < m → L.flatten[i * m + j]? = (L[i]?.getD [])[j]? := by
  intro L
  induction L with
  | nil => intro _ i j h; simp at h
  | cons r L ih =>
    intro h i j hi hj
    have hr := h r (by simp)
    rw [List.flatten_cons]
    cases i with
    | zero => rw [Nat.zero_mul, Nat.zero_add, List.getElem?_append_left (by omega)]; simp
    | succ i =>
      rw [Nat.succ_mul, List.getElem?_append_right (by omega), hr, show i * m + m + j - m = i * m + j by omega]
      rw [ih (fun x hx => h x (by simp [hx])) i j (by simpa using hi) hj]
      simp
theorem flat_set (m : Nat) : ∀ (L : List (List Value)), (∀ r ∈ L, r.length = m) → ∀ i j u, i < L.length → j < m → L.flatten.set (i * m + j) u = (L.set i ((L[i]?.getD []).set j u)).flatten := by
  intro L
  induction L with
  | nil => intro _ i j u h; simp at h
  | cons r L ih =>
    intro h i j u hi hj
    have hr := h r (by simp)
    rw [List.flatten_cons]
    cases i with
    | zero => rw [Nat.zero_mul, Nat.zero_add, List.set_append_left _ _ (by omega)]; simp
    | succ i =>
      rw [Nat.succ_mul, List.set_append_right _ _ (by omega), hr, show i * m + m + j - m = i * m + j by omega]
      rw [ih (fun x hx => h x (by simp [hx])) i j u (by simpa using hi) hj]
      simp
theorem flat_len (m : Nat) : ∀ (L : List (List Value)), (∀ r ∈ L, r.length = m) → L.flatten.length = L.length * m := by
  intro L
  induction L with
  | nil => intro _; simp
  | cons r L ih =>
    intro h
    rw [List.flatten_cons, List.length_append, ih (fun x hx => h x (by simp [hx])), h r (by simp), List.length_cons, Nat.succ_mul]
    omega

/-- An Integer's two cells. -/
abbrev Zr := Bool × Option Addr × Nat × Nat
def zcs (r : Zr) : List Value := [.bool r.1, .slice r.2.1 r.2.2.1 r.2.2.2]
def zag (r : Zr) : Value := .agg #[.bool r.1, .slice r.2.1 r.2.2.1 r.2.2.2]
def zat (vs : List Zr) (i : Nat) : Zr := vs[i]?.getD (false, none, 0, 0)
theorem zat_set_self (vs : List Zr) (i : Nat) (r : Zr) (h : i < vs.length) : zat (vs.set i r) i = r := by simp [zat, h]
theorem zat_set_ne (vs : List Zr) (i j : Nat) (r : Zr) (h : i ≠ j) : zat (vs.set i r) j = zat vs j := by simp [zat, List.getElem?_set_ne h]
def flz (vs : List Zr) : Array Value := (vs.map zcs).flatten.toArray
theorem zcs_len (vs : List Zr) : ∀ r ∈ vs.map zcs, r.length = 2 := by
  intro r hr
  obtain ⟨x, _, rfl⟩ := List.mem_map.1 hr
  rfl
theorem flz_get (vs : List Zr) (i : Nat) (h : i < vs.length) : (flz vs)[i * 2]? = some (.bool (zat vs i).1) ∧ (flz vs)[i * 2 + 1]? = some (.slice (zat vs i).2.1 (zat vs i).2.2.1 (zat vs i).2.2.2) := by
  have h0 := flat_get 2 (vs.map zcs) (zcs_len vs) i 0 (by simpa using h) (by omega)
  have h1 := flat_get 2 (vs.map zcs) (zcs_len vs) i 1 (by simpa using h) (by omega)
  simp only [Nat.add_zero] at h0
  constructor
  · rw [flz, List.getElem?_toArray, h0]; simp [zat, h, zcs]
  · rw [flz, List.getElem?_toArray, h1]; simp [zat, h, zcs]
theorem flz_set (vs : List Zr) (i : Nat) (h : i < vs.length) (r : Zr) : ((flz vs).setIfInBounds (i * 2) (.bool r.1)).setIfInBounds (i * 2 + 1) (.slice r.2.1 r.2.2.1 r.2.2.2) = flz (vs.set i r) := by
  unfold flz
  rw [List.setIfInBounds_toArray, List.setIfInBounds_toArray]
  have h0 := flat_set 2 (vs.map zcs) (zcs_len vs) i 0 (.bool r.1) (by simpa using h) (by omega)
  rw [Nat.add_zero] at h0
  rw [h0]
  have hl : ∀ x ∈ (vs.map zcs).set i (((vs.map zcs)[i]?.getD []).set 0 (.bool r.1)), x.length = 2 := by
    intro x hx
    rcases List.mem_or_eq_of_mem_set hx with hx | rfl
    · exact zcs_len vs x hx
    · simp [h, zcs]
  rw [flat_set 2 _ hl i 1 _ (by simpa using h) (by omega)]
  congr 2
  rw [List.set_set, List.map_set]
  congr 1
  simp [h, zcs]
/-- Block b holds these Integers, and may be written. -/
def Zrow (w : World) (b : Nat) (vs : List Zr) : Prop := w.heap[b]? = some (.cells (flz vs) 49 (0, 0))
theorem Zrow.lt {w : World} {b : Nat} {vs : List Zr} (h : Zrow w b vs) : b < w.heap.size := (Array.getElem?_eq_some_iff.1 h).1
theorem Zrow.free {w : World} {b : Nat} {vs : List Zr} (h : Zrow w b vs) (i : Nat) : w.frozen? ⟨b, i, none⟩ = false := by
  have : w.heap[b]? = some (.cells (flz vs) 49 (0, 0)) := h
  simp [World.frozen?, this]
theorem Zrow.cells {w : World} {b : Nat} {vs : List Zr} (h : Zrow w b vs) {i : Nat} (hi : i < vs.length) : w.cell? ⟨b, i * 2, none⟩ = some (.bool (zat vs i).1) ∧ w.cell? ⟨b, i * 2 + 1, none⟩ = some (.slice (zat vs i).2.1 (zat vs i).2.2.1 (zat vs i).2.2.2) := by
  have : w.heap[b]? = some (.cells (flz vs) 49 (0, 0)) := h
  obtain ⟨h0, h1⟩ := flz_get vs i hi
  constructor <;> simp [World.cell?, this, h0, h1]
theorem Zrow.below {w w' : World} {b K : Nat} {vs : List Zr} (h : Zrow w b vs) (hb : Below K w w') (hK : b < K) : Zrow w' b vs := (hb.block b hK).trans h
theorem Zrow.other {w : World} {b g : Nat} {vs : List Zr} (h : Zrow w b vs) (hne : b ≠ g) (i : Nat) (u : Value) : Zrow (w.setCell ⟨g, i, none⟩ u) b vs := by
  show (w.setCell ⟨g, i, none⟩ u).heap[b]? = _
  rw [Below.heap_setCell _ _ _ _ (by exact hne)]; exact h
theorem Zrow.put {w : World} {b : Nat} {vs : List Zr} (h : Zrow w b vs) {i : Nat} (hi : i < vs.length) (s : Bool) (p : Option Addr) (n c : Nat) : Zrow ((w.setCell ⟨b, i * 2, none⟩ (.bool s)).setCell ⟨b, i * 2 + 1, none⟩ (.slice p n c)) b (vs.set i (s, p, n, c)) := by
  have : w.heap[b]? = some (.cells (flz vs) 49 (0, 0)) := h
  show ((w.setCell ⟨b, i * 2, none⟩ (.bool s)).setCell ⟨b, i * 2 + 1, none⟩ (.slice p n c)).heap[b]? = _
  rw [← flz_set vs i hi (s, p, n, c)]
  simp only [World.setCell, Array.getElem?_modify, this]
  simp
theorem Zrow.noint {w : World} {b : Nat} {vs : List Zr} (h : Zrow w b vs) : NoInt w b := by
  intro cur T f e u hu
  have : w.heap[b]? = some (.cells (flz vs) 49 (0, 0)) := h
  rw [this] at e
  cases e
  obtain ⟨x, hx, hu⟩ := List.mem_flatten.1 (show u ∈ (vs.map zcs).flatten from hu)
  obtain ⟨r, _, rfl⟩ := List.mem_map.1 hx
  simp [zcs] at hu
  rcases hu with rfl | rfl
  · exact NI.bool _
  · exact NI.slc _ _ _
/-- What a walk needs to write one. -/
theorem Zrow.stores {w : World} {b : Nat} {vs : List Zr} (h : Zrow w b vs) {i : Nat} (hi : i < vs.length) :
    w.cell? ⟨b, i * 2, none⟩ = some (.bool (zat vs i).1) ∧ w.frozen? ⟨b, i * 2, none⟩ = false ∧ (∀ x, (w.setCell ⟨b, i * 2, none⟩ (.bool x)).cell? ⟨b, i * 2 + 1, none⟩ = some (.slice (zat vs i).2.1 (zat vs i).2.2.1 (zat vs i).2.2.2)) ∧ (∀ x, (w.setCell ⟨b, i * 2, none⟩ (.bool x)).frozen? ⟨b, i * 2 + 1, none⟩ = false) := by
  have hw : w.heap[b]? = some (.cells (flz vs) 49 (0, 0)) := h
  obtain ⟨h0, h1⟩ := flz_get vs i hi
  refine ⟨(h.cells hi).1, h.free _, fun x => ?_, fun x => ?_⟩
  · have : (w.setCell ⟨b, i * 2, none⟩ (.bool x)).heap[b]? = some (.cells ((flz vs).setIfInBounds (i * 2) (.bool x)) 49 (0, 0)) := by
      simp only [World.setCell, Array.getElem?_modify, hw]; simp
    simp [World.cell?, this, Array.getElem?_setIfInBounds, h1]
  · have : (w.setCell ⟨b, i * 2, none⟩ (.bool x)).heap[b]? = some (.cells ((flz vs).setIfInBounds (i * 2) (.bool x)) 49 (0, 0)) := by
      simp only [World.setCell, Array.getElem?_modify, hw]; simp
    simp [World.frozen?, this]
theorem Whl.grown {w w' : World} {v : Value} {z : Int} {k g : Nat} (h : Whl w v z k) (hn : NoInt w g) (hg : w.grownBy w' (some g)) : Whl w' v z k := by
  obtain ⟨s, sv, xs, h1, h2, h3⟩ := h
  exact ⟨s, sv, xs, h1, h2.grown hn hg, h3⟩
theorem grown_set2 {w : World} {b : Nat} (i : Nat) (j : Nat) (a c : Value) : w.grownBy ((w.setCell ⟨b, i, none⟩ a).setCell ⟨b, j, none⟩ c) (some b) :=
  ⟨rfl, rfl, rfl, by simp [World.setCell], fun k _ hk => by
    rw [Below.heap_setCell _ _ _ _ (by intro e; exact hk (congrArg some e)), Below.heap_setCell _ _ _ _ (by intro e; exact hk (congrArg some e))]⟩

theorem infoZ : (Try.prog.info? 49).map (fun i => (i.zero, i.size, i.bytes)) = some (some (.agg #[.bool false, .slice none 0 0]), 2, 32) := by kernel_rfl
theorem made_flz (n : Nat) : madeCells (Value.agg #[.bool false, .slice none 0 0]).cells (n * 2) = flz (List.replicate n (false, none, 0, 0)) := by
  have hc : (Value.agg #[.bool false, .slice none 0 0]).cells = #[.bool false, .slice none 0 0] := by simp [Value.cells]
  rw [hc]
  apply Array.ext_getElem?
  intro k
  by_cases hk : k < n * 2
  · have hd := Nat.div_add_mod k 2
    have hm := Nat.mod_lt k (show 0 < 2 by omega)
    obtain ⟨g0, g1⟩ := flz_get (List.replicate n (false, none, 0, 0)) (k / 2) (by simp; omega)
    have hz : zat (List.replicate n (false, none, 0, 0)) (k / 2) = (false, none, 0, 0) := by
      unfold zat
      rw [List.getElem?_replicate]
      split <;> rfl
    rw [hz] at g0 g1
    have hl : (madeCells #[Value.bool false, .slice none 0 0] (n * 2))[k]? = some (#[Value.bool false, .slice none 0 0][k % 2]!) := by simp [madeCells, hk]
    rw [hl]
    rcases (show k % 2 = 0 ∨ k % 2 = 1 by omega) with h | h
    · rw [show k / 2 * 2 = k by omega] at g0
      rw [g0, h]; rfl
    · rw [show k / 2 * 2 + 1 = k by omega] at g1
      rw [g1, h]; rfl
  · rw [Array.getElem?_eq_none (by simp [madeCells]; omega), Array.getElem?_eq_none]
    simp only [flz, List.size_toArray]
    rw [flat_len 2 _ (zcs_len _)]
    simp
    omega
/-- 'make([]Integer, n)'. -/
theorem wpList_make_zs (w : World) {ops : Array Oper} {rest : List Oper} {o : Oper} {a : Act} {Q : Exit → Act → World → Prop}
    (hg : o.guard = none) (l c : Operand) (t : TypeId) (hop : o.op = Op.makeSlice t l c) (h1 : Try.prog.underlying t = some (.slice 49))
    (n : Nat) (hl : a.eval l = .int .i64 n) (hc : a.eval c = .int .i64 n) (hb : n ≤ 4398046511104)
    (hK : ∀ w', Zrow w' w.heap.size (List.replicate n (false, none, 0, 0)) → Below w.heap.size w w' → w'.heap.size = w.heap.size + 1 → wpList Try.prog ops Q rest (a.put o.dst (.slice (some ⟨w.heap.size, 0, none⟩) n n)) w') :
    wpList Try.prog ops Q (o :: rest) a w := by
  obtain ⟨i, hi, hz0, hz1, hz2⟩ := info_parts infoZ
  refine wpList_plain hg fun K hK' => ?_
  have hr := run_make (P := Try.prog) w t _ i _ h1 hi hz0 .i64 .i64 (n : Int) (n : Int) (by omega) (by omega) (by rw [hz2]; omega) (by omega)
  simp only [Int.toNat_natCast] at hr
  unfold Oper.wp
  simp [execOp, hop, hl, hc, hr, Result.andThen]
  rw [hz1, made_flz]
  exact hK' _ _ (hK _ (by show (w.heap.push _)[w.heap.size]? = _; simp) ((Below.refl _ _).alloc (Nat.le_refl _) _) (by simp))

end Go.Proofs.Ythaidmngikkepaa
