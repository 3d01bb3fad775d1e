import Derived.Test.YtkdeopikojgboaaGreatDoorBunProofIvalTells12
import Derived.Test.YtkdeopikojgboaaGreatDoorBunProofIvalTells1
import Derived.Test.YtkdeopikojgboaaGreatDoorBunProofIvalTells11
import Derived.Test.YtkdeopikojgboaaGreatDoorBunProofIvalTells14
/-
  PACKAGE whole: TEXTS OF INTEGERS; EACH FUNCTION AT WHATEVER TEXTS.
-/

namespace Go.Proofs.YtkdeopikojgboaaGreatDoor
open Go.RowKit
open Num
set_option linter.unusedVariables false
set_option maxRecDepth 100000
set_option linter.unusedSimpArgs false

theorem ztxt_list (z : Int) : (ztxt z).data.toList = if z < 0 then 45 :: dtext z.natAbs else dtext z.natAbs := by
  unfold ztxt
  split
  · rw [ByteArray.data_append, Array.toList_append, txt_list]; rfl
  · exact txt_list _
theorem head_dig {l : List UInt8} (h : l.all isDig = true) : (l.head? == some 45) = false := by
  cases l with
  | nil => rfl
  | cons a l =>
    rw [List.all_cons, Bool.and_eq_true] at h
    simp only [List.head?_cons, beq_eq_false_iff_ne]
    intro e
    simp only [Option.some.injEq] at e
    rw [e] at h
    exact absurd h.1 (by decide)
theorem isWhl_ztxt (z : Int) : isWhl (ztxt z).data.toList = true := by
  rw [ztxt_list]
  split
  · simp only [isWhl, List.head?_cons, List.tail_cons, isNat_dtext, dval_dtext]
    simp; omega
  · rw [isWhl, head_dig (dtext_all _)]
    exact isNat_dtext _
theorem znum_ztxt (z : Int) : znum (ztxt z) = z := by
  unfold znum
  rw [ztxt_list]
  split
  · simp only [whlOf, List.head?_cons, List.tail_cons, dval_dtext]
    simp; omega
  · rw [whlOf, head_dig (dtext_all _), dval_dtext]
    simp; omega
theorem ztxt_inj {a b : Int} (h : ztxt a = ztxt b) : a = b := by
  have := congrArg znum h
  rwa [znum_ztxt, znum_ztxt] at this
theorem ztxt_znum {s : ByteArray} (h : isWhl s.data.toList = true) : ztxt (znum s) = s := by
  have hl : (ztxt (znum s)).data.toList = s.data.toList := by
    rw [ztxt_list]
    unfold znum
    cases hb : (s.data.toList.head? == some 45)
    · have h2 : isNat s.data.toList = true := by rw [isWhl, hb] at h; simpa using h
      have h3 : whlOf s.data.toList = (dval s.data.toList : Int) := by rw [whlOf, hb]; rfl
      rw [h3, if_neg (by omega)]
      simpa using dtext_dval h2
    · have h2 : isNat s.data.toList.tail = true ∧ dval s.data.toList.tail ≠ 0 := by rw [isWhl, hb] at h; simpa using h
      have h3 : whlOf s.data.toList = -(dval s.data.toList.tail : Int) := by rw [whlOf, hb]; rfl
      rw [h3, if_pos (by omega)]
      have h4 := dtext_dval h2.1
      cases hd : s.data.toList with
      | nil => rw [hd] at hb; simp at hb
      | cons a l =>
        rw [hd] at hb h4
        simp only [List.head?_cons, Option.some_beq_some, beq_iff_eq] at hb
        subst hb
        simpa using h4
  generalize ztxt (znum s) = t at hl
  obtain ⟨⟨l⟩⟩ := t
  obtain ⟨⟨m⟩⟩ := s
  simp only at hl
  rw [hl]
theorem ztxt_good {s : ByteArray} (h : GoodZ s) : ztxt (znum s) = s := ztxt_znum h.2
theorem ztxt_zero : ztxt 0 = ⟨#[48]⟩ := by
  show ztxt 0 = _
  unfold ztxt
  rw [if_neg (by omega)]
  show txt 0 = _
  rw [txt, dtext_small (by omega)]; rfl
theorem size_ztxt (z : Int) : (ztxt z).size = (if z < 0 then 1 else 0) + (dtext z.natAbs).length := by
  show (ztxt z).data.toList.length = _
  rw [ztxt_list]
  split <;> simp <;> omega
theorem size_ztxt_le {z : Int} {k : Nat} (h : z.natAbs < 10 ^ k) (hk : 0 < k) : (ztxt z).size ≤ k + 1 := by
  rw [size_ztxt]
  have := length_dtext_le h hk
  split <;> omega
theorem goodZ_ztxt {z : Int} (h : z.natAbs < 10 ^ 99) : GoodZ (ztxt z) := ⟨by have := size_ztxt_le h (by omega); omega, isWhl_ztxt z⟩
theorem goodZ_ztxt0 {z : Int} (h0 : 0 ≤ z) (h : z.natAbs < 10 ^ 100) : GoodZ (ztxt z) := by
  refine ⟨?_, isWhl_ztxt z⟩
  rw [size_ztxt, if_neg (by omega)]
  have := length_dtext_le h (by omega)
  omega
theorem dval_lt' {l : List UInt8} (h : isNat l = true) : dval l < 10 ^ l.length := dval_lt (isNat_all h)
theorem znum_lt {s : ByteArray} (h : GoodZ s) : (znum s).natAbs < 10 ^ 100 := by
  obtain ⟨h1, h2⟩ := h
  have hl : s.data.toList.length = s.size := rfl
  unfold znum
  cases hb : (s.data.toList.head? == some 45)
  · have h3 : isNat s.data.toList = true := by rw [isWhl, hb] at h2; simpa using h2
    have h4 : whlOf s.data.toList = (dval s.data.toList : Int) := by rw [whlOf, hb]; rfl
    rw [h4]
    exact Nat.lt_of_lt_of_le (by simpa using dval_lt' h3) (Nat.pow_le_pow_right (by omega) (by omega))
  · have h3 : isNat s.data.toList.tail = true := by rw [isWhl, hb] at h2; simp at h2; exact h2.1
    have h4 : whlOf s.data.toList = -(dval s.data.toList.tail : Int) := by rw [whlOf, hb]; rfl
    rw [h4]
    refine Nat.lt_of_lt_of_le (by simpa using dval_lt' h3) (Nat.pow_le_pow_right (by omega) ?_)
    simp; omega

theorem BadZ.ne {s : ByteArray} {k : Int} (h : BadZ s k) : k ≠ 0 := by
  rcases h with ⟨_, rfl⟩ | ⟨_, _, rfl⟩ <;> decide
theorem WrongZ.ne {a b : ByteArray} {k : Int} (h : WrongZ a b k) : k ≠ 0 := by
  rcases h with h | ⟨_, h⟩ <;> exact h.ne
theorem BadZ.not {s : ByteArray} {k : Int} (h : BadZ s k) : ¬ GoodZ s := by
  rintro ⟨h1, h2⟩
  rcases h with ⟨h, _⟩ | ⟨_, h, _⟩
  · omega
  · rw [h] at h2; cases h2
theorem WrongZ.not {a b : ByteArray} {k : Int} (h : WrongZ a b k) : ¬ (GoodZ a ∧ GoodZ b) := by
  rintro ⟨h1, h2⟩
  rcases h with h | ⟨_, h⟩
  · exact h.not h1
  · exact h.not h2

/-- What a function of two integers tells: the text of f, or nothing and an error. -/
def ZTells (f : Int → Int → Int) (a b s : ByteArray) (k : Int) : Prop :=
  (k = 0 ∧ GoodZ a ∧ GoodZ b ∧ s = ztxt (f (znum a) (znum b))) ∨ (k ≠ 0 ∧ WrongZ a b k ∧ s = ⟨#[]⟩)
theorem ZTells.yes {f : Int → Int → Int} {a b s : ByteArray} {k : Int} (h : ZTells f a b s k) (hk : k = 0) : GoodZ a ∧ GoodZ b ∧ s = ztxt (f (znum a) (znum b)) := by
  rcases h with ⟨_, h⟩ | ⟨h, _⟩
  · exact h
  · exact absurd hk h
theorem ZTells.zero {f : Int → Int → Int} {a b s : ByteArray} {k : Int} (h : ZTells f a b s k) (ha : GoodZ a) (hb : GoodZ b) : k = 0 := by
  rcases h with ⟨h, _⟩ | ⟨_, h, _⟩
  · exact h
  · exact absurd ⟨ha, hb⟩ h.not
theorem ZTells.no {f : Int → Int → Int} {a b s : ByteArray} {k : Int} (h : ZTells f a b s k) (hk : k ≠ 0) : WrongZ a b k ∧ s = ⟨#[]⟩ := by
  rcases h with ⟨h, _⟩ | ⟨_, h⟩
  · exact absurd h hk
  · exact h

theorem size_ztxt_max {z : Int} (h : z.natAbs < 10 ^ 200) : (ztxt z).size ≤ maxLen := by
  have := size_ztxt_le h (by omega)
  unfold maxLen; omega

/-- What a division tells. -/
def ZDivs (a b q r : ByteArray) (k : Int) : Prop :=
  (k = 0 ∧ GoodZ a ∧ GoodZ b ∧ znum b ≠ 0 ∧ q = ztxt (znum a / znum b) ∧ r = ztxt (znum a % znum b)) ∨
  (k ≠ 0 ∧ q = ⟨#[]⟩ ∧ r = ⟨#[]⟩ ∧ (WrongZ a b k ∨ (GoodZ a ∧ GoodZ b ∧ znum b = 0 ∧ k = 5)))
theorem ZDivs.yes {a b q r : ByteArray} {k : Int} (h : ZDivs a b q r k) (hk : k = 0) : GoodZ a ∧ GoodZ b ∧ znum b ≠ 0 ∧ q = ztxt (znum a / znum b) ∧ r = ztxt (znum a % znum b) := by
  rcases h with ⟨_, h⟩ | ⟨h, _⟩
  · exact h
  · exact absurd hk h
theorem ZDivs.zero {a b q r : ByteArray} {k : Int} (h : ZDivs a b q r k) (ha : GoodZ a) (hb : GoodZ b) (h0 : znum b ≠ 0) : k = 0 := by
  rcases h with ⟨h, _⟩ | ⟨_, _, _, h | ⟨_, _, h, _⟩⟩
  · exact h
  · exact absurd ⟨ha, hb⟩ h.not
  · exact absurd h h0

/-- What Gcd tells. -/
def ZGcds (a b g x y : ByteArray) (k : Int) : Prop :=
  (k = 0 ∧ GoodZ a ∧ GoodZ b ∧ g = ztxt (zg (znum a) (znum b)).1 ∧ x = ztxt (zg (znum a) (znum b)).2.1 ∧ y = ztxt (zg (znum a) (znum b)).2.2) ∨
  (k ≠ 0 ∧ WrongZ a b k ∧ g = ⟨#[]⟩ ∧ x = ⟨#[]⟩ ∧ y = ⟨#[]⟩)
theorem ZGcds.yes {a b g x y : ByteArray} {k : Int} (h : ZGcds a b g x y k) (hk : k = 0) : GoodZ a ∧ GoodZ b ∧ g = ztxt (zg (znum a) (znum b)).1 ∧ x = ztxt (zg (znum a) (znum b)).2.1 ∧ y = ztxt (zg (znum a) (znum b)).2.2 := by
  rcases h with ⟨_, h⟩ | ⟨h, _⟩
  · exact h
  · exact absurd hk h
theorem ZGcds.zero {a b g x y : ByteArray} {k : Int} (h : ZGcds a b g x y k) (ha : GoodZ a) (hb : GoodZ b) : k = 0 := by
  rcases h with ⟨h, _⟩ | ⟨_, h, _⟩
  · exact h
  · exact absurd ⟨ha, hb⟩ h.not

theorem zg_bounds (a b : Int) : (zg a b).1.natAbs ≤ max a.natAbs b.natAbs ∧ (zg a b).2.1.natAbs ≤ max b.natAbs 1 ∧ (zg a b).2.2.natAbs ≤ max a.natAbs 1 := by
  by_cases h : b = 0
  · subst h
    rw [zg_zero]
    have : a.sign.natAbs ≤ 1 := by rw [Int.natAbs_sign]; split <;> omega
    refine ⟨?_, ?_, ?_⟩ <;> simp <;> omega
  · have h1 := zg_small a b h
    refine ⟨?_, by omega, h1.2⟩
    rw [zg_gcd]
    have : Int.gcd a b ≤ b.natAbs := Nat.le_of_dvd (by omega) (Nat.gcd_dvd_right _ _)
    simp; omega

theorem good_minus : GoodZ ⟨#[45, 49]⟩ := ⟨by decide, by decide⟩
theorem znum_minus : znum ⟨#[45, 49]⟩ = -1 := by decide

end Go.Proofs.YtkdeopikojgboaaGreatDoor

/-
  THE REFERENCE's Z: SmallZ, DivZ, WholeOf, GcdZ.
-/
namespace Go.Proofs.YtkdeopikojgboaaGreatDoor
open Go.RowKit
open Num4
open Num (dg)
set_option linter.unusedVariables false
set_option maxRecDepth 100000
set_option linter.unusedSimpArgs false

/-- Two boxes side by side, both written. -/
theorem BoxR.last2 {w0 w : World} {g K : Nat} {s s' : Bool} {sv sv' : Value} (h : BoxR w g s sv) (h' : BoxR w (g + 1) s' sv') (hb : Below K w0 w) (hg : K ≤ g) (a a' : Bool) (p p' : Option Addr) (n n' c c' : Nat) :
    BoxR ((((w.setCell ⟨g, 0, none⟩ (.bool a)).setCell ⟨g, 1, none⟩ (.slice p n c)).setCell ⟨g + 1, 0, none⟩ (.bool a')).setCell ⟨g + 1, 1, none⟩ (.slice p' n' c')) g a (.slice p n c) ∧ BoxR ((((w.setCell ⟨g, 0, none⟩ (.bool a)).setCell ⟨g, 1, none⟩ (.slice p n c)).setCell ⟨g + 1, 0, none⟩ (.bool a')).setCell ⟨g + 1, 1, none⟩ (.slice p' n' c')) (g + 1) a' (.slice p' n' c') ∧ Below K w0 ((((w.setCell ⟨g, 0, none⟩ (.bool a)).setCell ⟨g, 1, none⟩ (.slice p n c)).setCell ⟨g + 1, 0, none⟩ (.bool a')).setCell ⟨g + 1, 1, none⟩ (.slice p' n' c')) ∧ (∀ {v z k}, WhlR w v z k → WhlR ((((w.setCell ⟨g, 0, none⟩ (.bool a)).setCell ⟨g, 1, none⟩ (.slice p n c)).setCell ⟨g + 1, 0, none⟩ (.bool a')).setCell ⟨g + 1, 1, none⟩ (.slice p' n' c')) v z k) := by
  obtain ⟨r1, r2, r3⟩ := h.last hb hg a p n c
  have k1 := (h'.other (g2 := g) (by omega) 0 (.bool a)).other (g2 := g) (by omega) 1 (.slice p n c)
  obtain ⟨q1, q2, q3⟩ := k1.last r2 (Nat.le_succ_of_le hg) a' p' n' c'
  exact ⟨(r1.other (by omega) _ _).other (by omega) _ _, q1, q2, fun hv => q3 (r3 hv)⟩
/-- What a walk needs to write two boxes side by side. -/
theorem BoxR.stores2 {w : World} {g : Nat} {s s' : Bool} {sv sv' : Value} (h : BoxR w g s sv) (h' : BoxR w (g + 1) s' sv') :
    (w.cell? ⟨g, 0, none⟩ = some (.bool s) ∧ w.frozen? ⟨g, 0, none⟩ = false ∧ (∀ x, (w.setCell ⟨g, 0, none⟩ (.bool x)).cell? ⟨g, 1, none⟩ = some sv) ∧ (∀ x, (w.setCell ⟨g, 0, none⟩ (.bool x)).frozen? ⟨g, 1, none⟩ = false)) ∧
    (∀ a b, ((w.setCell ⟨g, 0, none⟩ a).setCell ⟨g, 1, none⟩ b).cell? ⟨g + 1, 0, none⟩ = some (.bool s')) ∧ (∀ a b, ((w.setCell ⟨g, 0, none⟩ a).setCell ⟨g, 1, none⟩ b).frozen? ⟨g + 1, 0, none⟩ = false) ∧
    (∀ a b x, (((w.setCell ⟨g, 0, none⟩ a).setCell ⟨g, 1, none⟩ b).setCell ⟨g + 1, 0, none⟩ (.bool x)).cell? ⟨g + 1, 1, none⟩ = some sv') ∧ (∀ a b x, (((w.setCell ⟨g, 0, none⟩ a).setCell ⟨g, 1, none⟩ b).setCell ⟨g + 1, 0, none⟩ (.bool x)).frozen? ⟨g + 1, 1, none⟩ = false) := by
  have k1 := fun a b => (h'.other (g2 := g) (by omega) 0 a).other (g2 := g) (by omega) 1 b
  exact ⟨h.stores, fun a b => (k1 a b).cell0, fun a b => (k1 a b).free 0, fun a b x => ((k1 a b).set0 x).cell1, fun a b x => ((k1 a b).set0 x).free 1⟩


theorem res_cell_tmpR {fn : Func} {t t' : Tmp} {tmps : Array Value} {w : World} {g : Nat} {s : Bool} {sv u : Value} (hf : fn.results = #[.cell t 28, .tmp t']) (ht : tmps.getD t undef = .pointer (some ⟨g, 0, none⟩)) (hu : tmps.getD t' undef = u) (h2 : BoxR w g s sv) :
    (results fn tmps).run Tryz.prog w = .ok (.tuple #[.agg #[.bool s, sv], u]) w := by
  have h1 := at_addr (P := Tryz.prog) (w := w) ht
  have h3 := load_whlR h2
  simp only [Array.getD_eq_getD_getElem?] at h1 hu
  simp [results, hf, Sem.run_bind, h1, h3, hu]


/-- Three boxes. -/
def TrioR (w : World) (g h k : Nat) : Prop := (∃ s v, BoxR w g s v) ∧ (∃ s v, BoxR w h s v) ∧ (∃ s v, BoxR w k s v) ∧ g ≠ h ∧ g ≠ k ∧ h ≠ k
theorem TrioR.below {w w' : World} {g h k : Nat} (ht : TrioR w g h k) (hb : Below w.heap.size w w') : TrioR w' g h k := by
  obtain ⟨⟨s, v, h0⟩, ⟨s1, v1, h1⟩, ⟨s2, v2, h2⟩, hn⟩ := ht
  exact ⟨⟨_, _, h0.below hb h0.lt⟩, ⟨_, _, h1.below hb h1.lt⟩, ⟨_, _, h2.below hb h2.lt⟩, hn⟩
theorem TrioR.lt {w : World} {g h k : Nat} (ht : TrioR w g h k) : g < w.heap.size ∧ h < w.heap.size ∧ k < w.heap.size := by
  obtain ⟨⟨s, v, h0⟩, ⟨s1, v1, h1⟩, ⟨s2, v2, h2⟩, hn⟩ := ht
  exact ⟨h0.lt, h1.lt, h2.lt⟩
/-- What a walk needs to write all three. -/
theorem TrioR.stores {w : World} {g h k : Nat} (ht : TrioR w g h k) : ∃ u0 u1 u2 u3 u4 u5,
    ((w.cell? ⟨g, 0, none⟩ = some u0) ∧ (w.frozen? ⟨g, 0, none⟩ = false)) ∧
    ((∀ x, (w.setCell ⟨g, 0, none⟩ (.bool x)).cell? ⟨g, 1, none⟩ = some u1) ∧ (∀ x, (w.setCell ⟨g, 0, none⟩ (.bool x)).frozen? ⟨g, 1, none⟩ = false)) ∧
    ((∀ a b, ((w.setCell ⟨g, 0, none⟩ a).setCell ⟨g, 1, none⟩ b).cell? ⟨h, 0, none⟩ = some u2) ∧ (∀ a b, ((w.setCell ⟨g, 0, none⟩ a).setCell ⟨g, 1, none⟩ b).frozen? ⟨h, 0, none⟩ = false)) ∧
    ((∀ a b x, (((w.setCell ⟨g, 0, none⟩ a).setCell ⟨g, 1, none⟩ b).setCell ⟨h, 0, none⟩ (.bool x)).cell? ⟨h, 1, none⟩ = some u3) ∧ (∀ a b x, (((w.setCell ⟨g, 0, none⟩ a).setCell ⟨g, 1, none⟩ b).setCell ⟨h, 0, none⟩ (.bool x)).frozen? ⟨h, 1, none⟩ = false)) ∧
    ((∀ a b c d, ((((w.setCell ⟨g, 0, none⟩ a).setCell ⟨g, 1, none⟩ b).setCell ⟨h, 0, none⟩ c).setCell ⟨h, 1, none⟩ d).cell? ⟨k, 0, none⟩ = some u4) ∧ (∀ a b c d, ((((w.setCell ⟨g, 0, none⟩ a).setCell ⟨g, 1, none⟩ b).setCell ⟨h, 0, none⟩ c).setCell ⟨h, 1, none⟩ d).frozen? ⟨k, 0, none⟩ = false)) ∧
    ((∀ a b c d x, (((((w.setCell ⟨g, 0, none⟩ a).setCell ⟨g, 1, none⟩ b).setCell ⟨h, 0, none⟩ c).setCell ⟨h, 1, none⟩ d).setCell ⟨k, 0, none⟩ (.bool x)).cell? ⟨k, 1, none⟩ = some u5) ∧ (∀ a b c d x, (((((w.setCell ⟨g, 0, none⟩ a).setCell ⟨g, 1, none⟩ b).setCell ⟨h, 0, none⟩ c).setCell ⟨h, 1, none⟩ d).setCell ⟨k, 0, none⟩ (.bool x)).frozen? ⟨k, 1, none⟩ = false)) := by
  obtain ⟨⟨s, v, h0⟩, ⟨s1, v1, h1⟩, ⟨s2, v2, h2⟩, n1, n2, n3⟩ := ht
  have k1 := fun a b => (h1.other (g2 := g) (Ne.symm n1) 0 a).other (g2 := g) (Ne.symm n1) 1 b
  have k2 := fun a b c d => (((h2.other (g2 := g) (Ne.symm n2) 0 a).other (g2 := g) (Ne.symm n2) 1 b).other (g2 := h) (Ne.symm n3) 0 c).other (g2 := h) (Ne.symm n3) 1 d
  exact ⟨_, _, _, _, _, _, ⟨h0.cell0, h0.free 0⟩, ⟨fun x => (h0.set0 x).cell1, fun x => (h0.set0 x).free 1⟩, ⟨fun a b => (k1 a b).cell0, fun a b => (k1 a b).free 0⟩, ⟨fun a b x => ((k1 a b).set0 x).cell1, fun a b x => ((k1 a b).set0 x).free 1⟩,
    ⟨fun a b c d => (k2 a b c d).cell0, fun a b c d => (k2 a b c d).free 0⟩, ⟨fun a b c d x => ((k2 a b c d).set0 x).cell1, fun a b c d x => ((k2 a b c d).set0 x).free 1⟩⟩
/-- The stores of three results. -/
theorem TrioR.last {w0 w : World} {g h k K : Nat} (ht : TrioR w g h k) (hb : Below K w0 w) (hg : K ≤ g) (hh : K ≤ h) (hk : K ≤ k) (a0 a1 a2 : Bool) (p0 p1 p2 : Option Addr) (n0 n1 n2 c0 c1 c2 : Nat) :
    BoxR ((((((w.setCell ⟨g, 0, none⟩ (.bool a0)).setCell ⟨g, 1, none⟩ (.slice p0 n0 c0)).setCell ⟨h, 0, none⟩ (.bool a1)).setCell ⟨h, 1, none⟩ (.slice p1 n1 c1)).setCell ⟨k, 0, none⟩ (.bool a2)).setCell ⟨k, 1, none⟩ (.slice p2 n2 c2)) g a0 (.slice p0 n0 c0) ∧
    BoxR ((((((w.setCell ⟨g, 0, none⟩ (.bool a0)).setCell ⟨g, 1, none⟩ (.slice p0 n0 c0)).setCell ⟨h, 0, none⟩ (.bool a1)).setCell ⟨h, 1, none⟩ (.slice p1 n1 c1)).setCell ⟨k, 0, none⟩ (.bool a2)).setCell ⟨k, 1, none⟩ (.slice p2 n2 c2)) h a1 (.slice p1 n1 c1) ∧
    BoxR ((((((w.setCell ⟨g, 0, none⟩ (.bool a0)).setCell ⟨g, 1, none⟩ (.slice p0 n0 c0)).setCell ⟨h, 0, none⟩ (.bool a1)).setCell ⟨h, 1, none⟩ (.slice p1 n1 c1)).setCell ⟨k, 0, none⟩ (.bool a2)).setCell ⟨k, 1, none⟩ (.slice p2 n2 c2)) k a2 (.slice p2 n2 c2) ∧
    Below K w0 ((((((w.setCell ⟨g, 0, none⟩ (.bool a0)).setCell ⟨g, 1, none⟩ (.slice p0 n0 c0)).setCell ⟨h, 0, none⟩ (.bool a1)).setCell ⟨h, 1, none⟩ (.slice p1 n1 c1)).setCell ⟨k, 0, none⟩ (.bool a2)).setCell ⟨k, 1, none⟩ (.slice p2 n2 c2)) ∧
    (∀ {v z m}, WhlR w v z m → WhlR ((((((w.setCell ⟨g, 0, none⟩ (.bool a0)).setCell ⟨g, 1, none⟩ (.slice p0 n0 c0)).setCell ⟨h, 0, none⟩ (.bool a1)).setCell ⟨h, 1, none⟩ (.slice p1 n1 c1)).setCell ⟨k, 0, none⟩ (.bool a2)).setCell ⟨k, 1, none⟩ (.slice p2 n2 c2)) v z m) := by
  obtain ⟨⟨s, v, h0⟩, ⟨s1, v1, h1⟩, ⟨s2, v2, h2⟩, n1', n2', n3'⟩ := ht
  obtain ⟨r1, r2, r3⟩ := h0.last hb hg a0 p0 n0 c0
  have k1 := (h1.other (g2 := g) (Ne.symm n1') 0 (.bool a0)).other (g2 := g) (Ne.symm n1') 1 (.slice p0 n0 c0)
  have k2 := (((h2.other (g2 := g) (Ne.symm n2') 0 (.bool a0)).other (g2 := g) (Ne.symm n2') 1 (.slice p0 n0 c0)).other (g2 := h) (Ne.symm n3') 0 (.bool a1)).other (g2 := h) (Ne.symm n3') 1 (.slice p1 n1 c1)
  obtain ⟨q1, q2, q3⟩ := k1.last r2 hh a1 p1 n1 c1
  obtain ⟨t1, t2, t3⟩ := k2.last q2 hk a2 p2 n2 c2
  exact ⟨(((r1.other n1' _ _).other n1' _ _).other n2' _ _).other n2' _ _, (q1.other n3' _ _).other n3' _ _, t1, t2, fun hv => t3 (q3 (r3 hv))⟩

theorem BoxR.past {w : World} {x : Nat} {s : Bool} {sv : Value} (hx : BoxR w x s sv) (g h k : Nat) (n0 : x ≠ g) (n1 : x ≠ h) (n2 : x ≠ k) :
    (∀ a b, ((w.setCell ⟨g, 0, none⟩ a).setCell ⟨g, 1, none⟩ b).cell? ⟨x, 0, none⟩ = some (.bool s)) ∧
    (∀ a b, ((w.setCell ⟨g, 0, none⟩ a).setCell ⟨g, 1, none⟩ b).cell? ⟨x, 1, none⟩ = some sv) ∧
    (∀ a b c d, ((((w.setCell ⟨g, 0, none⟩ a).setCell ⟨g, 1, none⟩ b).setCell ⟨h, 0, none⟩ c).setCell ⟨h, 1, none⟩ d).cell? ⟨x, 0, none⟩ = some (.bool s)) ∧
    (∀ a b c d, ((((w.setCell ⟨g, 0, none⟩ a).setCell ⟨g, 1, none⟩ b).setCell ⟨h, 0, none⟩ c).setCell ⟨h, 1, none⟩ d).cell? ⟨x, 1, none⟩ = some sv) ∧
    (∀ a b c d e f, ((((((w.setCell ⟨g, 0, none⟩ a).setCell ⟨g, 1, none⟩ b).setCell ⟨h, 0, none⟩ c).setCell ⟨h, 1, none⟩ d).setCell ⟨k, 0, none⟩ e).setCell ⟨k, 1, none⟩ f).cell? ⟨x, 0, none⟩ = some (.bool s)) ∧
    (∀ a b c d e f, ((((((w.setCell ⟨g, 0, none⟩ a).setCell ⟨g, 1, none⟩ b).setCell ⟨h, 0, none⟩ c).setCell ⟨h, 1, none⟩ d).setCell ⟨k, 0, none⟩ e).setCell ⟨k, 1, none⟩ f).cell? ⟨x, 1, none⟩ = some sv) :=
  ⟨fun a b => ((hx.other (g2 := g) n0 0 a).other (g2 := g) n0 1 b).cell0,
    fun a b => ((hx.other (g2 := g) n0 0 a).other (g2 := g) n0 1 b).cell1,
    fun a b c d => ((((hx.other (g2 := g) n0 0 a).other (g2 := g) n0 1 b).other (g2 := h) n1 0 c).other (g2 := h) n1 1 d).cell0,
    fun a b c d => ((((hx.other (g2 := g) n0 0 a).other (g2 := g) n0 1 b).other (g2 := h) n1 0 c).other (g2 := h) n1 1 d).cell1,
    fun a b c d e f => ((((((hx.other (g2 := g) n0 0 a).other (g2 := g) n0 1 b).other (g2 := h) n1 0 c).other (g2 := h) n1 1 d).other (g2 := k) n2 0 e).other (g2 := k) n2 1 f).cell0,
    fun a b c d e f => ((((((hx.other (g2 := g) n0 0 a).other (g2 := g) n0 1 b).other (g2 := h) n1 0 c).other (g2 := h) n1 1 d).other (g2 := k) n2 0 e).other (g2 := k) n2 1 f).cell1⟩
theorem BoxR.past6 {w : World} {x : Nat} {s : Bool} {sv : Value} (hx : BoxR w x s sv) (g h k : Nat) (n0 : x ≠ g) (n1 : x ≠ h) (n2 : x ≠ k) (a b c d e f : Value) : BoxR ((((((w.setCell ⟨g, 0, none⟩ a).setCell ⟨g, 1, none⟩ b).setCell ⟨h, 0, none⟩ c).setCell ⟨h, 1, none⟩ d).setCell ⟨k, 0, none⟩ e).setCell ⟨k, 1, none⟩ f) x s sv := ((((((hx.other (g2 := g) n0 0 a).other (g2 := g) n0 1 b).other (g2 := h) n1 0 c).other (g2 := h) n1 1 d).other (g2 := k) n2 0 e).other (g2 := k) n2 1 f)
theorem res_twocells {fn : Func} {t t' : Tmp} {tmps : Array Value} {w : World} {g g' : Nat} {s s' : Bool} {sv sv' : Value} (hf : fn.results = #[.cell t 28, .cell t' 28]) (ht : tmps.getD t undef = .pointer (some ⟨g, 0, none⟩)) (ht' : tmps.getD t' undef = .pointer (some ⟨g', 0, none⟩)) (h2 : BoxR w g s sv) (h2' : BoxR w g' s' sv') :
    (results fn tmps).run Tryz.prog w = .ok (.tuple #[.agg #[.bool s, sv], .agg #[.bool s', sv']]) w := by
  have h1 := at_addr (P := Tryz.prog) (w := w) ht
  have h1' := at_addr (P := Tryz.prog) (w := w) ht'
  have h3 := load_whlR h2
  have h3' := load_whlR h2'
  simp only [Array.getD_eq_getD_getElem?] at h1 h1'
  simp [results, hf, Sem.run_bind, h1, h3, h1', h3']
theorem res_tmp_twocells {fn : Func} {t0 t t' : Tmp} {tmps : Array Value} {w : World} {g g' : Nat} {s s' : Bool} {u sv sv' : Value} (hf : fn.results = #[.tmp t0, .cell t 28, .cell t' 28]) (hu : tmps.getD t0 undef = u) (ht : tmps.getD t undef = .pointer (some ⟨g, 0, none⟩)) (ht' : tmps.getD t' undef = .pointer (some ⟨g', 0, none⟩)) (h2 : BoxR w g s sv) (h2' : BoxR w g' s' sv') :
    (results fn tmps).run Tryz.prog w = .ok (.tuple #[u, .agg #[.bool s, sv], .agg #[.bool s', sv']]) w := by
  have h1 := at_addr (P := Tryz.prog) (w := w) ht
  have h1' := at_addr (P := Tryz.prog) (w := w) ht'
  have h3 := load_whlR h2
  have h3' := load_whlR h2'
  simp only [Array.getD_eq_getD_getElem?] at h1 h1' hu
  simp [results, hf, Sem.run_bind, h1, h3, h1', h3', hu]

theorem limR_one {w w' : World} (hw : w' = w.alloc (.cells #[.int .i64 1] 3)) : LimR w' (.slice (some ⟨w.heap.size, 0, none⟩) 1 1) [1] := by
  have h := BlkR.new w [1]
  have h2 := h.lim (Fits.single (by decide)) 0 1 1 (by simp) (Nat.le_refl _) (by unfold maxLen; omega)
  rw [hw]
  exact h2

/-- The reference's division in the kit's words. -/
theorem rdiv_words {w : World} {v u : Value} {xs ys : List Nat} (h1 : LimR w v xs) (h2 : LimR w u ys) (b1 : xs.length ≤ 1099511627700) (b2 : ys.length ≤ 1099511627700) (ty : Trim ys) (hy : 0 < val ys) :
    Calls Tryz.prog 50 #[v, u] w fun e w' => ∃ v' u' qs zs, e = .returned (.tuple #[v', u']) ∧ LimR w' v' qs ∧ LimR w' u' zs ∧ Trim qs ∧ Trim zs ∧ val qs = val xs / val ys ∧ val zs = val xs % val ys ∧ Below w.heap.size w w' := by
  refine (rdiv_lim h1 h2 b1 b2 ty hy).mono ?_
  rintro e w' ⟨v', u', qs, zs, rfl, g1, g2, g3, g4, g5, g6, g7⟩
  have e1 : val xs / val ys = val qs := by
    rw [g5, Nat.mul_comm, Nat.mul_add_div hy, Nat.div_eq_of_lt g6]; omega
  have e2 : val xs % val ys = val zs := by
    rw [g5, Nat.mul_comm, Nat.mul_add_mod, Nat.mod_eq_of_lt g6]
  exact ⟨v', u', qs, zs, rfl, g1, g2, g3, g4, e1.symm, e2.symm, g7⟩

end Go.Proofs.YtkdeopikojgboaaGreatDoor

/-
  PACKAGE rat: String, Quotient.
-/
namespace Go.Proofs.YtkdeopikojgboaaGreatDoor
open Go.RowKit
open Num
set_option linter.unusedVariables false
set_option maxRecDepth 100000
set_option linter.unusedSimpArgs false

/-- The text of a fraction. -/
def qtxt (q : Rat) : ByteArray := if q.den = 1 then ztxt q.num else ztxt q.num ++ ⟨#[47]⟩ ++ ztxt q.den
theorem size_ztxt_k {z : Int} {k : Nat} (h : z.natAbs < B ^ k) : (ztxt z).size ≤ 10 * k + 2 := by
  refine size_ztxt_le (k := 10 * k + 1) (Nat.lt_of_lt_of_le h ?_) (by omega)
  refine Nat.le_trans (Nat.pow_le_pow_left (show B ≤ 10 ^ 10 by decide) _) ?_
  rw [← Nat.pow_mul]
  exact Nat.pow_le_pow_right (by omega) (by omega)
theorem den_ne (q : Rat) : (q.den : Int) ≠ 0 := by have := q.den_pos; omega
theorem add_parts (q r : Rat) : q + r = Rat.divInt (q.num * r.den + r.num * q.den) (q.den * r.den) := by
  have h := Rat.divInt_add_divInt q.num r.num (den_ne q) (den_ne r)
  rwa [Rat.num_divInt_den, Rat.num_divInt_den] at h
theorem mul_parts (q r : Rat) : q * r = Rat.divInt (q.num * r.num) (q.den * r.den) := by
  have h := Rat.divInt_mul_divInt q.num r.num (d₁ := q.den) (d₂ := r.den)
  rwa [Rat.num_divInt_den, Rat.num_divInt_den] at h
theorem div_parts (q r : Rat) : q / r = Rat.divInt (q.num * r.den) (q.den * r.num) := by
  rw [Rat.div_def, Rat.inv_def]
  have h := Rat.divInt_mul_divInt q.num r.den (d₁ := q.den) (d₂ := r.num)
  rwa [Rat.num_divInt_den] at h

set_option maxHeartbeats 1000000 in
theorem qstring_one {w : World} {v : Value} {q : Rat} {k : Nat} (h : Rtl w v q k) (hk : k ≤ 4294967296) (hl : q.den = 1) :
    Calls Tryz.prog 63 #[v] w fun e w' => e = .returned (.string (qtxt q)) ∧ Below w.heap.size w w' := by
  obtain ⟨s1a, p1a, n1a, c1a, s1b, p1b, n1b, c1b, rfl⟩ := h.opened
  obtain ⟨ht1, d1, hu1, hd1⟩ := h.two
  have HD1 := hid hd1
  have HK := hid hk
  have hs1 := size_ztxt_k ht1.lt
  have hs2 : (ztxt q.num).size ≤ 42949672962 := by omega
  have HL := hid hl
  have hd : decide (1 < d1) = false := by apply decide_eq_false; rcases hd1 with e | ⟨e, _⟩ <;> omega
  have B := hid (Below.refl w.heap.size w)
  have HT := hid ht1
  have HU := hid hu1
  have hb1 := (Below.refl _ _).alloc (Nat.le_refl w.heap.size) (.cells #[.bool s1a, .slice p1a n1a c1a, .bool s1b, .slice p1b n1b c1b] 60)
  have hx2 := Nbx.new w s1a s1b (.slice p1a n1a c1a) (.slice p1b n1b c1b)
  replace HT := wl HT hb1
  replace HU := wl HU hb1
  replace B := bb B hb1
  have XQ := hid hx2
  have hs3 : (w.alloc (.cells #[.bool s1a, .slice p1a n1a c1a, .bool s1b, .slice p1b n1b c1b] 60)).heap.size = w.heap.size + 1 := by simp
  clear hb1 hx2
  clear hs3 h ht1 hu1 hk hd1 hs1 hl
  go_enter Tryz.func63, Tryz.ntmps63
  obtain ⟨cc4a, cc4b, cc4c, cc4d⟩ := XQ.out.cells
  go_wp2_with fail
  generalize hW : w.alloc (.cells #[.bool s1a, .slice p1a n1a c1a, .bool s1b, .slice p1b n1b c1b] 60) = W5 at *
  clear hW
  have HM := more_whl HU.out (by have := HK.out; omega)
  rw [hd] at HM
  refine (HM).mono ?_
  rintro e w6 ⟨rfl, hb⟩
  replace XQ := nx XQ hb
  replace HT := wl HT hb
  replace B := bb B hb
  clear cc4a cc4b cc4c cc4d
  clear hb 
  clear HM hd
  obtain ⟨cc7a, cc7b, cc7c, cc7d⟩ := XQ.out.cells
  go_wp2_with fail
  refine (string_whl HT.out (by have := HK.out; omega)).mono ?_
  rintro e w8 ⟨rfl, hb⟩
  replace B := bb B hb
  clear cc7a cc7b cc7c cc7d
  clear hb 
  go_wp2_with fail
  go_ret
  exact ⟨by rw [qtxt, if_pos HL.out]; rfl, B.out⟩

set_option maxHeartbeats 1000000 in
theorem qstring_two {w : World} {v : Value} {q : Rat} {k : Nat} (h : Rtl w v q k) (hk : k ≤ 4294967296) (hl : ¬ q.den = 1) :
    Calls Tryz.prog 63 #[v] w fun e w' => e = .returned (.string (qtxt q)) ∧ Below w.heap.size w w' := by
  obtain ⟨s1a, p1a, n1a, c1a, s1b, p1b, n1b, c1b, rfl⟩ := h.opened
  obtain ⟨ht1, d1, hu1, hd1⟩ := h.two
  have HD1 := hid hd1
  have HK := hid hk
  have hs1 := size_ztxt_k ht1.lt
  have hs2 : (ztxt q.num).size ≤ 42949672962 := by omega
  have HL := hid hl
  have hd : d1 = q.den := by rcases hd1 with e | ⟨_, e⟩; exact e; exact absurd e hl
  subst hd
  have hd : decide ((1 : Int) < q.den) = true := by apply decide_eq_true; have := q.den_pos; omega
  have hs3 := size_ztxt_k hu1.lt
  have hs4 : (ztxt (q.den : Int)).size ≤ 42949672962 := by omega
  have hs5 : (⟨#[47]⟩ : ByteArray).size = 1 := rfl
  have hs6 : (ztxt q.num ++ ⟨#[47]⟩).size ≤ 42949672963 := by rw [ByteArray.size_append]; omega
  have hj1 : ¬ 9223372036854775807 < (ztxt q.num).size + 1 := by omega
  have hj2 : ¬ 9223372036854775807 < (ztxt q.num).size + 1 + (ztxt (q.den : Int)).size := by omega
  clear hs2 hs3 hs4 hs5 hs6
  have B := hid (Below.refl w.heap.size w)
  have HT := hid ht1
  have HU := hid hu1
  have hb1 := (Below.refl _ _).alloc (Nat.le_refl w.heap.size) (.cells #[.bool s1a, .slice p1a n1a c1a, .bool s1b, .slice p1b n1b c1b] 60)
  have hx2 := Nbx.new w s1a s1b (.slice p1a n1a c1a) (.slice p1b n1b c1b)
  replace HT := wl HT hb1
  replace HU := wl HU hb1
  replace B := bb B hb1
  have XQ := hid hx2
  have hs3 : (w.alloc (.cells #[.bool s1a, .slice p1a n1a c1a, .bool s1b, .slice p1b n1b c1b] 60)).heap.size = w.heap.size + 1 := by simp
  clear hb1 hx2
  clear hs3 h ht1 hu1 hk hd1 hs1 hl HD1
  go_enter Tryz.func63, Tryz.ntmps63
  obtain ⟨cc4a, cc4b, cc4c, cc4d⟩ := XQ.out.cells
  go_wp2_with fail
  generalize hW : w.alloc (.cells #[.bool s1a, .slice p1a n1a c1a, .bool s1b, .slice p1b n1b c1b] 60) = W5 at *
  clear hW
  have HM := more_whl HU.out (by have := HK.out; omega)
  rw [hd] at HM
  refine (HM).mono ?_
  rintro e w6 ⟨rfl, hb⟩
  replace XQ := nx XQ hb
  replace HT := wl HT hb
  replace HU := wl HU hb
  replace B := bb B hb
  clear cc4a cc4b cc4c cc4d
  clear hb 
  clear HM hd
  obtain ⟨cc7a, cc7b, cc7c, cc7d⟩ := XQ.out.cells
  go_wp2_with fail
  obtain ⟨cc8a, cc8b, cc8c, cc8d⟩ := XQ.out.cells
  replace XQ := hid XQ.out.dr
  replace HT := hid HT.out.drew
  replace HU := hid HU.out.drew
  replace B := hid (Below.drew B.out)
  obtain ⟨cc9a, cc9b, cc9c, cc9d⟩ := XQ.out.cells
  go_region_held3 (fun w' => w'.cell? ⟨w.heap.size, 0, none⟩ = some (.bool s1a) ∧ w'.cell? ⟨w.heap.size, 1, none⟩ = some (.slice p1a n1a c1a) ∧ w'.cell? ⟨w.heap.size, 2, none⟩ = some (.bool s1b) ∧ w'.cell? ⟨w.heap.size, 3, none⟩ = some (.slice p1b n1b c1b)) (go_keep) (first
    | (have hm := mk10_0; clear hm; go_at_call 82; refine (string_whl HU.out (by have := HK.out; omega)).mono ?_; rintro e w13 ⟨rfl, hb⟩; replace XQ := nx XQ hb; replace B := bb B hb; clear cc12a cc12b cc12c cc12d; clear hb ; obtain ⟨cc14a, cc14b, cc14c, cc14d⟩ := XQ.out.cells; have mk10_1 := hid True.intro)
    | (go_at_call 82; refine (string_whl HT.out (by have := HK.out; omega)).mono ?_; rintro e w11 ⟨rfl, hb⟩; replace XQ := nx XQ hb; replace HU := wl HU hb; replace B := bb B hb; clear cc7a cc7b cc7c cc7d cc8a cc8b cc8c cc8d cc9a cc9b cc9c cc9d; clear hb ; obtain ⟨cc12a, cc12b, cc12c, cc12d⟩ := XQ.out.cells; have mk10_0 := hid True.intro))
  go_wp2_with fail
  go_ret
  exact ⟨by rw [qtxt, if_neg HL.out]; rfl, B.out⟩

theorem qstring {w : World} {v : Value} {q : Rat} {k : Nat} (h : Rtl w v q k) (hk : k ≤ 4294967296) :
    Calls Tryz.prog 63 #[v] w fun e w' => e = .returned (.string (qtxt q)) ∧ Below w.heap.size w w' := by
  by_cases hl : q.den = 1
  · exact qstring_one h hk hl
  · exact qstring_two h hk hl

set_option maxHeartbeats 1000000 in
theorem quot_zero {w : World} {v u : Value} {z y : Int} {k : Nat} (h : Whl w v z k) (h' : Whl w u y k) (hy : y = 0) (hk : k ≤ 549755813888) :
    Calls Tryz.prog 81 #[v, u] w fun e w' => e = .returned (.tuple #[.agg #[.bool false, .slice none 0 0, .bool false, .slice none 0 0], errno 5]) ∧ Below w.heap.size w w' := by
  obtain ⟨s1, p1, n1, c1, rfl⟩ := h.opened
  obtain ⟨s2, p2, n2, c2, rfl⟩ := h'.opened
  have HK := hid hk
  subst hy
  have YG : (0 : Int).sign = 0 := rfl
  have B := hid (Below.refl w.heap.size w)
  have HZ := hid h
  have HY := hid h'
  have hb1 := (Below.refl _ _).alloc (Nat.le_refl w.heap.size) (.cells #[.bool s1, .slice p1 n1 c1] 58)
  have hx2 := Box.new w s1 p1 n1 c1
  replace HZ := wl HZ hb1
  replace HY := wl HY hb1
  replace B := bb B hb1
  have X1 := hid hx2
  have hs3 : (w.alloc (.cells #[.bool s1, .slice p1 n1 c1] 58)).heap.size = w.heap.size + 1 := by simp
  clear hb1 hx2
  have hb4 := (Below.refl _ _).alloc (Nat.le_refl (w.alloc (.cells #[.bool s1, .slice p1 n1 c1] 58)).heap.size) (.cells #[.bool s2, .slice p2 n2 c2] 58)
  have hx5 := Box.new (w.alloc (.cells #[.bool s1, .slice p1 n1 c1] 58)) s2 p2 n2 c2
  rw [hs3] at hx5
  replace X1 := bx X1 hb4
  replace HZ := wl HZ hb4
  replace HY := wl HY hb4
  replace B := bb B hb4
  have X2 := hid hx5
  have hs6 : ((w.alloc (.cells #[.bool s1, .slice p1 n1 c1] 58)).alloc (.cells #[.bool s2, .slice p2 n2 c2] 58)).heap.size = w.heap.size + 1 + 1 := by simp [hs3]
  clear hb4 hx5
  have hb7 := (Below.refl _ _).alloc (Nat.le_refl ((w.alloc (.cells #[.bool s1, .slice p1 n1 c1] 58)).alloc (.cells #[.bool s2, .slice p2 n2 c2] 58)).heap.size) (.cells #[.bool false, .slice none 0 0, .bool false, .slice none 0 0] 60)
  have hx8 := Nbx.new ((w.alloc (.cells #[.bool s1, .slice p1 n1 c1] 58)).alloc (.cells #[.bool s2, .slice p2 n2 c2] 58)) false false (.slice none 0 0) (.slice none 0 0)
  rw [hs6] at hx8
  replace X1 := bx X1 hb7
  replace X2 := bx X2 hb7
  replace HZ := wl HZ hb7
  replace HY := wl HY hb7
  replace B := bb B hb7
  have XQ := hid hx8
  have hs9 : (((w.alloc (.cells #[.bool s1, .slice p1 n1 c1] 58)).alloc (.cells #[.bool s2, .slice p2 n2 c2] 58)).alloc (.cells #[.bool false, .slice none 0 0, .bool false, .slice none 0 0] 60)).heap.size = w.heap.size + 1 + 1 + 1 := by simp [hs6]
  clear hb7 hx8
  clear hs9 h h' hk
  go_enter Tryz.func81, Tryz.ntmps81
  obtain ⟨cc10a, cc10b⟩ := X1.out.both
  obtain ⟨cc11a, cc11b⟩ := X2.out.both
  obtain ⟨cc12a, cc12b, cc12c, cc12d⟩ := XQ.out.cells
  go_wp2_with fail
  generalize hW : ((w.alloc (.cells #[.bool s1, .slice p1 n1 c1] 58)).alloc (.cells #[.bool s2, .slice p2 n2 c2] 58)).alloc (.cells #[.bool false, .slice none 0 0, .bool false, .slice none 0 0] 60) = W13 at *
  clear hW
  have HS := sgn_whl HY.out
  rw [YG] at HS
  refine (HS).mono ?_
  rintro e w14 ⟨rfl, hb⟩
  replace X1 := bx X1 hb
  replace X2 := bx X2 hb
  replace XQ := nx XQ hb
  replace HZ := wl HZ hb
  replace HY := wl HY hb
  replace B := bb B hb
  clear cc10a cc10b cc11a cc11b cc12a cc12b cc12c cc12d
  clear hb 
  clear HS
  obtain ⟨cc15a, cc15b⟩ := X1.out.both
  obtain ⟨cc16a, cc16b⟩ := X2.out.both
  obtain ⟨cc17a, cc17b, cc17c, cc17d⟩ := XQ.out.cells
  obtain ⟨⟨cc18a, cc18b⟩, ⟨cc18c, cc18d⟩, ⟨cc18e, cc18f⟩, cc18g, cc18h⟩ := XQ.out.stores
  obtain ⟨r19a, r19b, r19c⟩ := XQ.out.last B.out (by omega) false false none none 0 0 0 0
  replace X1 := hid ((((X1.out.other (g2 := w.heap.size + 1 + 1) (by omega) 0 (.bool false)).other (g2 := w.heap.size + 1 + 1) (by omega) 1 (.slice none 0 0)).other (g2 := w.heap.size + 1 + 1) (by omega) 2 (.bool false)).other (g2 := w.heap.size + 1 + 1) (by omega) 3 (.slice none 0 0))
  replace X2 := hid ((((X2.out.other (g2 := w.heap.size + 1 + 1) (by omega) 0 (.bool false)).other (g2 := w.heap.size + 1 + 1) (by omega) 1 (.slice none 0 0)).other (g2 := w.heap.size + 1 + 1) (by omega) 2 (.bool false)).other (g2 := w.heap.size + 1 + 1) (by omega) 3 (.slice none 0 0))
  replace HZ := hid (r19c HZ.out)
  replace HY := hid (r19c HY.out)
  replace XQ := hid r19a
  replace B := hid r19b
  clear r19a r19b r19c
  go_wp2_with fail
  refine bodyPost_ret (res_num_tmp rfl rfl rfl XQ.out) rfl ?_
  exact ⟨rfl, B.out⟩

set_option maxHeartbeats 1000000 in
theorem quot_some {w : World} {v u : Value} {z y : Int} {k : Nat} (h : Whl w v z k) (h' : Whl w u y k) (hy : y ≠ 0) (hk : k ≤ 549755813888) :
    Calls Tryz.prog 81 #[v, u] w fun e w' => ∃ v, e = .returned (.tuple #[v, .nilIface]) ∧ Rtl w' v (Rat.divInt z y) k ∧ Below w.heap.size w w' := by
  obtain ⟨s1, p1, n1, c1, rfl⟩ := h.opened
  obtain ⟨s2, p2, n2, c2, rfl⟩ := h'.opened
  have HK := hid hk
  have HY0 := hid hy
  have B := hid (Below.refl w.heap.size w)
  have HZ := hid h
  have HY := hid h'
  have hb1 := (Below.refl _ _).alloc (Nat.le_refl w.heap.size) (.cells #[.bool s1, .slice p1 n1 c1] 58)
  have hx2 := Box.new w s1 p1 n1 c1
  replace HZ := wl HZ hb1
  replace HY := wl HY hb1
  replace B := bb B hb1
  have X1 := hid hx2
  have hs3 : (w.alloc (.cells #[.bool s1, .slice p1 n1 c1] 58)).heap.size = w.heap.size + 1 := by simp
  clear hb1 hx2
  have hb4 := (Below.refl _ _).alloc (Nat.le_refl (w.alloc (.cells #[.bool s1, .slice p1 n1 c1] 58)).heap.size) (.cells #[.bool s2, .slice p2 n2 c2] 58)
  have hx5 := Box.new (w.alloc (.cells #[.bool s1, .slice p1 n1 c1] 58)) s2 p2 n2 c2
  rw [hs3] at hx5
  replace X1 := bx X1 hb4
  replace HZ := wl HZ hb4
  replace HY := wl HY hb4
  replace B := bb B hb4
  have X2 := hid hx5
  have hs6 : ((w.alloc (.cells #[.bool s1, .slice p1 n1 c1] 58)).alloc (.cells #[.bool s2, .slice p2 n2 c2] 58)).heap.size = w.heap.size + 1 + 1 := by simp [hs3]
  clear hb4 hx5
  have hb7 := (Below.refl _ _).alloc (Nat.le_refl ((w.alloc (.cells #[.bool s1, .slice p1 n1 c1] 58)).alloc (.cells #[.bool s2, .slice p2 n2 c2] 58)).heap.size) (.cells #[.bool false, .slice none 0 0, .bool false, .slice none 0 0] 60)
  have hx8 := Nbx.new ((w.alloc (.cells #[.bool s1, .slice p1 n1 c1] 58)).alloc (.cells #[.bool s2, .slice p2 n2 c2] 58)) false false (.slice none 0 0) (.slice none 0 0)
  rw [hs6] at hx8
  replace X1 := bx X1 hb7
  replace X2 := bx X2 hb7
  replace HZ := wl HZ hb7
  replace HY := wl HY hb7
  replace B := bb B hb7
  have XQ := hid hx8
  have hs9 : (((w.alloc (.cells #[.bool s1, .slice p1 n1 c1] 58)).alloc (.cells #[.bool s2, .slice p2 n2 c2] 58)).alloc (.cells #[.bool false, .slice none 0 0, .bool false, .slice none 0 0] 60)).heap.size = w.heap.size + 1 + 1 + 1 := by simp [hs6]
  clear hb7 hx8
  clear hs9 h h' hk hy
  go_enter Tryz.func81, Tryz.ntmps81
  obtain ⟨cc10a, cc10b⟩ := X1.out.both
  obtain ⟨cc11a, cc11b⟩ := X2.out.both
  obtain ⟨cc12a, cc12b, cc12c, cc12d⟩ := XQ.out.cells
  go_wp2_with fail
  generalize hW : ((w.alloc (.cells #[.bool s1, .slice p1 n1 c1] 58)).alloc (.cells #[.bool s2, .slice p2 n2 c2] 58)).alloc (.cells #[.bool false, .slice none 0 0, .bool false, .slice none 0 0] 60) = W13 at *
  clear hW
  have HS := sgn_whl HY.out
  have hne : (y.sign == 0) = false := by rw [beq_eq_false_iff_ne]; intro e; exact HY0.out (Int.sign_eq_zero_iff_zero.1 e)
  refine (HS).mono ?_
  rintro e w14 ⟨rfl, hb⟩
  replace X1 := bx X1 hb
  replace X2 := bx X2 hb
  replace XQ := nx XQ hb
  replace HZ := wl HZ hb
  replace HY := wl HY hb
  replace B := bb B hb
  clear cc10a cc10b cc11a cc11b cc12a cc12b cc12c cc12d
  clear hb 
  clear HS
  obtain ⟨cc15a, cc15b⟩ := X1.out.both
  obtain ⟨cc16a, cc16b⟩ := X2.out.both
  obtain ⟨cc17a, cc17b, cc17c, cc17d⟩ := XQ.out.cells
  go_wp2_with fail
  refine (reduced_rtl HZ.out HY.out HY0.out HK.out).mono ?_
  rintro e w18 ⟨v, rfl, hv, hb⟩
  obtain ⟨s3a, p3a, n3a, c3a, s3b, p3b, n3b, c3b, rfl⟩ := hv.opened
  obtain ⟨ht3, d3, hu3, hd3⟩ := hv.two
  have HD3 := hid hd3
  replace X1 := bx X1 hb
  replace X2 := bx X2 hb
  replace XQ := nx XQ hb
  replace HZ := wl HZ hb
  replace HY := wl HY hb
  replace B := bb B hb
  clear cc15a cc15b cc16a cc16b cc17a cc17b cc17c cc17d
  have HT := hid ht3
  have HU := hid hu3
  clear hb hv ht3 hu3 hd3
  obtain ⟨cc19a, cc19b⟩ := X1.out.both
  obtain ⟨cc20a, cc20b⟩ := X2.out.both
  obtain ⟨cc21a, cc21b, cc21c, cc21d⟩ := XQ.out.cells
  obtain ⟨⟨cc22a, cc22b⟩, ⟨cc22c, cc22d⟩, ⟨cc22e, cc22f⟩, cc22g, cc22h⟩ := XQ.out.stores
  obtain ⟨r23a, r23b, r23c⟩ := XQ.out.last B.out (by omega) s3a s3b p3a p3b n3a n3b c3a c3b
  replace X1 := hid ((((X1.out.other (g2 := w.heap.size + 1 + 1) (by omega) 0 (.bool s3a)).other (g2 := w.heap.size + 1 + 1) (by omega) 1 (.slice p3a n3a c3a)).other (g2 := w.heap.size + 1 + 1) (by omega) 2 (.bool s3b)).other (g2 := w.heap.size + 1 + 1) (by omega) 3 (.slice p3b n3b c3b))
  replace X2 := hid ((((X2.out.other (g2 := w.heap.size + 1 + 1) (by omega) 0 (.bool s3a)).other (g2 := w.heap.size + 1 + 1) (by omega) 1 (.slice p3a n3a c3a)).other (g2 := w.heap.size + 1 + 1) (by omega) 2 (.bool s3b)).other (g2 := w.heap.size + 1 + 1) (by omega) 3 (.slice p3b n3b c3b))
  replace HZ := hid (r23c HZ.out)
  replace HY := hid (r23c HY.out)
  replace HT := hid (r23c HT.out)
  replace HU := hid (r23c HU.out)
  replace XQ := hid r23a
  replace B := hid r23b
  clear r23a r23b r23c
  go_wp2_with fail
  refine bodyPost_ret (res_num_tmp rfl rfl rfl XQ.out) rfl ?_
  exact ⟨_, rfl, Rtl.mk2 HT.out HU.out HD3.out, B.out⟩

end Go.Proofs.YtkdeopikojgboaaGreatDoor

/-
  PACKAGE rat: Add.
-/
namespace Go.Proofs.YtkdeopikojgboaaGreatDoor
open Go.RowKit
open Num
set_option linter.unusedVariables false
set_option maxRecDepth 100000
set_option linter.unusedSimpArgs false

set_option maxHeartbeats 4000000 in
theorem addq_rtl {w : World} {v u : Value} {q r : Rat} {k : Nat} (h : Rtl w v q k) (h' : Rtl w u r k) (hk1 : 1 ≤ k) (hk : k ≤ 68719476736) :
    Calls Tryz.prog 58 #[v, u] w fun e w' => ∃ v, e = .returned v ∧ Rtl w' v (q + r) (k + k + 1) ∧ Below w.heap.size w w' := by
  obtain ⟨s1a, p1a, n1a, c1a, s1b, p1b, n1b, c1b, rfl⟩ := h.opened
  obtain ⟨ht1, d1, hu1, hd1⟩ := h.two
  have HD1 := hid hd1
  obtain ⟨s2a, p2a, n2a, c2a, s2b, p2b, n2b, c2b, rfl⟩ := h'.opened
  obtain ⟨ht2, d2, hu2, hd2⟩ := h'.two
  have HD2 := hid hd2
  have HK := hid hk
  have HK1 := hid hk1
  have B := hid (Below.refl w.heap.size w)
  have HT1 := hid ht1
  have HU1 := hid hu1
  have HT2 := hid ht2
  have HU2 := hid hu2
  have hb1 := (Below.refl _ _).alloc (Nat.le_refl w.heap.size) (.cells #[.bool s1a, .slice p1a n1a c1a, .bool s1b, .slice p1b n1b c1b] 60)
  have hx2 := Nbx.new w s1a s1b (.slice p1a n1a c1a) (.slice p1b n1b c1b)
  replace HT1 := wl HT1 hb1
  replace HU1 := wl HU1 hb1
  replace HT2 := wl HT2 hb1
  replace HU2 := wl HU2 hb1
  replace B := bb B hb1
  have X1 := hid hx2
  have hs3 : (w.alloc (.cells #[.bool s1a, .slice p1a n1a c1a, .bool s1b, .slice p1b n1b c1b] 60)).heap.size = w.heap.size + 1 := by simp
  clear hb1 hx2
  have hb4 := (Below.refl _ _).alloc (Nat.le_refl (w.alloc (.cells #[.bool s1a, .slice p1a n1a c1a, .bool s1b, .slice p1b n1b c1b] 60)).heap.size) (.cells #[.bool s2a, .slice p2a n2a c2a, .bool s2b, .slice p2b n2b c2b] 60)
  have hx5 := Nbx.new (w.alloc (.cells #[.bool s1a, .slice p1a n1a c1a, .bool s1b, .slice p1b n1b c1b] 60)) s2a s2b (.slice p2a n2a c2a) (.slice p2b n2b c2b)
  rw [hs3] at hx5
  replace X1 := nx X1 hb4
  replace HT1 := wl HT1 hb4
  replace HU1 := wl HU1 hb4
  replace HT2 := wl HT2 hb4
  replace HU2 := wl HU2 hb4
  replace B := bb B hb4
  have X2 := hid hx5
  have hs6 : ((w.alloc (.cells #[.bool s1a, .slice p1a n1a c1a, .bool s1b, .slice p1b n1b c1b] 60)).alloc (.cells #[.bool s2a, .slice p2a n2a c2a, .bool s2b, .slice p2b n2b c2b] 60)).heap.size = w.heap.size + 1 + 1 := by simp [hs3]
  clear hb4 hx5
  have hb7 := (Below.refl _ _).alloc (Nat.le_refl ((w.alloc (.cells #[.bool s1a, .slice p1a n1a c1a, .bool s1b, .slice p1b n1b c1b] 60)).alloc (.cells #[.bool s2a, .slice p2a n2a c2a, .bool s2b, .slice p2b n2b c2b] 60)).heap.size) (.cells #[.bool false, .slice none 0 0, .bool false, .slice none 0 0] 60)
  have hx8 := Nbx.new ((w.alloc (.cells #[.bool s1a, .slice p1a n1a c1a, .bool s1b, .slice p1b n1b c1b] 60)).alloc (.cells #[.bool s2a, .slice p2a n2a c2a, .bool s2b, .slice p2b n2b c2b] 60)) false false (.slice none 0 0) (.slice none 0 0)
  rw [hs6] at hx8
  replace X1 := nx X1 hb7
  replace X2 := nx X2 hb7
  replace HT1 := wl HT1 hb7
  replace HU1 := wl HU1 hb7
  replace HT2 := wl HT2 hb7
  replace HU2 := wl HU2 hb7
  replace B := bb B hb7
  have XQ := hid hx8
  have hs9 : (((w.alloc (.cells #[.bool s1a, .slice p1a n1a c1a, .bool s1b, .slice p1b n1b c1b] 60)).alloc (.cells #[.bool s2a, .slice p2a n2a c2a, .bool s2b, .slice p2b n2b c2b] 60)).alloc (.cells #[.bool false, .slice none 0 0, .bool false, .slice none 0 0] 60)).heap.size = w.heap.size + 1 + 1 + 1 := by simp [hs6]
  clear hb7 hx8
  clear hs9 h h' ht1 hu1 ht2 hu2 hd1 hd2 hk hk1
  go_enter Tryz.func58, Tryz.ntmps58
  obtain ⟨cc10a, cc10b, cc10c, cc10d⟩ := X1.out.cells
  obtain ⟨cc11a, cc11b, cc11c, cc11d⟩ := X2.out.cells
  obtain ⟨cc12a, cc12b, cc12c, cc12d⟩ := XQ.out.cells
  go_wp2_with fail
  generalize hW : ((w.alloc (.cells #[.bool s1a, .slice p1a n1a c1a, .bool s1b, .slice p1b n1b c1b] 60)).alloc (.cells #[.bool s2a, .slice p2a n2a c2a, .bool s2b, .slice p2b n2b c2b] 60)).alloc (.cells #[.bool false, .slice none 0 0, .bool false, .slice none 0 0] 60) = W13 at *
  clear hW
  refine (parts_rtl (Rtl.mk2 HT1.out HU1.out HD1.out) HK1.out).mono ?_
  rintro e w14 ⟨v, u, rfl, hv, hu, hb⟩
  obtain ⟨s3, p3, n3, c3, rfl⟩ := hv.opened
  obtain ⟨s4, p4, n4, c4, rfl⟩ := hu.opened
  replace X2 := nx X2 hb
  replace XQ := nx XQ hb
  replace HT1 := wl HT1 hb
  replace HU1 := wl HU1 hb
  replace HT2 := wl HT2 hb
  replace HU2 := wl HU2 hb
  replace B := bb B hb
  clear cc10a cc10b cc10c cc10d cc11a cc11b cc11c cc11d cc12a cc12b cc12c cc12d
  have HA := hid hv
  have HB := hid hu
  clear hb hv hu
  have hb15 := (Below.refl _ _).alloc (Nat.le_refl w14.heap.size) (.cells #[.bool s3, .slice p3 n3 c3] 58)
  have hx16 := Box.new w14 s3 p3 n3 c3
  have L0 := hid XQ.out.lt
  replace X2 := nx X2 hb15
  replace XQ := nx XQ hb15
  replace HT1 := wl HT1 hb15
  replace HU1 := wl HU1 hb15
  replace HT2 := wl HT2 hb15
  replace HU2 := wl HU2 hb15
  replace HA := wl HA hb15
  replace HB := wl HB hb15
  replace B := bb B hb15
  have XA := hid hx16
  have hs17 : (w14.alloc (.cells #[.bool s3, .slice p3 n3 c3] 58)).heap.size = w14.heap.size + 1 := by simp
  clear hb15 hx16
  have hb18 := (Below.refl _ _).alloc (Nat.le_refl (w14.alloc (.cells #[.bool s3, .slice p3 n3 c3] 58)).heap.size) (.cells #[.bool s4, .slice p4 n4 c4] 58)
  have hx19 := Box.new (w14.alloc (.cells #[.bool s3, .slice p3 n3 c3] 58)) s4 p4 n4 c4
  rw [hs17] at hx19
  replace X2 := nx X2 hb18
  replace XQ := nx XQ hb18
  replace XA := bx XA hb18
  replace HT1 := wl HT1 hb18
  replace HU1 := wl HU1 hb18
  replace HT2 := wl HT2 hb18
  replace HU2 := wl HU2 hb18
  replace HA := wl HA hb18
  replace HB := wl HB hb18
  replace B := bb B hb18
  have XB := hid hx19
  have hs20 : ((w14.alloc (.cells #[.bool s3, .slice p3 n3 c3] 58)).alloc (.cells #[.bool s4, .slice p4 n4 c4] 58)).heap.size = w14.heap.size + 1 + 1 := by simp [hs17]
  clear hb18 hx19
  obtain ⟨cc21a, cc21b, cc21c, cc21d⟩ := X2.out.cells
  obtain ⟨cc22a, cc22b, cc22c, cc22d⟩ := XQ.out.cells
  obtain ⟨cc23a, cc23b⟩ := XA.out.both
  obtain ⟨cc24a, cc24b⟩ := XB.out.both
  go_wp2_with fail
  generalize hW : (w14.alloc (.cells #[.bool s3, .slice p3 n3 c3] 58)).alloc (.cells #[.bool s4, .slice p4 n4 c4] 58) = W25 at *
  clear hW
  refine (parts_rtl (Rtl.mk2 HT2.out HU2.out HD2.out) HK1.out).mono ?_
  rintro e w26 ⟨v, u, rfl, hv, hu, hb⟩
  obtain ⟨s5, p5, n5, c5, rfl⟩ := hv.opened
  obtain ⟨s6, p6, n6, c6, rfl⟩ := hu.opened
  replace XQ := nx XQ hb
  replace XA := bx XA hb
  replace XB := bx XB hb
  replace HT1 := wl HT1 hb
  replace HU1 := wl HU1 hb
  replace HT2 := wl HT2 hb
  replace HU2 := wl HU2 hb
  replace HA := wl HA hb
  replace HB := wl HB hb
  replace B := bb B hb
  clear cc21a cc21b cc21c cc21d cc22a cc22b cc22c cc22d cc23a cc23b cc24a cc24b
  have HC := hid hv
  have HE := hid hu
  clear hb hv hu
  have hb27 := (Below.refl _ _).alloc (Nat.le_refl w26.heap.size) (.cells #[.bool s5, .slice p5 n5 c5] 58)
  have hx28 := Box.new w26 s5 p5 n5 c5
  have L1 := hid XB.out.lt
  replace XQ := nx XQ hb27
  replace XA := bx XA hb27
  replace XB := bx XB hb27
  replace HT1 := wl HT1 hb27
  replace HU1 := wl HU1 hb27
  replace HT2 := wl HT2 hb27
  replace HU2 := wl HU2 hb27
  replace HA := wl HA hb27
  replace HB := wl HB hb27
  replace HC := wl HC hb27
  replace HE := wl HE hb27
  replace B := bb B hb27
  have XC := hid hx28
  have hs29 : (w26.alloc (.cells #[.bool s5, .slice p5 n5 c5] 58)).heap.size = w26.heap.size + 1 := by simp
  clear hb27 hx28
  have hb30 := (Below.refl _ _).alloc (Nat.le_refl (w26.alloc (.cells #[.bool s5, .slice p5 n5 c5] 58)).heap.size) (.cells #[.bool s6, .slice p6 n6 c6] 58)
  have hx31 := Box.new (w26.alloc (.cells #[.bool s5, .slice p5 n5 c5] 58)) s6 p6 n6 c6
  rw [hs29] at hx31
  replace XQ := nx XQ hb30
  replace XA := bx XA hb30
  replace XB := bx XB hb30
  replace XC := bx XC hb30
  replace HT1 := wl HT1 hb30
  replace HU1 := wl HU1 hb30
  replace HT2 := wl HT2 hb30
  replace HU2 := wl HU2 hb30
  replace HA := wl HA hb30
  replace HB := wl HB hb30
  replace HC := wl HC hb30
  replace HE := wl HE hb30
  replace B := bb B hb30
  have XD := hid hx31
  have hs32 : ((w26.alloc (.cells #[.bool s5, .slice p5 n5 c5] 58)).alloc (.cells #[.bool s6, .slice p6 n6 c6] 58)).heap.size = w26.heap.size + 1 + 1 := by simp [hs29]
  clear hb30 hx31
  obtain ⟨cc33a, cc33b, cc33c, cc33d⟩ := XQ.out.cells
  obtain ⟨cc34a, cc34b⟩ := XA.out.both
  obtain ⟨cc35a, cc35b⟩ := XB.out.both
  obtain ⟨cc36a, cc36b⟩ := XC.out.both
  obtain ⟨cc37a, cc37b⟩ := XD.out.both
  go_wp2_with fail
  generalize hW : (w26.alloc (.cells #[.bool s5, .slice p5 n5 c5] 58)).alloc (.cells #[.bool s6, .slice p6 n6 c6] 58) = W38 at *
  clear hW
  obtain ⟨cc39a, cc39b⟩ := XA.out.both
  obtain ⟨cc40a, cc40b⟩ := XB.out.both
  obtain ⟨cc41a, cc41b⟩ := XC.out.both
  obtain ⟨cc42a, cc42b⟩ := XD.out.both
  replace XQ := hid XQ.out.dr
  replace XA := hid XA.out.dr
  replace XB := hid XB.out.dr
  replace XC := hid XC.out.dr
  replace XD := hid XD.out.dr
  replace HT1 := hid HT1.out.drew
  replace HU1 := hid HU1.out.drew
  replace HT2 := hid HT2.out.drew
  replace HU2 := hid HU2.out.drew
  replace HA := hid HA.out.drew
  replace HB := hid HB.out.drew
  replace HC := hid HC.out.drew
  replace HE := hid HE.out.drew
  replace B := hid (Below.drew B.out)
  obtain ⟨cc43a, cc43b⟩ := XA.out.both
  obtain ⟨cc44a, cc44b⟩ := XB.out.both
  obtain ⟨cc45a, cc45b⟩ := XC.out.both
  obtain ⟨cc46a, cc46b⟩ := XD.out.both
  go_region_held3 (fun w' => w'.cell? ⟨w14.heap.size, 0, none⟩ = some (.bool s3) ∧ w'.cell? ⟨w14.heap.size, 1, none⟩ = some (.slice p3 n3 c3) ∧ w'.cell? ⟨w14.heap.size + 1, 0, none⟩ = some (.bool s4) ∧ w'.cell? ⟨w14.heap.size + 1, 1, none⟩ = some (.slice p4 n4 c4) ∧ w'.cell? ⟨w26.heap.size, 0, none⟩ = some (.bool s5) ∧ w'.cell? ⟨w26.heap.size, 1, none⟩ = some (.slice p5 n5 c5) ∧ w'.cell? ⟨w26.heap.size + 1, 0, none⟩ = some (.bool s6) ∧ w'.cell? ⟨w26.heap.size + 1, 1, none⟩ = some (.slice p6 n6 c6)) (go_keep) (first
    | (have hm := mk47_3; clear hm; go_at_call 77; refine (reduced_rtl (k := k + k + 1) (S1.out.mono (by omega)) (P3.out.mono (by omega)) (Int.mul_ne_zero (den_ne _) (den_ne _)) (by have := HK.out; omega)).mono ?_; rintro e w68 ⟨v, rfl, hv, hb⟩; obtain ⟨s9a, p9a, n9a, c9a, s9b, p9b, n9b, c9b, rfl⟩ := hv.opened; obtain ⟨ht9, d9, hu9, hd9⟩ := hv.two; have HD9 := hid hd9; replace XQ := nx XQ hb; replace XA := bx XA hb; replace XB := bx XB hb; replace XC := bx XC hb; replace XD := bx XD hb; replace HT1 := wl HT1 hb; replace HU1 := wl HU1 hb; replace HT2 := wl HT2 hb; replace HU2 := wl HU2 hb; replace HA := wl HA hb; replace HB := wl HB hb; replace HC := wl HC hb; replace HE := wl HE hb; replace P1 := wl P1 hb; replace P2 := wl P2 hb; replace S1 := wl S1 hb; replace P3 := wl P3 hb; replace B := bb B hb; clear cc64a cc64b cc65a cc65b cc66a cc66b cc67a cc67b; have HT9 := hid ht9; have HU9 := hid hu9; clear hb hv ht9 hu9 hd9; obtain ⟨cc69a, cc69b⟩ := XA.out.both; obtain ⟨cc70a, cc70b⟩ := XB.out.both; obtain ⟨cc71a, cc71b⟩ := XC.out.both; obtain ⟨cc72a, cc72b⟩ := XD.out.both; obtain ⟨⟨cc73a, cc73b⟩, ⟨cc73c, cc73d⟩, ⟨cc73e, cc73f⟩, cc73g, cc73h⟩ := XQ.out.stores; obtain ⟨r74a, r74b, r74c⟩ := XQ.out.last B.out (by have := L0.out; have := L1.out; omega) s9a s9b p9a p9b n9a n9b c9a c9b; replace XA := hid ((((XA.out.other (g2 := w.heap.size + 1 + 1) (by have := L0.out; have := L1.out; omega) 0 (.bool s9a)).other (g2 := w.heap.size + 1 + 1) (by have := L0.out; have := L1.out; omega) 1 (.slice p9a n9a c9a)).other (g2 := w.heap.size + 1 + 1) (by have := L0.out; have := L1.out; omega) 2 (.bool s9b)).other (g2 := w.heap.size + 1 + 1) (by have := L0.out; have := L1.out; omega) 3 (.slice p9b n9b c9b)); replace XB := hid ((((XB.out.other (g2 := w.heap.size + 1 + 1) (by have := L0.out; have := L1.out; omega) 0 (.bool s9a)).other (g2 := w.heap.size + 1 + 1) (by have := L0.out; have := L1.out; omega) 1 (.slice p9a n9a c9a)).other (g2 := w.heap.size + 1 + 1) (by have := L0.out; have := L1.out; omega) 2 (.bool s9b)).other (g2 := w.heap.size + 1 + 1) (by have := L0.out; have := L1.out; omega) 3 (.slice p9b n9b c9b)); replace XC := hid ((((XC.out.other (g2 := w.heap.size + 1 + 1) (by have := L0.out; have := L1.out; omega) 0 (.bool s9a)).other (g2 := w.heap.size + 1 + 1) (by have := L0.out; have := L1.out; omega) 1 (.slice p9a n9a c9a)).other (g2 := w.heap.size + 1 + 1) (by have := L0.out; have := L1.out; omega) 2 (.bool s9b)).other (g2 := w.heap.size + 1 + 1) (by have := L0.out; have := L1.out; omega) 3 (.slice p9b n9b c9b)); replace XD := hid ((((XD.out.other (g2 := w.heap.size + 1 + 1) (by have := L0.out; have := L1.out; omega) 0 (.bool s9a)).other (g2 := w.heap.size + 1 + 1) (by have := L0.out; have := L1.out; omega) 1 (.slice p9a n9a c9a)).other (g2 := w.heap.size + 1 + 1) (by have := L0.out; have := L1.out; omega) 2 (.bool s9b)).other (g2 := w.heap.size + 1 + 1) (by have := L0.out; have := L1.out; omega) 3 (.slice p9b n9b c9b)); replace HT1 := hid (r74c HT1.out); replace HU1 := hid (r74c HU1.out); replace HT2 := hid (r74c HT2.out); replace HU2 := hid (r74c HU2.out); replace HA := hid (r74c HA.out); replace HB := hid (r74c HB.out); replace HC := hid (r74c HC.out); replace HE := hid (r74c HE.out); replace P1 := hid (r74c P1.out); replace P2 := hid (r74c P2.out); replace S1 := hid (r74c S1.out); replace P3 := hid (r74c P3.out); replace HT9 := hid (r74c HT9.out); replace HU9 := hid (r74c HU9.out); replace XQ := hid r74a; replace B := hid r74b; clear r74a r74b r74c; obtain ⟨cc75a, cc75b⟩ := XA.out.both; obtain ⟨cc76a, cc76b⟩ := XB.out.both; obtain ⟨cc77a, cc77b⟩ := XC.out.both; obtain ⟨cc78a, cc78b⟩ := XD.out.both; have mk47_4 := hid True.intro)
    | (have hm := mk47_2; clear hm; go_at_call 78; refine (mul_whl HB.out HE.out (by have := HK.out; omega) (by have := HK.out; omega)).mono ?_; rintro e w63 ⟨v, rfl, hv, hb⟩; obtain ⟨s13, p13, n13, c13, rfl⟩ := hv.opened; replace XQ := nx XQ hb; replace XA := bx XA hb; replace XB := bx XB hb; replace XC := bx XC hb; replace XD := bx XD hb; replace HT1 := wl HT1 hb; replace HU1 := wl HU1 hb; replace HT2 := wl HT2 hb; replace HU2 := wl HU2 hb; replace HA := wl HA hb; replace HB := wl HB hb; replace HC := wl HC hb; replace HE := wl HE hb; replace P1 := wl P1 hb; replace P2 := wl P2 hb; replace S1 := wl S1 hb; replace B := bb B hb; clear cc59a cc59b cc60a cc60b cc61a cc61b cc62a cc62b; have P3 := hid hv; clear hb hv; obtain ⟨cc64a, cc64b⟩ := XA.out.both; obtain ⟨cc65a, cc65b⟩ := XB.out.both; obtain ⟨cc66a, cc66b⟩ := XC.out.both; obtain ⟨cc67a, cc67b⟩ := XD.out.both; have mk47_3 := hid True.intro)
    | (have hm := mk47_1; clear hm; go_at_call 79; refine (add_whl P1.out P2.out (by have := HK.out; omega) (by have := HK.out; omega)).mono ?_; rintro e w58 ⟨v, rfl, hv, hb⟩; obtain ⟨s7, p7, n7, c7, rfl⟩ := hv.opened; replace XQ := nx XQ hb; replace XA := bx XA hb; replace XB := bx XB hb; replace XC := bx XC hb; replace XD := bx XD hb; replace HT1 := wl HT1 hb; replace HU1 := wl HU1 hb; replace HT2 := wl HT2 hb; replace HU2 := wl HU2 hb; replace HA := wl HA hb; replace HB := wl HB hb; replace HC := wl HC hb; replace HE := wl HE hb; replace P1 := wl P1 hb; replace P2 := wl P2 hb; replace B := bb B hb; clear cc54a cc54b cc55a cc55b cc56a cc56b cc57a cc57b; have S1 := hid hv; clear hb hv; obtain ⟨cc59a, cc59b⟩ := XA.out.both; obtain ⟨cc60a, cc60b⟩ := XB.out.both; obtain ⟨cc61a, cc61b⟩ := XC.out.both; obtain ⟨cc62a, cc62b⟩ := XD.out.both; have mk47_2 := hid True.intro)
    | (have hm := mk47_0; clear hm; go_at_call 78; refine (mul_whl HC.out HB.out (by have := HK.out; omega) (by have := HK.out; omega)).mono ?_; rintro e w53 ⟨v, rfl, hv, hb⟩; obtain ⟨s12, p12, n12, c12, rfl⟩ := hv.opened; replace XQ := nx XQ hb; replace XA := bx XA hb; replace XB := bx XB hb; replace XC := bx XC hb; replace XD := bx XD hb; replace HT1 := wl HT1 hb; replace HU1 := wl HU1 hb; replace HT2 := wl HT2 hb; replace HU2 := wl HU2 hb; replace HA := wl HA hb; replace HB := wl HB hb; replace HC := wl HC hb; replace HE := wl HE hb; replace P1 := wl P1 hb; replace B := bb B hb; clear cc49a cc49b cc50a cc50b cc51a cc51b cc52a cc52b; have P2 := hid hv; clear hb hv; obtain ⟨cc54a, cc54b⟩ := XA.out.both; obtain ⟨cc55a, cc55b⟩ := XB.out.both; obtain ⟨cc56a, cc56b⟩ := XC.out.both; obtain ⟨cc57a, cc57b⟩ := XD.out.both; have mk47_1 := hid True.intro)
    | (go_at_call 78; refine (mul_whl HA.out HE.out (by have := HK.out; omega) (by have := HK.out; omega)).mono ?_; rintro e w48 ⟨v, rfl, hv, hb⟩; obtain ⟨s11, p11, n11, c11, rfl⟩ := hv.opened; replace XQ := nx XQ hb; replace XA := bx XA hb; replace XB := bx XB hb; replace XC := bx XC hb; replace XD := bx XD hb; replace HT1 := wl HT1 hb; replace HU1 := wl HU1 hb; replace HT2 := wl HT2 hb; replace HU2 := wl HU2 hb; replace HA := wl HA hb; replace HB := wl HB hb; replace HC := wl HC hb; replace HE := wl HE hb; replace B := bb B hb; clear cc33a cc33b cc33c cc33d cc34a cc34b cc35a cc35b cc36a cc36b cc37a cc37b cc39a cc39b cc40a cc40b cc41a cc41b cc42a cc42b cc43a cc43b cc44a cc44b cc45a cc45b cc46a cc46b; have P1 := hid hv; clear hb hv; obtain ⟨cc49a, cc49b⟩ := XA.out.both; obtain ⟨cc50a, cc50b⟩ := XB.out.both; obtain ⟨cc51a, cc51b⟩ := XC.out.both; obtain ⟨cc52a, cc52b⟩ := XD.out.both; have mk47_0 := hid True.intro))
  go_wp2_with fail
  refine bodyPost_ret (res_num rfl rfl XQ.out) rfl ?_
  exact ⟨_, rfl, (by rw [add_parts]; exact Rtl.mk2 HT9.out HU9.out HD9.out), B.out⟩

end Go.Proofs.YtkdeopikojgboaaGreatDoor

/-
  PACKAGE rat: Mul.
-/
namespace Go.Proofs.YtkdeopikojgboaaGreatDoor
open Go.RowKit
open Num
set_option linter.unusedVariables false
set_option maxRecDepth 100000
set_option linter.unusedSimpArgs false

set_option maxHeartbeats 4000000 in
theorem mulq_rtl {w : World} {v u : Value} {q r : Rat} {k : Nat} (h : Rtl w v q k) (h' : Rtl w u r k) (hk1 : 1 ≤ k) (hk : k ≤ 68719476736) :
    Calls Tryz.prog 59 #[v, u] w fun e w' => ∃ v, e = .returned v ∧ Rtl w' v (q * r) (k + k + 1) ∧ Below w.heap.size w w' := by
  obtain ⟨s1a, p1a, n1a, c1a, s1b, p1b, n1b, c1b, rfl⟩ := h.opened
  obtain ⟨ht1, d1, hu1, hd1⟩ := h.two
  have HD1 := hid hd1
  obtain ⟨s2a, p2a, n2a, c2a, s2b, p2b, n2b, c2b, rfl⟩ := h'.opened
  obtain ⟨ht2, d2, hu2, hd2⟩ := h'.two
  have HD2 := hid hd2
  have HK := hid hk
  have HK1 := hid hk1
  have B := hid (Below.refl w.heap.size w)
  have HT1 := hid ht1
  have HU1 := hid hu1
  have HT2 := hid ht2
  have HU2 := hid hu2
  have hb1 := (Below.refl _ _).alloc (Nat.le_refl w.heap.size) (.cells #[.bool s1a, .slice p1a n1a c1a, .bool s1b, .slice p1b n1b c1b] 60)
  have hx2 := Nbx.new w s1a s1b (.slice p1a n1a c1a) (.slice p1b n1b c1b)
  replace HT1 := wl HT1 hb1
  replace HU1 := wl HU1 hb1
  replace HT2 := wl HT2 hb1
  replace HU2 := wl HU2 hb1
  replace B := bb B hb1
  have X1 := hid hx2
  have hs3 : (w.alloc (.cells #[.bool s1a, .slice p1a n1a c1a, .bool s1b, .slice p1b n1b c1b] 60)).heap.size = w.heap.size + 1 := by simp
  clear hb1 hx2
  have hb4 := (Below.refl _ _).alloc (Nat.le_refl (w.alloc (.cells #[.bool s1a, .slice p1a n1a c1a, .bool s1b, .slice p1b n1b c1b] 60)).heap.size) (.cells #[.bool s2a, .slice p2a n2a c2a, .bool s2b, .slice p2b n2b c2b] 60)
  have hx5 := Nbx.new (w.alloc (.cells #[.bool s1a, .slice p1a n1a c1a, .bool s1b, .slice p1b n1b c1b] 60)) s2a s2b (.slice p2a n2a c2a) (.slice p2b n2b c2b)
  rw [hs3] at hx5
  replace X1 := nx X1 hb4
  replace HT1 := wl HT1 hb4
  replace HU1 := wl HU1 hb4
  replace HT2 := wl HT2 hb4
  replace HU2 := wl HU2 hb4
  replace B := bb B hb4
  have X2 := hid hx5
  have hs6 : ((w.alloc (.cells #[.bool s1a, .slice p1a n1a c1a, .bool s1b, .slice p1b n1b c1b] 60)).alloc (.cells #[.bool s2a, .slice p2a n2a c2a, .bool s2b, .slice p2b n2b c2b] 60)).heap.size = w.heap.size + 1 + 1 := by simp [hs3]
  clear hb4 hx5
  have hb7 := (Below.refl _ _).alloc (Nat.le_refl ((w.alloc (.cells #[.bool s1a, .slice p1a n1a c1a, .bool s1b, .slice p1b n1b c1b] 60)).alloc (.cells #[.bool s2a, .slice p2a n2a c2a, .bool s2b, .slice p2b n2b c2b] 60)).heap.size) (.cells #[.bool false, .slice none 0 0, .bool false, .slice none 0 0] 60)
  have hx8 := Nbx.new ((w.alloc (.cells #[.bool s1a, .slice p1a n1a c1a, .bool s1b, .slice p1b n1b c1b] 60)).alloc (.cells #[.bool s2a, .slice p2a n2a c2a, .bool s2b, .slice p2b n2b c2b] 60)) false false (.slice none 0 0) (.slice none 0 0)
  rw [hs6] at hx8
  replace X1 := nx X1 hb7
  replace X2 := nx X2 hb7
  replace HT1 := wl HT1 hb7
  replace HU1 := wl HU1 hb7
  replace HT2 := wl HT2 hb7
  replace HU2 := wl HU2 hb7
  replace B := bb B hb7
  have XQ := hid hx8
  have hs9 : (((w.alloc (.cells #[.bool s1a, .slice p1a n1a c1a, .bool s1b, .slice p1b n1b c1b] 60)).alloc (.cells #[.bool s2a, .slice p2a n2a c2a, .bool s2b, .slice p2b n2b c2b] 60)).alloc (.cells #[.bool false, .slice none 0 0, .bool false, .slice none 0 0] 60)).heap.size = w.heap.size + 1 + 1 + 1 := by simp [hs6]
  clear hb7 hx8
  clear hs9 h h' ht1 hu1 ht2 hu2 hd1 hd2 hk hk1
  go_enter Tryz.func59, Tryz.ntmps59
  obtain ⟨cc10a, cc10b, cc10c, cc10d⟩ := X1.out.cells
  obtain ⟨cc11a, cc11b, cc11c, cc11d⟩ := X2.out.cells
  obtain ⟨cc12a, cc12b, cc12c, cc12d⟩ := XQ.out.cells
  go_wp2_with fail
  generalize hW : ((w.alloc (.cells #[.bool s1a, .slice p1a n1a c1a, .bool s1b, .slice p1b n1b c1b] 60)).alloc (.cells #[.bool s2a, .slice p2a n2a c2a, .bool s2b, .slice p2b n2b c2b] 60)).alloc (.cells #[.bool false, .slice none 0 0, .bool false, .slice none 0 0] 60) = W13 at *
  clear hW
  refine (parts_rtl (Rtl.mk2 HT1.out HU1.out HD1.out) HK1.out).mono ?_
  rintro e w14 ⟨v, u, rfl, hv, hu, hb⟩
  obtain ⟨s3, p3, n3, c3, rfl⟩ := hv.opened
  obtain ⟨s4, p4, n4, c4, rfl⟩ := hu.opened
  replace X2 := nx X2 hb
  replace XQ := nx XQ hb
  replace HT1 := wl HT1 hb
  replace HU1 := wl HU1 hb
  replace HT2 := wl HT2 hb
  replace HU2 := wl HU2 hb
  replace B := bb B hb
  clear cc10a cc10b cc10c cc10d cc11a cc11b cc11c cc11d cc12a cc12b cc12c cc12d
  have HA := hid hv
  have HB := hid hu
  clear hb hv hu
  have hb15 := (Below.refl _ _).alloc (Nat.le_refl w14.heap.size) (.cells #[.bool s3, .slice p3 n3 c3] 58)
  have hx16 := Box.new w14 s3 p3 n3 c3
  have L0 := hid XQ.out.lt
  replace X2 := nx X2 hb15
  replace XQ := nx XQ hb15
  replace HT1 := wl HT1 hb15
  replace HU1 := wl HU1 hb15
  replace HT2 := wl HT2 hb15
  replace HU2 := wl HU2 hb15
  replace HA := wl HA hb15
  replace HB := wl HB hb15
  replace B := bb B hb15
  have XA := hid hx16
  have hs17 : (w14.alloc (.cells #[.bool s3, .slice p3 n3 c3] 58)).heap.size = w14.heap.size + 1 := by simp
  clear hb15 hx16
  have hb18 := (Below.refl _ _).alloc (Nat.le_refl (w14.alloc (.cells #[.bool s3, .slice p3 n3 c3] 58)).heap.size) (.cells #[.bool s4, .slice p4 n4 c4] 58)
  have hx19 := Box.new (w14.alloc (.cells #[.bool s3, .slice p3 n3 c3] 58)) s4 p4 n4 c4
  rw [hs17] at hx19
  replace X2 := nx X2 hb18
  replace XQ := nx XQ hb18
  replace XA := bx XA hb18
  replace HT1 := wl HT1 hb18
  replace HU1 := wl HU1 hb18
  replace HT2 := wl HT2 hb18
  replace HU2 := wl HU2 hb18
  replace HA := wl HA hb18
  replace HB := wl HB hb18
  replace B := bb B hb18
  have XB := hid hx19
  have hs20 : ((w14.alloc (.cells #[.bool s3, .slice p3 n3 c3] 58)).alloc (.cells #[.bool s4, .slice p4 n4 c4] 58)).heap.size = w14.heap.size + 1 + 1 := by simp [hs17]
  clear hb18 hx19
  obtain ⟨cc21a, cc21b, cc21c, cc21d⟩ := X2.out.cells
  obtain ⟨cc22a, cc22b, cc22c, cc22d⟩ := XQ.out.cells
  obtain ⟨cc23a, cc23b⟩ := XA.out.both
  obtain ⟨cc24a, cc24b⟩ := XB.out.both
  go_wp2_with fail
  generalize hW : (w14.alloc (.cells #[.bool s3, .slice p3 n3 c3] 58)).alloc (.cells #[.bool s4, .slice p4 n4 c4] 58) = W25 at *
  clear hW
  refine (parts_rtl (Rtl.mk2 HT2.out HU2.out HD2.out) HK1.out).mono ?_
  rintro e w26 ⟨v, u, rfl, hv, hu, hb⟩
  obtain ⟨s5, p5, n5, c5, rfl⟩ := hv.opened
  obtain ⟨s6, p6, n6, c6, rfl⟩ := hu.opened
  replace XQ := nx XQ hb
  replace XA := bx XA hb
  replace XB := bx XB hb
  replace HT1 := wl HT1 hb
  replace HU1 := wl HU1 hb
  replace HT2 := wl HT2 hb
  replace HU2 := wl HU2 hb
  replace HA := wl HA hb
  replace HB := wl HB hb
  replace B := bb B hb
  clear cc21a cc21b cc21c cc21d cc22a cc22b cc22c cc22d cc23a cc23b cc24a cc24b
  have HC := hid hv
  have HE := hid hu
  clear hb hv hu
  have hb27 := (Below.refl _ _).alloc (Nat.le_refl w26.heap.size) (.cells #[.bool s5, .slice p5 n5 c5] 58)
  have hx28 := Box.new w26 s5 p5 n5 c5
  have L1 := hid XB.out.lt
  replace XQ := nx XQ hb27
  replace XA := bx XA hb27
  replace XB := bx XB hb27
  replace HT1 := wl HT1 hb27
  replace HU1 := wl HU1 hb27
  replace HT2 := wl HT2 hb27
  replace HU2 := wl HU2 hb27
  replace HA := wl HA hb27
  replace HB := wl HB hb27
  replace HC := wl HC hb27
  replace HE := wl HE hb27
  replace B := bb B hb27
  have XC := hid hx28
  have hs29 : (w26.alloc (.cells #[.bool s5, .slice p5 n5 c5] 58)).heap.size = w26.heap.size + 1 := by simp
  clear hb27 hx28
  have hb30 := (Below.refl _ _).alloc (Nat.le_refl (w26.alloc (.cells #[.bool s5, .slice p5 n5 c5] 58)).heap.size) (.cells #[.bool s6, .slice p6 n6 c6] 58)
  have hx31 := Box.new (w26.alloc (.cells #[.bool s5, .slice p5 n5 c5] 58)) s6 p6 n6 c6
  rw [hs29] at hx31
  replace XQ := nx XQ hb30
  replace XA := bx XA hb30
  replace XB := bx XB hb30
  replace XC := bx XC hb30
  replace HT1 := wl HT1 hb30
  replace HU1 := wl HU1 hb30
  replace HT2 := wl HT2 hb30
  replace HU2 := wl HU2 hb30
  replace HA := wl HA hb30
  replace HB := wl HB hb30
  replace HC := wl HC hb30
  replace HE := wl HE hb30
  replace B := bb B hb30
  have XD := hid hx31
  have hs32 : ((w26.alloc (.cells #[.bool s5, .slice p5 n5 c5] 58)).alloc (.cells #[.bool s6, .slice p6 n6 c6] 58)).heap.size = w26.heap.size + 1 + 1 := by simp [hs29]
  clear hb30 hx31
  obtain ⟨cc33a, cc33b, cc33c, cc33d⟩ := XQ.out.cells
  obtain ⟨cc34a, cc34b⟩ := XA.out.both
  obtain ⟨cc35a, cc35b⟩ := XB.out.both
  obtain ⟨cc36a, cc36b⟩ := XC.out.both
  obtain ⟨cc37a, cc37b⟩ := XD.out.both
  go_wp2_with fail
  generalize hW : (w26.alloc (.cells #[.bool s5, .slice p5 n5 c5] 58)).alloc (.cells #[.bool s6, .slice p6 n6 c6] 58) = W38 at *
  clear hW
  obtain ⟨cc39a, cc39b⟩ := XA.out.both
  obtain ⟨cc40a, cc40b⟩ := XB.out.both
  obtain ⟨cc41a, cc41b⟩ := XC.out.both
  obtain ⟨cc42a, cc42b⟩ := XD.out.both
  replace XQ := hid XQ.out.dr
  replace XA := hid XA.out.dr
  replace XB := hid XB.out.dr
  replace XC := hid XC.out.dr
  replace XD := hid XD.out.dr
  replace HT1 := hid HT1.out.drew
  replace HU1 := hid HU1.out.drew
  replace HT2 := hid HT2.out.drew
  replace HU2 := hid HU2.out.drew
  replace HA := hid HA.out.drew
  replace HB := hid HB.out.drew
  replace HC := hid HC.out.drew
  replace HE := hid HE.out.drew
  replace B := hid (Below.drew B.out)
  obtain ⟨cc43a, cc43b⟩ := XA.out.both
  obtain ⟨cc44a, cc44b⟩ := XB.out.both
  obtain ⟨cc45a, cc45b⟩ := XC.out.both
  obtain ⟨cc46a, cc46b⟩ := XD.out.both
  go_region_held3 (fun w' => w'.cell? ⟨w14.heap.size, 0, none⟩ = some (.bool s3) ∧ w'.cell? ⟨w14.heap.size, 1, none⟩ = some (.slice p3 n3 c3) ∧ w'.cell? ⟨w14.heap.size + 1, 0, none⟩ = some (.bool s4) ∧ w'.cell? ⟨w14.heap.size + 1, 1, none⟩ = some (.slice p4 n4 c4) ∧ w'.cell? ⟨w26.heap.size, 0, none⟩ = some (.bool s5) ∧ w'.cell? ⟨w26.heap.size, 1, none⟩ = some (.slice p5 n5 c5) ∧ w'.cell? ⟨w26.heap.size + 1, 0, none⟩ = some (.bool s6) ∧ w'.cell? ⟨w26.heap.size + 1, 1, none⟩ = some (.slice p6 n6 c6)) (go_keep) (first
    | (have hm := mk47_1; clear hm; go_at_call 77; refine (reduced_rtl (k := k + k + 1) (P1.out.mono (by omega)) (P2.out.mono (by omega)) (Int.mul_ne_zero (den_ne _) (den_ne _)) (by have := HK.out; omega)).mono ?_; rintro e w58 ⟨v, rfl, hv, hb⟩; obtain ⟨s9a, p9a, n9a, c9a, s9b, p9b, n9b, c9b, rfl⟩ := hv.opened; obtain ⟨ht9, d9, hu9, hd9⟩ := hv.two; have HD9 := hid hd9; replace XQ := nx XQ hb; replace XA := bx XA hb; replace XB := bx XB hb; replace XC := bx XC hb; replace XD := bx XD hb; replace HT1 := wl HT1 hb; replace HU1 := wl HU1 hb; replace HT2 := wl HT2 hb; replace HU2 := wl HU2 hb; replace HA := wl HA hb; replace HB := wl HB hb; replace HC := wl HC hb; replace HE := wl HE hb; replace P1 := wl P1 hb; replace P2 := wl P2 hb; replace B := bb B hb; clear cc54a cc54b cc55a cc55b cc56a cc56b cc57a cc57b; have HT9 := hid ht9; have HU9 := hid hu9; clear hb hv ht9 hu9 hd9; obtain ⟨cc59a, cc59b⟩ := XA.out.both; obtain ⟨cc60a, cc60b⟩ := XB.out.both; obtain ⟨cc61a, cc61b⟩ := XC.out.both; obtain ⟨cc62a, cc62b⟩ := XD.out.both; obtain ⟨⟨cc63a, cc63b⟩, ⟨cc63c, cc63d⟩, ⟨cc63e, cc63f⟩, cc63g, cc63h⟩ := XQ.out.stores; obtain ⟨r64a, r64b, r64c⟩ := XQ.out.last B.out (by have := L0.out; have := L1.out; omega) s9a s9b p9a p9b n9a n9b c9a c9b; replace XA := hid ((((XA.out.other (g2 := w.heap.size + 1 + 1) (by have := L0.out; have := L1.out; omega) 0 (.bool s9a)).other (g2 := w.heap.size + 1 + 1) (by have := L0.out; have := L1.out; omega) 1 (.slice p9a n9a c9a)).other (g2 := w.heap.size + 1 + 1) (by have := L0.out; have := L1.out; omega) 2 (.bool s9b)).other (g2 := w.heap.size + 1 + 1) (by have := L0.out; have := L1.out; omega) 3 (.slice p9b n9b c9b)); replace XB := hid ((((XB.out.other (g2 := w.heap.size + 1 + 1) (by have := L0.out; have := L1.out; omega) 0 (.bool s9a)).other (g2 := w.heap.size + 1 + 1) (by have := L0.out; have := L1.out; omega) 1 (.slice p9a n9a c9a)).other (g2 := w.heap.size + 1 + 1) (by have := L0.out; have := L1.out; omega) 2 (.bool s9b)).other (g2 := w.heap.size + 1 + 1) (by have := L0.out; have := L1.out; omega) 3 (.slice p9b n9b c9b)); replace XC := hid ((((XC.out.other (g2 := w.heap.size + 1 + 1) (by have := L0.out; have := L1.out; omega) 0 (.bool s9a)).other (g2 := w.heap.size + 1 + 1) (by have := L0.out; have := L1.out; omega) 1 (.slice p9a n9a c9a)).other (g2 := w.heap.size + 1 + 1) (by have := L0.out; have := L1.out; omega) 2 (.bool s9b)).other (g2 := w.heap.size + 1 + 1) (by have := L0.out; have := L1.out; omega) 3 (.slice p9b n9b c9b)); replace XD := hid ((((XD.out.other (g2 := w.heap.size + 1 + 1) (by have := L0.out; have := L1.out; omega) 0 (.bool s9a)).other (g2 := w.heap.size + 1 + 1) (by have := L0.out; have := L1.out; omega) 1 (.slice p9a n9a c9a)).other (g2 := w.heap.size + 1 + 1) (by have := L0.out; have := L1.out; omega) 2 (.bool s9b)).other (g2 := w.heap.size + 1 + 1) (by have := L0.out; have := L1.out; omega) 3 (.slice p9b n9b c9b)); replace HT1 := hid (r64c HT1.out); replace HU1 := hid (r64c HU1.out); replace HT2 := hid (r64c HT2.out); replace HU2 := hid (r64c HU2.out); replace HA := hid (r64c HA.out); replace HB := hid (r64c HB.out); replace HC := hid (r64c HC.out); replace HE := hid (r64c HE.out); replace P1 := hid (r64c P1.out); replace P2 := hid (r64c P2.out); replace HT9 := hid (r64c HT9.out); replace HU9 := hid (r64c HU9.out); replace XQ := hid r64a; replace B := hid r64b; clear r64a r64b r64c; obtain ⟨cc65a, cc65b⟩ := XA.out.both; obtain ⟨cc66a, cc66b⟩ := XB.out.both; obtain ⟨cc67a, cc67b⟩ := XC.out.both; obtain ⟨cc68a, cc68b⟩ := XD.out.both; have mk47_2 := hid True.intro)
    | (have hm := mk47_0; clear hm; go_at_call 78; refine (mul_whl HB.out HE.out (by have := HK.out; omega) (by have := HK.out; omega)).mono ?_; rintro e w53 ⟨v, rfl, hv, hb⟩; obtain ⟨s12, p12, n12, c12, rfl⟩ := hv.opened; replace XQ := nx XQ hb; replace XA := bx XA hb; replace XB := bx XB hb; replace XC := bx XC hb; replace XD := bx XD hb; replace HT1 := wl HT1 hb; replace HU1 := wl HU1 hb; replace HT2 := wl HT2 hb; replace HU2 := wl HU2 hb; replace HA := wl HA hb; replace HB := wl HB hb; replace HC := wl HC hb; replace HE := wl HE hb; replace P1 := wl P1 hb; replace B := bb B hb; clear cc49a cc49b cc50a cc50b cc51a cc51b cc52a cc52b; have P2 := hid hv; clear hb hv; obtain ⟨cc54a, cc54b⟩ := XA.out.both; obtain ⟨cc55a, cc55b⟩ := XB.out.both; obtain ⟨cc56a, cc56b⟩ := XC.out.both; obtain ⟨cc57a, cc57b⟩ := XD.out.both; have mk47_1 := hid True.intro)
    | (go_at_call 78; refine (mul_whl HA.out HC.out (by have := HK.out; omega) (by have := HK.out; omega)).mono ?_; rintro e w48 ⟨v, rfl, hv, hb⟩; obtain ⟨s11, p11, n11, c11, rfl⟩ := hv.opened; replace XQ := nx XQ hb; replace XA := bx XA hb; replace XB := bx XB hb; replace XC := bx XC hb; replace XD := bx XD hb; replace HT1 := wl HT1 hb; replace HU1 := wl HU1 hb; replace HT2 := wl HT2 hb; replace HU2 := wl HU2 hb; replace HA := wl HA hb; replace HB := wl HB hb; replace HC := wl HC hb; replace HE := wl HE hb; replace B := bb B hb; clear cc33a cc33b cc33c cc33d cc34a cc34b cc35a cc35b cc36a cc36b cc37a cc37b cc39a cc39b cc40a cc40b cc41a cc41b cc42a cc42b cc43a cc43b cc44a cc44b cc45a cc45b cc46a cc46b; have P1 := hid hv; clear hb hv; obtain ⟨cc49a, cc49b⟩ := XA.out.both; obtain ⟨cc50a, cc50b⟩ := XB.out.both; obtain ⟨cc51a, cc51b⟩ := XC.out.both; obtain ⟨cc52a, cc52b⟩ := XD.out.both; have mk47_0 := hid True.intro))
  go_wp2_with fail
  refine bodyPost_ret (res_num rfl rfl XQ.out) rfl ?_
  exact ⟨_, rfl, (by rw [mul_parts]; exact Rtl.mk2 HT9.out HU9.out HD9.out), B.out⟩

end Go.Proofs.YtkdeopikojgboaaGreatDoor

/-
  PACKAGE rat: Div.
-/
namespace Go.Proofs.YtkdeopikojgboaaGreatDoor
open Go.RowKit
open Num
set_option linter.unusedVariables false
set_option maxRecDepth 100000
set_option linter.unusedSimpArgs false

set_option maxHeartbeats 4000000 in
theorem divq_zero {w : World} {v u : Value} {q r : Rat} {k : Nat} (h : Rtl w v q k) (h' : Rtl w u r k) (hr : r = 0) (hk1 : 1 ≤ k) (hk : k ≤ 68719476736) :
    Calls Tryz.prog 62 #[v, u] w fun e w' => e = .returned (.tuple #[.agg #[.bool false, .slice none 0 0, .bool false, .slice none 0 0], errno 5]) ∧ Below w.heap.size w w' := by
  have HR := hid hr
  obtain ⟨s1a, p1a, n1a, c1a, s1b, p1b, n1b, c1b, rfl⟩ := h.opened
  obtain ⟨ht1, d1, hu1, hd1⟩ := h.two
  have HD1 := hid hd1
  obtain ⟨s2a, p2a, n2a, c2a, s2b, p2b, n2b, c2b, rfl⟩ := h'.opened
  obtain ⟨ht2, d2, hu2, hd2⟩ := h'.two
  have HD2 := hid hd2
  have HK := hid hk
  have HK1 := hid hk1
  have B := hid (Below.refl w.heap.size w)
  have HT1 := hid ht1
  have HU1 := hid hu1
  have HT2 := hid ht2
  have HU2 := hid hu2
  have hb1 := (Below.refl _ _).alloc (Nat.le_refl w.heap.size) (.cells #[.bool s1a, .slice p1a n1a c1a, .bool s1b, .slice p1b n1b c1b] 60)
  have hx2 := Nbx.new w s1a s1b (.slice p1a n1a c1a) (.slice p1b n1b c1b)
  replace HT1 := wl HT1 hb1
  replace HU1 := wl HU1 hb1
  replace HT2 := wl HT2 hb1
  replace HU2 := wl HU2 hb1
  replace B := bb B hb1
  have X1 := hid hx2
  have hs3 : (w.alloc (.cells #[.bool s1a, .slice p1a n1a c1a, .bool s1b, .slice p1b n1b c1b] 60)).heap.size = w.heap.size + 1 := by simp
  clear hb1 hx2
  have hb4 := (Below.refl _ _).alloc (Nat.le_refl (w.alloc (.cells #[.bool s1a, .slice p1a n1a c1a, .bool s1b, .slice p1b n1b c1b] 60)).heap.size) (.cells #[.bool s2a, .slice p2a n2a c2a, .bool s2b, .slice p2b n2b c2b] 60)
  have hx5 := Nbx.new (w.alloc (.cells #[.bool s1a, .slice p1a n1a c1a, .bool s1b, .slice p1b n1b c1b] 60)) s2a s2b (.slice p2a n2a c2a) (.slice p2b n2b c2b)
  rw [hs3] at hx5
  replace X1 := nx X1 hb4
  replace HT1 := wl HT1 hb4
  replace HU1 := wl HU1 hb4
  replace HT2 := wl HT2 hb4
  replace HU2 := wl HU2 hb4
  replace B := bb B hb4
  have X2 := hid hx5
  have hs6 : ((w.alloc (.cells #[.bool s1a, .slice p1a n1a c1a, .bool s1b, .slice p1b n1b c1b] 60)).alloc (.cells #[.bool s2a, .slice p2a n2a c2a, .bool s2b, .slice p2b n2b c2b] 60)).heap.size = w.heap.size + 1 + 1 := by simp [hs3]
  clear hb4 hx5
  have hb7 := (Below.refl _ _).alloc (Nat.le_refl ((w.alloc (.cells #[.bool s1a, .slice p1a n1a c1a, .bool s1b, .slice p1b n1b c1b] 60)).alloc (.cells #[.bool s2a, .slice p2a n2a c2a, .bool s2b, .slice p2b n2b c2b] 60)).heap.size) (.cells #[.bool false, .slice none 0 0, .bool false, .slice none 0 0] 60)
  have hx8 := Nbx.new ((w.alloc (.cells #[.bool s1a, .slice p1a n1a c1a, .bool s1b, .slice p1b n1b c1b] 60)).alloc (.cells #[.bool s2a, .slice p2a n2a c2a, .bool s2b, .slice p2b n2b c2b] 60)) false false (.slice none 0 0) (.slice none 0 0)
  rw [hs6] at hx8
  replace X1 := nx X1 hb7
  replace X2 := nx X2 hb7
  replace HT1 := wl HT1 hb7
  replace HU1 := wl HU1 hb7
  replace HT2 := wl HT2 hb7
  replace HU2 := wl HU2 hb7
  replace B := bb B hb7
  have XQ := hid hx8
  have hs9 : (((w.alloc (.cells #[.bool s1a, .slice p1a n1a c1a, .bool s1b, .slice p1b n1b c1b] 60)).alloc (.cells #[.bool s2a, .slice p2a n2a c2a, .bool s2b, .slice p2b n2b c2b] 60)).alloc (.cells #[.bool false, .slice none 0 0, .bool false, .slice none 0 0] 60)).heap.size = w.heap.size + 1 + 1 + 1 := by simp [hs6]
  clear hb7 hx8
  clear hs9 h h' ht1 hu1 ht2 hu2 hd1 hd2 hk hk1
  go_enter Tryz.func62, Tryz.ntmps62
  obtain ⟨cc10a, cc10b, cc10c, cc10d⟩ := X1.out.cells
  obtain ⟨cc11a, cc11b, cc11c, cc11d⟩ := X2.out.cells
  obtain ⟨cc12a, cc12b, cc12c, cc12d⟩ := XQ.out.cells
  go_wp2_with fail
  generalize hW : ((w.alloc (.cells #[.bool s1a, .slice p1a n1a c1a, .bool s1b, .slice p1b n1b c1b] 60)).alloc (.cells #[.bool s2a, .slice p2a n2a c2a, .bool s2b, .slice p2b n2b c2b] 60)).alloc (.cells #[.bool false, .slice none 0 0, .bool false, .slice none 0 0] 60) = W13 at *
  clear hW
  refine (parts_rtl (Rtl.mk2 HT1.out HU1.out HD1.out) HK1.out).mono ?_
  rintro e w14 ⟨v, u, rfl, hv, hu, hb⟩
  obtain ⟨s3, p3, n3, c3, rfl⟩ := hv.opened
  obtain ⟨s4, p4, n4, c4, rfl⟩ := hu.opened
  replace X2 := nx X2 hb
  replace XQ := nx XQ hb
  replace HT1 := wl HT1 hb
  replace HU1 := wl HU1 hb
  replace HT2 := wl HT2 hb
  replace HU2 := wl HU2 hb
  replace B := bb B hb
  clear cc10a cc10b cc10c cc10d cc11a cc11b cc11c cc11d cc12a cc12b cc12c cc12d
  have HA := hid hv
  have HB := hid hu
  clear hb hv hu
  have hb15 := (Below.refl _ _).alloc (Nat.le_refl w14.heap.size) (.cells #[.bool s3, .slice p3 n3 c3] 58)
  have hx16 := Box.new w14 s3 p3 n3 c3
  have L0 := hid XQ.out.lt
  replace X2 := nx X2 hb15
  replace XQ := nx XQ hb15
  replace HT1 := wl HT1 hb15
  replace HU1 := wl HU1 hb15
  replace HT2 := wl HT2 hb15
  replace HU2 := wl HU2 hb15
  replace HA := wl HA hb15
  replace HB := wl HB hb15
  replace B := bb B hb15
  have XA := hid hx16
  have hs17 : (w14.alloc (.cells #[.bool s3, .slice p3 n3 c3] 58)).heap.size = w14.heap.size + 1 := by simp
  clear hb15 hx16
  have hb18 := (Below.refl _ _).alloc (Nat.le_refl (w14.alloc (.cells #[.bool s3, .slice p3 n3 c3] 58)).heap.size) (.cells #[.bool s4, .slice p4 n4 c4] 58)
  have hx19 := Box.new (w14.alloc (.cells #[.bool s3, .slice p3 n3 c3] 58)) s4 p4 n4 c4
  rw [hs17] at hx19
  replace X2 := nx X2 hb18
  replace XQ := nx XQ hb18
  replace XA := bx XA hb18
  replace HT1 := wl HT1 hb18
  replace HU1 := wl HU1 hb18
  replace HT2 := wl HT2 hb18
  replace HU2 := wl HU2 hb18
  replace HA := wl HA hb18
  replace HB := wl HB hb18
  replace B := bb B hb18
  have XB := hid hx19
  have hs20 : ((w14.alloc (.cells #[.bool s3, .slice p3 n3 c3] 58)).alloc (.cells #[.bool s4, .slice p4 n4 c4] 58)).heap.size = w14.heap.size + 1 + 1 := by simp [hs17]
  clear hb18 hx19
  obtain ⟨cc21a, cc21b, cc21c, cc21d⟩ := X2.out.cells
  obtain ⟨cc22a, cc22b, cc22c, cc22d⟩ := XQ.out.cells
  obtain ⟨cc23a, cc23b⟩ := XA.out.both
  obtain ⟨cc24a, cc24b⟩ := XB.out.both
  go_wp2_with fail
  generalize hW : (w14.alloc (.cells #[.bool s3, .slice p3 n3 c3] 58)).alloc (.cells #[.bool s4, .slice p4 n4 c4] 58) = W25 at *
  clear hW
  refine (parts_rtl (Rtl.mk2 HT2.out HU2.out HD2.out) HK1.out).mono ?_
  rintro e w26 ⟨v, u, rfl, hv, hu, hb⟩
  obtain ⟨s5, p5, n5, c5, rfl⟩ := hv.opened
  obtain ⟨s6, p6, n6, c6, rfl⟩ := hu.opened
  replace XQ := nx XQ hb
  replace XA := bx XA hb
  replace XB := bx XB hb
  replace HT1 := wl HT1 hb
  replace HU1 := wl HU1 hb
  replace HT2 := wl HT2 hb
  replace HU2 := wl HU2 hb
  replace HA := wl HA hb
  replace HB := wl HB hb
  replace B := bb B hb
  clear cc21a cc21b cc21c cc21d cc22a cc22b cc22c cc22d cc23a cc23b cc24a cc24b
  have HC := hid hv
  have HE := hid hu
  clear hb hv hu
  have hb27 := (Below.refl _ _).alloc (Nat.le_refl w26.heap.size) (.cells #[.bool s5, .slice p5 n5 c5] 58)
  have hx28 := Box.new w26 s5 p5 n5 c5
  have L1 := hid XB.out.lt
  replace XQ := nx XQ hb27
  replace XA := bx XA hb27
  replace XB := bx XB hb27
  replace HT1 := wl HT1 hb27
  replace HU1 := wl HU1 hb27
  replace HT2 := wl HT2 hb27
  replace HU2 := wl HU2 hb27
  replace HA := wl HA hb27
  replace HB := wl HB hb27
  replace HC := wl HC hb27
  replace HE := wl HE hb27
  replace B := bb B hb27
  have XC := hid hx28
  have hs29 : (w26.alloc (.cells #[.bool s5, .slice p5 n5 c5] 58)).heap.size = w26.heap.size + 1 := by simp
  clear hb27 hx28
  have hb30 := (Below.refl _ _).alloc (Nat.le_refl (w26.alloc (.cells #[.bool s5, .slice p5 n5 c5] 58)).heap.size) (.cells #[.bool s6, .slice p6 n6 c6] 58)
  have hx31 := Box.new (w26.alloc (.cells #[.bool s5, .slice p5 n5 c5] 58)) s6 p6 n6 c6
  rw [hs29] at hx31
  replace XQ := nx XQ hb30
  replace XA := bx XA hb30
  replace XB := bx XB hb30
  replace XC := bx XC hb30
  replace HT1 := wl HT1 hb30
  replace HU1 := wl HU1 hb30
  replace HT2 := wl HT2 hb30
  replace HU2 := wl HU2 hb30
  replace HA := wl HA hb30
  replace HB := wl HB hb30
  replace HC := wl HC hb30
  replace HE := wl HE hb30
  replace B := bb B hb30
  have XD := hid hx31
  have hs32 : ((w26.alloc (.cells #[.bool s5, .slice p5 n5 c5] 58)).alloc (.cells #[.bool s6, .slice p6 n6 c6] 58)).heap.size = w26.heap.size + 1 + 1 := by simp [hs29]
  clear hb30 hx31
  obtain ⟨cc33a, cc33b, cc33c, cc33d⟩ := XQ.out.cells
  obtain ⟨cc34a, cc34b⟩ := XA.out.both
  obtain ⟨cc35a, cc35b⟩ := XB.out.both
  obtain ⟨cc36a, cc36b⟩ := XC.out.both
  obtain ⟨cc37a, cc37b⟩ := XD.out.both
  go_wp2_with fail
  generalize hW : (w26.alloc (.cells #[.bool s5, .slice p5 n5 c5] 58)).alloc (.cells #[.bool s6, .slice p6 n6 c6] 58) = W38 at *
  clear hW
  obtain ⟨cc39a, cc39b⟩ := XA.out.both
  obtain ⟨cc40a, cc40b⟩ := XB.out.both
  obtain ⟨cc41a, cc41b⟩ := XC.out.both
  obtain ⟨cc42a, cc42b⟩ := XD.out.both
  replace XQ := hid XQ.out.dr
  replace XA := hid XA.out.dr
  replace XB := hid XB.out.dr
  replace XC := hid XC.out.dr
  replace XD := hid XD.out.dr
  replace HT1 := hid HT1.out.drew
  replace HU1 := hid HU1.out.drew
  replace HT2 := hid HT2.out.drew
  replace HU2 := hid HU2.out.drew
  replace HA := hid HA.out.drew
  replace HB := hid HB.out.drew
  replace HC := hid HC.out.drew
  replace HE := hid HE.out.drew
  replace B := hid (Below.drew B.out)
  obtain ⟨cc43a, cc43b⟩ := XA.out.both
  obtain ⟨cc44a, cc44b⟩ := XB.out.both
  obtain ⟨cc45a, cc45b⟩ := XC.out.both
  obtain ⟨cc46a, cc46b⟩ := XD.out.both
  go_region_held3 (fun w' => w'.cell? ⟨w14.heap.size, 0, none⟩ = some (.bool s3) ∧ w'.cell? ⟨w14.heap.size, 1, none⟩ = some (.slice p3 n3 c3) ∧ w'.cell? ⟨w14.heap.size + 1, 0, none⟩ = some (.bool s4) ∧ w'.cell? ⟨w14.heap.size + 1, 1, none⟩ = some (.slice p4 n4 c4) ∧ w'.cell? ⟨w26.heap.size, 0, none⟩ = some (.bool s5) ∧ w'.cell? ⟨w26.heap.size, 1, none⟩ = some (.slice p5 n5 c5) ∧ w'.cell? ⟨w26.heap.size + 1, 0, none⟩ = some (.bool s6) ∧ w'.cell? ⟨w26.heap.size + 1, 1, none⟩ = some (.slice p6 n6 c6)) (go_keep) (first
    | (have hm := mk47_1; clear hm; go_at_call 81; refine (quot_zero P1.out P2.out (by rw [HR.out]; rfl) (by have := HK.out; omega)).mono ?_; rintro e w58 ⟨rfl, hb⟩; replace XQ := nx XQ hb; replace XA := bx XA hb; replace XB := bx XB hb; replace XC := bx XC hb; replace XD := bx XD hb; replace HT1 := wl HT1 hb; replace HU1 := wl HU1 hb; replace HT2 := wl HT2 hb; replace HU2 := wl HU2 hb; replace HA := wl HA hb; replace HB := wl HB hb; replace HC := wl HC hb; replace HE := wl HE hb; replace P1 := wl P1 hb; replace P2 := wl P2 hb; replace B := bb B hb; clear cc54a cc54b cc55a cc55b cc56a cc56b cc57a cc57b; clear hb ; obtain ⟨cc59a, cc59b⟩ := XA.out.both; obtain ⟨cc60a, cc60b⟩ := XB.out.both; obtain ⟨cc61a, cc61b⟩ := XC.out.both; obtain ⟨cc62a, cc62b⟩ := XD.out.both; obtain ⟨⟨cc63a, cc63b⟩, ⟨cc63c, cc63d⟩, ⟨cc63e, cc63f⟩, cc63g, cc63h⟩ := XQ.out.stores; obtain ⟨r64a, r64b, r64c⟩ := XQ.out.last B.out (by have := L0.out; have := L1.out; omega) false false none none 0 0 0 0; replace XA := hid ((((XA.out.other (g2 := w.heap.size + 1 + 1) (by have := L0.out; have := L1.out; omega) 0 (.bool false)).other (g2 := w.heap.size + 1 + 1) (by have := L0.out; have := L1.out; omega) 1 (.slice none 0 0)).other (g2 := w.heap.size + 1 + 1) (by have := L0.out; have := L1.out; omega) 2 (.bool false)).other (g2 := w.heap.size + 1 + 1) (by have := L0.out; have := L1.out; omega) 3 (.slice none 0 0)); replace XB := hid ((((XB.out.other (g2 := w.heap.size + 1 + 1) (by have := L0.out; have := L1.out; omega) 0 (.bool false)).other (g2 := w.heap.size + 1 + 1) (by have := L0.out; have := L1.out; omega) 1 (.slice none 0 0)).other (g2 := w.heap.size + 1 + 1) (by have := L0.out; have := L1.out; omega) 2 (.bool false)).other (g2 := w.heap.size + 1 + 1) (by have := L0.out; have := L1.out; omega) 3 (.slice none 0 0)); replace XC := hid ((((XC.out.other (g2 := w.heap.size + 1 + 1) (by have := L0.out; have := L1.out; omega) 0 (.bool false)).other (g2 := w.heap.size + 1 + 1) (by have := L0.out; have := L1.out; omega) 1 (.slice none 0 0)).other (g2 := w.heap.size + 1 + 1) (by have := L0.out; have := L1.out; omega) 2 (.bool false)).other (g2 := w.heap.size + 1 + 1) (by have := L0.out; have := L1.out; omega) 3 (.slice none 0 0)); replace XD := hid ((((XD.out.other (g2 := w.heap.size + 1 + 1) (by have := L0.out; have := L1.out; omega) 0 (.bool false)).other (g2 := w.heap.size + 1 + 1) (by have := L0.out; have := L1.out; omega) 1 (.slice none 0 0)).other (g2 := w.heap.size + 1 + 1) (by have := L0.out; have := L1.out; omega) 2 (.bool false)).other (g2 := w.heap.size + 1 + 1) (by have := L0.out; have := L1.out; omega) 3 (.slice none 0 0)); replace HT1 := hid (r64c HT1.out); replace HU1 := hid (r64c HU1.out); replace HT2 := hid (r64c HT2.out); replace HU2 := hid (r64c HU2.out); replace HA := hid (r64c HA.out); replace HB := hid (r64c HB.out); replace HC := hid (r64c HC.out); replace HE := hid (r64c HE.out); replace P1 := hid (r64c P1.out); replace P2 := hid (r64c P2.out); replace XQ := hid r64a; replace B := hid r64b; clear r64a r64b r64c; obtain ⟨cc65a, cc65b⟩ := XA.out.both; obtain ⟨cc66a, cc66b⟩ := XB.out.both; obtain ⟨cc67a, cc67b⟩ := XC.out.both; obtain ⟨cc68a, cc68b⟩ := XD.out.both; have mk47_2 := hid True.intro)
    | (have hm := mk47_0; clear hm; go_at_call 78; refine (mul_whl HB.out HC.out (by have := HK.out; omega) (by have := HK.out; omega)).mono ?_; rintro e w53 ⟨v, rfl, hv, hb⟩; obtain ⟨s12, p12, n12, c12, rfl⟩ := hv.opened; replace XQ := nx XQ hb; replace XA := bx XA hb; replace XB := bx XB hb; replace XC := bx XC hb; replace XD := bx XD hb; replace HT1 := wl HT1 hb; replace HU1 := wl HU1 hb; replace HT2 := wl HT2 hb; replace HU2 := wl HU2 hb; replace HA := wl HA hb; replace HB := wl HB hb; replace HC := wl HC hb; replace HE := wl HE hb; replace P1 := wl P1 hb; replace B := bb B hb; clear cc49a cc49b cc50a cc50b cc51a cc51b cc52a cc52b; have P2 := hid hv; clear hb hv; obtain ⟨cc54a, cc54b⟩ := XA.out.both; obtain ⟨cc55a, cc55b⟩ := XB.out.both; obtain ⟨cc56a, cc56b⟩ := XC.out.both; obtain ⟨cc57a, cc57b⟩ := XD.out.both; have mk47_1 := hid True.intro)
    | (go_at_call 78; refine (mul_whl HA.out HE.out (by have := HK.out; omega) (by have := HK.out; omega)).mono ?_; rintro e w48 ⟨v, rfl, hv, hb⟩; obtain ⟨s11, p11, n11, c11, rfl⟩ := hv.opened; replace XQ := nx XQ hb; replace XA := bx XA hb; replace XB := bx XB hb; replace XC := bx XC hb; replace XD := bx XD hb; replace HT1 := wl HT1 hb; replace HU1 := wl HU1 hb; replace HT2 := wl HT2 hb; replace HU2 := wl HU2 hb; replace HA := wl HA hb; replace HB := wl HB hb; replace HC := wl HC hb; replace HE := wl HE hb; replace B := bb B hb; clear cc33a cc33b cc33c cc33d cc34a cc34b cc35a cc35b cc36a cc36b cc37a cc37b cc39a cc39b cc40a cc40b cc41a cc41b cc42a cc42b cc43a cc43b cc44a cc44b cc45a cc45b cc46a cc46b; have P1 := hid hv; clear hb hv; obtain ⟨cc49a, cc49b⟩ := XA.out.both; obtain ⟨cc50a, cc50b⟩ := XB.out.both; obtain ⟨cc51a, cc51b⟩ := XC.out.both; obtain ⟨cc52a, cc52b⟩ := XD.out.both; have mk47_0 := hid True.intro))
  go_wp2_with fail
  refine bodyPost_ret (res_num_tmp rfl rfl rfl XQ.out) rfl ?_
  exact ⟨rfl, B.out⟩

set_option maxHeartbeats 4000000 in
theorem divq_some {w : World} {v u : Value} {q r : Rat} {k : Nat} (h : Rtl w v q k) (h' : Rtl w u r k) (hr : r ≠ 0) (hk1 : 1 ≤ k) (hk : k ≤ 68719476736) :
    Calls Tryz.prog 62 #[v, u] w fun e w' => ∃ v, e = .returned (.tuple #[v, .nilIface]) ∧ Rtl w' v (q / r) (k + k + 1) ∧ Below w.heap.size w w' := by
  have HR := hid hr
  obtain ⟨s1a, p1a, n1a, c1a, s1b, p1b, n1b, c1b, rfl⟩ := h.opened
  obtain ⟨ht1, d1, hu1, hd1⟩ := h.two
  have HD1 := hid hd1
  obtain ⟨s2a, p2a, n2a, c2a, s2b, p2b, n2b, c2b, rfl⟩ := h'.opened
  obtain ⟨ht2, d2, hu2, hd2⟩ := h'.two
  have HD2 := hid hd2
  have HK := hid hk
  have HK1 := hid hk1
  have B := hid (Below.refl w.heap.size w)
  have HT1 := hid ht1
  have HU1 := hid hu1
  have HT2 := hid ht2
  have HU2 := hid hu2
  have hb1 := (Below.refl _ _).alloc (Nat.le_refl w.heap.size) (.cells #[.bool s1a, .slice p1a n1a c1a, .bool s1b, .slice p1b n1b c1b] 60)
  have hx2 := Nbx.new w s1a s1b (.slice p1a n1a c1a) (.slice p1b n1b c1b)
  replace HT1 := wl HT1 hb1
  replace HU1 := wl HU1 hb1
  replace HT2 := wl HT2 hb1
  replace HU2 := wl HU2 hb1
  replace B := bb B hb1
  have X1 := hid hx2
  have hs3 : (w.alloc (.cells #[.bool s1a, .slice p1a n1a c1a, .bool s1b, .slice p1b n1b c1b] 60)).heap.size = w.heap.size + 1 := by simp
  clear hb1 hx2
  have hb4 := (Below.refl _ _).alloc (Nat.le_refl (w.alloc (.cells #[.bool s1a, .slice p1a n1a c1a, .bool s1b, .slice p1b n1b c1b] 60)).heap.size) (.cells #[.bool s2a, .slice p2a n2a c2a, .bool s2b, .slice p2b n2b c2b] 60)
  have hx5 := Nbx.new (w.alloc (.cells #[.bool s1a, .slice p1a n1a c1a, .bool s1b, .slice p1b n1b c1b] 60)) s2a s2b (.slice p2a n2a c2a) (.slice p2b n2b c2b)
  rw [hs3] at hx5
  replace X1 := nx X1 hb4
  replace HT1 := wl HT1 hb4
  replace HU1 := wl HU1 hb4
  replace HT2 := wl HT2 hb4
  replace HU2 := wl HU2 hb4
  replace B := bb B hb4
  have X2 := hid hx5
  have hs6 : ((w.alloc (.cells #[.bool s1a, .slice p1a n1a c1a, .bool s1b, .slice p1b n1b c1b] 60)).alloc (.cells #[.bool s2a, .slice p2a n2a c2a, .bool s2b, .slice p2b n2b c2b] 60)).heap.size = w.heap.size + 1 + 1 := by simp [hs3]
  clear hb4 hx5
  have hb7 := (Below.refl _ _).alloc (Nat.le_refl ((w.alloc (.cells #[.bool s1a, .slice p1a n1a c1a, .bool s1b, .slice p1b n1b c1b] 60)).alloc (.cells #[.bool s2a, .slice p2a n2a c2a, .bool s2b, .slice p2b n2b c2b] 60)).heap.size) (.cells #[.bool false, .slice none 0 0, .bool false, .slice none 0 0] 60)
  have hx8 := Nbx.new ((w.alloc (.cells #[.bool s1a, .slice p1a n1a c1a, .bool s1b, .slice p1b n1b c1b] 60)).alloc (.cells #[.bool s2a, .slice p2a n2a c2a, .bool s2b, .slice p2b n2b c2b] 60)) false false (.slice none 0 0) (.slice none 0 0)
  rw [hs6] at hx8
  replace X1 := nx X1 hb7
  replace X2 := nx X2 hb7
  replace HT1 := wl HT1 hb7
  replace HU1 := wl HU1 hb7
  replace HT2 := wl HT2 hb7
  replace HU2 := wl HU2 hb7
  replace B := bb B hb7
  have XQ := hid hx8
  have hs9 : (((w.alloc (.cells #[.bool s1a, .slice p1a n1a c1a, .bool s1b, .slice p1b n1b c1b] 60)).alloc (.cells #[.bool s2a, .slice p2a n2a c2a, .bool s2b, .slice p2b n2b c2b] 60)).alloc (.cells #[.bool false, .slice none 0 0, .bool false, .slice none 0 0] 60)).heap.size = w.heap.size + 1 + 1 + 1 := by simp [hs6]
  clear hb7 hx8
  clear hs9 h h' ht1 hu1 ht2 hu2 hd1 hd2 hk hk1
  go_enter Tryz.func62, Tryz.ntmps62
  obtain ⟨cc10a, cc10b, cc10c, cc10d⟩ := X1.out.cells
  obtain ⟨cc11a, cc11b, cc11c, cc11d⟩ := X2.out.cells
  obtain ⟨cc12a, cc12b, cc12c, cc12d⟩ := XQ.out.cells
  go_wp2_with fail
  generalize hW : ((w.alloc (.cells #[.bool s1a, .slice p1a n1a c1a, .bool s1b, .slice p1b n1b c1b] 60)).alloc (.cells #[.bool s2a, .slice p2a n2a c2a, .bool s2b, .slice p2b n2b c2b] 60)).alloc (.cells #[.bool false, .slice none 0 0, .bool false, .slice none 0 0] 60) = W13 at *
  clear hW
  refine (parts_rtl (Rtl.mk2 HT1.out HU1.out HD1.out) HK1.out).mono ?_
  rintro e w14 ⟨v, u, rfl, hv, hu, hb⟩
  obtain ⟨s3, p3, n3, c3, rfl⟩ := hv.opened
  obtain ⟨s4, p4, n4, c4, rfl⟩ := hu.opened
  replace X2 := nx X2 hb
  replace XQ := nx XQ hb
  replace HT1 := wl HT1 hb
  replace HU1 := wl HU1 hb
  replace HT2 := wl HT2 hb
  replace HU2 := wl HU2 hb
  replace B := bb B hb
  clear cc10a cc10b cc10c cc10d cc11a cc11b cc11c cc11d cc12a cc12b cc12c cc12d
  have HA := hid hv
  have HB := hid hu
  clear hb hv hu
  have hb15 := (Below.refl _ _).alloc (Nat.le_refl w14.heap.size) (.cells #[.bool s3, .slice p3 n3 c3] 58)
  have hx16 := Box.new w14 s3 p3 n3 c3
  have L0 := hid XQ.out.lt
  replace X2 := nx X2 hb15
  replace XQ := nx XQ hb15
  replace HT1 := wl HT1 hb15
  replace HU1 := wl HU1 hb15
  replace HT2 := wl HT2 hb15
  replace HU2 := wl HU2 hb15
  replace HA := wl HA hb15
  replace HB := wl HB hb15
  replace B := bb B hb15
  have XA := hid hx16
  have hs17 : (w14.alloc (.cells #[.bool s3, .slice p3 n3 c3] 58)).heap.size = w14.heap.size + 1 := by simp
  clear hb15 hx16
  have hb18 := (Below.refl _ _).alloc (Nat.le_refl (w14.alloc (.cells #[.bool s3, .slice p3 n3 c3] 58)).heap.size) (.cells #[.bool s4, .slice p4 n4 c4] 58)
  have hx19 := Box.new (w14.alloc (.cells #[.bool s3, .slice p3 n3 c3] 58)) s4 p4 n4 c4
  rw [hs17] at hx19
  replace X2 := nx X2 hb18
  replace XQ := nx XQ hb18
  replace XA := bx XA hb18
  replace HT1 := wl HT1 hb18
  replace HU1 := wl HU1 hb18
  replace HT2 := wl HT2 hb18
  replace HU2 := wl HU2 hb18
  replace HA := wl HA hb18
  replace HB := wl HB hb18
  replace B := bb B hb18
  have XB := hid hx19
  have hs20 : ((w14.alloc (.cells #[.bool s3, .slice p3 n3 c3] 58)).alloc (.cells #[.bool s4, .slice p4 n4 c4] 58)).heap.size = w14.heap.size + 1 + 1 := by simp [hs17]
  clear hb18 hx19
  obtain ⟨cc21a, cc21b, cc21c, cc21d⟩ := X2.out.cells
  obtain ⟨cc22a, cc22b, cc22c, cc22d⟩ := XQ.out.cells
  obtain ⟨cc23a, cc23b⟩ := XA.out.both
  obtain ⟨cc24a, cc24b⟩ := XB.out.both
  go_wp2_with fail
  generalize hW : (w14.alloc (.cells #[.bool s3, .slice p3 n3 c3] 58)).alloc (.cells #[.bool s4, .slice p4 n4 c4] 58) = W25 at *
  clear hW
  refine (parts_rtl (Rtl.mk2 HT2.out HU2.out HD2.out) HK1.out).mono ?_
  rintro e w26 ⟨v, u, rfl, hv, hu, hb⟩
  obtain ⟨s5, p5, n5, c5, rfl⟩ := hv.opened
  obtain ⟨s6, p6, n6, c6, rfl⟩ := hu.opened
  replace XQ := nx XQ hb
  replace XA := bx XA hb
  replace XB := bx XB hb
  replace HT1 := wl HT1 hb
  replace HU1 := wl HU1 hb
  replace HT2 := wl HT2 hb
  replace HU2 := wl HU2 hb
  replace HA := wl HA hb
  replace HB := wl HB hb
  replace B := bb B hb
  clear cc21a cc21b cc21c cc21d cc22a cc22b cc22c cc22d cc23a cc23b cc24a cc24b
  have HC := hid hv
  have HE := hid hu
  clear hb hv hu
  have hb27 := (Below.refl _ _).alloc (Nat.le_refl w26.heap.size) (.cells #[.bool s5, .slice p5 n5 c5] 58)
  have hx28 := Box.new w26 s5 p5 n5 c5
  have L1 := hid XB.out.lt
  replace XQ := nx XQ hb27
  replace XA := bx XA hb27
  replace XB := bx XB hb27
  replace HT1 := wl HT1 hb27
  replace HU1 := wl HU1 hb27
  replace HT2 := wl HT2 hb27
  replace HU2 := wl HU2 hb27
  replace HA := wl HA hb27
  replace HB := wl HB hb27
  replace HC := wl HC hb27
  replace HE := wl HE hb27
  replace B := bb B hb27
  have XC := hid hx28
  have hs29 : (w26.alloc (.cells #[.bool s5, .slice p5 n5 c5] 58)).heap.size = w26.heap.size + 1 := by simp
  clear hb27 hx28
  have hb30 := (Below.refl _ _).alloc (Nat.le_refl (w26.alloc (.cells #[.bool s5, .slice p5 n5 c5] 58)).heap.size) (.cells #[.bool s6, .slice p6 n6 c6] 58)
  have hx31 := Box.new (w26.alloc (.cells #[.bool s5, .slice p5 n5 c5] 58)) s6 p6 n6 c6
  rw [hs29] at hx31
  replace XQ := nx XQ hb30
  replace XA := bx XA hb30
  replace XB := bx XB hb30
  replace XC := bx XC hb30
  replace HT1 := wl HT1 hb30
  replace HU1 := wl HU1 hb30
  replace HT2 := wl HT2 hb30
  replace HU2 := wl HU2 hb30
  replace HA := wl HA hb30
  replace HB := wl HB hb30
  replace HC := wl HC hb30
  replace HE := wl HE hb30
  replace B := bb B hb30
  have XD := hid hx31
  have hs32 : ((w26.alloc (.cells #[.bool s5, .slice p5 n5 c5] 58)).alloc (.cells #[.bool s6, .slice p6 n6 c6] 58)).heap.size = w26.heap.size + 1 + 1 := by simp [hs29]
  clear hb30 hx31
  obtain ⟨cc33a, cc33b, cc33c, cc33d⟩ := XQ.out.cells
  obtain ⟨cc34a, cc34b⟩ := XA.out.both
  obtain ⟨cc35a, cc35b⟩ := XB.out.both
  obtain ⟨cc36a, cc36b⟩ := XC.out.both
  obtain ⟨cc37a, cc37b⟩ := XD.out.both
  go_wp2_with fail
  generalize hW : (w26.alloc (.cells #[.bool s5, .slice p5 n5 c5] 58)).alloc (.cells #[.bool s6, .slice p6 n6 c6] 58) = W38 at *
  clear hW
  obtain ⟨cc39a, cc39b⟩ := XA.out.both
  obtain ⟨cc40a, cc40b⟩ := XB.out.both
  obtain ⟨cc41a, cc41b⟩ := XC.out.both
  obtain ⟨cc42a, cc42b⟩ := XD.out.both
  replace XQ := hid XQ.out.dr
  replace XA := hid XA.out.dr
  replace XB := hid XB.out.dr
  replace XC := hid XC.out.dr
  replace XD := hid XD.out.dr
  replace HT1 := hid HT1.out.drew
  replace HU1 := hid HU1.out.drew
  replace HT2 := hid HT2.out.drew
  replace HU2 := hid HU2.out.drew
  replace HA := hid HA.out.drew
  replace HB := hid HB.out.drew
  replace HC := hid HC.out.drew
  replace HE := hid HE.out.drew
  replace B := hid (Below.drew B.out)
  obtain ⟨cc43a, cc43b⟩ := XA.out.both
  obtain ⟨cc44a, cc44b⟩ := XB.out.both
  obtain ⟨cc45a, cc45b⟩ := XC.out.both
  obtain ⟨cc46a, cc46b⟩ := XD.out.both
  go_region_held3 (fun w' => w'.cell? ⟨w14.heap.size, 0, none⟩ = some (.bool s3) ∧ w'.cell? ⟨w14.heap.size, 1, none⟩ = some (.slice p3 n3 c3) ∧ w'.cell? ⟨w14.heap.size + 1, 0, none⟩ = some (.bool s4) ∧ w'.cell? ⟨w14.heap.size + 1, 1, none⟩ = some (.slice p4 n4 c4) ∧ w'.cell? ⟨w26.heap.size, 0, none⟩ = some (.bool s5) ∧ w'.cell? ⟨w26.heap.size, 1, none⟩ = some (.slice p5 n5 c5) ∧ w'.cell? ⟨w26.heap.size + 1, 0, none⟩ = some (.bool s6) ∧ w'.cell? ⟨w26.heap.size + 1, 1, none⟩ = some (.slice p6 n6 c6)) (go_keep) (first
    | (have hm := mk47_1; clear hm; go_at_call 81; refine (quot_some P1.out P2.out (Int.mul_ne_zero (den_ne _) (by rw [Ne, Rat.num_eq_zero]; exact HR.out)) (by have := HK.out; omega)).mono ?_; rintro e w58 ⟨v, rfl, hv, hb⟩; obtain ⟨s9a, p9a, n9a, c9a, s9b, p9b, n9b, c9b, rfl⟩ := hv.opened; obtain ⟨ht9, d9, hu9, hd9⟩ := hv.two; have HD9 := hid hd9; replace XQ := nx XQ hb; replace XA := bx XA hb; replace XB := bx XB hb; replace XC := bx XC hb; replace XD := bx XD hb; replace HT1 := wl HT1 hb; replace HU1 := wl HU1 hb; replace HT2 := wl HT2 hb; replace HU2 := wl HU2 hb; replace HA := wl HA hb; replace HB := wl HB hb; replace HC := wl HC hb; replace HE := wl HE hb; replace P1 := wl P1 hb; replace P2 := wl P2 hb; replace B := bb B hb; clear cc54a cc54b cc55a cc55b cc56a cc56b cc57a cc57b; have HT9 := hid ht9; have HU9 := hid hu9; clear hb hv ht9 hu9 hd9; obtain ⟨cc59a, cc59b⟩ := XA.out.both; obtain ⟨cc60a, cc60b⟩ := XB.out.both; obtain ⟨cc61a, cc61b⟩ := XC.out.both; obtain ⟨cc62a, cc62b⟩ := XD.out.both; obtain ⟨⟨cc63a, cc63b⟩, ⟨cc63c, cc63d⟩, ⟨cc63e, cc63f⟩, cc63g, cc63h⟩ := XQ.out.stores; obtain ⟨r64a, r64b, r64c⟩ := XQ.out.last B.out (by have := L0.out; have := L1.out; omega) s9a s9b p9a p9b n9a n9b c9a c9b; replace XA := hid ((((XA.out.other (g2 := w.heap.size + 1 + 1) (by have := L0.out; have := L1.out; omega) 0 (.bool s9a)).other (g2 := w.heap.size + 1 + 1) (by have := L0.out; have := L1.out; omega) 1 (.slice p9a n9a c9a)).other (g2 := w.heap.size + 1 + 1) (by have := L0.out; have := L1.out; omega) 2 (.bool s9b)).other (g2 := w.heap.size + 1 + 1) (by have := L0.out; have := L1.out; omega) 3 (.slice p9b n9b c9b)); replace XB := hid ((((XB.out.other (g2 := w.heap.size + 1 + 1) (by have := L0.out; have := L1.out; omega) 0 (.bool s9a)).other (g2 := w.heap.size + 1 + 1) (by have := L0.out; have := L1.out; omega) 1 (.slice p9a n9a c9a)).other (g2 := w.heap.size + 1 + 1) (by have := L0.out; have := L1.out; omega) 2 (.bool s9b)).other (g2 := w.heap.size + 1 + 1) (by have := L0.out; have := L1.out; omega) 3 (.slice p9b n9b c9b)); replace XC := hid ((((XC.out.other (g2 := w.heap.size + 1 + 1) (by have := L0.out; have := L1.out; omega) 0 (.bool s9a)).other (g2 := w.heap.size + 1 + 1) (by have := L0.out; have := L1.out; omega) 1 (.slice p9a n9a c9a)).other (g2 := w.heap.size + 1 + 1) (by have := L0.out; have := L1.out; omega) 2 (.bool s9b)).other (g2 := w.heap.size + 1 + 1) (by have := L0.out; have := L1.out; omega) 3 (.slice p9b n9b c9b)); replace XD := hid ((((XD.out.other (g2 := w.heap.size + 1 + 1) (by have := L0.out; have := L1.out; omega) 0 (.bool s9a)).other (g2 := w.heap.size + 1 + 1) (by have := L0.out; have := L1.out; omega) 1 (.slice p9a n9a c9a)).other (g2 := w.heap.size + 1 + 1) (by have := L0.out; have := L1.out; omega) 2 (.bool s9b)).other (g2 := w.heap.size + 1 + 1) (by have := L0.out; have := L1.out; omega) 3 (.slice p9b n9b c9b)); replace HT1 := hid (r64c HT1.out); replace HU1 := hid (r64c HU1.out); replace HT2 := hid (r64c HT2.out); replace HU2 := hid (r64c HU2.out); replace HA := hid (r64c HA.out); replace HB := hid (r64c HB.out); replace HC := hid (r64c HC.out); replace HE := hid (r64c HE.out); replace P1 := hid (r64c P1.out); replace P2 := hid (r64c P2.out); replace HT9 := hid (r64c HT9.out); replace HU9 := hid (r64c HU9.out); replace XQ := hid r64a; replace B := hid r64b; clear r64a r64b r64c; obtain ⟨cc65a, cc65b⟩ := XA.out.both; obtain ⟨cc66a, cc66b⟩ := XB.out.both; obtain ⟨cc67a, cc67b⟩ := XC.out.both; obtain ⟨cc68a, cc68b⟩ := XD.out.both; have mk47_2 := hid True.intro)
    | (have hm := mk47_0; clear hm; go_at_call 78; refine (mul_whl HB.out HC.out (by have := HK.out; omega) (by have := HK.out; omega)).mono ?_; rintro e w53 ⟨v, rfl, hv, hb⟩; obtain ⟨s12, p12, n12, c12, rfl⟩ := hv.opened; replace XQ := nx XQ hb; replace XA := bx XA hb; replace XB := bx XB hb; replace XC := bx XC hb; replace XD := bx XD hb; replace HT1 := wl HT1 hb; replace HU1 := wl HU1 hb; replace HT2 := wl HT2 hb; replace HU2 := wl HU2 hb; replace HA := wl HA hb; replace HB := wl HB hb; replace HC := wl HC hb; replace HE := wl HE hb; replace P1 := wl P1 hb; replace B := bb B hb; clear cc49a cc49b cc50a cc50b cc51a cc51b cc52a cc52b; have P2 := hid hv; clear hb hv; obtain ⟨cc54a, cc54b⟩ := XA.out.both; obtain ⟨cc55a, cc55b⟩ := XB.out.both; obtain ⟨cc56a, cc56b⟩ := XC.out.both; obtain ⟨cc57a, cc57b⟩ := XD.out.both; have mk47_1 := hid True.intro)
    | (go_at_call 78; refine (mul_whl HA.out HE.out (by have := HK.out; omega) (by have := HK.out; omega)).mono ?_; rintro e w48 ⟨v, rfl, hv, hb⟩; obtain ⟨s11, p11, n11, c11, rfl⟩ := hv.opened; replace XQ := nx XQ hb; replace XA := bx XA hb; replace XB := bx XB hb; replace XC := bx XC hb; replace XD := bx XD hb; replace HT1 := wl HT1 hb; replace HU1 := wl HU1 hb; replace HT2 := wl HT2 hb; replace HU2 := wl HU2 hb; replace HA := wl HA hb; replace HB := wl HB hb; replace HC := wl HC hb; replace HE := wl HE hb; replace B := bb B hb; clear cc33a cc33b cc33c cc33d cc34a cc34b cc35a cc35b cc36a cc36b cc37a cc37b cc39a cc39b cc40a cc40b cc41a cc41b cc42a cc42b cc43a cc43b cc44a cc44b cc45a cc45b cc46a cc46b; have P1 := hid hv; clear hb hv; obtain ⟨cc49a, cc49b⟩ := XA.out.both; obtain ⟨cc50a, cc50b⟩ := XB.out.both; obtain ⟨cc51a, cc51b⟩ := XC.out.both; obtain ⟨cc52a, cc52b⟩ := XD.out.both; have mk47_0 := hid True.intro))
  go_wp2_with fail
  refine bodyPost_ret (res_num_tmp rfl rfl rfl XQ.out) rfl ?_
  exact ⟨_, rfl, (by rw [div_parts]; exact (Rtl.mk2 HT9.out HU9.out HD9.out).mono (by omega)), B.out⟩

end Go.Proofs.YtkdeopikojgboaaGreatDoor

/-
  PACKAGE rat: Compare, Less, Floor.
-/
namespace Go.Proofs.YtkdeopikojgboaaGreatDoor
open Go.RowKit
open Num
set_option linter.unusedVariables false
set_option maxRecDepth 100000
set_option linter.unusedSimpArgs false

/-- The sign of one less another one. -/
def cmpi (q r : Rat) : Int := (q.num * (r.den : Int) - r.num * (q.den : Int)).sign
theorem cmpi_lt (q r : Rat) : cmpi q r < 0 ↔ q < r := by
  rw [Rat.lt_iff, cmpi]
  rcases Int.lt_trichotomy (q.num * (r.den : Int) - r.num * (q.den : Int)) 0 with h | h | h
  · rw [Int.sign_eq_neg_one_of_neg h]; constructor <;> intro _ <;> omega
  · rw [h]; constructor <;> intro h2
    · cases h2
    · omega
  · rw [Int.sign_eq_one_of_pos h]; constructor <;> intro h2 <;> omega
theorem cmpi_swap (q r : Rat) : cmpi q r = -cmpi r q := by
  rw [cmpi, cmpi, ← Int.sign_neg]
  congr 1
  omega
theorem cmpi_gt (q r : Rat) : 0 < cmpi q r ↔ r < q := by
  rw [← cmpi_lt r q, cmpi_swap q r]
  omega
theorem cmpi_small (q r : Rat) : -1 ≤ cmpi q r ∧ cmpi q r ≤ 1 := by
  rcases Int.lt_trichotomy (q.num * (r.den : Int) - r.num * (q.den : Int)) 0 with h | h | h
  · rw [cmpi, Int.sign_eq_neg_one_of_neg h]; decide
  · rw [cmpi, h]; decide
  · rw [cmpi, Int.sign_eq_one_of_pos h]; decide
set_option maxHeartbeats 4000000 in
theorem cmpq_rtl {w : World} {v u : Value} {q r : Rat} {k : Nat} (h : Rtl w v q k) (h' : Rtl w u r k) (hk1 : 1 ≤ k) (hk : k ≤ 68719476736) :
    Calls Tryz.prog 68 #[v, u] w fun e w' => e = .returned (.int .i64 (cmpi q r)) ∧ Below w.heap.size w w' := by
  obtain ⟨s1a, p1a, n1a, c1a, s1b, p1b, n1b, c1b, rfl⟩ := h.opened
  obtain ⟨ht1, d1, hu1, hd1⟩ := h.two
  have HD1 := hid hd1
  obtain ⟨s2a, p2a, n2a, c2a, s2b, p2b, n2b, c2b, rfl⟩ := h'.opened
  obtain ⟨ht2, d2, hu2, hd2⟩ := h'.two
  have HD2 := hid hd2
  have HK := hid hk
  have HK1 := hid hk1
  have B := hid (Below.refl w.heap.size w)
  have HT1 := hid ht1
  have HU1 := hid hu1
  have HT2 := hid ht2
  have HU2 := hid hu2
  have hb1 := (Below.refl _ _).alloc (Nat.le_refl w.heap.size) (.cells #[.bool s1a, .slice p1a n1a c1a, .bool s1b, .slice p1b n1b c1b] 60)
  have hx2 := Nbx.new w s1a s1b (.slice p1a n1a c1a) (.slice p1b n1b c1b)
  replace HT1 := wl HT1 hb1
  replace HU1 := wl HU1 hb1
  replace HT2 := wl HT2 hb1
  replace HU2 := wl HU2 hb1
  replace B := bb B hb1
  have X1 := hid hx2
  have hs3 : (w.alloc (.cells #[.bool s1a, .slice p1a n1a c1a, .bool s1b, .slice p1b n1b c1b] 60)).heap.size = w.heap.size + 1 := by simp
  clear hb1 hx2
  have hb4 := (Below.refl _ _).alloc (Nat.le_refl (w.alloc (.cells #[.bool s1a, .slice p1a n1a c1a, .bool s1b, .slice p1b n1b c1b] 60)).heap.size) (.cells #[.bool s2a, .slice p2a n2a c2a, .bool s2b, .slice p2b n2b c2b] 60)
  have hx5 := Nbx.new (w.alloc (.cells #[.bool s1a, .slice p1a n1a c1a, .bool s1b, .slice p1b n1b c1b] 60)) s2a s2b (.slice p2a n2a c2a) (.slice p2b n2b c2b)
  rw [hs3] at hx5
  replace X1 := nx X1 hb4
  replace HT1 := wl HT1 hb4
  replace HU1 := wl HU1 hb4
  replace HT2 := wl HT2 hb4
  replace HU2 := wl HU2 hb4
  replace B := bb B hb4
  have X2 := hid hx5
  have hs6 : ((w.alloc (.cells #[.bool s1a, .slice p1a n1a c1a, .bool s1b, .slice p1b n1b c1b] 60)).alloc (.cells #[.bool s2a, .slice p2a n2a c2a, .bool s2b, .slice p2b n2b c2b] 60)).heap.size = w.heap.size + 1 + 1 := by simp [hs3]
  clear hb4 hx5
  clear hs6 h h' ht1 hu1 ht2 hu2 hd1 hd2 hk hk1
  go_enter Tryz.func68, Tryz.ntmps68
  obtain ⟨cc7a, cc7b, cc7c, cc7d⟩ := X1.out.cells
  obtain ⟨cc8a, cc8b, cc8c, cc8d⟩ := X2.out.cells
  go_wp2_with fail
  generalize hW : (w.alloc (.cells #[.bool s1a, .slice p1a n1a c1a, .bool s1b, .slice p1b n1b c1b] 60)).alloc (.cells #[.bool s2a, .slice p2a n2a c2a, .bool s2b, .slice p2b n2b c2b] 60) = W9 at *
  clear hW
  refine (parts_rtl (Rtl.mk2 HT1.out HU1.out HD1.out) HK1.out).mono ?_
  rintro e w10 ⟨v, u, rfl, hv, hu, hb⟩
  obtain ⟨s3, p3, n3, c3, rfl⟩ := hv.opened
  obtain ⟨s4, p4, n4, c4, rfl⟩ := hu.opened
  replace X2 := nx X2 hb
  replace HT1 := wl HT1 hb
  replace HU1 := wl HU1 hb
  replace HT2 := wl HT2 hb
  replace HU2 := wl HU2 hb
  replace B := bb B hb
  clear cc7a cc7b cc7c cc7d cc8a cc8b cc8c cc8d
  have HA := hid hv
  have HB := hid hu
  clear hb hv hu
  have hb11 := (Below.refl _ _).alloc (Nat.le_refl w10.heap.size) (.cells #[.bool s3, .slice p3 n3 c3] 58)
  have hx12 := Box.new w10 s3 p3 n3 c3
  have L0 := hid X2.out.lt
  replace X2 := nx X2 hb11
  replace HT1 := wl HT1 hb11
  replace HU1 := wl HU1 hb11
  replace HT2 := wl HT2 hb11
  replace HU2 := wl HU2 hb11
  replace HA := wl HA hb11
  replace HB := wl HB hb11
  replace B := bb B hb11
  have XA := hid hx12
  have hs13 : (w10.alloc (.cells #[.bool s3, .slice p3 n3 c3] 58)).heap.size = w10.heap.size + 1 := by simp
  clear hb11 hx12
  have hb14 := (Below.refl _ _).alloc (Nat.le_refl (w10.alloc (.cells #[.bool s3, .slice p3 n3 c3] 58)).heap.size) (.cells #[.bool s4, .slice p4 n4 c4] 58)
  have hx15 := Box.new (w10.alloc (.cells #[.bool s3, .slice p3 n3 c3] 58)) s4 p4 n4 c4
  rw [hs13] at hx15
  replace X2 := nx X2 hb14
  replace XA := bx XA hb14
  replace HT1 := wl HT1 hb14
  replace HU1 := wl HU1 hb14
  replace HT2 := wl HT2 hb14
  replace HU2 := wl HU2 hb14
  replace HA := wl HA hb14
  replace HB := wl HB hb14
  replace B := bb B hb14
  have XB := hid hx15
  have hs16 : ((w10.alloc (.cells #[.bool s3, .slice p3 n3 c3] 58)).alloc (.cells #[.bool s4, .slice p4 n4 c4] 58)).heap.size = w10.heap.size + 1 + 1 := by simp [hs13]
  clear hb14 hx15
  obtain ⟨cc17a, cc17b, cc17c, cc17d⟩ := X2.out.cells
  obtain ⟨cc18a, cc18b⟩ := XA.out.both
  obtain ⟨cc19a, cc19b⟩ := XB.out.both
  go_wp2_with fail
  generalize hW : (w10.alloc (.cells #[.bool s3, .slice p3 n3 c3] 58)).alloc (.cells #[.bool s4, .slice p4 n4 c4] 58) = W20 at *
  clear hW
  refine (parts_rtl (Rtl.mk2 HT2.out HU2.out HD2.out) HK1.out).mono ?_
  rintro e w21 ⟨v, u, rfl, hv, hu, hb⟩
  obtain ⟨s5, p5, n5, c5, rfl⟩ := hv.opened
  obtain ⟨s6, p6, n6, c6, rfl⟩ := hu.opened
  replace XA := bx XA hb
  replace XB := bx XB hb
  replace HT1 := wl HT1 hb
  replace HU1 := wl HU1 hb
  replace HT2 := wl HT2 hb
  replace HU2 := wl HU2 hb
  replace HA := wl HA hb
  replace HB := wl HB hb
  replace B := bb B hb
  clear cc17a cc17b cc17c cc17d cc18a cc18b cc19a cc19b
  have HC := hid hv
  have HE := hid hu
  clear hb hv hu
  have hb22 := (Below.refl _ _).alloc (Nat.le_refl w21.heap.size) (.cells #[.bool s5, .slice p5 n5 c5] 58)
  have hx23 := Box.new w21 s5 p5 n5 c5
  have L1 := hid XB.out.lt
  replace XA := bx XA hb22
  replace XB := bx XB hb22
  replace HT1 := wl HT1 hb22
  replace HU1 := wl HU1 hb22
  replace HT2 := wl HT2 hb22
  replace HU2 := wl HU2 hb22
  replace HA := wl HA hb22
  replace HB := wl HB hb22
  replace HC := wl HC hb22
  replace HE := wl HE hb22
  replace B := bb B hb22
  have XC := hid hx23
  have hs24 : (w21.alloc (.cells #[.bool s5, .slice p5 n5 c5] 58)).heap.size = w21.heap.size + 1 := by simp
  clear hb22 hx23
  have hb25 := (Below.refl _ _).alloc (Nat.le_refl (w21.alloc (.cells #[.bool s5, .slice p5 n5 c5] 58)).heap.size) (.cells #[.bool s6, .slice p6 n6 c6] 58)
  have hx26 := Box.new (w21.alloc (.cells #[.bool s5, .slice p5 n5 c5] 58)) s6 p6 n6 c6
  rw [hs24] at hx26
  replace XA := bx XA hb25
  replace XB := bx XB hb25
  replace XC := bx XC hb25
  replace HT1 := wl HT1 hb25
  replace HU1 := wl HU1 hb25
  replace HT2 := wl HT2 hb25
  replace HU2 := wl HU2 hb25
  replace HA := wl HA hb25
  replace HB := wl HB hb25
  replace HC := wl HC hb25
  replace HE := wl HE hb25
  replace B := bb B hb25
  have XD := hid hx26
  have hs27 : ((w21.alloc (.cells #[.bool s5, .slice p5 n5 c5] 58)).alloc (.cells #[.bool s6, .slice p6 n6 c6] 58)).heap.size = w21.heap.size + 1 + 1 := by simp [hs24]
  clear hb25 hx26
  obtain ⟨cc28a, cc28b⟩ := XA.out.both
  obtain ⟨cc29a, cc29b⟩ := XB.out.both
  obtain ⟨cc30a, cc30b⟩ := XC.out.both
  obtain ⟨cc31a, cc31b⟩ := XD.out.both
  go_wp2_with fail
  generalize hW : (w21.alloc (.cells #[.bool s5, .slice p5 n5 c5] 58)).alloc (.cells #[.bool s6, .slice p6 n6 c6] 58) = W32 at *
  clear hW
  obtain ⟨cc33a, cc33b⟩ := XA.out.both
  obtain ⟨cc34a, cc34b⟩ := XB.out.both
  obtain ⟨cc35a, cc35b⟩ := XC.out.both
  obtain ⟨cc36a, cc36b⟩ := XD.out.both
  replace XA := hid XA.out.dr
  replace XB := hid XB.out.dr
  replace XC := hid XC.out.dr
  replace XD := hid XD.out.dr
  replace HT1 := hid HT1.out.drew
  replace HU1 := hid HU1.out.drew
  replace HT2 := hid HT2.out.drew
  replace HU2 := hid HU2.out.drew
  replace HA := hid HA.out.drew
  replace HB := hid HB.out.drew
  replace HC := hid HC.out.drew
  replace HE := hid HE.out.drew
  replace B := hid (Below.drew B.out)
  obtain ⟨cc37a, cc37b⟩ := XA.out.both
  obtain ⟨cc38a, cc38b⟩ := XB.out.both
  obtain ⟨cc39a, cc39b⟩ := XC.out.both
  obtain ⟨cc40a, cc40b⟩ := XD.out.both
  go_region_held3 (fun w' => w'.cell? ⟨w10.heap.size, 0, none⟩ = some (.bool s3) ∧ w'.cell? ⟨w10.heap.size, 1, none⟩ = some (.slice p3 n3 c3) ∧ w'.cell? ⟨w10.heap.size + 1, 0, none⟩ = some (.bool s4) ∧ w'.cell? ⟨w10.heap.size + 1, 1, none⟩ = some (.slice p4 n4 c4) ∧ w'.cell? ⟨w21.heap.size, 0, none⟩ = some (.bool s5) ∧ w'.cell? ⟨w21.heap.size, 1, none⟩ = some (.slice p5 n5 c5) ∧ w'.cell? ⟨w21.heap.size + 1, 0, none⟩ = some (.bool s6) ∧ w'.cell? ⟨w21.heap.size + 1, 1, none⟩ = some (.slice p6 n6 c6)) (go_keep) (first
    | (have hm := mk41_2; clear hm; go_at_call 87; refine (sgn_whl S1.out).mono ?_; rintro e w57 ⟨rfl, hb⟩; replace XA := bx XA hb; replace XB := bx XB hb; replace XC := bx XC hb; replace XD := bx XD hb; replace B := bb B hb; clear cc53a cc53b cc54a cc54b cc55a cc55b cc56a cc56b; clear hb ; obtain ⟨cc58a, cc58b⟩ := XA.out.both; obtain ⟨cc59a, cc59b⟩ := XB.out.both; obtain ⟨cc60a, cc60b⟩ := XC.out.both; obtain ⟨cc61a, cc61b⟩ := XD.out.both; have mk41_3 := hid True.intro)
    | (have hm := mk41_1; clear hm; go_at_call 86; refine (sub_whl P1.out P2.out (by have := HK.out; omega) (by have := HK.out; omega)).mono ?_; rintro e w52 ⟨v, rfl, hv, hb⟩; obtain ⟨s7, p7, n7, c7, rfl⟩ := hv.opened; replace XA := bx XA hb; replace XB := bx XB hb; replace XC := bx XC hb; replace XD := bx XD hb; replace B := bb B hb; clear cc48a cc48b cc49a cc49b cc50a cc50b cc51a cc51b; have S1 := hid hv; clear hb hv; obtain ⟨cc53a, cc53b⟩ := XA.out.both; obtain ⟨cc54a, cc54b⟩ := XB.out.both; obtain ⟨cc55a, cc55b⟩ := XC.out.both; obtain ⟨cc56a, cc56b⟩ := XD.out.both; have mk41_2 := hid True.intro)
    | (have hm := mk41_0; clear hm; go_at_call 78; refine (mul_whl HC.out HB.out (by have := HK.out; omega) (by have := HK.out; omega)).mono ?_; rintro e w47 ⟨v, rfl, hv, hb⟩; obtain ⟨s12, p12, n12, c12, rfl⟩ := hv.opened; replace XA := bx XA hb; replace XB := bx XB hb; replace XC := bx XC hb; replace XD := bx XD hb; replace P1 := wl P1 hb; replace B := bb B hb; clear cc43a cc43b cc44a cc44b cc45a cc45b cc46a cc46b; have P2 := hid hv; clear hb hv; obtain ⟨cc48a, cc48b⟩ := XA.out.both; obtain ⟨cc49a, cc49b⟩ := XB.out.both; obtain ⟨cc50a, cc50b⟩ := XC.out.both; obtain ⟨cc51a, cc51b⟩ := XD.out.both; have mk41_1 := hid True.intro)
    | (go_at_call 78; refine (mul_whl HA.out HE.out (by have := HK.out; omega) (by have := HK.out; omega)).mono ?_; rintro e w42 ⟨v, rfl, hv, hb⟩; obtain ⟨s11, p11, n11, c11, rfl⟩ := hv.opened; replace XA := bx XA hb; replace XB := bx XB hb; replace XC := bx XC hb; replace XD := bx XD hb; replace HB := wl HB hb; replace HC := wl HC hb; replace B := bb B hb; clear cc28a cc28b cc29a cc29b cc30a cc30b cc31a cc31b cc33a cc33b cc34a cc34b cc35a cc35b cc36a cc36b cc37a cc37b cc38a cc38b cc39a cc39b cc40a cc40b; have P1 := hid hv; clear hb hv; obtain ⟨cc43a, cc43b⟩ := XA.out.both; obtain ⟨cc44a, cc44b⟩ := XB.out.both; obtain ⟨cc45a, cc45b⟩ := XC.out.both; obtain ⟨cc46a, cc46b⟩ := XD.out.both; have mk41_0 := hid True.intro))
  go_wp2_with fail
  go_ret
  exact ⟨rfl, B.out⟩

set_option maxHeartbeats 4000000 in
theorem lessq_rtl {w : World} {v u : Value} {q r : Rat} {k : Nat} (h : Rtl w v q k) (h' : Rtl w u r k) (hk1 : 1 ≤ k) (hk : k ≤ 68719476736) :
    Calls Tryz.prog 46 #[v, u] w fun e w' => e = .returned (.bool (decide (q < r))) ∧ Below w.heap.size w w' := by
  obtain ⟨s1a, p1a, n1a, c1a, s1b, p1b, n1b, c1b, rfl⟩ := h.opened
  obtain ⟨ht1, d1, hu1, hd1⟩ := h.two
  have HD1 := hid hd1
  obtain ⟨s2a, p2a, n2a, c2a, s2b, p2b, n2b, c2b, rfl⟩ := h'.opened
  obtain ⟨ht2, d2, hu2, hd2⟩ := h'.two
  have HD2 := hid hd2
  have HK := hid hk
  have HK1 := hid hk1
  have HL := hid (show decide (cmpi q r < 0) = decide (q < r) from decide_eq_decide.2 (cmpi_lt q r))
  have B := hid (Below.refl w.heap.size w)
  have HT1 := hid ht1
  have HU1 := hid hu1
  have HT2 := hid ht2
  have HU2 := hid hu2
  have hb1 := (Below.refl _ _).alloc (Nat.le_refl w.heap.size) (.cells #[.bool s1a, .slice p1a n1a c1a, .bool s1b, .slice p1b n1b c1b] 60)
  have hx2 := Nbx.new w s1a s1b (.slice p1a n1a c1a) (.slice p1b n1b c1b)
  replace HT1 := wl HT1 hb1
  replace HU1 := wl HU1 hb1
  replace HT2 := wl HT2 hb1
  replace HU2 := wl HU2 hb1
  replace B := bb B hb1
  have X1 := hid hx2
  have hs3 : (w.alloc (.cells #[.bool s1a, .slice p1a n1a c1a, .bool s1b, .slice p1b n1b c1b] 60)).heap.size = w.heap.size + 1 := by simp
  clear hb1 hx2
  have hb4 := (Below.refl _ _).alloc (Nat.le_refl (w.alloc (.cells #[.bool s1a, .slice p1a n1a c1a, .bool s1b, .slice p1b n1b c1b] 60)).heap.size) (.cells #[.bool s2a, .slice p2a n2a c2a, .bool s2b, .slice p2b n2b c2b] 60)
  have hx5 := Nbx.new (w.alloc (.cells #[.bool s1a, .slice p1a n1a c1a, .bool s1b, .slice p1b n1b c1b] 60)) s2a s2b (.slice p2a n2a c2a) (.slice p2b n2b c2b)
  rw [hs3] at hx5
  replace X1 := nx X1 hb4
  replace HT1 := wl HT1 hb4
  replace HU1 := wl HU1 hb4
  replace HT2 := wl HT2 hb4
  replace HU2 := wl HU2 hb4
  replace B := bb B hb4
  have X2 := hid hx5
  have hs6 : ((w.alloc (.cells #[.bool s1a, .slice p1a n1a c1a, .bool s1b, .slice p1b n1b c1b] 60)).alloc (.cells #[.bool s2a, .slice p2a n2a c2a, .bool s2b, .slice p2b n2b c2b] 60)).heap.size = w.heap.size + 1 + 1 := by simp [hs3]
  clear hb4 hx5
  clear hs6 h h' ht1 hu1 ht2 hu2 hd1 hd2 hk hk1
  go_enter Tryz.func46, Tryz.ntmps46
  obtain ⟨cc7a, cc7b, cc7c, cc7d⟩ := X1.out.cells
  obtain ⟨cc8a, cc8b, cc8c, cc8d⟩ := X2.out.cells
  go_wp2_with fail
  generalize hW : (w.alloc (.cells #[.bool s1a, .slice p1a n1a c1a, .bool s1b, .slice p1b n1b c1b] 60)).alloc (.cells #[.bool s2a, .slice p2a n2a c2a, .bool s2b, .slice p2b n2b c2b] 60) = W9 at *
  clear hW
  refine (cmpq_rtl (Rtl.mk2 HT1.out HU1.out HD1.out) (Rtl.mk2 HT2.out HU2.out HD2.out) HK1.out HK.out).mono ?_
  rintro e w10 ⟨rfl, hb⟩
  replace B := bb B hb
  clear cc7a cc7b cc7c cc7d cc8a cc8b cc8c cc8d
  clear hb 
  go_wp2_with fail
  go_ret
  exact ⟨ret_bool HL.out, B.out⟩

end Go.Proofs.YtkdeopikojgboaaGreatDoor
