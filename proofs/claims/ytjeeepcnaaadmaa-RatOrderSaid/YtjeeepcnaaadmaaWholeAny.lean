/-
  PACKAGE whole: TEXTS OF INTEGERS; EACH FUNCTION AT WHATEVER TEXTS.
-/
import Derived.Test.YtjeeepcnaaadmaaWholeRead
import Derived.Test.YtjeeepcnaaadmaaGcdNum
import Derived.Test.YtjeeepcnaaadmaaZCheck

import Derived.Test.YtjeeepcnaaadmaaErrv
namespace Go.Proofs.Ytjeeepcnaaadmaa
open Go.RowKit
open Num
set_option linter.unusedVariables false
set_option maxRecDepth 100000
set_option linter.unusedSimpArgs false

theorem ztxt_list (z : Int) : (ztxt z).data.toList = if z < 0 then 45 :: dtext z.natAbs else dtext z.natAbs := by
  unfold ztxt
  split
  · rw [ByteArray.data_append, Array.toList_append, txt_list]; rfl
  · exact txt_list _
theorem head_dig {l : List UInt8} (h : l.all isDig = true) : (l.head? == some 45) = false := by
  cases l with
  | nil => rfl
  | cons a l =>
    rw [List.all_cons, Bool.and_eq_true] at h
    simp only [List.head?_cons, beq_eq_false_iff_ne]
    intro e
    simp only [Option.some.injEq] at e
    rw [e] at h
    exact absurd h.1 (by decide)
theorem isWhl_ztxt (z : Int) : isWhl (ztxt z).data.toList = true := by
  rw [ztxt_list]
  split
  · simp only [isWhl, List.head?_cons, List.tail_cons, isNat_dtext, dval_dtext]
    simp; omega
  · rw [isWhl, head_dig (dtext_all _)]
    exact isNat_dtext _
theorem znum_ztxt (z : Int) : znum (ztxt z) = z := by
  unfold znum
  rw [ztxt_list]
  split
  · simp only [whlOf, List.head?_cons, List.tail_cons, dval_dtext]
    simp; omega
  · rw [whlOf, head_dig (dtext_all _), dval_dtext]
    simp; omega
theorem ztxt_inj {a b : Int} (h : ztxt a = ztxt b) : a = b := by
  have := congrArg znum h
  rwa [znum_ztxt, znum_ztxt] at this
theorem ztxt_znum {s : ByteArray} (h : isWhl s.data.toList = true) : ztxt (znum s) = s := by
  have hl : (ztxt (znum s)).data.toList = s.data.toList := by
    rw [ztxt_list]
    unfold znum
    cases hb : (s.data.toList.head? == some 45)
    · have h2 : isNat s.data.toList = true := by rw [isWhl, hb] at h; simpa using h
      have h3 : whlOf s.data.toList = (dval s.data.toList : Int) := by rw [whlOf, hb]; rfl
      rw [h3, if_neg (by omega)]
      simpa using dtext_dval h2
    · have h2 : isNat s.data.toList.tail = true ∧ dval s.data.toList.tail ≠ 0 := by rw [isWhl, hb] at h; simpa using h
      have h3 : whlOf s.data.toList = -(dval s.data.toList.tail : Int) := by rw [whlOf, hb]; rfl
      rw [h3, if_pos (by omega)]
      have h4 := dtext_dval h2.1
      cases hd : s.data.toList with
      | nil => rw [hd] at hb; simp at hb
      | cons a l =>
        rw [hd] at hb h4
        simp only [List.head?_cons, Option.some_beq_some, beq_iff_eq] at hb
        subst hb
        simpa using h4
  generalize ztxt (znum s) = t at hl
  obtain ⟨⟨l⟩⟩ := t
  obtain ⟨⟨m⟩⟩ := s
  simp only at hl
  rw [hl]
theorem ztxt_good {s : ByteArray} (h : GoodZ s) : ztxt (znum s) = s := ztxt_znum h.2
theorem ztxt_zero : ztxt 0 = ⟨#[48]⟩ := by
  show ztxt 0 = _
  unfold ztxt
  rw [if_neg (by omega)]
  show txt 0 = _
  rw [txt, dtext_small (by omega)]; rfl
theorem size_ztxt (z : Int) : (ztxt z).size = (if z < 0 then 1 else 0) + (dtext z.natAbs).length := by
  show (ztxt z).data.toList.length = _
  rw [ztxt_list]
  split <;> simp <;> omega
theorem size_ztxt_le {z : Int} {k : Nat} (h : z.natAbs < 10 ^ k) (hk : 0 < k) : (ztxt z).size ≤ k + 1 := by
  rw [size_ztxt]
  have := length_dtext_le h hk
  split <;> omega
theorem goodZ_ztxt {z : Int} (h : z.natAbs < 10 ^ 99) : GoodZ (ztxt z) := ⟨by have := size_ztxt_le h (by omega); omega, isWhl_ztxt z⟩
theorem goodZ_ztxt0 {z : Int} (h0 : 0 ≤ z) (h : z.natAbs < 10 ^ 100) : GoodZ (ztxt z) := by
  refine ⟨?_, isWhl_ztxt z⟩
  rw [size_ztxt, if_neg (by omega)]
  have := length_dtext_le h (by omega)
  omega
theorem dval_lt' {l : List UInt8} (h : isNat l = true) : dval l < 10 ^ l.length := dval_lt (isNat_all h)
theorem znum_lt {s : ByteArray} (h : GoodZ s) : (znum s).natAbs < 10 ^ 100 := by
  obtain ⟨h1, h2⟩ := h
  have hl : s.data.toList.length = s.size := rfl
  unfold znum
  cases hb : (s.data.toList.head? == some 45)
  · have h3 : isNat s.data.toList = true := by rw [isWhl, hb] at h2; simpa using h2
    have h4 : whlOf s.data.toList = (dval s.data.toList : Int) := by rw [whlOf, hb]; rfl
    rw [h4]
    exact Nat.lt_of_lt_of_le (by simpa using dval_lt' h3) (Nat.pow_le_pow_right (by omega) (by omega))
  · have h3 : isNat s.data.toList.tail = true := by rw [isWhl, hb] at h2; simp at h2; exact h2.1
    have h4 : whlOf s.data.toList = -(dval s.data.toList.tail : Int) := by rw [whlOf, hb]; rfl
    rw [h4]
    refine Nat.lt_of_lt_of_le (by simpa using dval_lt' h3) (Nat.pow_le_pow_right (by omega) ?_)
    simp; omega

theorem BadZ.ne {s : ByteArray} {k : Int} (h : BadZ s k) : k ≠ 0 := by
  rcases h with ⟨_, rfl⟩ | ⟨_, _, rfl⟩ <;> decide
theorem WrongZ.ne {a b : ByteArray} {k : Int} (h : WrongZ a b k) : k ≠ 0 := by
  rcases h with h | ⟨_, h⟩ <;> exact h.ne
theorem BadZ.not {s : ByteArray} {k : Int} (h : BadZ s k) : ¬ GoodZ s := by
  rintro ⟨h1, h2⟩
  rcases h with ⟨h, _⟩ | ⟨_, h, _⟩
  · omega
  · rw [h] at h2; cases h2
theorem WrongZ.not {a b : ByteArray} {k : Int} (h : WrongZ a b k) : ¬ (GoodZ a ∧ GoodZ b) := by
  rintro ⟨h1, h2⟩
  rcases h with h | ⟨_, h⟩
  · exact h.not h1
  · exact h.not h2

/-- What a function of two integers tells: the text of f, or nothing and an error. -/
def ZTells (f : Int → Int → Int) (a b s : ByteArray) (k : Int) : Prop :=
  (k = 0 ∧ GoodZ a ∧ GoodZ b ∧ s = ztxt (f (znum a) (znum b))) ∨ (k ≠ 0 ∧ WrongZ a b k ∧ s = ⟨#[]⟩)
theorem ZTells.yes {f : Int → Int → Int} {a b s : ByteArray} {k : Int} (h : ZTells f a b s k) (hk : k = 0) : GoodZ a ∧ GoodZ b ∧ s = ztxt (f (znum a) (znum b)) := by
  rcases h with ⟨_, h⟩ | ⟨h, _⟩
  · exact h
  · exact absurd hk h
theorem ZTells.zero {f : Int → Int → Int} {a b s : ByteArray} {k : Int} (h : ZTells f a b s k) (ha : GoodZ a) (hb : GoodZ b) : k = 0 := by
  rcases h with ⟨h, _⟩ | ⟨_, h, _⟩
  · exact h
  · exact absurd ⟨ha, hb⟩ h.not
theorem ZTells.no {f : Int → Int → Int} {a b s : ByteArray} {k : Int} (h : ZTells f a b s k) (hk : k ≠ 0) : WrongZ a b k ∧ s = ⟨#[]⟩ := by
  rcases h with ⟨h, _⟩ | ⟨_, h⟩
  · exact absurd h hk
  · exact h

theorem size_ztxt_max {z : Int} (h : z.natAbs < 10 ^ 200) : (ztxt z).size ≤ maxLen := by
  have := size_ztxt_le h (by omega)
  unfold maxLen; omega

/-- What a division tells. -/
def ZDivs (a b q r : ByteArray) (k : Int) : Prop :=
  (k = 0 ∧ GoodZ a ∧ GoodZ b ∧ znum b ≠ 0 ∧ q = ztxt (znum a / znum b) ∧ r = ztxt (znum a % znum b)) ∨
  (k ≠ 0 ∧ q = ⟨#[]⟩ ∧ r = ⟨#[]⟩ ∧ (WrongZ a b k ∨ (GoodZ a ∧ GoodZ b ∧ znum b = 0 ∧ k = 5)))
theorem ZDivs.yes {a b q r : ByteArray} {k : Int} (h : ZDivs a b q r k) (hk : k = 0) : GoodZ a ∧ GoodZ b ∧ znum b ≠ 0 ∧ q = ztxt (znum a / znum b) ∧ r = ztxt (znum a % znum b) := by
  rcases h with ⟨_, h⟩ | ⟨h, _⟩
  · exact h
  · exact absurd hk h
theorem ZDivs.zero {a b q r : ByteArray} {k : Int} (h : ZDivs a b q r k) (ha : GoodZ a) (hb : GoodZ b) (h0 : znum b ≠ 0) : k = 0 := by
  rcases h with ⟨h, _⟩ | ⟨_, _, _, h | ⟨_, _, h, _⟩⟩
  · exact h
  · exact absurd ⟨ha, hb⟩ h.not
  · exact absurd h h0

/-- What Gcd tells. -/
def ZGcds (a b g x y : ByteArray) (k : Int) : Prop :=
  (k = 0 ∧ GoodZ a ∧ GoodZ b ∧ g = ztxt (zg (znum a) (znum b)).1 ∧ x = ztxt (zg (znum a) (znum b)).2.1 ∧ y = ztxt (zg (znum a) (znum b)).2.2) ∨
  (k ≠ 0 ∧ WrongZ a b k ∧ g = ⟨#[]⟩ ∧ x = ⟨#[]⟩ ∧ y = ⟨#[]⟩)
theorem ZGcds.yes {a b g x y : ByteArray} {k : Int} (h : ZGcds a b g x y k) (hk : k = 0) : GoodZ a ∧ GoodZ b ∧ g = ztxt (zg (znum a) (znum b)).1 ∧ x = ztxt (zg (znum a) (znum b)).2.1 ∧ y = ztxt (zg (znum a) (znum b)).2.2 := by
  rcases h with ⟨_, h⟩ | ⟨h, _⟩
  · exact h
  · exact absurd hk h
theorem ZGcds.zero {a b g x y : ByteArray} {k : Int} (h : ZGcds a b g x y k) (ha : GoodZ a) (hb : GoodZ b) : k = 0 := by
  rcases h with ⟨h, _⟩ | ⟨_, h, _⟩
  · exact h
  · exact absurd ⟨ha, hb⟩ h.not

theorem zg_bounds (a b : Int) : (zg a b).1.natAbs ≤ max a.natAbs b.natAbs ∧ (zg a b).2.1.natAbs ≤ max b.natAbs 1 ∧ (zg a b).2.2.natAbs ≤ max a.natAbs 1 := by
  by_cases h : b = 0
  · subst h
    rw [zg_zero]
    have : a.sign.natAbs ≤ 1 := by rw [Int.natAbs_sign]; split <;> omega
    refine ⟨?_, ?_, ?_⟩ <;> simp <;> omega
  · have h1 := zg_small a b h
    refine ⟨?_, by omega, h1.2⟩
    rw [zg_gcd]
    have : Int.gcd a b ≤ b.natAbs := Nat.le_of_dvd (by omega) (Nat.gcd_dvd_right _ _)
    simp; omega

theorem zcheck_any (a : ByteArray) (ha : a.size ≤ maxLen) (w : World) :
    Calls Try.prog 15 #[.string a] w fun e w' => ∃ k : Int, e = .returned (errv k) ∧ ((k = 0 ∧ GoodZ a) ∨ (k ≠ 0 ∧ BadZ a k)) ∧ Below w.heap.size w w' := by
  rcases goodZ_or_bad a with h | ⟨k, h⟩
  · refine (zcheck_good h w).mono ?_
    rintro e w' ⟨rfl, hb⟩
    exact ⟨0, rfl, .inl ⟨rfl, h⟩, hb⟩
  · refine (zcheck_bad h ha w).mono ?_
    rintro e w' ⟨rfl, hb⟩
    exact ⟨k, by rw [errv_some h.ne], .inr ⟨h.ne, h⟩, hb⟩

theorem good_minus : GoodZ ⟨#[45, 49]⟩ := ⟨by decide, by decide⟩
theorem znum_minus : znum ⟨#[45, 49]⟩ = -1 := by decide

end Go.Proofs.Ytjeeepcnaaadmaa

