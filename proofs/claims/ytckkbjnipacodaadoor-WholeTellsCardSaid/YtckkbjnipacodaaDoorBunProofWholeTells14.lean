import Derived.Test.YtckkbjnipacodaaDoorBunProofWholeTells11
import Derived.Test.YtckkbjnipacodaaDoorBunProofWholeTells1
import Derived.Test.YtckkbjnipacodaaDoorBunProofWholeTells12
import Derived.Test.YtckkbjnipacodaaDoorBunProofWholeTells10
/-
  PACKAGE whole: TEXTS OF INTEGERS; EACH FUNCTION AT WHATEVER TEXTS.
-/
namespace Go.Proofs.YtckkbjnipacodaaDoor
open Go.RowKit
open Num
set_option linter.unusedVariables false
set_option maxRecDepth 100000
set_option linter.unusedSimpArgs false

theorem ztxt_list (z : Int) : (ztxt z).data.toList = if z < 0 then 45 :: dtext z.natAbs else dtext z.natAbs := by
  unfold ztxt
  split
  · rw [ByteArray.data_append, Array.toList_append, txt_list]; rfl
  · exact txt_list _
theorem head_dig {l : List UInt8} (h : l.all isDig = true) : (l.head? == some 45) = false := by
  cases l with
  | nil => rfl
  | cons a l =>
    rw [List.all_cons, Bool.and_eq_true] at h
    simp only [List.head?_cons, beq_eq_false_iff_ne]
    intro e
    simp only [Option.some.injEq] at e
    rw [e] at h
    exact absurd h.1 (by decide)
theorem isWhl_ztxt (z : Int) : isWhl (ztxt z).data.toList = true := by
  rw [ztxt_list]
  split
  · simp only [isWhl, List.head?_cons, List.tail_cons, isNat_dtext, dval_dtext]
    simp; omega
  · rw [isWhl, head_dig (dtext_all _)]
    exact isNat_dtext _
theorem znum_ztxt (z : Int) : znum (ztxt z) = z := by
  unfold znum
  rw [ztxt_list]
  split
  · simp only [whlOf, List.head?_cons, List.tail_cons, dval_dtext]
    simp; omega
  · rw [whlOf, head_dig (dtext_all _), dval_dtext]
    simp; omega
theorem ztxt_inj {a b : Int} (h : ztxt a = ztxt b) : a = b := by
  have := congrArg znum h
  rwa [znum_ztxt, znum_ztxt] at this
theorem ztxt_znum {s : ByteArray} (h : isWhl s.data.toList = true) : ztxt (znum s) = s := by
  have hl : (ztxt (znum s)).data.toList = s.data.toList := by
    rw [ztxt_list]
    unfold znum
    cases hb : (s.data.toList.head? == some 45)
    · have h2 : isNat s.data.toList = true := by rw [isWhl, hb] at h; simpa using h
      have h3 : whlOf s.data.toList = (dval s.data.toList : Int) := by rw [whlOf, hb]; rfl
      rw [h3, if_neg (by omega)]
      simpa using dtext_dval h2
    · have h2 : isNat s.data.toList.tail = true ∧ dval s.data.toList.tail ≠ 0 := by rw [isWhl, hb] at h; simpa using h
      have h3 : whlOf s.data.toList = -(dval s.data.toList.tail : Int) := by rw [whlOf, hb]; rfl
      rw [h3, if_pos (by omega)]
      have h4 := dtext_dval h2.1
      cases hd : s.data.toList with
      | nil => rw [hd] at hb; simp at hb
      | cons a l =>
        rw [hd] at hb h4
        simp only [List.head?_cons, Option.some_beq_some, beq_iff_eq] at hb
        subst hb
        simpa using h4
  generalize ztxt (znum s) = t at hl
  obtain ⟨⟨l⟩⟩ := t
  obtain ⟨⟨m⟩⟩ := s
  simp only at hl
  rw [hl]
theorem ztxt_good {s : ByteArray} (h : GoodZ s) : ztxt (znum s) = s := ztxt_znum h.2
theorem ztxt_zero : ztxt 0 = ⟨#[48]⟩ := by
  show ztxt 0 = _
  unfold ztxt
  rw [if_neg (by omega)]
  show txt 0 = _
  rw [txt, dtext_small (by omega)]; rfl
theorem size_ztxt (z : Int) : (ztxt z).size = (if z < 0 then 1 else 0) + (dtext z.natAbs).length := by
  show (ztxt z).data.toList.length = _
  rw [ztxt_list]
  split <;> simp <;> omega
theorem size_ztxt_le {z : Int} {k : Nat} (h : z.natAbs < 10 ^ k) (hk : 0 < k) : (ztxt z).size ≤ k + 1 := by
  rw [size_ztxt]
  have := length_dtext_le h hk
  split <;> omega
theorem goodZ_ztxt {z : Int} (h : z.natAbs < 10 ^ 99) : GoodZ (ztxt z) := ⟨by have := size_ztxt_le h (by omega); omega, isWhl_ztxt z⟩
theorem goodZ_ztxt0 {z : Int} (h0 : 0 ≤ z) (h : z.natAbs < 10 ^ 100) : GoodZ (ztxt z) := by
  refine ⟨?_, isWhl_ztxt z⟩
  rw [size_ztxt, if_neg (by omega)]
  have := length_dtext_le h (by omega)
  omega
theorem dval_lt' {l : List UInt8} (h : isNat l = true) : dval l < 10 ^ l.length := dval_lt (isNat_all h)
theorem znum_lt {s : ByteArray} (h : GoodZ s) : (znum s).natAbs < 10 ^ 100 := by
  obtain ⟨h1, h2⟩ := h
  have hl : s.data.toList.length = s.size := rfl
  unfold znum
  cases hb : (s.data.toList.head? == some 45)
  · have h3 : isNat s.data.toList = true := by rw [isWhl, hb] at h2; simpa using h2
    have h4 : whlOf s.data.toList = (dval s.data.toList : Int) := by rw [whlOf, hb]; rfl
    rw [h4]
    exact Nat.lt_of_lt_of_le (by simpa using dval_lt' h3) (Nat.pow_le_pow_right (by omega) (by omega))
  · have h3 : isNat s.data.toList.tail = true := by rw [isWhl, hb] at h2; simp at h2; exact h2.1
    have h4 : whlOf s.data.toList = -(dval s.data.toList.tail : Int) := by rw [whlOf, hb]; rfl
    rw [h4]
    refine Nat.lt_of_lt_of_le (by simpa using dval_lt' h3) (Nat.pow_le_pow_right (by omega) ?_)
    simp; omega

theorem BadZ.ne {s : ByteArray} {k : Int} (h : BadZ s k) : k ≠ 0 := by
  rcases h with ⟨_, rfl⟩ | ⟨_, _, rfl⟩ <;> decide
theorem WrongZ.ne {a b : ByteArray} {k : Int} (h : WrongZ a b k) : k ≠ 0 := by
  rcases h with h | ⟨_, h⟩ <;> exact h.ne
theorem BadZ.not {s : ByteArray} {k : Int} (h : BadZ s k) : ¬ GoodZ s := by
  rintro ⟨h1, h2⟩
  rcases h with ⟨h, _⟩ | ⟨_, h, _⟩
  · omega
  · rw [h] at h2; cases h2
theorem WrongZ.not {a b : ByteArray} {k : Int} (h : WrongZ a b k) : ¬ (GoodZ a ∧ GoodZ b) := by
  rintro ⟨h1, h2⟩
  rcases h with h | ⟨_, h⟩
  · exact h.not h1
  · exact h.not h2

/-- What a function of two integers tells: the text of f, or nothing and an error. -/
def ZTells (f : Int → Int → Int) (a b s : ByteArray) (k : Int) : Prop :=
  (k = 0 ∧ GoodZ a ∧ GoodZ b ∧ s = ztxt (f (znum a) (znum b))) ∨ (k ≠ 0 ∧ WrongZ a b k ∧ s = ⟨#[]⟩)
theorem ZTells.yes {f : Int → Int → Int} {a b s : ByteArray} {k : Int} (h : ZTells f a b s k) (hk : k = 0) : GoodZ a ∧ GoodZ b ∧ s = ztxt (f (znum a) (znum b)) := by
  rcases h with ⟨_, h⟩ | ⟨h, _⟩
  · exact h
  · exact absurd hk h
theorem ZTells.zero {f : Int → Int → Int} {a b s : ByteArray} {k : Int} (h : ZTells f a b s k) (ha : GoodZ a) (hb : GoodZ b) : k = 0 := by
  rcases h with ⟨h, _⟩ | ⟨_, h, _⟩
  · exact h
  · exact absurd ⟨ha, hb⟩ h.not
theorem ZTells.no {f : Int → Int → Int} {a b s : ByteArray} {k : Int} (h : ZTells f a b s k) (hk : k ≠ 0) : WrongZ a b k ∧ s = ⟨#[]⟩ := by
  rcases h with ⟨h, _⟩ | ⟨_, h⟩
  · exact absurd h hk
  · exact h

theorem size_ztxt_max {z : Int} (h : z.natAbs < 10 ^ 200) : (ztxt z).size ≤ maxLen := by
  have := size_ztxt_le h (by omega)
  unfold maxLen; omega

theorem zadd_any (a b : ByteArray) (ha : a.size ≤ maxLen) (hb : b.size ≤ maxLen) (w : World) :
    Calls Tryd.prog 29 #[.string a, .string b] w fun e w' => ∃ (s : ByteArray) (k : Int), e = .returned (.tuple #[.string s, errv k]) ∧ ZTells (· + ·) a b s k ∧ s.size ≤ maxLen ∧ Below w.heap.size w w' := by
  rcases rightZ_or_wrong a b with ⟨h1, h2⟩ | ⟨k, h⟩
  · refine (zadd_good h1 h2 w).mono ?_
    rintro e w' ⟨rfl, hb⟩
    refine ⟨_, 0, rfl, .inl ⟨rfl, h1, h2, rfl⟩, size_ztxt_max ?_, hb⟩
    have h3 := znum_lt h1
    have h4 := znum_lt h2
    have h5 : (10 : Nat) ^ 100 + 10 ^ 100 ≤ 10 ^ 200 := by decide +kernel
    omega
  · refine (zadd_bad h ha hb w).mono ?_
    rintro e w' ⟨rfl, hb⟩
    exact ⟨_, k, by rw [errv_some h.ne], .inr ⟨h.ne, h, rfl⟩, Nat.zero_le _, hb⟩

theorem zmul_any (a b : ByteArray) (ha : a.size ≤ maxLen) (hb : b.size ≤ maxLen) (w : World) :
    Calls Tryd.prog 30 #[.string a, .string b] w fun e w' => ∃ (s : ByteArray) (k : Int), e = .returned (.tuple #[.string s, errv k]) ∧ ZTells (· * ·) a b s k ∧ s.size ≤ maxLen ∧ Below w.heap.size w w' := by
  rcases rightZ_or_wrong a b with ⟨h1, h2⟩ | ⟨k, h⟩
  · refine (zmul_good h1 h2 w).mono ?_
    rintro e w' ⟨rfl, hb⟩
    refine ⟨_, 0, rfl, .inl ⟨rfl, h1, h2, rfl⟩, size_ztxt_max ?_, hb⟩
    rw [Int.natAbs_mul, show (200 : Nat) = 100 + 100 from rfl, Nat.pow_add]
    exact Nat.mul_lt_mul'' (znum_lt h1) (znum_lt h2)
  · refine (zmul_bad h ha hb w).mono ?_
    rintro e w' ⟨rfl, hb⟩
    exact ⟨_, k, by rw [errv_some h.ne], .inr ⟨h.ne, h, rfl⟩, Nat.zero_le _, hb⟩

/-- What a division tells. -/
def ZDivs (a b q r : ByteArray) (k : Int) : Prop :=
  (k = 0 ∧ GoodZ a ∧ GoodZ b ∧ znum b ≠ 0 ∧ q = ztxt (znum a / znum b) ∧ r = ztxt (znum a % znum b)) ∨
  (k ≠ 0 ∧ q = ⟨#[]⟩ ∧ r = ⟨#[]⟩ ∧ (WrongZ a b k ∨ (GoodZ a ∧ GoodZ b ∧ znum b = 0 ∧ k = 5)))
theorem ZDivs.yes {a b q r : ByteArray} {k : Int} (h : ZDivs a b q r k) (hk : k = 0) : GoodZ a ∧ GoodZ b ∧ znum b ≠ 0 ∧ q = ztxt (znum a / znum b) ∧ r = ztxt (znum a % znum b) := by
  rcases h with ⟨_, h⟩ | ⟨h, _⟩
  · exact h
  · exact absurd hk h
theorem ZDivs.zero {a b q r : ByteArray} {k : Int} (h : ZDivs a b q r k) (ha : GoodZ a) (hb : GoodZ b) (h0 : znum b ≠ 0) : k = 0 := by
  rcases h with ⟨h, _⟩ | ⟨_, _, _, h | ⟨_, _, h, _⟩⟩
  · exact h
  · exact absurd ⟨ha, hb⟩ h.not
  · exact absurd h h0

theorem zdiv_any (a b : ByteArray) (ha : a.size ≤ maxLen) (hb : b.size ≤ maxLen) (w : World) :
    Calls Tryd.prog 32 #[.string a, .string b] w fun e w' => ∃ (q r : ByteArray) (k : Int), e = .returned (.tuple #[.string q, .string r, errv k]) ∧ ZDivs a b q r k ∧ q.size ≤ maxLen ∧ r.size ≤ maxLen ∧ Below w.heap.size w w' := by
  rcases rightZ_or_wrong a b with ⟨h1, h2⟩ | ⟨k, h⟩
  · by_cases h0 : znum b = 0
    · refine (zdiv_zero h1 h2 h0 w).mono ?_
      rintro e w' ⟨rfl, hb⟩
      exact ⟨_, _, 5, rfl, .inr ⟨by decide, rfl, rfl, .inr ⟨h1, h2, h0, rfl⟩⟩, Nat.zero_le _, Nat.zero_le _, hb⟩
    · refine (zdiv_good h1 h2 h0 w).mono ?_
      rintro e w' ⟨rfl, hb⟩
      have h3 := znum_lt h1
      have h4 := znum_lt h2
      have h5 : (10 : Nat) ^ 100 ≤ 10 ^ 200 := by decide +kernel
      refine ⟨_, _, 0, rfl, .inl ⟨rfl, h1, h2, h0, rfl, rfl⟩, size_ztxt_max ?_, size_ztxt_max ?_, hb⟩
      · have := natAbs_ediv_le (znum a) (znum b); omega
      · have e1 := Int.emod_nonneg (znum a) h0
        have e2 := Int.emod_lt (znum a) h0
        omega
  · refine (zdiv_bad h ha hb w).mono ?_
    rintro e w' ⟨rfl, hb⟩
    exact ⟨_, _, k, by rw [errv_some h.ne], .inr ⟨h.ne, rfl, rfl, .inl h⟩, Nat.zero_le _, Nat.zero_le _, hb⟩

/-- What Gcd tells. -/
def ZGcds (a b g x y : ByteArray) (k : Int) : Prop :=
  (k = 0 ∧ GoodZ a ∧ GoodZ b ∧ g = ztxt (zg (znum a) (znum b)).1 ∧ x = ztxt (zg (znum a) (znum b)).2.1 ∧ y = ztxt (zg (znum a) (znum b)).2.2) ∨
  (k ≠ 0 ∧ WrongZ a b k ∧ g = ⟨#[]⟩ ∧ x = ⟨#[]⟩ ∧ y = ⟨#[]⟩)
theorem ZGcds.yes {a b g x y : ByteArray} {k : Int} (h : ZGcds a b g x y k) (hk : k = 0) : GoodZ a ∧ GoodZ b ∧ g = ztxt (zg (znum a) (znum b)).1 ∧ x = ztxt (zg (znum a) (znum b)).2.1 ∧ y = ztxt (zg (znum a) (znum b)).2.2 := by
  rcases h with ⟨_, h⟩ | ⟨h, _⟩
  · exact h
  · exact absurd hk h
theorem ZGcds.zero {a b g x y : ByteArray} {k : Int} (h : ZGcds a b g x y k) (ha : GoodZ a) (hb : GoodZ b) : k = 0 := by
  rcases h with ⟨h, _⟩ | ⟨_, h, _⟩
  · exact h
  · exact absurd ⟨ha, hb⟩ h.not

theorem zg_bounds (a b : Int) : (zg a b).1.natAbs ≤ max a.natAbs b.natAbs ∧ (zg a b).2.1.natAbs ≤ max b.natAbs 1 ∧ (zg a b).2.2.natAbs ≤ max a.natAbs 1 := by
  by_cases h : b = 0
  · subst h
    rw [zg_zero]
    have : a.sign.natAbs ≤ 1 := by rw [Int.natAbs_sign]; split <;> omega
    refine ⟨?_, ?_, ?_⟩ <;> simp <;> omega
  · have h1 := zg_small a b h
    refine ⟨?_, by omega, h1.2⟩
    rw [zg_gcd]
    have : Int.gcd a b ≤ b.natAbs := Nat.le_of_dvd (by omega) (Nat.gcd_dvd_right _ _)
    simp; omega

theorem zgcd_any (a b : ByteArray) (ha : a.size ≤ maxLen) (hb : b.size ≤ maxLen) (w : World) :
    Calls Tryd.prog 31 #[.string a, .string b] w fun e w' => ∃ (g x y : ByteArray) (k : Int), e = .returned (.tuple #[.string g, .string x, .string y, errv k]) ∧ ZGcds a b g x y k ∧ g.size ≤ maxLen ∧ x.size ≤ maxLen ∧ y.size ≤ maxLen ∧ Below w.heap.size w w' := by
  rcases rightZ_or_wrong a b with ⟨h1, h2⟩ | ⟨k, h⟩
  · refine (zgcd_good h1 h2 w).mono ?_
    rintro e w' ⟨rfl, hb⟩
    have h3 := znum_lt h1
    have h4 := znum_lt h2
    have h5 : (10 : Nat) ^ 100 ≤ 10 ^ 200 := by decide +kernel
    have h6 : 1 < (10 : Nat) ^ 200 := by decide +kernel
    obtain ⟨b1, b2, b3⟩ := zg_bounds (znum a) (znum b)
    refine ⟨_, _, _, 0, rfl, .inl ⟨rfl, h1, h2, rfl, rfl, rfl⟩, size_ztxt_max ?_, size_ztxt_max ?_, size_ztxt_max ?_, hb⟩ <;> omega
  · refine (zgcd_bad h ha hb w).mono ?_
    rintro e w' ⟨rfl, hb⟩
    exact ⟨_, _, _, k, by rw [errv_some h.ne], .inr ⟨h.ne, h, rfl, rfl, rfl⟩, Nat.zero_le _, Nat.zero_le _, Nat.zero_le _, hb⟩

theorem zcheck_any (a : ByteArray) (ha : a.size ≤ maxLen) (w : World) :
    Calls Tryd.prog 23 #[.string a] w fun e w' => ∃ k : Int, e = .returned (errv k) ∧ ((k = 0 ∧ GoodZ a) ∨ (k ≠ 0 ∧ BadZ a k)) ∧ Below w.heap.size w w' := by
  rcases goodZ_or_bad a with h | ⟨k, h⟩
  · refine (zcheck_good h w).mono ?_
    rintro e w' ⟨rfl, hb⟩
    exact ⟨0, rfl, .inl ⟨rfl, h⟩, hb⟩
  · refine (zcheck_bad h ha w).mono ?_
    rintro e w' ⟨rfl, hb⟩
    exact ⟨k, by rw [errv_some h.ne], .inr ⟨h.ne, h⟩, hb⟩

theorem minus7 (w : World) :
    Calls Tryd.prog 32 #[.string ⟨#[45, 55]⟩, .string ⟨#[50]⟩] w fun e w' => e = .returned (.tuple #[.string ⟨#[45, 52]⟩, .string ⟨#[49]⟩, .nilIface]) ∧ Below w.heap.size w w' := by
  have h := zdiv_good (a := ⟨#[45, 55]⟩) (b := ⟨#[50]⟩) ⟨by decide, by decide⟩ ⟨by decide, by decide⟩ (by decide) w
  have e1 := ztxt_znum (s := ⟨#[45, 52]⟩) (by decide)
  have e2 := ztxt_znum (s := ⟨#[49]⟩) (by decide)
  have e3 : znum ⟨#[45, 55]⟩ / znum ⟨#[50]⟩ = znum ⟨#[45, 52]⟩ := by decide
  have e4 : znum ⟨#[45, 55]⟩ % znum ⟨#[50]⟩ = znum ⟨#[49]⟩ := by decide
  rw [e3, e4, e1, e2] at h
  exact h

theorem good_minus : GoodZ ⟨#[45, 49]⟩ := ⟨by decide, by decide⟩
theorem znum_minus : znum ⟨#[45, 49]⟩ = -1 := by decide

end Go.Proofs.YtckkbjnipacodaaDoor

/-
  THE REFERENCE's Z: SmallZ, DivZ, WholeOf, GcdZ.
-/
namespace Go.Proofs.YtckkbjnipacodaaDoor
open Go.RowKit
open Num4
open Num (dg)
set_option linter.unusedVariables false
set_option maxRecDepth 100000
set_option linter.unusedSimpArgs false

/-- Two boxes side by side, both written. -/
theorem BoxR.last2 {w0 w : World} {g K : Nat} {s s' : Bool} {sv sv' : Value} (h : BoxR w g s sv) (h' : BoxR w (g + 1) s' sv') (hb : Below K w0 w) (hg : K ≤ g) (a a' : Bool) (p p' : Option Addr) (n n' c c' : Nat) :
    BoxR ((((w.setCell ⟨g, 0, none⟩ (.bool a)).setCell ⟨g, 1, none⟩ (.slice p n c)).setCell ⟨g + 1, 0, none⟩ (.bool a')).setCell ⟨g + 1, 1, none⟩ (.slice p' n' c')) g a (.slice p n c) ∧ BoxR ((((w.setCell ⟨g, 0, none⟩ (.bool a)).setCell ⟨g, 1, none⟩ (.slice p n c)).setCell ⟨g + 1, 0, none⟩ (.bool a')).setCell ⟨g + 1, 1, none⟩ (.slice p' n' c')) (g + 1) a' (.slice p' n' c') ∧ Below K w0 ((((w.setCell ⟨g, 0, none⟩ (.bool a)).setCell ⟨g, 1, none⟩ (.slice p n c)).setCell ⟨g + 1, 0, none⟩ (.bool a')).setCell ⟨g + 1, 1, none⟩ (.slice p' n' c')) ∧ (∀ {v z k}, WhlR w v z k → WhlR ((((w.setCell ⟨g, 0, none⟩ (.bool a)).setCell ⟨g, 1, none⟩ (.slice p n c)).setCell ⟨g + 1, 0, none⟩ (.bool a')).setCell ⟨g + 1, 1, none⟩ (.slice p' n' c')) v z k) := by
  obtain ⟨r1, r2, r3⟩ := h.last hb hg a p n c
  have k1 := (h'.other (g2 := g) (by omega) 0 (.bool a)).other (g2 := g) (by omega) 1 (.slice p n c)
  obtain ⟨q1, q2, q3⟩ := k1.last r2 (Nat.le_succ_of_le hg) a' p' n' c'
  exact ⟨(r1.other (by omega) _ _).other (by omega) _ _, q1, q2, fun hv => q3 (r3 hv)⟩
/-- What a walk needs to write two boxes side by side. -/
theorem BoxR.stores2 {w : World} {g : Nat} {s s' : Bool} {sv sv' : Value} (h : BoxR w g s sv) (h' : BoxR w (g + 1) s' sv') :
    (w.cell? ⟨g, 0, none⟩ = some (.bool s) ∧ w.frozen? ⟨g, 0, none⟩ = false ∧ (∀ x, (w.setCell ⟨g, 0, none⟩ (.bool x)).cell? ⟨g, 1, none⟩ = some sv) ∧ (∀ x, (w.setCell ⟨g, 0, none⟩ (.bool x)).frozen? ⟨g, 1, none⟩ = false)) ∧
    (∀ a b, ((w.setCell ⟨g, 0, none⟩ a).setCell ⟨g, 1, none⟩ b).cell? ⟨g + 1, 0, none⟩ = some (.bool s')) ∧ (∀ a b, ((w.setCell ⟨g, 0, none⟩ a).setCell ⟨g, 1, none⟩ b).frozen? ⟨g + 1, 0, none⟩ = false) ∧
    (∀ a b x, (((w.setCell ⟨g, 0, none⟩ a).setCell ⟨g, 1, none⟩ b).setCell ⟨g + 1, 0, none⟩ (.bool x)).cell? ⟨g + 1, 1, none⟩ = some sv') ∧ (∀ a b x, (((w.setCell ⟨g, 0, none⟩ a).setCell ⟨g, 1, none⟩ b).setCell ⟨g + 1, 0, none⟩ (.bool x)).frozen? ⟨g + 1, 1, none⟩ = false) := by
  have k1 := fun a b => (h'.other (g2 := g) (by omega) 0 a).other (g2 := g) (by omega) 1 b
  exact ⟨h.stores, fun a b => (k1 a b).cell0, fun a b => (k1 a b).free 0, fun a b x => ((k1 a b).set0 x).cell1, fun a b x => ((k1 a b).set0 x).free 1⟩


theorem res_cell_tmpR {fn : Func} {t t' : Tmp} {tmps : Array Value} {w : World} {g : Nat} {s : Bool} {sv u : Value} (hf : fn.results = #[.cell t 46, .tmp t']) (ht : tmps.getD t undef = .pointer (some ⟨g, 0, none⟩)) (hu : tmps.getD t' undef = u) (h2 : BoxR w g s sv) :
    (results fn tmps).run Tryd.prog w = .ok (.tuple #[.agg #[.bool s, sv], u]) w := by
  have h1 := at_addr (P := Tryd.prog) (w := w) ht
  have h3 := load_whlR h2
  simp only [Array.getD_eq_getD_getElem?] at h1 hu
  simp [results, hf, Sem.run_bind, h1, h3, hu]


/-- Three boxes. -/
def TrioR (w : World) (g h k : Nat) : Prop := (∃ s v, BoxR w g s v) ∧ (∃ s v, BoxR w h s v) ∧ (∃ s v, BoxR w k s v) ∧ g ≠ h ∧ g ≠ k ∧ h ≠ k
theorem TrioR.below {w w' : World} {g h k : Nat} (ht : TrioR w g h k) (hb : Below w.heap.size w w') : TrioR w' g h k := by
  obtain ⟨⟨s, v, h0⟩, ⟨s1, v1, h1⟩, ⟨s2, v2, h2⟩, hn⟩ := ht
  exact ⟨⟨_, _, h0.below hb h0.lt⟩, ⟨_, _, h1.below hb h1.lt⟩, ⟨_, _, h2.below hb h2.lt⟩, hn⟩
theorem TrioR.lt {w : World} {g h k : Nat} (ht : TrioR w g h k) : g < w.heap.size ∧ h < w.heap.size ∧ k < w.heap.size := by
  obtain ⟨⟨s, v, h0⟩, ⟨s1, v1, h1⟩, ⟨s2, v2, h2⟩, hn⟩ := ht
  exact ⟨h0.lt, h1.lt, h2.lt⟩
/-- What a walk needs to write all three. -/
theorem TrioR.stores {w : World} {g h k : Nat} (ht : TrioR w g h k) : ∃ u0 u1 u2 u3 u4 u5,
    ((w.cell? ⟨g, 0, none⟩ = some u0) ∧ (w.frozen? ⟨g, 0, none⟩ = false)) ∧
    ((∀ x, (w.setCell ⟨g, 0, none⟩ (.bool x)).cell? ⟨g, 1, none⟩ = some u1) ∧ (∀ x, (w.setCell ⟨g, 0, none⟩ (.bool x)).frozen? ⟨g, 1, none⟩ = false)) ∧
    ((∀ a b, ((w.setCell ⟨g, 0, none⟩ a).setCell ⟨g, 1, none⟩ b).cell? ⟨h, 0, none⟩ = some u2) ∧ (∀ a b, ((w.setCell ⟨g, 0, none⟩ a).setCell ⟨g, 1, none⟩ b).frozen? ⟨h, 0, none⟩ = false)) ∧
    ((∀ a b x, (((w.setCell ⟨g, 0, none⟩ a).setCell ⟨g, 1, none⟩ b).setCell ⟨h, 0, none⟩ (.bool x)).cell? ⟨h, 1, none⟩ = some u3) ∧ (∀ a b x, (((w.setCell ⟨g, 0, none⟩ a).setCell ⟨g, 1, none⟩ b).setCell ⟨h, 0, none⟩ (.bool x)).frozen? ⟨h, 1, none⟩ = false)) ∧
    ((∀ a b c d, ((((w.setCell ⟨g, 0, none⟩ a).setCell ⟨g, 1, none⟩ b).setCell ⟨h, 0, none⟩ c).setCell ⟨h, 1, none⟩ d).cell? ⟨k, 0, none⟩ = some u4) ∧ (∀ a b c d, ((((w.setCell ⟨g, 0, none⟩ a).setCell ⟨g, 1, none⟩ b).setCell ⟨h, 0, none⟩ c).setCell ⟨h, 1, none⟩ d).frozen? ⟨k, 0, none⟩ = false)) ∧
    ((∀ a b c d x, (((((w.setCell ⟨g, 0, none⟩ a).setCell ⟨g, 1, none⟩ b).setCell ⟨h, 0, none⟩ c).setCell ⟨h, 1, none⟩ d).setCell ⟨k, 0, none⟩ (.bool x)).cell? ⟨k, 1, none⟩ = some u5) ∧ (∀ a b c d x, (((((w.setCell ⟨g, 0, none⟩ a).setCell ⟨g, 1, none⟩ b).setCell ⟨h, 0, none⟩ c).setCell ⟨h, 1, none⟩ d).setCell ⟨k, 0, none⟩ (.bool x)).frozen? ⟨k, 1, none⟩ = false)) := by
  obtain ⟨⟨s, v, h0⟩, ⟨s1, v1, h1⟩, ⟨s2, v2, h2⟩, n1, n2, n3⟩ := ht
  have k1 := fun a b => (h1.other (g2 := g) (Ne.symm n1) 0 a).other (g2 := g) (Ne.symm n1) 1 b
  have k2 := fun a b c d => (((h2.other (g2 := g) (Ne.symm n2) 0 a).other (g2 := g) (Ne.symm n2) 1 b).other (g2 := h) (Ne.symm n3) 0 c).other (g2 := h) (Ne.symm n3) 1 d
  exact ⟨_, _, _, _, _, _, ⟨h0.cell0, h0.free 0⟩, ⟨fun x => (h0.set0 x).cell1, fun x => (h0.set0 x).free 1⟩, ⟨fun a b => (k1 a b).cell0, fun a b => (k1 a b).free 0⟩, ⟨fun a b x => ((k1 a b).set0 x).cell1, fun a b x => ((k1 a b).set0 x).free 1⟩,
    ⟨fun a b c d => (k2 a b c d).cell0, fun a b c d => (k2 a b c d).free 0⟩, ⟨fun a b c d x => ((k2 a b c d).set0 x).cell1, fun a b c d x => ((k2 a b c d).set0 x).free 1⟩⟩
/-- The stores of three results. -/
theorem TrioR.last {w0 w : World} {g h k K : Nat} (ht : TrioR w g h k) (hb : Below K w0 w) (hg : K ≤ g) (hh : K ≤ h) (hk : K ≤ k) (a0 a1 a2 : Bool) (p0 p1 p2 : Option Addr) (n0 n1 n2 c0 c1 c2 : Nat) :
    BoxR ((((((w.setCell ⟨g, 0, none⟩ (.bool a0)).setCell ⟨g, 1, none⟩ (.slice p0 n0 c0)).setCell ⟨h, 0, none⟩ (.bool a1)).setCell ⟨h, 1, none⟩ (.slice p1 n1 c1)).setCell ⟨k, 0, none⟩ (.bool a2)).setCell ⟨k, 1, none⟩ (.slice p2 n2 c2)) g a0 (.slice p0 n0 c0) ∧
    BoxR ((((((w.setCell ⟨g, 0, none⟩ (.bool a0)).setCell ⟨g, 1, none⟩ (.slice p0 n0 c0)).setCell ⟨h, 0, none⟩ (.bool a1)).setCell ⟨h, 1, none⟩ (.slice p1 n1 c1)).setCell ⟨k, 0, none⟩ (.bool a2)).setCell ⟨k, 1, none⟩ (.slice p2 n2 c2)) h a1 (.slice p1 n1 c1) ∧
    BoxR ((((((w.setCell ⟨g, 0, none⟩ (.bool a0)).setCell ⟨g, 1, none⟩ (.slice p0 n0 c0)).setCell ⟨h, 0, none⟩ (.bool a1)).setCell ⟨h, 1, none⟩ (.slice p1 n1 c1)).setCell ⟨k, 0, none⟩ (.bool a2)).setCell ⟨k, 1, none⟩ (.slice p2 n2 c2)) k a2 (.slice p2 n2 c2) ∧
    Below K w0 ((((((w.setCell ⟨g, 0, none⟩ (.bool a0)).setCell ⟨g, 1, none⟩ (.slice p0 n0 c0)).setCell ⟨h, 0, none⟩ (.bool a1)).setCell ⟨h, 1, none⟩ (.slice p1 n1 c1)).setCell ⟨k, 0, none⟩ (.bool a2)).setCell ⟨k, 1, none⟩ (.slice p2 n2 c2)) ∧
    (∀ {v z m}, WhlR w v z m → WhlR ((((((w.setCell ⟨g, 0, none⟩ (.bool a0)).setCell ⟨g, 1, none⟩ (.slice p0 n0 c0)).setCell ⟨h, 0, none⟩ (.bool a1)).setCell ⟨h, 1, none⟩ (.slice p1 n1 c1)).setCell ⟨k, 0, none⟩ (.bool a2)).setCell ⟨k, 1, none⟩ (.slice p2 n2 c2)) v z m) := by
  obtain ⟨⟨s, v, h0⟩, ⟨s1, v1, h1⟩, ⟨s2, v2, h2⟩, n1', n2', n3'⟩ := ht
  obtain ⟨r1, r2, r3⟩ := h0.last hb hg a0 p0 n0 c0
  have k1 := (h1.other (g2 := g) (Ne.symm n1') 0 (.bool a0)).other (g2 := g) (Ne.symm n1') 1 (.slice p0 n0 c0)
  have k2 := (((h2.other (g2 := g) (Ne.symm n2') 0 (.bool a0)).other (g2 := g) (Ne.symm n2') 1 (.slice p0 n0 c0)).other (g2 := h) (Ne.symm n3') 0 (.bool a1)).other (g2 := h) (Ne.symm n3') 1 (.slice p1 n1 c1)
  obtain ⟨q1, q2, q3⟩ := k1.last r2 hh a1 p1 n1 c1
  obtain ⟨t1, t2, t3⟩ := k2.last q2 hk a2 p2 n2 c2
  exact ⟨(((r1.other n1' _ _).other n1' _ _).other n2' _ _).other n2' _ _, (q1.other n3' _ _).other n3' _ _, t1, t2, fun hv => t3 (q3 (r3 hv))⟩

theorem BoxR.past {w : World} {x : Nat} {s : Bool} {sv : Value} (hx : BoxR w x s sv) (g h k : Nat) (n0 : x ≠ g) (n1 : x ≠ h) (n2 : x ≠ k) :
    (∀ a b, ((w.setCell ⟨g, 0, none⟩ a).setCell ⟨g, 1, none⟩ b).cell? ⟨x, 0, none⟩ = some (.bool s)) ∧
    (∀ a b, ((w.setCell ⟨g, 0, none⟩ a).setCell ⟨g, 1, none⟩ b).cell? ⟨x, 1, none⟩ = some sv) ∧
    (∀ a b c d, ((((w.setCell ⟨g, 0, none⟩ a).setCell ⟨g, 1, none⟩ b).setCell ⟨h, 0, none⟩ c).setCell ⟨h, 1, none⟩ d).cell? ⟨x, 0, none⟩ = some (.bool s)) ∧
    (∀ a b c d, ((((w.setCell ⟨g, 0, none⟩ a).setCell ⟨g, 1, none⟩ b).setCell ⟨h, 0, none⟩ c).setCell ⟨h, 1, none⟩ d).cell? ⟨x, 1, none⟩ = some sv) ∧
    (∀ a b c d e f, ((((((w.setCell ⟨g, 0, none⟩ a).setCell ⟨g, 1, none⟩ b).setCell ⟨h, 0, none⟩ c).setCell ⟨h, 1, none⟩ d).setCell ⟨k, 0, none⟩ e).setCell ⟨k, 1, none⟩ f).cell? ⟨x, 0, none⟩ = some (.bool s)) ∧
    (∀ a b c d e f, ((((((w.setCell ⟨g, 0, none⟩ a).setCell ⟨g, 1, none⟩ b).setCell ⟨h, 0, none⟩ c).setCell ⟨h, 1, none⟩ d).setCell ⟨k, 0, none⟩ e).setCell ⟨k, 1, none⟩ f).cell? ⟨x, 1, none⟩ = some sv) :=
  ⟨fun a b => ((hx.other (g2 := g) n0 0 a).other (g2 := g) n0 1 b).cell0,
    fun a b => ((hx.other (g2 := g) n0 0 a).other (g2 := g) n0 1 b).cell1,
    fun a b c d => ((((hx.other (g2 := g) n0 0 a).other (g2 := g) n0 1 b).other (g2 := h) n1 0 c).other (g2 := h) n1 1 d).cell0,
    fun a b c d => ((((hx.other (g2 := g) n0 0 a).other (g2 := g) n0 1 b).other (g2 := h) n1 0 c).other (g2 := h) n1 1 d).cell1,
    fun a b c d e f => ((((((hx.other (g2 := g) n0 0 a).other (g2 := g) n0 1 b).other (g2 := h) n1 0 c).other (g2 := h) n1 1 d).other (g2 := k) n2 0 e).other (g2 := k) n2 1 f).cell0,
    fun a b c d e f => ((((((hx.other (g2 := g) n0 0 a).other (g2 := g) n0 1 b).other (g2 := h) n1 0 c).other (g2 := h) n1 1 d).other (g2 := k) n2 0 e).other (g2 := k) n2 1 f).cell1⟩
theorem BoxR.past6 {w : World} {x : Nat} {s : Bool} {sv : Value} (hx : BoxR w x s sv) (g h k : Nat) (n0 : x ≠ g) (n1 : x ≠ h) (n2 : x ≠ k) (a b c d e f : Value) : BoxR ((((((w.setCell ⟨g, 0, none⟩ a).setCell ⟨g, 1, none⟩ b).setCell ⟨h, 0, none⟩ c).setCell ⟨h, 1, none⟩ d).setCell ⟨k, 0, none⟩ e).setCell ⟨k, 1, none⟩ f) x s sv := ((((((hx.other (g2 := g) n0 0 a).other (g2 := g) n0 1 b).other (g2 := h) n1 0 c).other (g2 := h) n1 1 d).other (g2 := k) n2 0 e).other (g2 := k) n2 1 f)
theorem res_twocells {fn : Func} {t t' : Tmp} {tmps : Array Value} {w : World} {g g' : Nat} {s s' : Bool} {sv sv' : Value} (hf : fn.results = #[.cell t 46, .cell t' 46]) (ht : tmps.getD t undef = .pointer (some ⟨g, 0, none⟩)) (ht' : tmps.getD t' undef = .pointer (some ⟨g', 0, none⟩)) (h2 : BoxR w g s sv) (h2' : BoxR w g' s' sv') :
    (results fn tmps).run Tryd.prog w = .ok (.tuple #[.agg #[.bool s, sv], .agg #[.bool s', sv']]) w := by
  have h1 := at_addr (P := Tryd.prog) (w := w) ht
  have h1' := at_addr (P := Tryd.prog) (w := w) ht'
  have h3 := load_whlR h2
  have h3' := load_whlR h2'
  simp only [Array.getD_eq_getD_getElem?] at h1 h1'
  simp [results, hf, Sem.run_bind, h1, h3, h1', h3']
theorem res_tmp_twocells {fn : Func} {t0 t t' : Tmp} {tmps : Array Value} {w : World} {g g' : Nat} {s s' : Bool} {u sv sv' : Value} (hf : fn.results = #[.tmp t0, .cell t 46, .cell t' 46]) (hu : tmps.getD t0 undef = u) (ht : tmps.getD t undef = .pointer (some ⟨g, 0, none⟩)) (ht' : tmps.getD t' undef = .pointer (some ⟨g', 0, none⟩)) (h2 : BoxR w g s sv) (h2' : BoxR w g' s' sv') :
    (results fn tmps).run Tryd.prog w = .ok (.tuple #[u, .agg #[.bool s, sv], .agg #[.bool s', sv']]) w := by
  have h1 := at_addr (P := Tryd.prog) (w := w) ht
  have h1' := at_addr (P := Tryd.prog) (w := w) ht'
  have h3 := load_whlR h2
  have h3' := load_whlR h2'
  simp only [Array.getD_eq_getD_getElem?] at h1 h1' hu
  simp [results, hf, Sem.run_bind, h1, h3, h1', h3', hu]

theorem limR_one {w w' : World} (hw : w' = w.alloc (.cells #[.int .i64 1] 3)) : LimR w' (.slice (some ⟨w.heap.size, 0, none⟩) 1 1) [1] := by
  have h := BlkR.new w [1]
  have h2 := h.lim (Fits.single (by decide)) 0 1 1 (by simp) (Nat.le_refl _) (by unfold maxLen; omega)
  rw [hw]
  exact h2

set_option maxHeartbeats 1000000 in
theorem rsmallz (n : Int) (hn : -1000 ≤ n) (hn2 : n ≤ 1000) (w : World) :
    Calls Tryd.prog 52 #[.int .i64 n] w fun e w' => ∃ v, e = .returned v ∧ WhlR w' v n 1 ∧ Below w.heap.size w w' := by
  obtain ⟨x0, bw, sz⟩ := rboxes1 w false (.slice none 0 0) ⟨_, _, _, rfl⟩
  have X0 := hid x0
  have BW := hid bw
  by_cases h0 : n < 0
  · have hm : ∃ m : Nat, (m : Int) = 0 - n ∧ m ≤ 1000 := ⟨n.natAbs, by omega, by omega⟩
    obtain ⟨m, hm1, hm2⟩ := hm
    have HC := rsmall_lim (w.alloc (.cells #[.bool false, .slice none 0 0] 46)) m (by omega)
    rw [show Value.int IntKind.i64 (m : Int) = Value.int IntKind.i64 (-n) from val_int (by omega)] at HC
    have HC := hid HC
    have HM := hid (And.intro hm1 hm2)
    clear x0 bw sz hm1 hm2
    go_enter Tryd.func52, Tryd.ntmps52
    go_wp2_with fail
    refine HC.out.mono ?_
    rintro e w1 ⟨v, zs, rfl, hv, tz, vz, lz, hb⟩
    have HS := rsigned_lim true hv tz (k := 1) (length_le_of_val tz _ (by rw [vz]; have := HM.out.2; show m < B ^ 1; rw [Nat.pow_one]; show m < 10000; omega))
    rw [vz, show zof true m = n by rw [zof, if_pos rfl]; have := HM.out.1; omega] at HS
    have HS := hid HS
    have X1 := hid (X0.out.below hb X0.out.lt)
    have HB := hid (BW.out.trans (hb.mono BW.out.size))
    clear hv tz vz lz hb HC
    go_wp2_with fail
    refine HS.out.mono ?_
    rintro e w2 ⟨v2, rfl, hv, hb⟩
    obtain ⟨s5, p5, n5, c5, rfl⟩ := hv.opened
    have x2 := X1.out.below hb X1.out.lt
    obtain ⟨c0, f0, c1, f1⟩ := x2.stores
    have HV := hid hv
    have HB2 := hid (HB.out.trans (hb.mono HB.out.size))
    have X2 := hid x2
    clear hv hb x2
    go_wp2_with fail
    obtain ⟨r1, r2, r3⟩ := X2.out.last HB2.out (Nat.le_refl _) s5 p5 n5 c5
    refine bodyPost_ret (res_oneR rfl rfl r1) rfl ?_
    exact ⟨_, rfl, r3 HV.out, r2⟩
  · obtain ⟨m, rfl⟩ := Int.eq_ofNat_of_zero_le (show 0 ≤ n by omega)
    have HC := hid (rsmall_lim (w.alloc (.cells #[.bool false, .slice none 0 0] 46)) m (by omega))
    have HM := hid (show m ≤ 1000 by omega)
    clear x0 bw sz
    go_enter Tryd.func52, Tryd.ntmps52
    go_wp2_with fail
    refine HC.out.mono ?_
    rintro e w1 ⟨v, zs, rfl, hv, tz, vz, lz, hb⟩
    obtain ⟨p5, n5, c5, rfl⟩ := hv.slice
    have x2 := X0.out.below hb X0.out.lt
    obtain ⟨c0, f0, c1, f1⟩ := x2.stores
    have HV := hid (show WhlR w1 (.agg #[.bool false, .slice p5 n5 c5]) (m : Int) 1 from ⟨false, _, zs, rfl, hv, tz, length_le_of_val tz _ (by rw [vz]; have := HM.out; show m < B ^ 1; rw [Nat.pow_one]; show m < 10000; omega), fun e => by simp at e, by rw [vz]; rfl⟩)
    have X2 := hid x2
    have HB2 := hid (BW.out.trans (hb.mono BW.out.size))
    clear hv tz vz lz hb HC x2
    go_wp2_with fail
    obtain ⟨r1, r2, r3⟩ := X2.out.last HB2.out (Nat.le_refl _) false p5 n5 c5
    refine bodyPost_ret (res_oneR rfl rfl r1) rfl ?_
    exact ⟨_, rfl, r3 HV.out, r2⟩

/-- The reference's division in the kit's words. -/
theorem rdiv_words {w : World} {v u : Value} {xs ys : List Nat} (h1 : LimR w v xs) (h2 : LimR w u ys) (b1 : xs.length ≤ 1099511627700) (b2 : ys.length ≤ 1099511627700) (ty : Trim ys) (hy : 0 < val ys) :
    Calls Tryd.prog 15 #[v, u] w fun e w' => ∃ v' u' qs zs, e = .returned (.tuple #[v', u']) ∧ LimR w' v' qs ∧ LimR w' u' zs ∧ Trim qs ∧ Trim zs ∧ val qs = val xs / val ys ∧ val zs = val xs % val ys ∧ Below w.heap.size w w' := by
  refine (rdiv_lim h1 h2 b1 b2 ty hy).mono ?_
  rintro e w' ⟨v', u', qs, zs, rfl, g1, g2, g3, g4, g5, g6, g7⟩
  have e1 : val xs / val ys = val qs := by
    rw [g5, Nat.mul_comm, Nat.mul_add_div hy, Nat.div_eq_of_lt g6]; omega
  have e2 : val xs % val ys = val zs := by
    rw [g5, Nat.mul_comm, Nat.mul_add_mod, Nat.mod_eq_of_lt g6]
  exact ⟨v', u', qs, zs, rfl, g1, g2, g3, g4, e1.symm, e2.symm, g7⟩

set_option maxHeartbeats 2000000 in
theorem rdivz_even {w : World} {s s' : Bool} {sv sv' : Value} {xs xs' : List Nat} {k l : Nat} (hl : LimR w sv xs) (hk : xs.length ≤ k) (hl' : LimR w sv' xs') (ht' : Trim xs') (hk' : xs'.length ≤ l) (h0 : 0 < val xs') (he : s = false ∨ val xs % val xs' = 0) (hs : s = true → val xs ≠ 0) (hkb : k ≤ 68719476736) (hlb : l ≤ 68719476736) :
    Calls Tryd.prog 28 #[.agg #[.bool s, sv], .agg #[.bool s', sv']] w fun e w' => ∃ v u, e = .returned (.tuple #[v, u]) ∧ WhlR w' v (zof s (val xs) / zof s' (val xs')) (k + 2) ∧ WhlR w' u (zof s (val xs) % zof s' (val xs')) l ∧ Below w.heap.size w w' := by
  obtain ⟨x0, x1, x2, x3, bw, sz⟩ := rboxes4 w s s' false false sv sv' (.slice none 0 0) (.slice none 0 0) hl.slice hl'.slice ⟨_, _, _, rfl⟩ ⟨_, _, _, rfl⟩
  have HD := hid (rdiv_words (hl.below bw (Nat.le_refl _)) (hl'.below bw (Nat.le_refl _)) (by omega) (by omega) ht' h0)
  obtain ⟨e1, e2⟩ := (div_signs s s' (val xs) (val xs') h0 hs).1 he
  rw [e1, e2]
  have hq : val xs / val xs' < B ^ (k + 2) := Nat.lt_of_le_of_lt (Nat.div_le_self _ _) (Nat.lt_of_lt_of_le (few4 hl.1 hk) (Nat.pow_le_pow_right (by decide) (by omega)))
  have hr : val xs % val xs' < B ^ l := Nat.lt_trans (Nat.mod_lt _ h0) (few4 hl'.1 hk')
  have hz : s = true → val xs % val xs' = 0 := by
    rcases he with rfl | e
    · intro e; cases e
    · intro _; exact e
  have hrs : ∀ rs : List Nat, Trim rs → val rs = val xs % val xs' → s = true → rs = [] := by
    intro rs tr vr e
    exact tr.zero_iff.1 (by rw [vr, hz e])
  have HRS := hid hrs
  have HQ := hid hq
  have HR := hid hr
  have X0 := hid x0
  have X1 := hid x1
  have X2 := hid x2
  have X3 := hid x3
  have BW := hid bw
  have SZ := hid sz
  clear hl hk hl' ht' hk' h0 hs x0 x1 x2 x3 bw sz e1 e2 hq hr hz he hrs
  go_enter Tryd.func28, Tryd.ntmps28
  go_wp2_with fail
  refine HD.out.mono ?_
  rintro e w4 ⟨q, r, qs, rs, rfl, hq, hr, tq, tr, vq, vr, hb⟩
  obtain ⟨c00, c01⟩ := X0.out.keep hb
  obtain ⟨c10, c11⟩ := X1.out.keep hb
  have hS := rsigned_lim (k := k + 2) (s != s') hq tq (length_le_of_val tq _ (by rw [vq]; exact HQ.out))
  rw [vq] at hS
  have HS := hid hS
  obtain ⟨p, n, c, rfl⟩ := hr.slice
  have HWR := hid (show WhlR w4 (.agg #[.bool false, .slice p n c]) ((val xs % val xs' : Nat) : Int) l from ⟨false, _, rs, rfl, hr, tr, length_le_of_val tr _ (by rw [vr]; exact HR.out), fun e => by simp at e, by rw [vr]; rfl⟩)
  have hnz : s = true → n = 0 := by
    intro e
    have := HRS.out rs tr vr e
    obtain ⟨p', c', he, _⟩ := limR_parts hr
    rw [this] at he
    simpa using (congrArg (fun v => match v with | Value.slice _ m _ => m | _ => 0) he)
  have HB := hid hb
  clear hS hq hr tq tr vq vr hb HD HRS
  go_wp2_with fail
  refine HS.out.mono ?_
  rintro e w5 ⟨v5, rfl, hv5, hb5⟩
  obtain ⟨s5, p5, n5, c5, rfl⟩ := hv5.opened
  obtain ⟨y0, by6, ys⟩ := rboxes1 w5 s5 (.slice p5 n5 c5) ⟨_, _, _, rfl⟩
  have hb6 := hb5.trans (by6.mono hb5.size)
  have HWR5 := hid (HWR.out.on hb6)
  have HV5 := hid (hv5.on by6)
  have y0c := y0.cell0
  have y1c := y0.cell1
  have hb7 := HB.out.trans (hb6.mono HB.out.size)
  obtain ⟨d00, d01⟩ := X0.out.keep hb7
  obtain ⟨d10, d11⟩ := X1.out.keep hb7
  have x2' := X2.out.below hb7 X2.out.lt
  have x3' := X3.out.below hb7 X3.out.lt
  obtain ⟨⟨q0, g0, q1, g1⟩, q2, g2, q3, g3⟩ := x2'.stores2 x3'
  have HL := hid (x2'.last2 x3' (BW.out.trans (hb7.mono (by rw [SZ.out]; omega))) (by omega) s5 false p5 p n5 n c5 c)
  clear hb5 by6 hb6 hb7 hv5 y0 ys x2' x3' HB HWR HS
  cases s
  · go_wp2_with fail
    obtain ⟨r1, r2, r3, r4⟩ := HL.out
    refine bodyPost_ret (res_twocells rfl rfl rfl r1 r2) rfl ?_
    exact ⟨_, _, rfl, r4 HV5.out, r4 HWR5.out, r3⟩
  · obtain rfl := hnz rfl
    go_wp2_with fail
    obtain ⟨r1, r2, r3, r4⟩ := HL.out
    refine bodyPost_ret (res_twocells rfl rfl rfl r1 r2) rfl ?_
    exact ⟨_, _, rfl, r4 HV5.out, r4 HWR5.out, r3⟩

end Go.Proofs.YtckkbjnipacodaaDoor
