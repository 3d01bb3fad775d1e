import Derived.Test.YtckkbjnipacodaaBunProofRatFloor10
import Derived.Test.YtckkbjnipacodaaBunProofRatFloor8
import Derived.Test.YtckkbjnipacodaaBunProofRatFloor9
/-
  PACKAGE whole: TEXTS OF INTEGERS; EACH FUNCTION AT WHATEVER TEXTS.
-/
namespace Go.Proofs.Ytckkbjnipacodaa
open Go.RowKit
open Num
set_option linter.unusedVariables false
set_option maxRecDepth 100000
set_option linter.unusedSimpArgs false

theorem ztxt_list (z : Int) : (ztxt z).data.toList = if z < 0 then 45 :: dtext z.natAbs else dtext z.natAbs := by
  unfold ztxt
  split
  · rw [ByteArray.data_append, Array.toList_append, txt_list]; rfl
  · exact txt_list _
theorem head_dig {l : List UInt8} (h : l.all isDig = true) : (l.head? == some 45) = false := by
  cases l with
  | nil => rfl
  | cons a l =>
    rw [List.all_cons, Bool.and_eq_true] at h
    simp only [List.head?_cons, beq_eq_false_iff_ne]
    intro e
    simp only [Option.some.injEq] at e
    rw [e] at h
    exact absurd h.1 (by decide)
theorem isWhl_ztxt (z : Int) : isWhl (ztxt z).data.toList = true := by
  rw [ztxt_list]
  split
  · simp only [isWhl, List.head?_cons, List.tail_cons, isNat_dtext, dval_dtext]
    simp; omega
  · rw [isWhl, head_dig (dtext_all _)]
    exact isNat_dtext _
theorem znum_ztxt (z : Int) : znum (ztxt z) = z := by
  unfold znum
  rw [ztxt_list]
  split
  · simp only [whlOf, List.head?_cons, List.tail_cons, dval_dtext]
    simp; omega
  · rw [whlOf, head_dig (dtext_all _), dval_dtext]
    simp; omega
theorem ztxt_inj {a b : Int} (h : ztxt a = ztxt b) : a = b := by
  have := congrArg znum h
  rwa [znum_ztxt, znum_ztxt] at this
theorem ztxt_znum {s : ByteArray} (h : isWhl s.data.toList = true) : ztxt (znum s) = s := by
  have hl : (ztxt (znum s)).data.toList = s.data.toList := by
    rw [ztxt_list]
    unfold znum
    cases hb : (s.data.toList.head? == some 45)
    · have h2 : isNat s.data.toList = true := by rw [isWhl, hb] at h; simpa using h
      have h3 : whlOf s.data.toList = (dval s.data.toList : Int) := by rw [whlOf, hb]; rfl
      rw [h3, if_neg (by omega)]
      simpa using dtext_dval h2
    · have h2 : isNat s.data.toList.tail = true ∧ dval s.data.toList.tail ≠ 0 := by rw [isWhl, hb] at h; simpa using h
      have h3 : whlOf s.data.toList = -(dval s.data.toList.tail : Int) := by rw [whlOf, hb]; rfl
      rw [h3, if_pos (by omega)]
      have h4 := dtext_dval h2.1
      cases hd : s.data.toList with
      | nil => rw [hd] at hb; simp at hb
      | cons a l =>
        rw [hd] at hb h4
        simp only [List.head?_cons, Option.some_beq_some, beq_iff_eq] at hb
        subst hb
        simpa using h4
  generalize ztxt (znum s) = t at hl
  obtain ⟨⟨l⟩⟩ := t
  obtain ⟨⟨m⟩⟩ := s
  simp only at hl
  rw [hl]
theorem ztxt_good {s : ByteArray} (h : GoodZ s) : ztxt (znum s) = s := ztxt_znum h.2
theorem ztxt_zero : ztxt 0 = ⟨#[48]⟩ := by
  show ztxt 0 = _
  unfold ztxt
  rw [if_neg (by omega)]
  show txt 0 = _
  rw [txt, dtext_small (by omega)]; rfl
theorem size_ztxt (z : Int) : (ztxt z).size = (if z < 0 then 1 else 0) + (dtext z.natAbs).length := by
  show (ztxt z).data.toList.length = _
  rw [ztxt_list]
  split <;> simp <;> omega
theorem size_ztxt_le {z : Int} {k : Nat} (h : z.natAbs < 10 ^ k) (hk : 0 < k) : (ztxt z).size ≤ k + 1 := by
  rw [size_ztxt]
  have := length_dtext_le h hk
  split <;> omega
theorem goodZ_ztxt {z : Int} (h : z.natAbs < 10 ^ 99) : GoodZ (ztxt z) := ⟨by have := size_ztxt_le h (by omega); omega, isWhl_ztxt z⟩
theorem goodZ_ztxt0 {z : Int} (h0 : 0 ≤ z) (h : z.natAbs < 10 ^ 100) : GoodZ (ztxt z) := by
  refine ⟨?_, isWhl_ztxt z⟩
  rw [size_ztxt, if_neg (by omega)]
  have := length_dtext_le h (by omega)
  omega
theorem dval_lt' {l : List UInt8} (h : isNat l = true) : dval l < 10 ^ l.length := dval_lt (isNat_all h)
theorem znum_lt {s : ByteArray} (h : GoodZ s) : (znum s).natAbs < 10 ^ 100 := by
  obtain ⟨h1, h2⟩ := h
  have hl : s.data.toList.length = s.size := rfl
  unfold znum
  cases hb : (s.data.toList.head? == some 45)
  · have h3 : isNat s.data.toList = true := by rw [isWhl, hb] at h2; simpa using h2
    have h4 : whlOf s.data.toList = (dval s.data.toList : Int) := by rw [whlOf, hb]; rfl
    rw [h4]
    exact Nat.lt_of_lt_of_le (by simpa using dval_lt' h3) (Nat.pow_le_pow_right (by omega) (by omega))
  · have h3 : isNat s.data.toList.tail = true := by rw [isWhl, hb] at h2; simp at h2; exact h2.1
    have h4 : whlOf s.data.toList = -(dval s.data.toList.tail : Int) := by rw [whlOf, hb]; rfl
    rw [h4]
    refine Nat.lt_of_lt_of_le (by simpa using dval_lt' h3) (Nat.pow_le_pow_right (by omega) ?_)
    simp; omega

theorem BadZ.ne {s : ByteArray} {k : Int} (h : BadZ s k) : k ≠ 0 := by
  rcases h with ⟨_, rfl⟩ | ⟨_, _, rfl⟩ <;> decide
theorem WrongZ.ne {a b : ByteArray} {k : Int} (h : WrongZ a b k) : k ≠ 0 := by
  rcases h with h | ⟨_, h⟩ <;> exact h.ne
theorem BadZ.not {s : ByteArray} {k : Int} (h : BadZ s k) : ¬ GoodZ s := by
  rintro ⟨h1, h2⟩
  rcases h with ⟨h, _⟩ | ⟨_, h, _⟩
  · omega
  · rw [h] at h2; cases h2
theorem WrongZ.not {a b : ByteArray} {k : Int} (h : WrongZ a b k) : ¬ (GoodZ a ∧ GoodZ b) := by
  rintro ⟨h1, h2⟩
  rcases h with h | ⟨_, h⟩
  · exact h.not h1
  · exact h.not h2

/-- What a function of two integers tells: the text of f, or nothing and an error. -/
def ZTells (f : Int → Int → Int) (a b s : ByteArray) (k : Int) : Prop :=
  (k = 0 ∧ GoodZ a ∧ GoodZ b ∧ s = ztxt (f (znum a) (znum b))) ∨ (k ≠ 0 ∧ WrongZ a b k ∧ s = ⟨#[]⟩)
theorem ZTells.yes {f : Int → Int → Int} {a b s : ByteArray} {k : Int} (h : ZTells f a b s k) (hk : k = 0) : GoodZ a ∧ GoodZ b ∧ s = ztxt (f (znum a) (znum b)) := by
  rcases h with ⟨_, h⟩ | ⟨h, _⟩
  · exact h
  · exact absurd hk h
theorem ZTells.zero {f : Int → Int → Int} {a b s : ByteArray} {k : Int} (h : ZTells f a b s k) (ha : GoodZ a) (hb : GoodZ b) : k = 0 := by
  rcases h with ⟨h, _⟩ | ⟨_, h, _⟩
  · exact h
  · exact absurd ⟨ha, hb⟩ h.not
theorem ZTells.no {f : Int → Int → Int} {a b s : ByteArray} {k : Int} (h : ZTells f a b s k) (hk : k ≠ 0) : WrongZ a b k ∧ s = ⟨#[]⟩ := by
  rcases h with ⟨h, _⟩ | ⟨_, h⟩
  · exact absurd h hk
  · exact h

theorem size_ztxt_max {z : Int} (h : z.natAbs < 10 ^ 200) : (ztxt z).size ≤ maxLen := by
  have := size_ztxt_le h (by omega)
  unfold maxLen; omega

theorem zadd_any (a b : ByteArray) (ha : a.size ≤ maxLen) (hb : b.size ≤ maxLen) (w : World) :
    Calls Try.prog 23 #[.string a, .string b] w fun e w' => ∃ (s : ByteArray) (k : Int), e = .returned (.tuple #[.string s, errv k]) ∧ ZTells (· + ·) a b s k ∧ s.size ≤ maxLen ∧ Below w.heap.size w w' := by
  rcases rightZ_or_wrong a b with ⟨h1, h2⟩ | ⟨k, h⟩
  · refine (zadd_good h1 h2 w).mono ?_
    rintro e w' ⟨rfl, hb⟩
    refine ⟨_, 0, rfl, .inl ⟨rfl, h1, h2, rfl⟩, size_ztxt_max ?_, hb⟩
    have h3 := znum_lt h1
    have h4 := znum_lt h2
    have h5 : (10 : Nat) ^ 100 + 10 ^ 100 ≤ 10 ^ 200 := by decide +kernel
    omega
  · refine (zadd_bad h ha hb w).mono ?_
    rintro e w' ⟨rfl, hb⟩
    exact ⟨_, k, by rw [errv_some h.ne], .inr ⟨h.ne, h, rfl⟩, Nat.zero_le _, hb⟩

theorem zmul_any (a b : ByteArray) (ha : a.size ≤ maxLen) (hb : b.size ≤ maxLen) (w : World) :
    Calls Try.prog 21 #[.string a, .string b] w fun e w' => ∃ (s : ByteArray) (k : Int), e = .returned (.tuple #[.string s, errv k]) ∧ ZTells (· * ·) a b s k ∧ s.size ≤ maxLen ∧ Below w.heap.size w w' := by
  rcases rightZ_or_wrong a b with ⟨h1, h2⟩ | ⟨k, h⟩
  · refine (zmul_good h1 h2 w).mono ?_
    rintro e w' ⟨rfl, hb⟩
    refine ⟨_, 0, rfl, .inl ⟨rfl, h1, h2, rfl⟩, size_ztxt_max ?_, hb⟩
    rw [Int.natAbs_mul, show (200 : Nat) = 100 + 100 from rfl, Nat.pow_add]
    exact Nat.mul_lt_mul'' (znum_lt h1) (znum_lt h2)
  · refine (zmul_bad h ha hb w).mono ?_
    rintro e w' ⟨rfl, hb⟩
    exact ⟨_, k, by rw [errv_some h.ne], .inr ⟨h.ne, h, rfl⟩, Nat.zero_le _, hb⟩

/-- What a division tells. -/
def ZDivs (a b q r : ByteArray) (k : Int) : Prop :=
  (k = 0 ∧ GoodZ a ∧ GoodZ b ∧ znum b ≠ 0 ∧ q = ztxt (znum a / znum b) ∧ r = ztxt (znum a % znum b)) ∨
  (k ≠ 0 ∧ q = ⟨#[]⟩ ∧ r = ⟨#[]⟩ ∧ (WrongZ a b k ∨ (GoodZ a ∧ GoodZ b ∧ znum b = 0 ∧ k = 5)))
theorem ZDivs.yes {a b q r : ByteArray} {k : Int} (h : ZDivs a b q r k) (hk : k = 0) : GoodZ a ∧ GoodZ b ∧ znum b ≠ 0 ∧ q = ztxt (znum a / znum b) ∧ r = ztxt (znum a % znum b) := by
  rcases h with ⟨_, h⟩ | ⟨h, _⟩
  · exact h
  · exact absurd hk h
theorem ZDivs.zero {a b q r : ByteArray} {k : Int} (h : ZDivs a b q r k) (ha : GoodZ a) (hb : GoodZ b) (h0 : znum b ≠ 0) : k = 0 := by
  rcases h with ⟨h, _⟩ | ⟨_, _, _, h | ⟨_, _, h, _⟩⟩
  · exact h
  · exact absurd ⟨ha, hb⟩ h.not
  · exact absurd h h0

theorem zdiv_any (a b : ByteArray) (ha : a.size ≤ maxLen) (hb : b.size ≤ maxLen) (w : World) :
    Calls Try.prog 24 #[.string a, .string b] w fun e w' => ∃ (q r : ByteArray) (k : Int), e = .returned (.tuple #[.string q, .string r, errv k]) ∧ ZDivs a b q r k ∧ q.size ≤ maxLen ∧ r.size ≤ maxLen ∧ Below w.heap.size w w' := by
  rcases rightZ_or_wrong a b with ⟨h1, h2⟩ | ⟨k, h⟩
  · by_cases h0 : znum b = 0
    · refine (zdiv_zero h1 h2 h0 w).mono ?_
      rintro e w' ⟨rfl, hb⟩
      exact ⟨_, _, 5, rfl, .inr ⟨by decide, rfl, rfl, .inr ⟨h1, h2, h0, rfl⟩⟩, Nat.zero_le _, Nat.zero_le _, hb⟩
    · refine (zdiv_good h1 h2 h0 w).mono ?_
      rintro e w' ⟨rfl, hb⟩
      have h3 := znum_lt h1
      have h4 := znum_lt h2
      have h5 : (10 : Nat) ^ 100 ≤ 10 ^ 200 := by decide +kernel
      refine ⟨_, _, 0, rfl, .inl ⟨rfl, h1, h2, h0, rfl, rfl⟩, size_ztxt_max ?_, size_ztxt_max ?_, hb⟩
      · have := natAbs_ediv_le (znum a) (znum b); omega
      · have e1 := Int.emod_nonneg (znum a) h0
        have e2 := Int.emod_lt (znum a) h0
        omega
  · refine (zdiv_bad h ha hb w).mono ?_
    rintro e w' ⟨rfl, hb⟩
    exact ⟨_, _, k, by rw [errv_some h.ne], .inr ⟨h.ne, rfl, rfl, .inl h⟩, Nat.zero_le _, Nat.zero_le _, hb⟩

/-- What Gcd tells. -/
def ZGcds (a b g x y : ByteArray) (k : Int) : Prop :=
  (k = 0 ∧ GoodZ a ∧ GoodZ b ∧ g = ztxt (zg (znum a) (znum b)).1 ∧ x = ztxt (zg (znum a) (znum b)).2.1 ∧ y = ztxt (zg (znum a) (znum b)).2.2) ∨
  (k ≠ 0 ∧ WrongZ a b k ∧ g = ⟨#[]⟩ ∧ x = ⟨#[]⟩ ∧ y = ⟨#[]⟩)
theorem ZGcds.yes {a b g x y : ByteArray} {k : Int} (h : ZGcds a b g x y k) (hk : k = 0) : GoodZ a ∧ GoodZ b ∧ g = ztxt (zg (znum a) (znum b)).1 ∧ x = ztxt (zg (znum a) (znum b)).2.1 ∧ y = ztxt (zg (znum a) (znum b)).2.2 := by
  rcases h with ⟨_, h⟩ | ⟨h, _⟩
  · exact h
  · exact absurd hk h
theorem ZGcds.zero {a b g x y : ByteArray} {k : Int} (h : ZGcds a b g x y k) (ha : GoodZ a) (hb : GoodZ b) : k = 0 := by
  rcases h with ⟨h, _⟩ | ⟨_, h, _⟩
  · exact h
  · exact absurd ⟨ha, hb⟩ h.not

theorem zg_bounds (a b : Int) : (zg a b).1.natAbs ≤ max a.natAbs b.natAbs ∧ (zg a b).2.1.natAbs ≤ max b.natAbs 1 ∧ (zg a b).2.2.natAbs ≤ max a.natAbs 1 := by
  by_cases h : b = 0
  · subst h
    rw [zg_zero]
    have : a.sign.natAbs ≤ 1 := by rw [Int.natAbs_sign]; split <;> omega
    refine ⟨?_, ?_, ?_⟩ <;> simp <;> omega
  · have h1 := zg_small a b h
    refine ⟨?_, by omega, h1.2⟩
    rw [zg_gcd]
    have : Int.gcd a b ≤ b.natAbs := Nat.le_of_dvd (by omega) (Nat.gcd_dvd_right _ _)
    simp; omega

theorem zgcd_any (a b : ByteArray) (ha : a.size ≤ maxLen) (hb : b.size ≤ maxLen) (w : World) :
    Calls Try.prog 20 #[.string a, .string b] w fun e w' => ∃ (g x y : ByteArray) (k : Int), e = .returned (.tuple #[.string g, .string x, .string y, errv k]) ∧ ZGcds a b g x y k ∧ g.size ≤ maxLen ∧ x.size ≤ maxLen ∧ y.size ≤ maxLen ∧ Below w.heap.size w w' := by
  rcases rightZ_or_wrong a b with ⟨h1, h2⟩ | ⟨k, h⟩
  · refine (zgcd_good h1 h2 w).mono ?_
    rintro e w' ⟨rfl, hb⟩
    have h3 := znum_lt h1
    have h4 := znum_lt h2
    have h5 : (10 : Nat) ^ 100 ≤ 10 ^ 200 := by decide +kernel
    have h6 : 1 < (10 : Nat) ^ 200 := by decide +kernel
    obtain ⟨b1, b2, b3⟩ := zg_bounds (znum a) (znum b)
    refine ⟨_, _, _, 0, rfl, .inl ⟨rfl, h1, h2, rfl, rfl, rfl⟩, size_ztxt_max ?_, size_ztxt_max ?_, size_ztxt_max ?_, hb⟩ <;> omega
  · refine (zgcd_bad h ha hb w).mono ?_
    rintro e w' ⟨rfl, hb⟩
    exact ⟨_, _, _, k, by rw [errv_some h.ne], .inr ⟨h.ne, h, rfl, rfl, rfl⟩, Nat.zero_le _, Nat.zero_le _, Nat.zero_le _, hb⟩

theorem zcheck_any (a : ByteArray) (ha : a.size ≤ maxLen) (w : World) :
    Calls Try.prog 22 #[.string a] w fun e w' => ∃ k : Int, e = .returned (errv k) ∧ ((k = 0 ∧ GoodZ a) ∨ (k ≠ 0 ∧ BadZ a k)) ∧ Below w.heap.size w w' := by
  rcases goodZ_or_bad a with h | ⟨k, h⟩
  · refine (zcheck_good h w).mono ?_
    rintro e w' ⟨rfl, hb⟩
    exact ⟨0, rfl, .inl ⟨rfl, h⟩, hb⟩
  · refine (zcheck_bad h ha w).mono ?_
    rintro e w' ⟨rfl, hb⟩
    exact ⟨k, by rw [errv_some h.ne], .inr ⟨h.ne, h⟩, hb⟩

theorem minus7 (w : World) :
    Calls Try.prog 24 #[.string ⟨#[45, 55]⟩, .string ⟨#[50]⟩] w fun e w' => e = .returned (.tuple #[.string ⟨#[45, 52]⟩, .string ⟨#[49]⟩, .nilIface]) ∧ Below w.heap.size w w' := by
  have h := zdiv_good (a := ⟨#[45, 55]⟩) (b := ⟨#[50]⟩) ⟨by decide, by decide⟩ ⟨by decide, by decide⟩ (by decide) w
  have e1 := ztxt_znum (s := ⟨#[45, 52]⟩) (by decide)
  have e2 := ztxt_znum (s := ⟨#[49]⟩) (by decide)
  have e3 : znum ⟨#[45, 55]⟩ / znum ⟨#[50]⟩ = znum ⟨#[45, 52]⟩ := by decide
  have e4 : znum ⟨#[45, 55]⟩ % znum ⟨#[50]⟩ = znum ⟨#[49]⟩ := by decide
  rw [e3, e4, e1, e2] at h
  exact h

theorem good_minus : GoodZ ⟨#[45, 49]⟩ := ⟨by decide, by decide⟩
theorem znum_minus : znum ⟨#[45, 49]⟩ = -1 := by decide

end Go.Proofs.Ytckkbjnipacodaa

/-
  PACKAGE rat: String, Quotient.
-/
namespace Go.Proofs.Ytckkbjnipacodaa
open Go.RowKit
open Num
set_option linter.unusedVariables false
set_option maxRecDepth 100000
set_option linter.unusedSimpArgs false

/-- The text of a fraction. -/
def qtxt (q : Rat) : ByteArray := if q.den = 1 then ztxt q.num else ztxt q.num ++ ⟨#[47]⟩ ++ ztxt q.den
theorem size_ztxt_k {z : Int} {k : Nat} (h : z.natAbs < B ^ k) : (ztxt z).size ≤ 10 * k + 2 := by
  refine size_ztxt_le (k := 10 * k + 1) (Nat.lt_of_lt_of_le h ?_) (by omega)
  refine Nat.le_trans (Nat.pow_le_pow_left (show B ≤ 10 ^ 10 by decide) _) ?_
  rw [← Nat.pow_mul]
  exact Nat.pow_le_pow_right (by omega) (by omega)
theorem den_ne (q : Rat) : (q.den : Int) ≠ 0 := by have := q.den_pos; omega
theorem add_parts (q r : Rat) : q + r = Rat.divInt (q.num * r.den + r.num * q.den) (q.den * r.den) := by
  have h := Rat.divInt_add_divInt q.num r.num (den_ne q) (den_ne r)
  rwa [Rat.num_divInt_den, Rat.num_divInt_den] at h
theorem mul_parts (q r : Rat) : q * r = Rat.divInt (q.num * r.num) (q.den * r.den) := by
  have h := Rat.divInt_mul_divInt q.num r.num (d₁ := q.den) (d₂ := r.den)
  rwa [Rat.num_divInt_den, Rat.num_divInt_den] at h
theorem div_parts (q r : Rat) : q / r = Rat.divInt (q.num * r.den) (q.den * r.num) := by
  rw [Rat.div_def, Rat.inv_def]
  have h := Rat.divInt_mul_divInt q.num r.den (d₁ := q.den) (d₂ := r.num)
  rwa [Rat.num_divInt_den] at h

set_option maxHeartbeats 1000000 in
theorem qstring_one {w : World} {v : Value} {q : Rat} {k : Nat} (h : Rtl w v q k) (hk : k ≤ 4294967296) (hl : q.den = 1) :
    Calls Try.prog 54 #[v] w fun e w' => e = .returned (.string (qtxt q)) ∧ Below w.heap.size w w' := by
  obtain ⟨s1a, p1a, n1a, c1a, s1b, p1b, n1b, c1b, rfl⟩ := h.opened
  obtain ⟨ht1, d1, hu1, hd1⟩ := h.two
  have HD1 := hid hd1
  have HK := hid hk
  have hs1 := size_ztxt_k ht1.lt
  have hs2 : (ztxt q.num).size ≤ 42949672962 := by omega
  have HL := hid hl
  have hd : decide (1 < d1) = false := by apply decide_eq_false; rcases hd1 with e | ⟨e, _⟩ <;> omega
  have B := hid (Below.refl w.heap.size w)
  have HT := hid ht1
  have HU := hid hu1
  have hb1 := (Below.refl _ _).alloc (Nat.le_refl w.heap.size) (.cells #[.bool s1a, .slice p1a n1a c1a, .bool s1b, .slice p1b n1b c1b] 64)
  have hx2 := Nbx.new w s1a s1b (.slice p1a n1a c1a) (.slice p1b n1b c1b)
  replace HT := hid (HT.out.on hb1)
  replace HU := hid (HU.out.on hb1)
  replace B := hid (B.out.trans (hb1.mono B.out.size))
  have XQ := hid hx2
  have hs3 : (w.alloc (.cells #[.bool s1a, .slice p1a n1a c1a, .bool s1b, .slice p1b n1b c1b] 64)).heap.size = w.heap.size + 1 := by simp
  clear hb1 hx2
  clear hs3 h ht1 hu1 hk hd1 hs1 hl
  go_enter Try.func54, Try.ntmps54
  obtain ⟨c4a, c4b, c4c, c4d⟩ := XQ.out.cells
  go_wp2_with fail
  generalize hW : w.alloc (.cells #[.bool s1a, .slice p1a n1a c1a, .bool s1b, .slice p1b n1b c1b] 64) = W5 at *
  clear hW
  have HM := more_whl HU.out (by have := HK.out; omega)
  rw [hd] at HM
  refine (HM).mono ?_
  rintro e w6 ⟨rfl, hb⟩
  replace XQ := hid (XQ.out.below hb XQ.out.lt)
  replace HT := hid (HT.out.on hb)
  replace HU := hid (HU.out.on hb)
  replace B := hid (B.out.trans (hb.mono B.out.size))
  clear c4a c4b c4c c4d
  clear hb 
  clear HM hd
  obtain ⟨c7a, c7b, c7c, c7d⟩ := XQ.out.cells
  go_wp2_with fail
  refine (string_whl HT.out (by have := HK.out; omega)).mono ?_
  rintro e w8 ⟨rfl, hb⟩
  replace XQ := hid (XQ.out.below hb XQ.out.lt)
  replace HT := hid (HT.out.on hb)
  replace HU := hid (HU.out.on hb)
  replace B := hid (B.out.trans (hb.mono B.out.size))
  clear c7a c7b c7c c7d
  clear hb 
  go_wp2_with fail
  go_ret
  exact ⟨by rw [qtxt, if_pos HL.out]; rfl, B.out⟩

set_option maxHeartbeats 1000000 in
theorem qstring_two {w : World} {v : Value} {q : Rat} {k : Nat} (h : Rtl w v q k) (hk : k ≤ 4294967296) (hl : ¬ q.den = 1) :
    Calls Try.prog 54 #[v] w fun e w' => e = .returned (.string (qtxt q)) ∧ Below w.heap.size w w' := by
  obtain ⟨s1a, p1a, n1a, c1a, s1b, p1b, n1b, c1b, rfl⟩ := h.opened
  obtain ⟨ht1, d1, hu1, hd1⟩ := h.two
  have HD1 := hid hd1
  have HK := hid hk
  have hs1 := size_ztxt_k ht1.lt
  have hs2 : (ztxt q.num).size ≤ 42949672962 := by omega
  have HL := hid hl
  have hd : d1 = q.den := by rcases hd1 with e | ⟨_, e⟩; exact e; exact absurd e hl
  subst hd
  have hd : decide ((1 : Int) < q.den) = true := by apply decide_eq_true; have := q.den_pos; omega
  have hs3 := size_ztxt_k hu1.lt
  have hs4 : (ztxt (q.den : Int)).size ≤ 42949672962 := by omega
  have hs5 : (⟨#[47]⟩ : ByteArray).size = 1 := rfl
  have hs6 : (ztxt q.num ++ ⟨#[47]⟩).size ≤ 42949672963 := by rw [ByteArray.size_append]; omega
  have hj1 : ¬ 9223372036854775807 < (ztxt q.num).size + 1 := by omega
  have hj2 : ¬ 9223372036854775807 < (ztxt q.num).size + 1 + (ztxt (q.den : Int)).size := by omega
  clear hs2 hs3 hs4 hs5 hs6
  have B := hid (Below.refl w.heap.size w)
  have HT := hid ht1
  have HU := hid hu1
  have hb1 := (Below.refl _ _).alloc (Nat.le_refl w.heap.size) (.cells #[.bool s1a, .slice p1a n1a c1a, .bool s1b, .slice p1b n1b c1b] 64)
  have hx2 := Nbx.new w s1a s1b (.slice p1a n1a c1a) (.slice p1b n1b c1b)
  replace HT := hid (HT.out.on hb1)
  replace HU := hid (HU.out.on hb1)
  replace B := hid (B.out.trans (hb1.mono B.out.size))
  have XQ := hid hx2
  have hs3 : (w.alloc (.cells #[.bool s1a, .slice p1a n1a c1a, .bool s1b, .slice p1b n1b c1b] 64)).heap.size = w.heap.size + 1 := by simp
  clear hb1 hx2
  clear hs3 h ht1 hu1 hk hd1 hs1 hl HD1
  go_enter Try.func54, Try.ntmps54
  obtain ⟨c4a, c4b, c4c, c4d⟩ := XQ.out.cells
  go_wp2_with fail
  generalize hW : w.alloc (.cells #[.bool s1a, .slice p1a n1a c1a, .bool s1b, .slice p1b n1b c1b] 64) = W5 at *
  clear hW
  have HM := more_whl HU.out (by have := HK.out; omega)
  rw [hd] at HM
  refine (HM).mono ?_
  rintro e w6 ⟨rfl, hb⟩
  replace XQ := hid (XQ.out.below hb XQ.out.lt)
  replace HT := hid (HT.out.on hb)
  replace HU := hid (HU.out.on hb)
  replace B := hid (B.out.trans (hb.mono B.out.size))
  clear c4a c4b c4c c4d
  clear hb 
  clear HM hd
  obtain ⟨c7a, c7b, c7c, c7d⟩ := XQ.out.cells
  go_wp2_with fail
  obtain ⟨c8a, c8b, c8c, c8d⟩ := XQ.out.cells
  replace XQ := hid XQ.out.dr
  replace HT := hid HT.out.drew
  replace HU := hid HU.out.drew
  replace B := hid (Below.drew B.out)
  obtain ⟨c9a, c9b, c9c, c9d⟩ := XQ.out.cells
  go_region_held3 (fun w' => w'.cell? ⟨w.heap.size, 0, none⟩ = some (.bool s1a) ∧ w'.cell? ⟨w.heap.size, 1, none⟩ = some (.slice p1a n1a c1a) ∧ w'.cell? ⟨w.heap.size, 2, none⟩ = some (.bool s1b) ∧ w'.cell? ⟨w.heap.size, 3, none⟩ = some (.slice p1b n1b c1b)) (go_keep) (first
      | (have hm := mk10_0; clear hm; go_at_call 46; refine (string_whl HU.out (by have := HK.out; omega)).mono ?_; rintro e w13 ⟨rfl, hb⟩; replace XQ := hid (XQ.out.below hb XQ.out.lt); replace HT := hid (HT.out.on hb); replace HU := hid (HU.out.on hb); replace B := hid (B.out.trans (hb.mono B.out.size)); clear c12a c12b c12c c12d; clear hb ; obtain ⟨c14a, c14b, c14c, c14d⟩ := XQ.out.cells; have mk10_1 := hid True.intro)
      | (go_at_call 46; refine (string_whl HT.out (by have := HK.out; omega)).mono ?_; rintro e w11 ⟨rfl, hb⟩; replace XQ := hid (XQ.out.below hb XQ.out.lt); replace HT := hid (HT.out.on hb); replace HU := hid (HU.out.on hb); replace B := hid (B.out.trans (hb.mono B.out.size)); clear c7a c7b c7c c7d c8a c8b c8c c8d c9a c9b c9c c9d; clear hb ; obtain ⟨c12a, c12b, c12c, c12d⟩ := XQ.out.cells; have mk10_0 := hid True.intro))
  go_wp2_with fail
  go_ret
  exact ⟨by rw [qtxt, if_neg HL.out]; rfl, B.out⟩

theorem qstring {w : World} {v : Value} {q : Rat} {k : Nat} (h : Rtl w v q k) (hk : k ≤ 4294967296) :
    Calls Try.prog 54 #[v] w fun e w' => e = .returned (.string (qtxt q)) ∧ Below w.heap.size w w' := by
  by_cases hl : q.den = 1
  · exact qstring_one h hk hl
  · exact qstring_two h hk hl

set_option maxHeartbeats 1000000 in
theorem quot_zero {w : World} {v u : Value} {z y : Int} {k : Nat} (h : Whl w v z k) (h' : Whl w u y k) (hy : y = 0) (hk : k ≤ 549755813888) :
    Calls Try.prog 72 #[v, u] w fun e w' => e = .returned (.tuple #[.agg #[.bool false, .slice none 0 0, .bool false, .slice none 0 0], errno 5]) ∧ Below w.heap.size w w' := by
  obtain ⟨s1, p1, n1, c1, rfl⟩ := h.opened
  obtain ⟨s2, p2, n2, c2, rfl⟩ := h'.opened
  have HK := hid hk
  subst hy
  have YG : (0 : Int).sign = 0 := rfl
  have B := hid (Below.refl w.heap.size w)
  have HZ := hid h
  have HY := hid h'
  have hb1 := (Below.refl _ _).alloc (Nat.le_refl w.heap.size) (.cells #[.bool s1, .slice p1 n1 c1] 51)
  have hx2 := Box.new w s1 p1 n1 c1
  replace HZ := hid (HZ.out.on hb1)
  replace HY := hid (HY.out.on hb1)
  replace B := hid (B.out.trans (hb1.mono B.out.size))
  have X1 := hid hx2
  have hs3 : (w.alloc (.cells #[.bool s1, .slice p1 n1 c1] 51)).heap.size = w.heap.size + 1 := by simp
  clear hb1 hx2
  have hb4 := (Below.refl _ _).alloc (Nat.le_refl (w.alloc (.cells #[.bool s1, .slice p1 n1 c1] 51)).heap.size) (.cells #[.bool s2, .slice p2 n2 c2] 51)
  have hx5 := Box.new (w.alloc (.cells #[.bool s1, .slice p1 n1 c1] 51)) s2 p2 n2 c2
  rw [hs3] at hx5
  replace X1 := hid (X1.out.below hb4 X1.out.lt)
  replace HZ := hid (HZ.out.on hb4)
  replace HY := hid (HY.out.on hb4)
  replace B := hid (B.out.trans (hb4.mono B.out.size))
  have X2 := hid hx5
  have hs6 : ((w.alloc (.cells #[.bool s1, .slice p1 n1 c1] 51)).alloc (.cells #[.bool s2, .slice p2 n2 c2] 51)).heap.size = w.heap.size + 1 + 1 := by simp [hs3]
  clear hb4 hx5
  have hb7 := (Below.refl _ _).alloc (Nat.le_refl ((w.alloc (.cells #[.bool s1, .slice p1 n1 c1] 51)).alloc (.cells #[.bool s2, .slice p2 n2 c2] 51)).heap.size) (.cells #[.bool false, .slice none 0 0, .bool false, .slice none 0 0] 64)
  have hx8 := Nbx.new ((w.alloc (.cells #[.bool s1, .slice p1 n1 c1] 51)).alloc (.cells #[.bool s2, .slice p2 n2 c2] 51)) false false (.slice none 0 0) (.slice none 0 0)
  rw [hs6] at hx8
  replace X1 := hid (X1.out.below hb7 X1.out.lt)
  replace X2 := hid (X2.out.below hb7 X2.out.lt)
  replace HZ := hid (HZ.out.on hb7)
  replace HY := hid (HY.out.on hb7)
  replace B := hid (B.out.trans (hb7.mono B.out.size))
  have XQ := hid hx8
  have hs9 : (((w.alloc (.cells #[.bool s1, .slice p1 n1 c1] 51)).alloc (.cells #[.bool s2, .slice p2 n2 c2] 51)).alloc (.cells #[.bool false, .slice none 0 0, .bool false, .slice none 0 0] 64)).heap.size = w.heap.size + 1 + 1 + 1 := by simp [hs6]
  clear hb7 hx8
  clear hs9 h h' hk
  go_enter Try.func72, Try.ntmps72
  obtain ⟨c10a, c10b⟩ := X1.out.both
  obtain ⟨c11a, c11b⟩ := X2.out.both
  obtain ⟨c12a, c12b, c12c, c12d⟩ := XQ.out.cells
  go_wp2_with fail
  generalize hW : ((w.alloc (.cells #[.bool s1, .slice p1 n1 c1] 51)).alloc (.cells #[.bool s2, .slice p2 n2 c2] 51)).alloc (.cells #[.bool false, .slice none 0 0, .bool false, .slice none 0 0] 64) = W13 at *
  clear hW
  have HS := sgn_whl HY.out
  rw [YG] at HS
  refine (HS).mono ?_
  rintro e w14 ⟨rfl, hb⟩
  replace X1 := hid (X1.out.below hb X1.out.lt)
  replace X2 := hid (X2.out.below hb X2.out.lt)
  replace XQ := hid (XQ.out.below hb XQ.out.lt)
  replace HZ := hid (HZ.out.on hb)
  replace HY := hid (HY.out.on hb)
  replace B := hid (B.out.trans (hb.mono B.out.size))
  clear c10a c10b c11a c11b c12a c12b c12c c12d
  clear hb 
  clear HS
  obtain ⟨c15a, c15b⟩ := X1.out.both
  obtain ⟨c16a, c16b⟩ := X2.out.both
  obtain ⟨c17a, c17b, c17c, c17d⟩ := XQ.out.cells
  obtain ⟨⟨c18a, c18b⟩, ⟨c18c, c18d⟩, ⟨c18e, c18f⟩, c18g, c18h⟩ := XQ.out.stores
  obtain ⟨r19a, r19b, r19c⟩ := XQ.out.last B.out (by omega) false false none none 0 0 0 0
  replace X1 := hid ((((X1.out.other (g2 := w.heap.size + 1 + 1) (by omega) 0 (.bool false)).other (g2 := w.heap.size + 1 + 1) (by omega) 1 (.slice none 0 0)).other (g2 := w.heap.size + 1 + 1) (by omega) 2 (.bool false)).other (g2 := w.heap.size + 1 + 1) (by omega) 3 (.slice none 0 0))
  replace X2 := hid ((((X2.out.other (g2 := w.heap.size + 1 + 1) (by omega) 0 (.bool false)).other (g2 := w.heap.size + 1 + 1) (by omega) 1 (.slice none 0 0)).other (g2 := w.heap.size + 1 + 1) (by omega) 2 (.bool false)).other (g2 := w.heap.size + 1 + 1) (by omega) 3 (.slice none 0 0))
  replace HZ := hid (r19c HZ.out)
  replace HY := hid (r19c HY.out)
  replace XQ := hid r19a
  replace B := hid r19b
  clear r19a r19b r19c
  go_wp2_with fail
  refine bodyPost_ret (res_num_tmp rfl rfl rfl XQ.out) rfl ?_
  exact ⟨rfl, B.out⟩

set_option maxHeartbeats 1000000 in
theorem quot_some {w : World} {v u : Value} {z y : Int} {k : Nat} (h : Whl w v z k) (h' : Whl w u y k) (hy : y ≠ 0) (hk : k ≤ 549755813888) :
    Calls Try.prog 72 #[v, u] w fun e w' => ∃ v, e = .returned (.tuple #[v, .nilIface]) ∧ Rtl w' v (Rat.divInt z y) k ∧ Below w.heap.size w w' := by
  obtain ⟨s1, p1, n1, c1, rfl⟩ := h.opened
  obtain ⟨s2, p2, n2, c2, rfl⟩ := h'.opened
  have HK := hid hk
  have HY0 := hid hy
  have B := hid (Below.refl w.heap.size w)
  have HZ := hid h
  have HY := hid h'
  have hb1 := (Below.refl _ _).alloc (Nat.le_refl w.heap.size) (.cells #[.bool s1, .slice p1 n1 c1] 51)
  have hx2 := Box.new w s1 p1 n1 c1
  replace HZ := hid (HZ.out.on hb1)
  replace HY := hid (HY.out.on hb1)
  replace B := hid (B.out.trans (hb1.mono B.out.size))
  have X1 := hid hx2
  have hs3 : (w.alloc (.cells #[.bool s1, .slice p1 n1 c1] 51)).heap.size = w.heap.size + 1 := by simp
  clear hb1 hx2
  have hb4 := (Below.refl _ _).alloc (Nat.le_refl (w.alloc (.cells #[.bool s1, .slice p1 n1 c1] 51)).heap.size) (.cells #[.bool s2, .slice p2 n2 c2] 51)
  have hx5 := Box.new (w.alloc (.cells #[.bool s1, .slice p1 n1 c1] 51)) s2 p2 n2 c2
  rw [hs3] at hx5
  replace X1 := hid (X1.out.below hb4 X1.out.lt)
  replace HZ := hid (HZ.out.on hb4)
  replace HY := hid (HY.out.on hb4)
  replace B := hid (B.out.trans (hb4.mono B.out.size))
  have X2 := hid hx5
  have hs6 : ((w.alloc (.cells #[.bool s1, .slice p1 n1 c1] 51)).alloc (.cells #[.bool s2, .slice p2 n2 c2] 51)).heap.size = w.heap.size + 1 + 1 := by simp [hs3]
  clear hb4 hx5
  have hb7 := (Below.refl _ _).alloc (Nat.le_refl ((w.alloc (.cells #[.bool s1, .slice p1 n1 c1] 51)).alloc (.cells #[.bool s2, .slice p2 n2 c2] 51)).heap.size) (.cells #[.bool false, .slice none 0 0, .bool false, .slice none 0 0] 64)
  have hx8 := Nbx.new ((w.alloc (.cells #[.bool s1, .slice p1 n1 c1] 51)).alloc (.cells #[.bool s2, .slice p2 n2 c2] 51)) false false (.slice none 0 0) (.slice none 0 0)
  rw [hs6] at hx8
  replace X1 := hid (X1.out.below hb7 X1.out.lt)
  replace X2 := hid (X2.out.below hb7 X2.out.lt)
  replace HZ := hid (HZ.out.on hb7)
  replace HY := hid (HY.out.on hb7)
  replace B := hid (B.out.trans (hb7.mono B.out.size))
  have XQ := hid hx8
  have hs9 : (((w.alloc (.cells #[.bool s1, .slice p1 n1 c1] 51)).alloc (.cells #[.bool s2, .slice p2 n2 c2] 51)).alloc (.cells #[.bool false, .slice none 0 0, .bool false, .slice none 0 0] 64)).heap.size = w.heap.size + 1 + 1 + 1 := by simp [hs6]
  clear hb7 hx8
  clear hs9 h h' hk hy
  go_enter Try.func72, Try.ntmps72
  obtain ⟨c10a, c10b⟩ := X1.out.both
  obtain ⟨c11a, c11b⟩ := X2.out.both
  obtain ⟨c12a, c12b, c12c, c12d⟩ := XQ.out.cells
  go_wp2_with fail
  generalize hW : ((w.alloc (.cells #[.bool s1, .slice p1 n1 c1] 51)).alloc (.cells #[.bool s2, .slice p2 n2 c2] 51)).alloc (.cells #[.bool false, .slice none 0 0, .bool false, .slice none 0 0] 64) = W13 at *
  clear hW
  have HS := sgn_whl HY.out
  have hne : (y.sign == 0) = false := by rw [beq_eq_false_iff_ne]; intro e; exact HY0.out (Int.sign_eq_zero_iff_zero.1 e)
  refine (HS).mono ?_
  rintro e w14 ⟨rfl, hb⟩
  replace X1 := hid (X1.out.below hb X1.out.lt)
  replace X2 := hid (X2.out.below hb X2.out.lt)
  replace XQ := hid (XQ.out.below hb XQ.out.lt)
  replace HZ := hid (HZ.out.on hb)
  replace HY := hid (HY.out.on hb)
  replace B := hid (B.out.trans (hb.mono B.out.size))
  clear c10a c10b c11a c11b c12a c12b c12c c12d
  clear hb 
  clear HS
  obtain ⟨c15a, c15b⟩ := X1.out.both
  obtain ⟨c16a, c16b⟩ := X2.out.both
  obtain ⟨c17a, c17b, c17c, c17d⟩ := XQ.out.cells
  go_wp2_with fail
  refine (reduced_rtl HZ.out HY.out HY0.out HK.out).mono ?_
  rintro e w18 ⟨v, rfl, hv, hb⟩
  obtain ⟨s3a, p3a, n3a, c3a, s3b, p3b, n3b, c3b, rfl⟩ := hv.opened
  obtain ⟨ht3, d3, hu3, hd3⟩ := hv.two
  have HD3 := hid hd3
  replace X1 := hid (X1.out.below hb X1.out.lt)
  replace X2 := hid (X2.out.below hb X2.out.lt)
  replace XQ := hid (XQ.out.below hb XQ.out.lt)
  replace HZ := hid (HZ.out.on hb)
  replace HY := hid (HY.out.on hb)
  replace B := hid (B.out.trans (hb.mono B.out.size))
  clear c15a c15b c16a c16b c17a c17b c17c c17d
  have HT := hid ht3
  have HU := hid hu3
  clear hb hv ht3 hu3 hd3
  obtain ⟨c19a, c19b⟩ := X1.out.both
  obtain ⟨c20a, c20b⟩ := X2.out.both
  obtain ⟨c21a, c21b, c21c, c21d⟩ := XQ.out.cells
  obtain ⟨⟨c22a, c22b⟩, ⟨c22c, c22d⟩, ⟨c22e, c22f⟩, c22g, c22h⟩ := XQ.out.stores
  obtain ⟨r23a, r23b, r23c⟩ := XQ.out.last B.out (by omega) s3a s3b p3a p3b n3a n3b c3a c3b
  replace X1 := hid ((((X1.out.other (g2 := w.heap.size + 1 + 1) (by omega) 0 (.bool s3a)).other (g2 := w.heap.size + 1 + 1) (by omega) 1 (.slice p3a n3a c3a)).other (g2 := w.heap.size + 1 + 1) (by omega) 2 (.bool s3b)).other (g2 := w.heap.size + 1 + 1) (by omega) 3 (.slice p3b n3b c3b))
  replace X2 := hid ((((X2.out.other (g2 := w.heap.size + 1 + 1) (by omega) 0 (.bool s3a)).other (g2 := w.heap.size + 1 + 1) (by omega) 1 (.slice p3a n3a c3a)).other (g2 := w.heap.size + 1 + 1) (by omega) 2 (.bool s3b)).other (g2 := w.heap.size + 1 + 1) (by omega) 3 (.slice p3b n3b c3b))
  replace HZ := hid (r23c HZ.out)
  replace HY := hid (r23c HY.out)
  replace HT := hid (r23c HT.out)
  replace HU := hid (r23c HU.out)
  replace XQ := hid r23a
  replace B := hid r23b
  clear r23a r23b r23c
  go_wp2_with fail
  refine bodyPost_ret (res_num_tmp rfl rfl rfl XQ.out) rfl ?_
  exact ⟨_, rfl, Rtl.mk2 HT.out HU.out HD3.out, B.out⟩

end Go.Proofs.Ytckkbjnipacodaa

/-
  PACKAGE rat: Add.
-/
namespace Go.Proofs.Ytckkbjnipacodaa
open Go.RowKit
open Num
set_option linter.unusedVariables false
set_option maxRecDepth 100000
set_option linter.unusedSimpArgs false

set_option maxHeartbeats 4000000 in
theorem addq_rtl {w : World} {v u : Value} {q r : Rat} {k : Nat} (h : Rtl w v q k) (h' : Rtl w u r k) (hk1 : 1 ≤ k) (hk : k ≤ 68719476736) :
    Calls Try.prog 53 #[v, u] w fun e w' => ∃ v, e = .returned v ∧ Rtl w' v (q + r) (k + k + 1) ∧ Below w.heap.size w w' := by
  obtain ⟨s1a, p1a, n1a, c1a, s1b, p1b, n1b, c1b, rfl⟩ := h.opened
  obtain ⟨ht1, d1, hu1, hd1⟩ := h.two
  have HD1 := hid hd1
  obtain ⟨s2a, p2a, n2a, c2a, s2b, p2b, n2b, c2b, rfl⟩ := h'.opened
  obtain ⟨ht2, d2, hu2, hd2⟩ := h'.two
  have HD2 := hid hd2
  have HK := hid hk
  have HK1 := hid hk1
  have B := hid (Below.refl w.heap.size w)
  have HT1 := hid ht1
  have HU1 := hid hu1
  have HT2 := hid ht2
  have HU2 := hid hu2
  have hb1 := (Below.refl _ _).alloc (Nat.le_refl w.heap.size) (.cells #[.bool s1a, .slice p1a n1a c1a, .bool s1b, .slice p1b n1b c1b] 64)
  have hx2 := Nbx.new w s1a s1b (.slice p1a n1a c1a) (.slice p1b n1b c1b)
  replace HT1 := hid (HT1.out.on hb1)
  replace HU1 := hid (HU1.out.on hb1)
  replace HT2 := hid (HT2.out.on hb1)
  replace HU2 := hid (HU2.out.on hb1)
  replace B := hid (B.out.trans (hb1.mono B.out.size))
  have X1 := hid hx2
  have hs3 : (w.alloc (.cells #[.bool s1a, .slice p1a n1a c1a, .bool s1b, .slice p1b n1b c1b] 64)).heap.size = w.heap.size + 1 := by simp
  clear hb1 hx2
  have hb4 := (Below.refl _ _).alloc (Nat.le_refl (w.alloc (.cells #[.bool s1a, .slice p1a n1a c1a, .bool s1b, .slice p1b n1b c1b] 64)).heap.size) (.cells #[.bool s2a, .slice p2a n2a c2a, .bool s2b, .slice p2b n2b c2b] 64)
  have hx5 := Nbx.new (w.alloc (.cells #[.bool s1a, .slice p1a n1a c1a, .bool s1b, .slice p1b n1b c1b] 64)) s2a s2b (.slice p2a n2a c2a) (.slice p2b n2b c2b)
  rw [hs3] at hx5
  replace X1 := hid (X1.out.below hb4 X1.out.lt)
  replace HT1 := hid (HT1.out.on hb4)
  replace HU1 := hid (HU1.out.on hb4)
  replace HT2 := hid (HT2.out.on hb4)
  replace HU2 := hid (HU2.out.on hb4)
  replace B := hid (B.out.trans (hb4.mono B.out.size))
  have X2 := hid hx5
  have hs6 : ((w.alloc (.cells #[.bool s1a, .slice p1a n1a c1a, .bool s1b, .slice p1b n1b c1b] 64)).alloc (.cells #[.bool s2a, .slice p2a n2a c2a, .bool s2b, .slice p2b n2b c2b] 64)).heap.size = w.heap.size + 1 + 1 := by simp [hs3]
  clear hb4 hx5
  have hb7 := (Below.refl _ _).alloc (Nat.le_refl ((w.alloc (.cells #[.bool s1a, .slice p1a n1a c1a, .bool s1b, .slice p1b n1b c1b] 64)).alloc (.cells #[.bool s2a, .slice p2a n2a c2a, .bool s2b, .slice p2b n2b c2b] 64)).heap.size) (.cells #[.bool false, .slice none 0 0, .bool false, .slice none 0 0] 64)
  have hx8 := Nbx.new ((w.alloc (.cells #[.bool s1a, .slice p1a n1a c1a, .bool s1b, .slice p1b n1b c1b] 64)).alloc (.cells #[.bool s2a, .slice p2a n2a c2a, .bool s2b, .slice p2b n2b c2b] 64)) false false (.slice none 0 0) (.slice none 0 0)
  rw [hs6] at hx8
  replace X1 := hid (X1.out.below hb7 X1.out.lt)
  replace X2 := hid (X2.out.below hb7 X2.out.lt)
  replace HT1 := hid (HT1.out.on hb7)
  replace HU1 := hid (HU1.out.on hb7)
  replace HT2 := hid (HT2.out.on hb7)
  replace HU2 := hid (HU2.out.on hb7)
  replace B := hid (B.out.trans (hb7.mono B.out.size))
  have XQ := hid hx8
  have hs9 : (((w.alloc (.cells #[.bool s1a, .slice p1a n1a c1a, .bool s1b, .slice p1b n1b c1b] 64)).alloc (.cells #[.bool s2a, .slice p2a n2a c2a, .bool s2b, .slice p2b n2b c2b] 64)).alloc (.cells #[.bool false, .slice none 0 0, .bool false, .slice none 0 0] 64)).heap.size = w.heap.size + 1 + 1 + 1 := by simp [hs6]
  clear hb7 hx8
  clear hs9 h h' ht1 hu1 ht2 hu2 hd1 hd2 hk hk1
  go_enter Try.func53, Try.ntmps53
  obtain ⟨c10a, c10b, c10c, c10d⟩ := X1.out.cells
  obtain ⟨c11a, c11b, c11c, c11d⟩ := X2.out.cells
  obtain ⟨c12a, c12b, c12c, c12d⟩ := XQ.out.cells
  go_wp2_with fail
  generalize hW : ((w.alloc (.cells #[.bool s1a, .slice p1a n1a c1a, .bool s1b, .slice p1b n1b c1b] 64)).alloc (.cells #[.bool s2a, .slice p2a n2a c2a, .bool s2b, .slice p2b n2b c2b] 64)).alloc (.cells #[.bool false, .slice none 0 0, .bool false, .slice none 0 0] 64) = W13 at *
  clear hW
  refine (parts_rtl (Rtl.mk2 HT1.out HU1.out HD1.out) HK1.out).mono ?_
  rintro e w14 ⟨v, u, rfl, hv, hu, hb⟩
  obtain ⟨s3, p3, n3, c3, rfl⟩ := hv.opened
  obtain ⟨s4, p4, n4, c4, rfl⟩ := hu.opened
  replace X1 := hid (X1.out.below hb X1.out.lt)
  replace X2 := hid (X2.out.below hb X2.out.lt)
  replace XQ := hid (XQ.out.below hb XQ.out.lt)
  replace HT1 := hid (HT1.out.on hb)
  replace HU1 := hid (HU1.out.on hb)
  replace HT2 := hid (HT2.out.on hb)
  replace HU2 := hid (HU2.out.on hb)
  replace B := hid (B.out.trans (hb.mono B.out.size))
  clear c10a c10b c10c c10d c11a c11b c11c c11d c12a c12b c12c c12d
  have HA := hid hv
  have HB := hid hu
  clear hb hv hu
  have hb15 := (Below.refl _ _).alloc (Nat.le_refl w14.heap.size) (.cells #[.bool s3, .slice p3 n3 c3] 51)
  have hx16 := Box.new w14 s3 p3 n3 c3
  have L0 := hid XQ.out.lt
  replace X1 := hid (X1.out.below hb15 X1.out.lt)
  replace X2 := hid (X2.out.below hb15 X2.out.lt)
  replace XQ := hid (XQ.out.below hb15 XQ.out.lt)
  replace HT1 := hid (HT1.out.on hb15)
  replace HU1 := hid (HU1.out.on hb15)
  replace HT2 := hid (HT2.out.on hb15)
  replace HU2 := hid (HU2.out.on hb15)
  replace HA := hid (HA.out.on hb15)
  replace HB := hid (HB.out.on hb15)
  replace B := hid (B.out.trans (hb15.mono B.out.size))
  have XA := hid hx16
  have hs17 : (w14.alloc (.cells #[.bool s3, .slice p3 n3 c3] 51)).heap.size = w14.heap.size + 1 := by simp
  clear hb15 hx16
  have hb18 := (Below.refl _ _).alloc (Nat.le_refl (w14.alloc (.cells #[.bool s3, .slice p3 n3 c3] 51)).heap.size) (.cells #[.bool s4, .slice p4 n4 c4] 51)
  have hx19 := Box.new (w14.alloc (.cells #[.bool s3, .slice p3 n3 c3] 51)) s4 p4 n4 c4
  rw [hs17] at hx19
  replace X1 := hid (X1.out.below hb18 X1.out.lt)
  replace X2 := hid (X2.out.below hb18 X2.out.lt)
  replace XQ := hid (XQ.out.below hb18 XQ.out.lt)
  replace XA := hid (XA.out.below hb18 XA.out.lt)
  replace HT1 := hid (HT1.out.on hb18)
  replace HU1 := hid (HU1.out.on hb18)
  replace HT2 := hid (HT2.out.on hb18)
  replace HU2 := hid (HU2.out.on hb18)
  replace HA := hid (HA.out.on hb18)
  replace HB := hid (HB.out.on hb18)
  replace B := hid (B.out.trans (hb18.mono B.out.size))
  have XB := hid hx19
  have hs20 : ((w14.alloc (.cells #[.bool s3, .slice p3 n3 c3] 51)).alloc (.cells #[.bool s4, .slice p4 n4 c4] 51)).heap.size = w14.heap.size + 1 + 1 := by simp [hs17]
  clear hb18 hx19
  obtain ⟨c21a, c21b, c21c, c21d⟩ := X1.out.cells
  obtain ⟨c22a, c22b, c22c, c22d⟩ := X2.out.cells
  obtain ⟨c23a, c23b, c23c, c23d⟩ := XQ.out.cells
  obtain ⟨c24a, c24b⟩ := XA.out.both
  obtain ⟨c25a, c25b⟩ := XB.out.both
  go_wp2_with fail
  generalize hW : (w14.alloc (.cells #[.bool s3, .slice p3 n3 c3] 51)).alloc (.cells #[.bool s4, .slice p4 n4 c4] 51) = W26 at *
  clear hW
  refine (parts_rtl (Rtl.mk2 HT2.out HU2.out HD2.out) HK1.out).mono ?_
  rintro e w27 ⟨v, u, rfl, hv, hu, hb⟩
  obtain ⟨s5, p5, n5, c5, rfl⟩ := hv.opened
  obtain ⟨s6, p6, n6, c6, rfl⟩ := hu.opened
  replace X1 := hid (X1.out.below hb X1.out.lt)
  replace X2 := hid (X2.out.below hb X2.out.lt)
  replace XQ := hid (XQ.out.below hb XQ.out.lt)
  replace XA := hid (XA.out.below hb XA.out.lt)
  replace XB := hid (XB.out.below hb XB.out.lt)
  replace HT1 := hid (HT1.out.on hb)
  replace HU1 := hid (HU1.out.on hb)
  replace HT2 := hid (HT2.out.on hb)
  replace HU2 := hid (HU2.out.on hb)
  replace HA := hid (HA.out.on hb)
  replace HB := hid (HB.out.on hb)
  replace B := hid (B.out.trans (hb.mono B.out.size))
  clear c21a c21b c21c c21d c22a c22b c22c c22d c23a c23b c23c c23d c24a c24b c25a c25b
  have HC := hid hv
  have HE := hid hu
  clear hb hv hu
  have hb28 := (Below.refl _ _).alloc (Nat.le_refl w27.heap.size) (.cells #[.bool s5, .slice p5 n5 c5] 51)
  have hx29 := Box.new w27 s5 p5 n5 c5
  have L1 := hid XB.out.lt
  replace X1 := hid (X1.out.below hb28 X1.out.lt)
  replace X2 := hid (X2.out.below hb28 X2.out.lt)
  replace XQ := hid (XQ.out.below hb28 XQ.out.lt)
  replace XA := hid (XA.out.below hb28 XA.out.lt)
  replace XB := hid (XB.out.below hb28 XB.out.lt)
  replace HT1 := hid (HT1.out.on hb28)
  replace HU1 := hid (HU1.out.on hb28)
  replace HT2 := hid (HT2.out.on hb28)
  replace HU2 := hid (HU2.out.on hb28)
  replace HA := hid (HA.out.on hb28)
  replace HB := hid (HB.out.on hb28)
  replace HC := hid (HC.out.on hb28)
  replace HE := hid (HE.out.on hb28)
  replace B := hid (B.out.trans (hb28.mono B.out.size))
  have XC := hid hx29
  have hs30 : (w27.alloc (.cells #[.bool s5, .slice p5 n5 c5] 51)).heap.size = w27.heap.size + 1 := by simp
  clear hb28 hx29
  have hb31 := (Below.refl _ _).alloc (Nat.le_refl (w27.alloc (.cells #[.bool s5, .slice p5 n5 c5] 51)).heap.size) (.cells #[.bool s6, .slice p6 n6 c6] 51)
  have hx32 := Box.new (w27.alloc (.cells #[.bool s5, .slice p5 n5 c5] 51)) s6 p6 n6 c6
  rw [hs30] at hx32
  replace X1 := hid (X1.out.below hb31 X1.out.lt)
  replace X2 := hid (X2.out.below hb31 X2.out.lt)
  replace XQ := hid (XQ.out.below hb31 XQ.out.lt)
  replace XA := hid (XA.out.below hb31 XA.out.lt)
  replace XB := hid (XB.out.below hb31 XB.out.lt)
  replace XC := hid (XC.out.below hb31 XC.out.lt)
  replace HT1 := hid (HT1.out.on hb31)
  replace HU1 := hid (HU1.out.on hb31)
  replace HT2 := hid (HT2.out.on hb31)
  replace HU2 := hid (HU2.out.on hb31)
  replace HA := hid (HA.out.on hb31)
  replace HB := hid (HB.out.on hb31)
  replace HC := hid (HC.out.on hb31)
  replace HE := hid (HE.out.on hb31)
  replace B := hid (B.out.trans (hb31.mono B.out.size))
  have XD := hid hx32
  have hs33 : ((w27.alloc (.cells #[.bool s5, .slice p5 n5 c5] 51)).alloc (.cells #[.bool s6, .slice p6 n6 c6] 51)).heap.size = w27.heap.size + 1 + 1 := by simp [hs30]
  clear hb31 hx32
  obtain ⟨c34a, c34b, c34c, c34d⟩ := X1.out.cells
  obtain ⟨c35a, c35b, c35c, c35d⟩ := X2.out.cells
  obtain ⟨c36a, c36b, c36c, c36d⟩ := XQ.out.cells
  obtain ⟨c37a, c37b⟩ := XA.out.both
  obtain ⟨c38a, c38b⟩ := XB.out.both
  obtain ⟨c39a, c39b⟩ := XC.out.both
  obtain ⟨c40a, c40b⟩ := XD.out.both
  go_wp2_with fail
  generalize hW : (w27.alloc (.cells #[.bool s5, .slice p5 n5 c5] 51)).alloc (.cells #[.bool s6, .slice p6 n6 c6] 51) = W41 at *
  clear hW
  obtain ⟨c42a, c42b⟩ := XA.out.both
  obtain ⟨c43a, c43b⟩ := XB.out.both
  obtain ⟨c44a, c44b⟩ := XC.out.both
  obtain ⟨c45a, c45b⟩ := XD.out.both
  replace X1 := hid X1.out.dr
  replace X2 := hid X2.out.dr
  replace XQ := hid XQ.out.dr
  replace XA := hid XA.out.dr
  replace XB := hid XB.out.dr
  replace XC := hid XC.out.dr
  replace XD := hid XD.out.dr
  replace HT1 := hid HT1.out.drew
  replace HU1 := hid HU1.out.drew
  replace HT2 := hid HT2.out.drew
  replace HU2 := hid HU2.out.drew
  replace HA := hid HA.out.drew
  replace HB := hid HB.out.drew
  replace HC := hid HC.out.drew
  replace HE := hid HE.out.drew
  replace B := hid (Below.drew B.out)
  obtain ⟨c46a, c46b⟩ := XA.out.both
  obtain ⟨c47a, c47b⟩ := XB.out.both
  obtain ⟨c48a, c48b⟩ := XC.out.both
  obtain ⟨c49a, c49b⟩ := XD.out.both
  go_region_held3 (fun w' => w'.cell? ⟨w14.heap.size, 0, none⟩ = some (.bool s3) ∧ w'.cell? ⟨w14.heap.size, 1, none⟩ = some (.slice p3 n3 c3) ∧ w'.cell? ⟨w14.heap.size + 1, 0, none⟩ = some (.bool s4) ∧ w'.cell? ⟨w14.heap.size + 1, 1, none⟩ = some (.slice p4 n4 c4) ∧ w'.cell? ⟨w27.heap.size, 0, none⟩ = some (.bool s5) ∧ w'.cell? ⟨w27.heap.size, 1, none⟩ = some (.slice p5 n5 c5) ∧ w'.cell? ⟨w27.heap.size + 1, 0, none⟩ = some (.bool s6) ∧ w'.cell? ⟨w27.heap.size + 1, 1, none⟩ = some (.slice p6 n6 c6)) (go_keep) (first
      | (have hm := mk50_3; clear hm; go_at_call 74; refine (reduced_rtl (k := k + k + 1) (S1.out.mono (by omega)) (P3.out.mono (by omega)) (Int.mul_ne_zero (den_ne _) (den_ne _)) (by have := HK.out; omega)).mono ?_; rintro e w71 ⟨v, rfl, hv, hb⟩; obtain ⟨s9a, p9a, n9a, c9a, s9b, p9b, n9b, c9b, rfl⟩ := hv.opened; obtain ⟨ht9, d9, hu9, hd9⟩ := hv.two; have HD9 := hid hd9; replace X1 := hid (X1.out.below hb X1.out.lt); replace X2 := hid (X2.out.below hb X2.out.lt); replace XQ := hid (XQ.out.below hb XQ.out.lt); replace XA := hid (XA.out.below hb XA.out.lt); replace XB := hid (XB.out.below hb XB.out.lt); replace XC := hid (XC.out.below hb XC.out.lt); replace XD := hid (XD.out.below hb XD.out.lt); replace HT1 := hid (HT1.out.on hb); replace HU1 := hid (HU1.out.on hb); replace HT2 := hid (HT2.out.on hb); replace HU2 := hid (HU2.out.on hb); replace HA := hid (HA.out.on hb); replace HB := hid (HB.out.on hb); replace HC := hid (HC.out.on hb); replace HE := hid (HE.out.on hb); replace P1 := hid (P1.out.on hb); replace P2 := hid (P2.out.on hb); replace S1 := hid (S1.out.on hb); replace P3 := hid (P3.out.on hb); replace B := hid (B.out.trans (hb.mono B.out.size)); clear c67a c67b c68a c68b c69a c69b c70a c70b; have HT9 := hid ht9; have HU9 := hid hu9; clear hb hv ht9 hu9 hd9; obtain ⟨c72a, c72b⟩ := XA.out.both; obtain ⟨c73a, c73b⟩ := XB.out.both; obtain ⟨c74a, c74b⟩ := XC.out.both; obtain ⟨c75a, c75b⟩ := XD.out.both; obtain ⟨⟨c76a, c76b⟩, ⟨c76c, c76d⟩, ⟨c76e, c76f⟩, c76g, c76h⟩ := XQ.out.stores; obtain ⟨r77a, r77b, r77c⟩ := XQ.out.last B.out (by have := L0.out; have := L1.out; omega) s9a s9b p9a p9b n9a n9b c9a c9b; replace X1 := hid ((((X1.out.other (g2 := w.heap.size + 1 + 1) (by have := L0.out; have := L1.out; omega) 0 (.bool s9a)).other (g2 := w.heap.size + 1 + 1) (by have := L0.out; have := L1.out; omega) 1 (.slice p9a n9a c9a)).other (g2 := w.heap.size + 1 + 1) (by have := L0.out; have := L1.out; omega) 2 (.bool s9b)).other (g2 := w.heap.size + 1 + 1) (by have := L0.out; have := L1.out; omega) 3 (.slice p9b n9b c9b)); replace X2 := hid ((((X2.out.other (g2 := w.heap.size + 1 + 1) (by have := L0.out; have := L1.out; omega) 0 (.bool s9a)).other (g2 := w.heap.size + 1 + 1) (by have := L0.out; have := L1.out; omega) 1 (.slice p9a n9a c9a)).other (g2 := w.heap.size + 1 + 1) (by have := L0.out; have := L1.out; omega) 2 (.bool s9b)).other (g2 := w.heap.size + 1 + 1) (by have := L0.out; have := L1.out; omega) 3 (.slice p9b n9b c9b)); replace XA := hid ((((XA.out.other (g2 := w.heap.size + 1 + 1) (by have := L0.out; have := L1.out; omega) 0 (.bool s9a)).other (g2 := w.heap.size + 1 + 1) (by have := L0.out; have := L1.out; omega) 1 (.slice p9a n9a c9a)).other (g2 := w.heap.size + 1 + 1) (by have := L0.out; have := L1.out; omega) 2 (.bool s9b)).other (g2 := w.heap.size + 1 + 1) (by have := L0.out; have := L1.out; omega) 3 (.slice p9b n9b c9b)); replace XB := hid ((((XB.out.other (g2 := w.heap.size + 1 + 1) (by have := L0.out; have := L1.out; omega) 0 (.bool s9a)).other (g2 := w.heap.size + 1 + 1) (by have := L0.out; have := L1.out; omega) 1 (.slice p9a n9a c9a)).other (g2 := w.heap.size + 1 + 1) (by have := L0.out; have := L1.out; omega) 2 (.bool s9b)).other (g2 := w.heap.size + 1 + 1) (by have := L0.out; have := L1.out; omega) 3 (.slice p9b n9b c9b)); replace XC := hid ((((XC.out.other (g2 := w.heap.size + 1 + 1) (by have := L0.out; have := L1.out; omega) 0 (.bool s9a)).other (g2 := w.heap.size + 1 + 1) (by have := L0.out; have := L1.out; omega) 1 (.slice p9a n9a c9a)).other (g2 := w.heap.size + 1 + 1) (by have := L0.out; have := L1.out; omega) 2 (.bool s9b)).other (g2 := w.heap.size + 1 + 1) (by have := L0.out; have := L1.out; omega) 3 (.slice p9b n9b c9b)); replace XD := hid ((((XD.out.other (g2 := w.heap.size + 1 + 1) (by have := L0.out; have := L1.out; omega) 0 (.bool s9a)).other (g2 := w.heap.size + 1 + 1) (by have := L0.out; have := L1.out; omega) 1 (.slice p9a n9a c9a)).other (g2 := w.heap.size + 1 + 1) (by have := L0.out; have := L1.out; omega) 2 (.bool s9b)).other (g2 := w.heap.size + 1 + 1) (by have := L0.out; have := L1.out; omega) 3 (.slice p9b n9b c9b)); replace HT1 := hid (r77c HT1.out); replace HU1 := hid (r77c HU1.out); replace HT2 := hid (r77c HT2.out); replace HU2 := hid (r77c HU2.out); replace HA := hid (r77c HA.out); replace HB := hid (r77c HB.out); replace HC := hid (r77c HC.out); replace HE := hid (r77c HE.out); replace P1 := hid (r77c P1.out); replace P2 := hid (r77c P2.out); replace S1 := hid (r77c S1.out); replace P3 := hid (r77c P3.out); replace HT9 := hid (r77c HT9.out); replace HU9 := hid (r77c HU9.out); replace XQ := hid r77a; replace B := hid r77b; clear r77a r77b r77c; obtain ⟨c78a, c78b⟩ := XA.out.both; obtain ⟨c79a, c79b⟩ := XB.out.both; obtain ⟨c80a, c80b⟩ := XC.out.both; obtain ⟨c81a, c81b⟩ := XD.out.both; have mk50_4 := hid True.intro)
      | (have hm := mk50_2; clear hm; go_at_call 47; refine (mul_whl HB.out HE.out (by have := HK.out; omega) (by have := HK.out; omega)).mono ?_; rintro e w66 ⟨v, rfl, hv, hb⟩; obtain ⟨s13, p13, n13, c13, rfl⟩ := hv.opened; replace X1 := hid (X1.out.below hb X1.out.lt); replace X2 := hid (X2.out.below hb X2.out.lt); replace XQ := hid (XQ.out.below hb XQ.out.lt); replace XA := hid (XA.out.below hb XA.out.lt); replace XB := hid (XB.out.below hb XB.out.lt); replace XC := hid (XC.out.below hb XC.out.lt); replace XD := hid (XD.out.below hb XD.out.lt); replace HT1 := hid (HT1.out.on hb); replace HU1 := hid (HU1.out.on hb); replace HT2 := hid (HT2.out.on hb); replace HU2 := hid (HU2.out.on hb); replace HA := hid (HA.out.on hb); replace HB := hid (HB.out.on hb); replace HC := hid (HC.out.on hb); replace HE := hid (HE.out.on hb); replace P1 := hid (P1.out.on hb); replace P2 := hid (P2.out.on hb); replace S1 := hid (S1.out.on hb); replace B := hid (B.out.trans (hb.mono B.out.size)); clear c62a c62b c63a c63b c64a c64b c65a c65b; have P3 := hid hv; clear hb hv; obtain ⟨c67a, c67b⟩ := XA.out.both; obtain ⟨c68a, c68b⟩ := XB.out.both; obtain ⟨c69a, c69b⟩ := XC.out.both; obtain ⟨c70a, c70b⟩ := XD.out.both; have mk50_3 := hid True.intro)
      | (have hm := mk50_1; clear hm; go_at_call 49; refine (add_whl P1.out P2.out (by have := HK.out; omega) (by have := HK.out; omega)).mono ?_; rintro e w61 ⟨v, rfl, hv, hb⟩; obtain ⟨s7, p7, n7, c7, rfl⟩ := hv.opened; replace X1 := hid (X1.out.below hb X1.out.lt); replace X2 := hid (X2.out.below hb X2.out.lt); replace XQ := hid (XQ.out.below hb XQ.out.lt); replace XA := hid (XA.out.below hb XA.out.lt); replace XB := hid (XB.out.below hb XB.out.lt); replace XC := hid (XC.out.below hb XC.out.lt); replace XD := hid (XD.out.below hb XD.out.lt); replace HT1 := hid (HT1.out.on hb); replace HU1 := hid (HU1.out.on hb); replace HT2 := hid (HT2.out.on hb); replace HU2 := hid (HU2.out.on hb); replace HA := hid (HA.out.on hb); replace HB := hid (HB.out.on hb); replace HC := hid (HC.out.on hb); replace HE := hid (HE.out.on hb); replace P1 := hid (P1.out.on hb); replace P2 := hid (P2.out.on hb); replace B := hid (B.out.trans (hb.mono B.out.size)); clear c57a c57b c58a c58b c59a c59b c60a c60b; have S1 := hid hv; clear hb hv; obtain ⟨c62a, c62b⟩ := XA.out.both; obtain ⟨c63a, c63b⟩ := XB.out.both; obtain ⟨c64a, c64b⟩ := XC.out.both; obtain ⟨c65a, c65b⟩ := XD.out.both; have mk50_2 := hid True.intro)
      | (have hm := mk50_0; clear hm; go_at_call 47; refine (mul_whl HC.out HB.out (by have := HK.out; omega) (by have := HK.out; omega)).mono ?_; rintro e w56 ⟨v, rfl, hv, hb⟩; obtain ⟨s12, p12, n12, c12, rfl⟩ := hv.opened; replace X1 := hid (X1.out.below hb X1.out.lt); replace X2 := hid (X2.out.below hb X2.out.lt); replace XQ := hid (XQ.out.below hb XQ.out.lt); replace XA := hid (XA.out.below hb XA.out.lt); replace XB := hid (XB.out.below hb XB.out.lt); replace XC := hid (XC.out.below hb XC.out.lt); replace XD := hid (XD.out.below hb XD.out.lt); replace HT1 := hid (HT1.out.on hb); replace HU1 := hid (HU1.out.on hb); replace HT2 := hid (HT2.out.on hb); replace HU2 := hid (HU2.out.on hb); replace HA := hid (HA.out.on hb); replace HB := hid (HB.out.on hb); replace HC := hid (HC.out.on hb); replace HE := hid (HE.out.on hb); replace P1 := hid (P1.out.on hb); replace B := hid (B.out.trans (hb.mono B.out.size)); clear c52a c52b c53a c53b c54a c54b c55a c55b; have P2 := hid hv; clear hb hv; obtain ⟨c57a, c57b⟩ := XA.out.both; obtain ⟨c58a, c58b⟩ := XB.out.both; obtain ⟨c59a, c59b⟩ := XC.out.both; obtain ⟨c60a, c60b⟩ := XD.out.both; have mk50_1 := hid True.intro)
      | (go_at_call 47; refine (mul_whl HA.out HE.out (by have := HK.out; omega) (by have := HK.out; omega)).mono ?_; rintro e w51 ⟨v, rfl, hv, hb⟩; obtain ⟨s11, p11, n11, c11, rfl⟩ := hv.opened; replace X1 := hid (X1.out.below hb X1.out.lt); replace X2 := hid (X2.out.below hb X2.out.lt); replace XQ := hid (XQ.out.below hb XQ.out.lt); replace XA := hid (XA.out.below hb XA.out.lt); replace XB := hid (XB.out.below hb XB.out.lt); replace XC := hid (XC.out.below hb XC.out.lt); replace XD := hid (XD.out.below hb XD.out.lt); replace HT1 := hid (HT1.out.on hb); replace HU1 := hid (HU1.out.on hb); replace HT2 := hid (HT2.out.on hb); replace HU2 := hid (HU2.out.on hb); replace HA := hid (HA.out.on hb); replace HB := hid (HB.out.on hb); replace HC := hid (HC.out.on hb); replace HE := hid (HE.out.on hb); replace B := hid (B.out.trans (hb.mono B.out.size)); clear c34a c34b c34c c34d c35a c35b c35c c35d c36a c36b c36c c36d c37a c37b c38a c38b c39a c39b c40a c40b c42a c42b c43a c43b c44a c44b c45a c45b c46a c46b c47a c47b c48a c48b c49a c49b; have P1 := hid hv; clear hb hv; obtain ⟨c52a, c52b⟩ := XA.out.both; obtain ⟨c53a, c53b⟩ := XB.out.both; obtain ⟨c54a, c54b⟩ := XC.out.both; obtain ⟨c55a, c55b⟩ := XD.out.both; have mk50_0 := hid True.intro))
  go_wp2_with fail
  refine bodyPost_ret (res_num rfl rfl XQ.out) rfl ?_
  exact ⟨_, rfl, (by rw [add_parts]; exact Rtl.mk2 HT9.out HU9.out HD9.out), B.out⟩

end Go.Proofs.Ytckkbjnipacodaa

/-
  PACKAGE rat: Mul.
-/
namespace Go.Proofs.Ytckkbjnipacodaa
open Go.RowKit
open Num
set_option linter.unusedVariables false
set_option maxRecDepth 100000
set_option linter.unusedSimpArgs false

set_option maxHeartbeats 4000000 in
theorem mulq_rtl {w : World} {v u : Value} {q r : Rat} {k : Nat} (h : Rtl w v q k) (h' : Rtl w u r k) (hk1 : 1 ≤ k) (hk : k ≤ 68719476736) :
    Calls Try.prog 55 #[v, u] w fun e w' => ∃ v, e = .returned v ∧ Rtl w' v (q * r) (k + k + 1) ∧ Below w.heap.size w w' := by
  obtain ⟨s1a, p1a, n1a, c1a, s1b, p1b, n1b, c1b, rfl⟩ := h.opened
  obtain ⟨ht1, d1, hu1, hd1⟩ := h.two
  have HD1 := hid hd1
  obtain ⟨s2a, p2a, n2a, c2a, s2b, p2b, n2b, c2b, rfl⟩ := h'.opened
  obtain ⟨ht2, d2, hu2, hd2⟩ := h'.two
  have HD2 := hid hd2
  have HK := hid hk
  have HK1 := hid hk1
  have B := hid (Below.refl w.heap.size w)
  have HT1 := hid ht1
  have HU1 := hid hu1
  have HT2 := hid ht2
  have HU2 := hid hu2
  have hb1 := (Below.refl _ _).alloc (Nat.le_refl w.heap.size) (.cells #[.bool s1a, .slice p1a n1a c1a, .bool s1b, .slice p1b n1b c1b] 64)
  have hx2 := Nbx.new w s1a s1b (.slice p1a n1a c1a) (.slice p1b n1b c1b)
  replace HT1 := hid (HT1.out.on hb1)
  replace HU1 := hid (HU1.out.on hb1)
  replace HT2 := hid (HT2.out.on hb1)
  replace HU2 := hid (HU2.out.on hb1)
  replace B := hid (B.out.trans (hb1.mono B.out.size))
  have X1 := hid hx2
  have hs3 : (w.alloc (.cells #[.bool s1a, .slice p1a n1a c1a, .bool s1b, .slice p1b n1b c1b] 64)).heap.size = w.heap.size + 1 := by simp
  clear hb1 hx2
  have hb4 := (Below.refl _ _).alloc (Nat.le_refl (w.alloc (.cells #[.bool s1a, .slice p1a n1a c1a, .bool s1b, .slice p1b n1b c1b] 64)).heap.size) (.cells #[.bool s2a, .slice p2a n2a c2a, .bool s2b, .slice p2b n2b c2b] 64)
  have hx5 := Nbx.new (w.alloc (.cells #[.bool s1a, .slice p1a n1a c1a, .bool s1b, .slice p1b n1b c1b] 64)) s2a s2b (.slice p2a n2a c2a) (.slice p2b n2b c2b)
  rw [hs3] at hx5
  replace X1 := hid (X1.out.below hb4 X1.out.lt)
  replace HT1 := hid (HT1.out.on hb4)
  replace HU1 := hid (HU1.out.on hb4)
  replace HT2 := hid (HT2.out.on hb4)
  replace HU2 := hid (HU2.out.on hb4)
  replace B := hid (B.out.trans (hb4.mono B.out.size))
  have X2 := hid hx5
  have hs6 : ((w.alloc (.cells #[.bool s1a, .slice p1a n1a c1a, .bool s1b, .slice p1b n1b c1b] 64)).alloc (.cells #[.bool s2a, .slice p2a n2a c2a, .bool s2b, .slice p2b n2b c2b] 64)).heap.size = w.heap.size + 1 + 1 := by simp [hs3]
  clear hb4 hx5
  have hb7 := (Below.refl _ _).alloc (Nat.le_refl ((w.alloc (.cells #[.bool s1a, .slice p1a n1a c1a, .bool s1b, .slice p1b n1b c1b] 64)).alloc (.cells #[.bool s2a, .slice p2a n2a c2a, .bool s2b, .slice p2b n2b c2b] 64)).heap.size) (.cells #[.bool false, .slice none 0 0, .bool false, .slice none 0 0] 64)
  have hx8 := Nbx.new ((w.alloc (.cells #[.bool s1a, .slice p1a n1a c1a, .bool s1b, .slice p1b n1b c1b] 64)).alloc (.cells #[.bool s2a, .slice p2a n2a c2a, .bool s2b, .slice p2b n2b c2b] 64)) false false (.slice none 0 0) (.slice none 0 0)
  rw [hs6] at hx8
  replace X1 := hid (X1.out.below hb7 X1.out.lt)
  replace X2 := hid (X2.out.below hb7 X2.out.lt)
  replace HT1 := hid (HT1.out.on hb7)
  replace HU1 := hid (HU1.out.on hb7)
  replace HT2 := hid (HT2.out.on hb7)
  replace HU2 := hid (HU2.out.on hb7)
  replace B := hid (B.out.trans (hb7.mono B.out.size))
  have XQ := hid hx8
  have hs9 : (((w.alloc (.cells #[.bool s1a, .slice p1a n1a c1a, .bool s1b, .slice p1b n1b c1b] 64)).alloc (.cells #[.bool s2a, .slice p2a n2a c2a, .bool s2b, .slice p2b n2b c2b] 64)).alloc (.cells #[.bool false, .slice none 0 0, .bool false, .slice none 0 0] 64)).heap.size = w.heap.size + 1 + 1 + 1 := by simp [hs6]
  clear hb7 hx8
  clear hs9 h h' ht1 hu1 ht2 hu2 hd1 hd2 hk hk1
  go_enter Try.func55, Try.ntmps55
  obtain ⟨c10a, c10b, c10c, c10d⟩ := X1.out.cells
  obtain ⟨c11a, c11b, c11c, c11d⟩ := X2.out.cells
  obtain ⟨c12a, c12b, c12c, c12d⟩ := XQ.out.cells
  go_wp2_with fail
  generalize hW : ((w.alloc (.cells #[.bool s1a, .slice p1a n1a c1a, .bool s1b, .slice p1b n1b c1b] 64)).alloc (.cells #[.bool s2a, .slice p2a n2a c2a, .bool s2b, .slice p2b n2b c2b] 64)).alloc (.cells #[.bool false, .slice none 0 0, .bool false, .slice none 0 0] 64) = W13 at *
  clear hW
  refine (parts_rtl (Rtl.mk2 HT1.out HU1.out HD1.out) HK1.out).mono ?_
  rintro e w14 ⟨v, u, rfl, hv, hu, hb⟩
  obtain ⟨s3, p3, n3, c3, rfl⟩ := hv.opened
  obtain ⟨s4, p4, n4, c4, rfl⟩ := hu.opened
  replace X1 := hid (X1.out.below hb X1.out.lt)
  replace X2 := hid (X2.out.below hb X2.out.lt)
  replace XQ := hid (XQ.out.below hb XQ.out.lt)
  replace HT1 := hid (HT1.out.on hb)
  replace HU1 := hid (HU1.out.on hb)
  replace HT2 := hid (HT2.out.on hb)
  replace HU2 := hid (HU2.out.on hb)
  replace B := hid (B.out.trans (hb.mono B.out.size))
  clear c10a c10b c10c c10d c11a c11b c11c c11d c12a c12b c12c c12d
  have HA := hid hv
  have HB := hid hu
  clear hb hv hu
  have hb15 := (Below.refl _ _).alloc (Nat.le_refl w14.heap.size) (.cells #[.bool s3, .slice p3 n3 c3] 51)
  have hx16 := Box.new w14 s3 p3 n3 c3
  have L0 := hid XQ.out.lt
  replace X1 := hid (X1.out.below hb15 X1.out.lt)
  replace X2 := hid (X2.out.below hb15 X2.out.lt)
  replace XQ := hid (XQ.out.below hb15 XQ.out.lt)
  replace HT1 := hid (HT1.out.on hb15)
  replace HU1 := hid (HU1.out.on hb15)
  replace HT2 := hid (HT2.out.on hb15)
  replace HU2 := hid (HU2.out.on hb15)
  replace HA := hid (HA.out.on hb15)
  replace HB := hid (HB.out.on hb15)
  replace B := hid (B.out.trans (hb15.mono B.out.size))
  have XA := hid hx16
  have hs17 : (w14.alloc (.cells #[.bool s3, .slice p3 n3 c3] 51)).heap.size = w14.heap.size + 1 := by simp
  clear hb15 hx16
  have hb18 := (Below.refl _ _).alloc (Nat.le_refl (w14.alloc (.cells #[.bool s3, .slice p3 n3 c3] 51)).heap.size) (.cells #[.bool s4, .slice p4 n4 c4] 51)
  have hx19 := Box.new (w14.alloc (.cells #[.bool s3, .slice p3 n3 c3] 51)) s4 p4 n4 c4
  rw [hs17] at hx19
  replace X1 := hid (X1.out.below hb18 X1.out.lt)
  replace X2 := hid (X2.out.below hb18 X2.out.lt)
  replace XQ := hid (XQ.out.below hb18 XQ.out.lt)
  replace XA := hid (XA.out.below hb18 XA.out.lt)
  replace HT1 := hid (HT1.out.on hb18)
  replace HU1 := hid (HU1.out.on hb18)
  replace HT2 := hid (HT2.out.on hb18)
  replace HU2 := hid (HU2.out.on hb18)
  replace HA := hid (HA.out.on hb18)
  replace HB := hid (HB.out.on hb18)
  replace B := hid (B.out.trans (hb18.mono B.out.size))
  have XB := hid hx19
  have hs20 : ((w14.alloc (.cells #[.bool s3, .slice p3 n3 c3] 51)).alloc (.cells #[.bool s4, .slice p4 n4 c4] 51)).heap.size = w14.heap.size + 1 + 1 := by simp [hs17]
  clear hb18 hx19
  obtain ⟨c21a, c21b, c21c, c21d⟩ := X1.out.cells
  obtain ⟨c22a, c22b, c22c, c22d⟩ := X2.out.cells
  obtain ⟨c23a, c23b, c23c, c23d⟩ := XQ.out.cells
  obtain ⟨c24a, c24b⟩ := XA.out.both
  obtain ⟨c25a, c25b⟩ := XB.out.both
  go_wp2_with fail
  generalize hW : (w14.alloc (.cells #[.bool s3, .slice p3 n3 c3] 51)).alloc (.cells #[.bool s4, .slice p4 n4 c4] 51) = W26 at *
  clear hW
  refine (parts_rtl (Rtl.mk2 HT2.out HU2.out HD2.out) HK1.out).mono ?_
  rintro e w27 ⟨v, u, rfl, hv, hu, hb⟩
  obtain ⟨s5, p5, n5, c5, rfl⟩ := hv.opened
  obtain ⟨s6, p6, n6, c6, rfl⟩ := hu.opened
  replace X1 := hid (X1.out.below hb X1.out.lt)
  replace X2 := hid (X2.out.below hb X2.out.lt)
  replace XQ := hid (XQ.out.below hb XQ.out.lt)
  replace XA := hid (XA.out.below hb XA.out.lt)
  replace XB := hid (XB.out.below hb XB.out.lt)
  replace HT1 := hid (HT1.out.on hb)
  replace HU1 := hid (HU1.out.on hb)
  replace HT2 := hid (HT2.out.on hb)
  replace HU2 := hid (HU2.out.on hb)
  replace HA := hid (HA.out.on hb)
  replace HB := hid (HB.out.on hb)
  replace B := hid (B.out.trans (hb.mono B.out.size))
  clear c21a c21b c21c c21d c22a c22b c22c c22d c23a c23b c23c c23d c24a c24b c25a c25b
  have HC := hid hv
  have HE := hid hu
  clear hb hv hu
  have hb28 := (Below.refl _ _).alloc (Nat.le_refl w27.heap.size) (.cells #[.bool s5, .slice p5 n5 c5] 51)
  have hx29 := Box.new w27 s5 p5 n5 c5
  have L1 := hid XB.out.lt
  replace X1 := hid (X1.out.below hb28 X1.out.lt)
  replace X2 := hid (X2.out.below hb28 X2.out.lt)
  replace XQ := hid (XQ.out.below hb28 XQ.out.lt)
  replace XA := hid (XA.out.below hb28 XA.out.lt)
  replace XB := hid (XB.out.below hb28 XB.out.lt)
  replace HT1 := hid (HT1.out.on hb28)
  replace HU1 := hid (HU1.out.on hb28)
  replace HT2 := hid (HT2.out.on hb28)
  replace HU2 := hid (HU2.out.on hb28)
  replace HA := hid (HA.out.on hb28)
  replace HB := hid (HB.out.on hb28)
  replace HC := hid (HC.out.on hb28)
  replace HE := hid (HE.out.on hb28)
  replace B := hid (B.out.trans (hb28.mono B.out.size))
  have XC := hid hx29
  have hs30 : (w27.alloc (.cells #[.bool s5, .slice p5 n5 c5] 51)).heap.size = w27.heap.size + 1 := by simp
  clear hb28 hx29
  have hb31 := (Below.refl _ _).alloc (Nat.le_refl (w27.alloc (.cells #[.bool s5, .slice p5 n5 c5] 51)).heap.size) (.cells #[.bool s6, .slice p6 n6 c6] 51)
  have hx32 := Box.new (w27.alloc (.cells #[.bool s5, .slice p5 n5 c5] 51)) s6 p6 n6 c6
  rw [hs30] at hx32
  replace X1 := hid (X1.out.below hb31 X1.out.lt)
  replace X2 := hid (X2.out.below hb31 X2.out.lt)
  replace XQ := hid (XQ.out.below hb31 XQ.out.lt)
  replace XA := hid (XA.out.below hb31 XA.out.lt)
  replace XB := hid (XB.out.below hb31 XB.out.lt)
  replace XC := hid (XC.out.below hb31 XC.out.lt)
  replace HT1 := hid (HT1.out.on hb31)
  replace HU1 := hid (HU1.out.on hb31)
  replace HT2 := hid (HT2.out.on hb31)
  replace HU2 := hid (HU2.out.on hb31)
  replace HA := hid (HA.out.on hb31)
  replace HB := hid (HB.out.on hb31)
  replace HC := hid (HC.out.on hb31)
  replace HE := hid (HE.out.on hb31)
  replace B := hid (B.out.trans (hb31.mono B.out.size))
  have XD := hid hx32
  have hs33 : ((w27.alloc (.cells #[.bool s5, .slice p5 n5 c5] 51)).alloc (.cells #[.bool s6, .slice p6 n6 c6] 51)).heap.size = w27.heap.size + 1 + 1 := by simp [hs30]
  clear hb31 hx32
  obtain ⟨c34a, c34b, c34c, c34d⟩ := X1.out.cells
  obtain ⟨c35a, c35b, c35c, c35d⟩ := X2.out.cells
  obtain ⟨c36a, c36b, c36c, c36d⟩ := XQ.out.cells
  obtain ⟨c37a, c37b⟩ := XA.out.both
  obtain ⟨c38a, c38b⟩ := XB.out.both
  obtain ⟨c39a, c39b⟩ := XC.out.both
  obtain ⟨c40a, c40b⟩ := XD.out.both
  go_wp2_with fail
  generalize hW : (w27.alloc (.cells #[.bool s5, .slice p5 n5 c5] 51)).alloc (.cells #[.bool s6, .slice p6 n6 c6] 51) = W41 at *
  clear hW
  obtain ⟨c42a, c42b⟩ := XA.out.both
  obtain ⟨c43a, c43b⟩ := XB.out.both
  obtain ⟨c44a, c44b⟩ := XC.out.both
  obtain ⟨c45a, c45b⟩ := XD.out.both
  replace X1 := hid X1.out.dr
  replace X2 := hid X2.out.dr
  replace XQ := hid XQ.out.dr
  replace XA := hid XA.out.dr
  replace XB := hid XB.out.dr
  replace XC := hid XC.out.dr
  replace XD := hid XD.out.dr
  replace HT1 := hid HT1.out.drew
  replace HU1 := hid HU1.out.drew
  replace HT2 := hid HT2.out.drew
  replace HU2 := hid HU2.out.drew
  replace HA := hid HA.out.drew
  replace HB := hid HB.out.drew
  replace HC := hid HC.out.drew
  replace HE := hid HE.out.drew
  replace B := hid (Below.drew B.out)
  obtain ⟨c46a, c46b⟩ := XA.out.both
  obtain ⟨c47a, c47b⟩ := XB.out.both
  obtain ⟨c48a, c48b⟩ := XC.out.both
  obtain ⟨c49a, c49b⟩ := XD.out.both
  go_region_held3 (fun w' => w'.cell? ⟨w14.heap.size, 0, none⟩ = some (.bool s3) ∧ w'.cell? ⟨w14.heap.size, 1, none⟩ = some (.slice p3 n3 c3) ∧ w'.cell? ⟨w14.heap.size + 1, 0, none⟩ = some (.bool s4) ∧ w'.cell? ⟨w14.heap.size + 1, 1, none⟩ = some (.slice p4 n4 c4) ∧ w'.cell? ⟨w27.heap.size, 0, none⟩ = some (.bool s5) ∧ w'.cell? ⟨w27.heap.size, 1, none⟩ = some (.slice p5 n5 c5) ∧ w'.cell? ⟨w27.heap.size + 1, 0, none⟩ = some (.bool s6) ∧ w'.cell? ⟨w27.heap.size + 1, 1, none⟩ = some (.slice p6 n6 c6)) (go_keep) (first
      | (have hm := mk50_1; clear hm; go_at_call 74; refine (reduced_rtl (k := k + k + 1) (P1.out.mono (by omega)) (P2.out.mono (by omega)) (Int.mul_ne_zero (den_ne _) (den_ne _)) (by have := HK.out; omega)).mono ?_; rintro e w61 ⟨v, rfl, hv, hb⟩; obtain ⟨s9a, p9a, n9a, c9a, s9b, p9b, n9b, c9b, rfl⟩ := hv.opened; obtain ⟨ht9, d9, hu9, hd9⟩ := hv.two; have HD9 := hid hd9; replace X1 := hid (X1.out.below hb X1.out.lt); replace X2 := hid (X2.out.below hb X2.out.lt); replace XQ := hid (XQ.out.below hb XQ.out.lt); replace XA := hid (XA.out.below hb XA.out.lt); replace XB := hid (XB.out.below hb XB.out.lt); replace XC := hid (XC.out.below hb XC.out.lt); replace XD := hid (XD.out.below hb XD.out.lt); replace HT1 := hid (HT1.out.on hb); replace HU1 := hid (HU1.out.on hb); replace HT2 := hid (HT2.out.on hb); replace HU2 := hid (HU2.out.on hb); replace HA := hid (HA.out.on hb); replace HB := hid (HB.out.on hb); replace HC := hid (HC.out.on hb); replace HE := hid (HE.out.on hb); replace P1 := hid (P1.out.on hb); replace P2 := hid (P2.out.on hb); replace B := hid (B.out.trans (hb.mono B.out.size)); clear c57a c57b c58a c58b c59a c59b c60a c60b; have HT9 := hid ht9; have HU9 := hid hu9; clear hb hv ht9 hu9 hd9; obtain ⟨c62a, c62b⟩ := XA.out.both; obtain ⟨c63a, c63b⟩ := XB.out.both; obtain ⟨c64a, c64b⟩ := XC.out.both; obtain ⟨c65a, c65b⟩ := XD.out.both; obtain ⟨⟨c66a, c66b⟩, ⟨c66c, c66d⟩, ⟨c66e, c66f⟩, c66g, c66h⟩ := XQ.out.stores; obtain ⟨r67a, r67b, r67c⟩ := XQ.out.last B.out (by have := L0.out; have := L1.out; omega) s9a s9b p9a p9b n9a n9b c9a c9b; replace X1 := hid ((((X1.out.other (g2 := w.heap.size + 1 + 1) (by have := L0.out; have := L1.out; omega) 0 (.bool s9a)).other (g2 := w.heap.size + 1 + 1) (by have := L0.out; have := L1.out; omega) 1 (.slice p9a n9a c9a)).other (g2 := w.heap.size + 1 + 1) (by have := L0.out; have := L1.out; omega) 2 (.bool s9b)).other (g2 := w.heap.size + 1 + 1) (by have := L0.out; have := L1.out; omega) 3 (.slice p9b n9b c9b)); replace X2 := hid ((((X2.out.other (g2 := w.heap.size + 1 + 1) (by have := L0.out; have := L1.out; omega) 0 (.bool s9a)).other (g2 := w.heap.size + 1 + 1) (by have := L0.out; have := L1.out; omega) 1 (.slice p9a n9a c9a)).other (g2 := w.heap.size + 1 + 1) (by have := L0.out; have := L1.out; omega) 2 (.bool s9b)).other (g2 := w.heap.size + 1 + 1) (by have := L0.out; have := L1.out; omega) 3 (.slice p9b n9b c9b)); replace XA := hid ((((XA.out.other (g2 := w.heap.size + 1 + 1) (by have := L0.out; have := L1.out; omega) 0 (.bool s9a)).other (g2 := w.heap.size + 1 + 1) (by have := L0.out; have := L1.out; omega) 1 (.slice p9a n9a c9a)).other (g2 := w.heap.size + 1 + 1) (by have := L0.out; have := L1.out; omega) 2 (.bool s9b)).other (g2 := w.heap.size + 1 + 1) (by have := L0.out; have := L1.out; omega) 3 (.slice p9b n9b c9b)); replace XB := hid ((((XB.out.other (g2 := w.heap.size + 1 + 1) (by have := L0.out; have := L1.out; omega) 0 (.bool s9a)).other (g2 := w.heap.size + 1 + 1) (by have := L0.out; have := L1.out; omega) 1 (.slice p9a n9a c9a)).other (g2 := w.heap.size + 1 + 1) (by have := L0.out; have := L1.out; omega) 2 (.bool s9b)).other (g2 := w.heap.size + 1 + 1) (by have := L0.out; have := L1.out; omega) 3 (.slice p9b n9b c9b)); replace XC := hid ((((XC.out.other (g2 := w.heap.size + 1 + 1) (by have := L0.out; have := L1.out; omega) 0 (.bool s9a)).other (g2 := w.heap.size + 1 + 1) (by have := L0.out; have := L1.out; omega) 1 (.slice p9a n9a c9a)).other (g2 := w.heap.size + 1 + 1) (by have := L0.out; have := L1.out; omega) 2 (.bool s9b)).other (g2 := w.heap.size + 1 + 1) (by have := L0.out; have := L1.out; omega) 3 (.slice p9b n9b c9b)); replace XD := hid ((((XD.out.other (g2 := w.heap.size + 1 + 1) (by have := L0.out; have := L1.out; omega) 0 (.bool s9a)).other (g2 := w.heap.size + 1 + 1) (by have := L0.out; have := L1.out; omega) 1 (.slice p9a n9a c9a)).other (g2 := w.heap.size + 1 + 1) (by have := L0.out; have := L1.out; omega) 2 (.bool s9b)).other (g2 := w.heap.size + 1 + 1) (by have := L0.out; have := L1.out; omega) 3 (.slice p9b n9b c9b)); replace HT1 := hid (r67c HT1.out); replace HU1 := hid (r67c HU1.out); replace HT2 := hid (r67c HT2.out); replace HU2 := hid (r67c HU2.out); replace HA := hid (r67c HA.out); replace HB := hid (r67c HB.out); replace HC := hid (r67c HC.out); replace HE := hid (r67c HE.out); replace P1 := hid (r67c P1.out); replace P2 := hid (r67c P2.out); replace HT9 := hid (r67c HT9.out); replace HU9 := hid (r67c HU9.out); replace XQ := hid r67a; replace B := hid r67b; clear r67a r67b r67c; obtain ⟨c68a, c68b⟩ := XA.out.both; obtain ⟨c69a, c69b⟩ := XB.out.both; obtain ⟨c70a, c70b⟩ := XC.out.both; obtain ⟨c71a, c71b⟩ := XD.out.both; have mk50_2 := hid True.intro)
      | (have hm := mk50_0; clear hm; go_at_call 47; refine (mul_whl HB.out HE.out (by have := HK.out; omega) (by have := HK.out; omega)).mono ?_; rintro e w56 ⟨v, rfl, hv, hb⟩; obtain ⟨s12, p12, n12, c12, rfl⟩ := hv.opened; replace X1 := hid (X1.out.below hb X1.out.lt); replace X2 := hid (X2.out.below hb X2.out.lt); replace XQ := hid (XQ.out.below hb XQ.out.lt); replace XA := hid (XA.out.below hb XA.out.lt); replace XB := hid (XB.out.below hb XB.out.lt); replace XC := hid (XC.out.below hb XC.out.lt); replace XD := hid (XD.out.below hb XD.out.lt); replace HT1 := hid (HT1.out.on hb); replace HU1 := hid (HU1.out.on hb); replace HT2 := hid (HT2.out.on hb); replace HU2 := hid (HU2.out.on hb); replace HA := hid (HA.out.on hb); replace HB := hid (HB.out.on hb); replace HC := hid (HC.out.on hb); replace HE := hid (HE.out.on hb); replace P1 := hid (P1.out.on hb); replace B := hid (B.out.trans (hb.mono B.out.size)); clear c52a c52b c53a c53b c54a c54b c55a c55b; have P2 := hid hv; clear hb hv; obtain ⟨c57a, c57b⟩ := XA.out.both; obtain ⟨c58a, c58b⟩ := XB.out.both; obtain ⟨c59a, c59b⟩ := XC.out.both; obtain ⟨c60a, c60b⟩ := XD.out.both; have mk50_1 := hid True.intro)
      | (go_at_call 47; refine (mul_whl HA.out HC.out (by have := HK.out; omega) (by have := HK.out; omega)).mono ?_; rintro e w51 ⟨v, rfl, hv, hb⟩; obtain ⟨s11, p11, n11, c11, rfl⟩ := hv.opened; replace X1 := hid (X1.out.below hb X1.out.lt); replace X2 := hid (X2.out.below hb X2.out.lt); replace XQ := hid (XQ.out.below hb XQ.out.lt); replace XA := hid (XA.out.below hb XA.out.lt); replace XB := hid (XB.out.below hb XB.out.lt); replace XC := hid (XC.out.below hb XC.out.lt); replace XD := hid (XD.out.below hb XD.out.lt); replace HT1 := hid (HT1.out.on hb); replace HU1 := hid (HU1.out.on hb); replace HT2 := hid (HT2.out.on hb); replace HU2 := hid (HU2.out.on hb); replace HA := hid (HA.out.on hb); replace HB := hid (HB.out.on hb); replace HC := hid (HC.out.on hb); replace HE := hid (HE.out.on hb); replace B := hid (B.out.trans (hb.mono B.out.size)); clear c34a c34b c34c c34d c35a c35b c35c c35d c36a c36b c36c c36d c37a c37b c38a c38b c39a c39b c40a c40b c42a c42b c43a c43b c44a c44b c45a c45b c46a c46b c47a c47b c48a c48b c49a c49b; have P1 := hid hv; clear hb hv; obtain ⟨c52a, c52b⟩ := XA.out.both; obtain ⟨c53a, c53b⟩ := XB.out.both; obtain ⟨c54a, c54b⟩ := XC.out.both; obtain ⟨c55a, c55b⟩ := XD.out.both; have mk50_0 := hid True.intro))
  go_wp2_with fail
  refine bodyPost_ret (res_num rfl rfl XQ.out) rfl ?_
  exact ⟨_, rfl, (by rw [mul_parts]; exact Rtl.mk2 HT9.out HU9.out HD9.out), B.out⟩

end Go.Proofs.Ytckkbjnipacodaa

/-
  PACKAGE rat: Div.
-/
namespace Go.Proofs.Ytckkbjnipacodaa
open Go.RowKit
open Num
set_option linter.unusedVariables false
set_option maxRecDepth 100000
set_option linter.unusedSimpArgs false

set_option maxHeartbeats 4000000 in
theorem divq_zero {w : World} {v u : Value} {q r : Rat} {k : Nat} (h : Rtl w v q k) (h' : Rtl w u r k) (hr : r = 0) (hk1 : 1 ≤ k) (hk : k ≤ 68719476736) :
    Calls Try.prog 56 #[v, u] w fun e w' => e = .returned (.tuple #[.agg #[.bool false, .slice none 0 0, .bool false, .slice none 0 0], errno 5]) ∧ Below w.heap.size w w' := by
  have HR := hid hr
  obtain ⟨s1a, p1a, n1a, c1a, s1b, p1b, n1b, c1b, rfl⟩ := h.opened
  obtain ⟨ht1, d1, hu1, hd1⟩ := h.two
  have HD1 := hid hd1
  obtain ⟨s2a, p2a, n2a, c2a, s2b, p2b, n2b, c2b, rfl⟩ := h'.opened
  obtain ⟨ht2, d2, hu2, hd2⟩ := h'.two
  have HD2 := hid hd2
  have HK := hid hk
  have HK1 := hid hk1
  have B := hid (Below.refl w.heap.size w)
  have HT1 := hid ht1
  have HU1 := hid hu1
  have HT2 := hid ht2
  have HU2 := hid hu2
  have hb1 := (Below.refl _ _).alloc (Nat.le_refl w.heap.size) (.cells #[.bool s1a, .slice p1a n1a c1a, .bool s1b, .slice p1b n1b c1b] 64)
  have hx2 := Nbx.new w s1a s1b (.slice p1a n1a c1a) (.slice p1b n1b c1b)
  replace HT1 := hid (HT1.out.on hb1)
  replace HU1 := hid (HU1.out.on hb1)
  replace HT2 := hid (HT2.out.on hb1)
  replace HU2 := hid (HU2.out.on hb1)
  replace B := hid (B.out.trans (hb1.mono B.out.size))
  have X1 := hid hx2
  have hs3 : (w.alloc (.cells #[.bool s1a, .slice p1a n1a c1a, .bool s1b, .slice p1b n1b c1b] 64)).heap.size = w.heap.size + 1 := by simp
  clear hb1 hx2
  have hb4 := (Below.refl _ _).alloc (Nat.le_refl (w.alloc (.cells #[.bool s1a, .slice p1a n1a c1a, .bool s1b, .slice p1b n1b c1b] 64)).heap.size) (.cells #[.bool s2a, .slice p2a n2a c2a, .bool s2b, .slice p2b n2b c2b] 64)
  have hx5 := Nbx.new (w.alloc (.cells #[.bool s1a, .slice p1a n1a c1a, .bool s1b, .slice p1b n1b c1b] 64)) s2a s2b (.slice p2a n2a c2a) (.slice p2b n2b c2b)
  rw [hs3] at hx5
  replace X1 := hid (X1.out.below hb4 X1.out.lt)
  replace HT1 := hid (HT1.out.on hb4)
  replace HU1 := hid (HU1.out.on hb4)
  replace HT2 := hid (HT2.out.on hb4)
  replace HU2 := hid (HU2.out.on hb4)
  replace B := hid (B.out.trans (hb4.mono B.out.size))
  have X2 := hid hx5
  have hs6 : ((w.alloc (.cells #[.bool s1a, .slice p1a n1a c1a, .bool s1b, .slice p1b n1b c1b] 64)).alloc (.cells #[.bool s2a, .slice p2a n2a c2a, .bool s2b, .slice p2b n2b c2b] 64)).heap.size = w.heap.size + 1 + 1 := by simp [hs3]
  clear hb4 hx5
  have hb7 := (Below.refl _ _).alloc (Nat.le_refl ((w.alloc (.cells #[.bool s1a, .slice p1a n1a c1a, .bool s1b, .slice p1b n1b c1b] 64)).alloc (.cells #[.bool s2a, .slice p2a n2a c2a, .bool s2b, .slice p2b n2b c2b] 64)).heap.size) (.cells #[.bool false, .slice none 0 0, .bool false, .slice none 0 0] 64)
  have hx8 := Nbx.new ((w.alloc (.cells #[.bool s1a, .slice p1a n1a c1a, .bool s1b, .slice p1b n1b c1b] 64)).alloc (.cells #[.bool s2a, .slice p2a n2a c2a, .bool s2b, .slice p2b n2b c2b] 64)) false false (.slice none 0 0) (.slice none 0 0)
  rw [hs6] at hx8
  replace X1 := hid (X1.out.below hb7 X1.out.lt)
  replace X2 := hid (X2.out.below hb7 X2.out.lt)
  replace HT1 := hid (HT1.out.on hb7)
  replace HU1 := hid (HU1.out.on hb7)
  replace HT2 := hid (HT2.out.on hb7)
  replace HU2 := hid (HU2.out.on hb7)
  replace B := hid (B.out.trans (hb7.mono B.out.size))
  have XQ := hid hx8
  have hs9 : (((w.alloc (.cells #[.bool s1a, .slice p1a n1a c1a, .bool s1b, .slice p1b n1b c1b] 64)).alloc (.cells #[.bool s2a, .slice p2a n2a c2a, .bool s2b, .slice p2b n2b c2b] 64)).alloc (.cells #[.bool false, .slice none 0 0, .bool false, .slice none 0 0] 64)).heap.size = w.heap.size + 1 + 1 + 1 := by simp [hs6]
  clear hb7 hx8
  clear hs9 h h' ht1 hu1 ht2 hu2 hd1 hd2 hk hk1
  go_enter Try.func56, Try.ntmps56
  obtain ⟨c10a, c10b, c10c, c10d⟩ := X1.out.cells
  obtain ⟨c11a, c11b, c11c, c11d⟩ := X2.out.cells
  obtain ⟨c12a, c12b, c12c, c12d⟩ := XQ.out.cells
  go_wp2_with fail
  generalize hW : ((w.alloc (.cells #[.bool s1a, .slice p1a n1a c1a, .bool s1b, .slice p1b n1b c1b] 64)).alloc (.cells #[.bool s2a, .slice p2a n2a c2a, .bool s2b, .slice p2b n2b c2b] 64)).alloc (.cells #[.bool false, .slice none 0 0, .bool false, .slice none 0 0] 64) = W13 at *
  clear hW
  refine (parts_rtl (Rtl.mk2 HT1.out HU1.out HD1.out) HK1.out).mono ?_
  rintro e w14 ⟨v, u, rfl, hv, hu, hb⟩
  obtain ⟨s3, p3, n3, c3, rfl⟩ := hv.opened
  obtain ⟨s4, p4, n4, c4, rfl⟩ := hu.opened
  replace X1 := hid (X1.out.below hb X1.out.lt)
  replace X2 := hid (X2.out.below hb X2.out.lt)
  replace XQ := hid (XQ.out.below hb XQ.out.lt)
  replace HT1 := hid (HT1.out.on hb)
  replace HU1 := hid (HU1.out.on hb)
  replace HT2 := hid (HT2.out.on hb)
  replace HU2 := hid (HU2.out.on hb)
  replace B := hid (B.out.trans (hb.mono B.out.size))
  clear c10a c10b c10c c10d c11a c11b c11c c11d c12a c12b c12c c12d
  have HA := hid hv
  have HB := hid hu
  clear hb hv hu
  have hb15 := (Below.refl _ _).alloc (Nat.le_refl w14.heap.size) (.cells #[.bool s3, .slice p3 n3 c3] 51)
  have hx16 := Box.new w14 s3 p3 n3 c3
  have L0 := hid XQ.out.lt
  replace X1 := hid (X1.out.below hb15 X1.out.lt)
  replace X2 := hid (X2.out.below hb15 X2.out.lt)
  replace XQ := hid (XQ.out.below hb15 XQ.out.lt)
  replace HT1 := hid (HT1.out.on hb15)
  replace HU1 := hid (HU1.out.on hb15)
  replace HT2 := hid (HT2.out.on hb15)
  replace HU2 := hid (HU2.out.on hb15)
  replace HA := hid (HA.out.on hb15)
  replace HB := hid (HB.out.on hb15)
  replace B := hid (B.out.trans (hb15.mono B.out.size))
  have XA := hid hx16
  have hs17 : (w14.alloc (.cells #[.bool s3, .slice p3 n3 c3] 51)).heap.size = w14.heap.size + 1 := by simp
  clear hb15 hx16
  have hb18 := (Below.refl _ _).alloc (Nat.le_refl (w14.alloc (.cells #[.bool s3, .slice p3 n3 c3] 51)).heap.size) (.cells #[.bool s4, .slice p4 n4 c4] 51)
  have hx19 := Box.new (w14.alloc (.cells #[.bool s3, .slice p3 n3 c3] 51)) s4 p4 n4 c4
  rw [hs17] at hx19
  replace X1 := hid (X1.out.below hb18 X1.out.lt)
  replace X2 := hid (X2.out.below hb18 X2.out.lt)
  replace XQ := hid (XQ.out.below hb18 XQ.out.lt)
  replace XA := hid (XA.out.below hb18 XA.out.lt)
  replace HT1 := hid (HT1.out.on hb18)
  replace HU1 := hid (HU1.out.on hb18)
  replace HT2 := hid (HT2.out.on hb18)
  replace HU2 := hid (HU2.out.on hb18)
  replace HA := hid (HA.out.on hb18)
  replace HB := hid (HB.out.on hb18)
  replace B := hid (B.out.trans (hb18.mono B.out.size))
  have XB := hid hx19
  have hs20 : ((w14.alloc (.cells #[.bool s3, .slice p3 n3 c3] 51)).alloc (.cells #[.bool s4, .slice p4 n4 c4] 51)).heap.size = w14.heap.size + 1 + 1 := by simp [hs17]
  clear hb18 hx19
  obtain ⟨c21a, c21b, c21c, c21d⟩ := X1.out.cells
  obtain ⟨c22a, c22b, c22c, c22d⟩ := X2.out.cells
  obtain ⟨c23a, c23b, c23c, c23d⟩ := XQ.out.cells
  obtain ⟨c24a, c24b⟩ := XA.out.both
  obtain ⟨c25a, c25b⟩ := XB.out.both
  go_wp2_with fail
  generalize hW : (w14.alloc (.cells #[.bool s3, .slice p3 n3 c3] 51)).alloc (.cells #[.bool s4, .slice p4 n4 c4] 51) = W26 at *
  clear hW
  refine (parts_rtl (Rtl.mk2 HT2.out HU2.out HD2.out) HK1.out).mono ?_
  rintro e w27 ⟨v, u, rfl, hv, hu, hb⟩
  obtain ⟨s5, p5, n5, c5, rfl⟩ := hv.opened
  obtain ⟨s6, p6, n6, c6, rfl⟩ := hu.opened
  replace X1 := hid (X1.out.below hb X1.out.lt)
  replace X2 := hid (X2.out.below hb X2.out.lt)
  replace XQ := hid (XQ.out.below hb XQ.out.lt)
  replace XA := hid (XA.out.below hb XA.out.lt)
  replace XB := hid (XB.out.below hb XB.out.lt)
  replace HT1 := hid (HT1.out.on hb)
  replace HU1 := hid (HU1.out.on hb)
  replace HT2 := hid (HT2.out.on hb)
  replace HU2 := hid (HU2.out.on hb)
  replace HA := hid (HA.out.on hb)
  replace HB := hid (HB.out.on hb)
  replace B := hid (B.out.trans (hb.mono B.out.size))
  clear c21a c21b c21c c21d c22a c22b c22c c22d c23a c23b c23c c23d c24a c24b c25a c25b
  have HC := hid hv
  have HE := hid hu
  clear hb hv hu
  have hb28 := (Below.refl _ _).alloc (Nat.le_refl w27.heap.size) (.cells #[.bool s5, .slice p5 n5 c5] 51)
  have hx29 := Box.new w27 s5 p5 n5 c5
  have L1 := hid XB.out.lt
  replace X1 := hid (X1.out.below hb28 X1.out.lt)
  replace X2 := hid (X2.out.below hb28 X2.out.lt)
  replace XQ := hid (XQ.out.below hb28 XQ.out.lt)
  replace XA := hid (XA.out.below hb28 XA.out.lt)
  replace XB := hid (XB.out.below hb28 XB.out.lt)
  replace HT1 := hid (HT1.out.on hb28)
  replace HU1 := hid (HU1.out.on hb28)
  replace HT2 := hid (HT2.out.on hb28)
  replace HU2 := hid (HU2.out.on hb28)
  replace HA := hid (HA.out.on hb28)
  replace HB := hid (HB.out.on hb28)
  replace HC := hid (HC.out.on hb28)
  replace HE := hid (HE.out.on hb28)
  replace B := hid (B.out.trans (hb28.mono B.out.size))
  have XC := hid hx29
  have hs30 : (w27.alloc (.cells #[.bool s5, .slice p5 n5 c5] 51)).heap.size = w27.heap.size + 1 := by simp
  clear hb28 hx29
  have hb31 := (Below.refl _ _).alloc (Nat.le_refl (w27.alloc (.cells #[.bool s5, .slice p5 n5 c5] 51)).heap.size) (.cells #[.bool s6, .slice p6 n6 c6] 51)
  have hx32 := Box.new (w27.alloc (.cells #[.bool s5, .slice p5 n5 c5] 51)) s6 p6 n6 c6
  rw [hs30] at hx32
  replace X1 := hid (X1.out.below hb31 X1.out.lt)
  replace X2 := hid (X2.out.below hb31 X2.out.lt)
  replace XQ := hid (XQ.out.below hb31 XQ.out.lt)
  replace XA := hid (XA.out.below hb31 XA.out.lt)
  replace XB := hid (XB.out.below hb31 XB.out.lt)
  replace XC := hid (XC.out.below hb31 XC.out.lt)
  replace HT1 := hid (HT1.out.on hb31)
  replace HU1 := hid (HU1.out.on hb31)
  replace HT2 := hid (HT2.out.on hb31)
  replace HU2 := hid (HU2.out.on hb31)
  replace HA := hid (HA.out.on hb31)
  replace HB := hid (HB.out.on hb31)
  replace HC := hid (HC.out.on hb31)
  replace HE := hid (HE.out.on hb31)
  replace B := hid (B.out.trans (hb31.mono B.out.size))
  have XD := hid hx32
  have hs33 : ((w27.alloc (.cells #[.bool s5, .slice p5 n5 c5] 51)).alloc (.cells #[.bool s6, .slice p6 n6 c6] 51)).heap.size = w27.heap.size + 1 + 1 := by simp [hs30]
  clear hb31 hx32
  obtain ⟨c34a, c34b, c34c, c34d⟩ := X1.out.cells
  obtain ⟨c35a, c35b, c35c, c35d⟩ := X2.out.cells
  obtain ⟨c36a, c36b, c36c, c36d⟩ := XQ.out.cells
  obtain ⟨c37a, c37b⟩ := XA.out.both
  obtain ⟨c38a, c38b⟩ := XB.out.both
  obtain ⟨c39a, c39b⟩ := XC.out.both
  obtain ⟨c40a, c40b⟩ := XD.out.both
  go_wp2_with fail
  generalize hW : (w27.alloc (.cells #[.bool s5, .slice p5 n5 c5] 51)).alloc (.cells #[.bool s6, .slice p6 n6 c6] 51) = W41 at *
  clear hW
  obtain ⟨c42a, c42b⟩ := XA.out.both
  obtain ⟨c43a, c43b⟩ := XB.out.both
  obtain ⟨c44a, c44b⟩ := XC.out.both
  obtain ⟨c45a, c45b⟩ := XD.out.both
  replace X1 := hid X1.out.dr
  replace X2 := hid X2.out.dr
  replace XQ := hid XQ.out.dr
  replace XA := hid XA.out.dr
  replace XB := hid XB.out.dr
  replace XC := hid XC.out.dr
  replace XD := hid XD.out.dr
  replace HT1 := hid HT1.out.drew
  replace HU1 := hid HU1.out.drew
  replace HT2 := hid HT2.out.drew
  replace HU2 := hid HU2.out.drew
  replace HA := hid HA.out.drew
  replace HB := hid HB.out.drew
  replace HC := hid HC.out.drew
  replace HE := hid HE.out.drew
  replace B := hid (Below.drew B.out)
  obtain ⟨c46a, c46b⟩ := XA.out.both
  obtain ⟨c47a, c47b⟩ := XB.out.both
  obtain ⟨c48a, c48b⟩ := XC.out.both
  obtain ⟨c49a, c49b⟩ := XD.out.both
  go_region_held3 (fun w' => w'.cell? ⟨w14.heap.size, 0, none⟩ = some (.bool s3) ∧ w'.cell? ⟨w14.heap.size, 1, none⟩ = some (.slice p3 n3 c3) ∧ w'.cell? ⟨w14.heap.size + 1, 0, none⟩ = some (.bool s4) ∧ w'.cell? ⟨w14.heap.size + 1, 1, none⟩ = some (.slice p4 n4 c4) ∧ w'.cell? ⟨w27.heap.size, 0, none⟩ = some (.bool s5) ∧ w'.cell? ⟨w27.heap.size, 1, none⟩ = some (.slice p5 n5 c5) ∧ w'.cell? ⟨w27.heap.size + 1, 0, none⟩ = some (.bool s6) ∧ w'.cell? ⟨w27.heap.size + 1, 1, none⟩ = some (.slice p6 n6 c6)) (go_keep) (first
      | (have hm := mk50_1; clear hm; go_at_call 72; refine (quot_zero P1.out P2.out (by rw [HR.out]; rfl) (by have := HK.out; omega)).mono ?_; rintro e w61 ⟨rfl, hb⟩; replace X1 := hid (X1.out.below hb X1.out.lt); replace X2 := hid (X2.out.below hb X2.out.lt); replace XQ := hid (XQ.out.below hb XQ.out.lt); replace XA := hid (XA.out.below hb XA.out.lt); replace XB := hid (XB.out.below hb XB.out.lt); replace XC := hid (XC.out.below hb XC.out.lt); replace XD := hid (XD.out.below hb XD.out.lt); replace HT1 := hid (HT1.out.on hb); replace HU1 := hid (HU1.out.on hb); replace HT2 := hid (HT2.out.on hb); replace HU2 := hid (HU2.out.on hb); replace HA := hid (HA.out.on hb); replace HB := hid (HB.out.on hb); replace HC := hid (HC.out.on hb); replace HE := hid (HE.out.on hb); replace P1 := hid (P1.out.on hb); replace P2 := hid (P2.out.on hb); replace B := hid (B.out.trans (hb.mono B.out.size)); clear c57a c57b c58a c58b c59a c59b c60a c60b; clear hb ; obtain ⟨c62a, c62b⟩ := XA.out.both; obtain ⟨c63a, c63b⟩ := XB.out.both; obtain ⟨c64a, c64b⟩ := XC.out.both; obtain ⟨c65a, c65b⟩ := XD.out.both; obtain ⟨⟨c66a, c66b⟩, ⟨c66c, c66d⟩, ⟨c66e, c66f⟩, c66g, c66h⟩ := XQ.out.stores; obtain ⟨r67a, r67b, r67c⟩ := XQ.out.last B.out (by have := L0.out; have := L1.out; omega) false false none none 0 0 0 0; replace X1 := hid ((((X1.out.other (g2 := w.heap.size + 1 + 1) (by have := L0.out; have := L1.out; omega) 0 (.bool false)).other (g2 := w.heap.size + 1 + 1) (by have := L0.out; have := L1.out; omega) 1 (.slice none 0 0)).other (g2 := w.heap.size + 1 + 1) (by have := L0.out; have := L1.out; omega) 2 (.bool false)).other (g2 := w.heap.size + 1 + 1) (by have := L0.out; have := L1.out; omega) 3 (.slice none 0 0)); replace X2 := hid ((((X2.out.other (g2 := w.heap.size + 1 + 1) (by have := L0.out; have := L1.out; omega) 0 (.bool false)).other (g2 := w.heap.size + 1 + 1) (by have := L0.out; have := L1.out; omega) 1 (.slice none 0 0)).other (g2 := w.heap.size + 1 + 1) (by have := L0.out; have := L1.out; omega) 2 (.bool false)).other (g2 := w.heap.size + 1 + 1) (by have := L0.out; have := L1.out; omega) 3 (.slice none 0 0)); replace XA := hid ((((XA.out.other (g2 := w.heap.size + 1 + 1) (by have := L0.out; have := L1.out; omega) 0 (.bool false)).other (g2 := w.heap.size + 1 + 1) (by have := L0.out; have := L1.out; omega) 1 (.slice none 0 0)).other (g2 := w.heap.size + 1 + 1) (by have := L0.out; have := L1.out; omega) 2 (.bool false)).other (g2 := w.heap.size + 1 + 1) (by have := L0.out; have := L1.out; omega) 3 (.slice none 0 0)); replace XB := hid ((((XB.out.other (g2 := w.heap.size + 1 + 1) (by have := L0.out; have := L1.out; omega) 0 (.bool false)).other (g2 := w.heap.size + 1 + 1) (by have := L0.out; have := L1.out; omega) 1 (.slice none 0 0)).other (g2 := w.heap.size + 1 + 1) (by have := L0.out; have := L1.out; omega) 2 (.bool false)).other (g2 := w.heap.size + 1 + 1) (by have := L0.out; have := L1.out; omega) 3 (.slice none 0 0)); replace XC := hid ((((XC.out.other (g2 := w.heap.size + 1 + 1) (by have := L0.out; have := L1.out; omega) 0 (.bool false)).other (g2 := w.heap.size + 1 + 1) (by have := L0.out; have := L1.out; omega) 1 (.slice none 0 0)).other (g2 := w.heap.size + 1 + 1) (by have := L0.out; have := L1.out; omega) 2 (.bool false)).other (g2 := w.heap.size + 1 + 1) (by have := L0.out; have := L1.out; omega) 3 (.slice none 0 0)); replace XD := hid ((((XD.out.other (g2 := w.heap.size + 1 + 1) (by have := L0.out; have := L1.out; omega) 0 (.bool false)).other (g2 := w.heap.size + 1 + 1) (by have := L0.out; have := L1.out; omega) 1 (.slice none 0 0)).other (g2 := w.heap.size + 1 + 1) (by have := L0.out; have := L1.out; omega) 2 (.bool false)).other (g2 := w.heap.size + 1 + 1) (by have := L0.out; have := L1.out; omega) 3 (.slice none 0 0)); replace HT1 := hid (r67c HT1.out); replace HU1 := hid (r67c HU1.out); replace HT2 := hid (r67c HT2.out); replace HU2 := hid (r67c HU2.out); replace HA := hid (r67c HA.out); replace HB := hid (r67c HB.out); replace HC := hid (r67c HC.out); replace HE := hid (r67c HE.out); replace P1 := hid (r67c P1.out); replace P2 := hid (r67c P2.out); replace XQ := hid r67a; replace B := hid r67b; clear r67a r67b r67c; obtain ⟨c68a, c68b⟩ := XA.out.both; obtain ⟨c69a, c69b⟩ := XB.out.both; obtain ⟨c70a, c70b⟩ := XC.out.both; obtain ⟨c71a, c71b⟩ := XD.out.both; have mk50_2 := hid True.intro)
      | (have hm := mk50_0; clear hm; go_at_call 47; refine (mul_whl HB.out HC.out (by have := HK.out; omega) (by have := HK.out; omega)).mono ?_; rintro e w56 ⟨v, rfl, hv, hb⟩; obtain ⟨s12, p12, n12, c12, rfl⟩ := hv.opened; replace X1 := hid (X1.out.below hb X1.out.lt); replace X2 := hid (X2.out.below hb X2.out.lt); replace XQ := hid (XQ.out.below hb XQ.out.lt); replace XA := hid (XA.out.below hb XA.out.lt); replace XB := hid (XB.out.below hb XB.out.lt); replace XC := hid (XC.out.below hb XC.out.lt); replace XD := hid (XD.out.below hb XD.out.lt); replace HT1 := hid (HT1.out.on hb); replace HU1 := hid (HU1.out.on hb); replace HT2 := hid (HT2.out.on hb); replace HU2 := hid (HU2.out.on hb); replace HA := hid (HA.out.on hb); replace HB := hid (HB.out.on hb); replace HC := hid (HC.out.on hb); replace HE := hid (HE.out.on hb); replace P1 := hid (P1.out.on hb); replace B := hid (B.out.trans (hb.mono B.out.size)); clear c52a c52b c53a c53b c54a c54b c55a c55b; have P2 := hid hv; clear hb hv; obtain ⟨c57a, c57b⟩ := XA.out.both; obtain ⟨c58a, c58b⟩ := XB.out.both; obtain ⟨c59a, c59b⟩ := XC.out.both; obtain ⟨c60a, c60b⟩ := XD.out.both; have mk50_1 := hid True.intro)
      | (go_at_call 47; refine (mul_whl HA.out HE.out (by have := HK.out; omega) (by have := HK.out; omega)).mono ?_; rintro e w51 ⟨v, rfl, hv, hb⟩; obtain ⟨s11, p11, n11, c11, rfl⟩ := hv.opened; replace X1 := hid (X1.out.below hb X1.out.lt); replace X2 := hid (X2.out.below hb X2.out.lt); replace XQ := hid (XQ.out.below hb XQ.out.lt); replace XA := hid (XA.out.below hb XA.out.lt); replace XB := hid (XB.out.below hb XB.out.lt); replace XC := hid (XC.out.below hb XC.out.lt); replace XD := hid (XD.out.below hb XD.out.lt); replace HT1 := hid (HT1.out.on hb); replace HU1 := hid (HU1.out.on hb); replace HT2 := hid (HT2.out.on hb); replace HU2 := hid (HU2.out.on hb); replace HA := hid (HA.out.on hb); replace HB := hid (HB.out.on hb); replace HC := hid (HC.out.on hb); replace HE := hid (HE.out.on hb); replace B := hid (B.out.trans (hb.mono B.out.size)); clear c34a c34b c34c c34d c35a c35b c35c c35d c36a c36b c36c c36d c37a c37b c38a c38b c39a c39b c40a c40b c42a c42b c43a c43b c44a c44b c45a c45b c46a c46b c47a c47b c48a c48b c49a c49b; have P1 := hid hv; clear hb hv; obtain ⟨c52a, c52b⟩ := XA.out.both; obtain ⟨c53a, c53b⟩ := XB.out.both; obtain ⟨c54a, c54b⟩ := XC.out.both; obtain ⟨c55a, c55b⟩ := XD.out.both; have mk50_0 := hid True.intro))
  go_wp2_with fail
  refine bodyPost_ret (res_num_tmp rfl rfl rfl XQ.out) rfl ?_
  exact ⟨rfl, B.out⟩

set_option maxHeartbeats 4000000 in
theorem divq_some {w : World} {v u : Value} {q r : Rat} {k : Nat} (h : Rtl w v q k) (h' : Rtl w u r k) (hr : r ≠ 0) (hk1 : 1 ≤ k) (hk : k ≤ 68719476736) :
    Calls Try.prog 56 #[v, u] w fun e w' => ∃ v, e = .returned (.tuple #[v, .nilIface]) ∧ Rtl w' v (q / r) (k + k + 1) ∧ Below w.heap.size w w' := by
  have HR := hid hr
  obtain ⟨s1a, p1a, n1a, c1a, s1b, p1b, n1b, c1b, rfl⟩ := h.opened
  obtain ⟨ht1, d1, hu1, hd1⟩ := h.two
  have HD1 := hid hd1
  obtain ⟨s2a, p2a, n2a, c2a, s2b, p2b, n2b, c2b, rfl⟩ := h'.opened
  obtain ⟨ht2, d2, hu2, hd2⟩ := h'.two
  have HD2 := hid hd2
  have HK := hid hk
  have HK1 := hid hk1
  have B := hid (Below.refl w.heap.size w)
  have HT1 := hid ht1
  have HU1 := hid hu1
  have HT2 := hid ht2
  have HU2 := hid hu2
  have hb1 := (Below.refl _ _).alloc (Nat.le_refl w.heap.size) (.cells #[.bool s1a, .slice p1a n1a c1a, .bool s1b, .slice p1b n1b c1b] 64)
  have hx2 := Nbx.new w s1a s1b (.slice p1a n1a c1a) (.slice p1b n1b c1b)
  replace HT1 := hid (HT1.out.on hb1)
  replace HU1 := hid (HU1.out.on hb1)
  replace HT2 := hid (HT2.out.on hb1)
  replace HU2 := hid (HU2.out.on hb1)
  replace B := hid (B.out.trans (hb1.mono B.out.size))
  have X1 := hid hx2
  have hs3 : (w.alloc (.cells #[.bool s1a, .slice p1a n1a c1a, .bool s1b, .slice p1b n1b c1b] 64)).heap.size = w.heap.size + 1 := by simp
  clear hb1 hx2
  have hb4 := (Below.refl _ _).alloc (Nat.le_refl (w.alloc (.cells #[.bool s1a, .slice p1a n1a c1a, .bool s1b, .slice p1b n1b c1b] 64)).heap.size) (.cells #[.bool s2a, .slice p2a n2a c2a, .bool s2b, .slice p2b n2b c2b] 64)
  have hx5 := Nbx.new (w.alloc (.cells #[.bool s1a, .slice p1a n1a c1a, .bool s1b, .slice p1b n1b c1b] 64)) s2a s2b (.slice p2a n2a c2a) (.slice p2b n2b c2b)
  rw [hs3] at hx5
  replace X1 := hid (X1.out.below hb4 X1.out.lt)
  replace HT1 := hid (HT1.out.on hb4)
  replace HU1 := hid (HU1.out.on hb4)
  replace HT2 := hid (HT2.out.on hb4)
  replace HU2 := hid (HU2.out.on hb4)
  replace B := hid (B.out.trans (hb4.mono B.out.size))
  have X2 := hid hx5
  have hs6 : ((w.alloc (.cells #[.bool s1a, .slice p1a n1a c1a, .bool s1b, .slice p1b n1b c1b] 64)).alloc (.cells #[.bool s2a, .slice p2a n2a c2a, .bool s2b, .slice p2b n2b c2b] 64)).heap.size = w.heap.size + 1 + 1 := by simp [hs3]
  clear hb4 hx5
  have hb7 := (Below.refl _ _).alloc (Nat.le_refl ((w.alloc (.cells #[.bool s1a, .slice p1a n1a c1a, .bool s1b, .slice p1b n1b c1b] 64)).alloc (.cells #[.bool s2a, .slice p2a n2a c2a, .bool s2b, .slice p2b n2b c2b] 64)).heap.size) (.cells #[.bool false, .slice none 0 0, .bool false, .slice none 0 0] 64)
  have hx8 := Nbx.new ((w.alloc (.cells #[.bool s1a, .slice p1a n1a c1a, .bool s1b, .slice p1b n1b c1b] 64)).alloc (.cells #[.bool s2a, .slice p2a n2a c2a, .bool s2b, .slice p2b n2b c2b] 64)) false false (.slice none 0 0) (.slice none 0 0)
  rw [hs6] at hx8
  replace X1 := hid (X1.out.below hb7 X1.out.lt)
  replace X2 := hid (X2.out.below hb7 X2.out.lt)
  replace HT1 := hid (HT1.out.on hb7)
  replace HU1 := hid (HU1.out.on hb7)
  replace HT2 := hid (HT2.out.on hb7)
  replace HU2 := hid (HU2.out.on hb7)
  replace B := hid (B.out.trans (hb7.mono B.out.size))
  have XQ := hid hx8
  have hs9 : (((w.alloc (.cells #[.bool s1a, .slice p1a n1a c1a, .bool s1b, .slice p1b n1b c1b] 64)).alloc (.cells #[.bool s2a, .slice p2a n2a c2a, .bool s2b, .slice p2b n2b c2b] 64)).alloc (.cells #[.bool false, .slice none 0 0, .bool false, .slice none 0 0] 64)).heap.size = w.heap.size + 1 + 1 + 1 := by simp [hs6]
  clear hb7 hx8
  clear hs9 h h' ht1 hu1 ht2 hu2 hd1 hd2 hk hk1
  go_enter Try.func56, Try.ntmps56
  obtain ⟨c10a, c10b, c10c, c10d⟩ := X1.out.cells
  obtain ⟨c11a, c11b, c11c, c11d⟩ := X2.out.cells
  obtain ⟨c12a, c12b, c12c, c12d⟩ := XQ.out.cells
  go_wp2_with fail
  generalize hW : ((w.alloc (.cells #[.bool s1a, .slice p1a n1a c1a, .bool s1b, .slice p1b n1b c1b] 64)).alloc (.cells #[.bool s2a, .slice p2a n2a c2a, .bool s2b, .slice p2b n2b c2b] 64)).alloc (.cells #[.bool false, .slice none 0 0, .bool false, .slice none 0 0] 64) = W13 at *
  clear hW
  refine (parts_rtl (Rtl.mk2 HT1.out HU1.out HD1.out) HK1.out).mono ?_
  rintro e w14 ⟨v, u, rfl, hv, hu, hb⟩
  obtain ⟨s3, p3, n3, c3, rfl⟩ := hv.opened
  obtain ⟨s4, p4, n4, c4, rfl⟩ := hu.opened
  replace X1 := hid (X1.out.below hb X1.out.lt)
  replace X2 := hid (X2.out.below hb X2.out.lt)
  replace XQ := hid (XQ.out.below hb XQ.out.lt)
  replace HT1 := hid (HT1.out.on hb)
  replace HU1 := hid (HU1.out.on hb)
  replace HT2 := hid (HT2.out.on hb)
  replace HU2 := hid (HU2.out.on hb)
  replace B := hid (B.out.trans (hb.mono B.out.size))
  clear c10a c10b c10c c10d c11a c11b c11c c11d c12a c12b c12c c12d
  have HA := hid hv
  have HB := hid hu
  clear hb hv hu
  have hb15 := (Below.refl _ _).alloc (Nat.le_refl w14.heap.size) (.cells #[.bool s3, .slice p3 n3 c3] 51)
  have hx16 := Box.new w14 s3 p3 n3 c3
  have L0 := hid XQ.out.lt
  replace X1 := hid (X1.out.below hb15 X1.out.lt)
  replace X2 := hid (X2.out.below hb15 X2.out.lt)
  replace XQ := hid (XQ.out.below hb15 XQ.out.lt)
  replace HT1 := hid (HT1.out.on hb15)
  replace HU1 := hid (HU1.out.on hb15)
  replace HT2 := hid (HT2.out.on hb15)
  replace HU2 := hid (HU2.out.on hb15)
  replace HA := hid (HA.out.on hb15)
  replace HB := hid (HB.out.on hb15)
  replace B := hid (B.out.trans (hb15.mono B.out.size))
  have XA := hid hx16
  have hs17 : (w14.alloc (.cells #[.bool s3, .slice p3 n3 c3] 51)).heap.size = w14.heap.size + 1 := by simp
  clear hb15 hx16
  have hb18 := (Below.refl _ _).alloc (Nat.le_refl (w14.alloc (.cells #[.bool s3, .slice p3 n3 c3] 51)).heap.size) (.cells #[.bool s4, .slice p4 n4 c4] 51)
  have hx19 := Box.new (w14.alloc (.cells #[.bool s3, .slice p3 n3 c3] 51)) s4 p4 n4 c4
  rw [hs17] at hx19
  replace X1 := hid (X1.out.below hb18 X1.out.lt)
  replace X2 := hid (X2.out.below hb18 X2.out.lt)
  replace XQ := hid (XQ.out.below hb18 XQ.out.lt)
  replace XA := hid (XA.out.below hb18 XA.out.lt)
  replace HT1 := hid (HT1.out.on hb18)
  replace HU1 := hid (HU1.out.on hb18)
  replace HT2 := hid (HT2.out.on hb18)
  replace HU2 := hid (HU2.out.on hb18)
  replace HA := hid (HA.out.on hb18)
  replace HB := hid (HB.out.on hb18)
  replace B := hid (B.out.trans (hb18.mono B.out.size))
  have XB := hid hx19
  have hs20 : ((w14.alloc (.cells #[.bool s3, .slice p3 n3 c3] 51)).alloc (.cells #[.bool s4, .slice p4 n4 c4] 51)).heap.size = w14.heap.size + 1 + 1 := by simp [hs17]
  clear hb18 hx19
  obtain ⟨c21a, c21b, c21c, c21d⟩ := X1.out.cells
  obtain ⟨c22a, c22b, c22c, c22d⟩ := X2.out.cells
  obtain ⟨c23a, c23b, c23c, c23d⟩ := XQ.out.cells
  obtain ⟨c24a, c24b⟩ := XA.out.both
  obtain ⟨c25a, c25b⟩ := XB.out.both
  go_wp2_with fail
  generalize hW : (w14.alloc (.cells #[.bool s3, .slice p3 n3 c3] 51)).alloc (.cells #[.bool s4, .slice p4 n4 c4] 51) = W26 at *
  clear hW
  refine (parts_rtl (Rtl.mk2 HT2.out HU2.out HD2.out) HK1.out).mono ?_
  rintro e w27 ⟨v, u, rfl, hv, hu, hb⟩
  obtain ⟨s5, p5, n5, c5, rfl⟩ := hv.opened
  obtain ⟨s6, p6, n6, c6, rfl⟩ := hu.opened
  replace X1 := hid (X1.out.below hb X1.out.lt)
  replace X2 := hid (X2.out.below hb X2.out.lt)
  replace XQ := hid (XQ.out.below hb XQ.out.lt)
  replace XA := hid (XA.out.below hb XA.out.lt)
  replace XB := hid (XB.out.below hb XB.out.lt)
  replace HT1 := hid (HT1.out.on hb)
  replace HU1 := hid (HU1.out.on hb)
  replace HT2 := hid (HT2.out.on hb)
  replace HU2 := hid (HU2.out.on hb)
  replace HA := hid (HA.out.on hb)
  replace HB := hid (HB.out.on hb)
  replace B := hid (B.out.trans (hb.mono B.out.size))
  clear c21a c21b c21c c21d c22a c22b c22c c22d c23a c23b c23c c23d c24a c24b c25a c25b
  have HC := hid hv
  have HE := hid hu
  clear hb hv hu
  have hb28 := (Below.refl _ _).alloc (Nat.le_refl w27.heap.size) (.cells #[.bool s5, .slice p5 n5 c5] 51)
  have hx29 := Box.new w27 s5 p5 n5 c5
  have L1 := hid XB.out.lt
  replace X1 := hid (X1.out.below hb28 X1.out.lt)
  replace X2 := hid (X2.out.below hb28 X2.out.lt)
  replace XQ := hid (XQ.out.below hb28 XQ.out.lt)
  replace XA := hid (XA.out.below hb28 XA.out.lt)
  replace XB := hid (XB.out.below hb28 XB.out.lt)
  replace HT1 := hid (HT1.out.on hb28)
  replace HU1 := hid (HU1.out.on hb28)
  replace HT2 := hid (HT2.out.on hb28)
  replace HU2 := hid (HU2.out.on hb28)
  replace HA := hid (HA.out.on hb28)
  replace HB := hid (HB.out.on hb28)
  replace HC := hid (HC.out.on hb28)
  replace HE := hid (HE.out.on hb28)
  replace B := hid (B.out.trans (hb28.mono B.out.size))
  have XC := hid hx29
  have hs30 : (w27.alloc (.cells #[.bool s5, .slice p5 n5 c5] 51)).heap.size = w27.heap.size + 1 := by simp
  clear hb28 hx29
  have hb31 := (Below.refl _ _).alloc (Nat.le_refl (w27.alloc (.cells #[.bool s5, .slice p5 n5 c5] 51)).heap.size) (.cells #[.bool s6, .slice p6 n6 c6] 51)
  have hx32 := Box.new (w27.alloc (.cells #[.bool s5, .slice p5 n5 c5] 51)) s6 p6 n6 c6
  rw [hs30] at hx32
  replace X1 := hid (X1.out.below hb31 X1.out.lt)
  replace X2 := hid (X2.out.below hb31 X2.out.lt)
  replace XQ := hid (XQ.out.below hb31 XQ.out.lt)
  replace XA := hid (XA.out.below hb31 XA.out.lt)
  replace XB := hid (XB.out.below hb31 XB.out.lt)
  replace XC := hid (XC.out.below hb31 XC.out.lt)
  replace HT1 := hid (HT1.out.on hb31)
  replace HU1 := hid (HU1.out.on hb31)
  replace HT2 := hid (HT2.out.on hb31)
  replace HU2 := hid (HU2.out.on hb31)
  replace HA := hid (HA.out.on hb31)
  replace HB := hid (HB.out.on hb31)
  replace HC := hid (HC.out.on hb31)
  replace HE := hid (HE.out.on hb31)
  replace B := hid (B.out.trans (hb31.mono B.out.size))
  have XD := hid hx32
  have hs33 : ((w27.alloc (.cells #[.bool s5, .slice p5 n5 c5] 51)).alloc (.cells #[.bool s6, .slice p6 n6 c6] 51)).heap.size = w27.heap.size + 1 + 1 := by simp [hs30]
  clear hb31 hx32
  obtain ⟨c34a, c34b, c34c, c34d⟩ := X1.out.cells
  obtain ⟨c35a, c35b, c35c, c35d⟩ := X2.out.cells
  obtain ⟨c36a, c36b, c36c, c36d⟩ := XQ.out.cells
  obtain ⟨c37a, c37b⟩ := XA.out.both
  obtain ⟨c38a, c38b⟩ := XB.out.both
  obtain ⟨c39a, c39b⟩ := XC.out.both
  obtain ⟨c40a, c40b⟩ := XD.out.both
  go_wp2_with fail
  generalize hW : (w27.alloc (.cells #[.bool s5, .slice p5 n5 c5] 51)).alloc (.cells #[.bool s6, .slice p6 n6 c6] 51) = W41 at *
  clear hW
  obtain ⟨c42a, c42b⟩ := XA.out.both
  obtain ⟨c43a, c43b⟩ := XB.out.both
  obtain ⟨c44a, c44b⟩ := XC.out.both
  obtain ⟨c45a, c45b⟩ := XD.out.both
  replace X1 := hid X1.out.dr
  replace X2 := hid X2.out.dr
  replace XQ := hid XQ.out.dr
  replace XA := hid XA.out.dr
  replace XB := hid XB.out.dr
  replace XC := hid XC.out.dr
  replace XD := hid XD.out.dr
  replace HT1 := hid HT1.out.drew
  replace HU1 := hid HU1.out.drew
  replace HT2 := hid HT2.out.drew
  replace HU2 := hid HU2.out.drew
  replace HA := hid HA.out.drew
  replace HB := hid HB.out.drew
  replace HC := hid HC.out.drew
  replace HE := hid HE.out.drew
  replace B := hid (Below.drew B.out)
  obtain ⟨c46a, c46b⟩ := XA.out.both
  obtain ⟨c47a, c47b⟩ := XB.out.both
  obtain ⟨c48a, c48b⟩ := XC.out.both
  obtain ⟨c49a, c49b⟩ := XD.out.both
  go_region_held3 (fun w' => w'.cell? ⟨w14.heap.size, 0, none⟩ = some (.bool s3) ∧ w'.cell? ⟨w14.heap.size, 1, none⟩ = some (.slice p3 n3 c3) ∧ w'.cell? ⟨w14.heap.size + 1, 0, none⟩ = some (.bool s4) ∧ w'.cell? ⟨w14.heap.size + 1, 1, none⟩ = some (.slice p4 n4 c4) ∧ w'.cell? ⟨w27.heap.size, 0, none⟩ = some (.bool s5) ∧ w'.cell? ⟨w27.heap.size, 1, none⟩ = some (.slice p5 n5 c5) ∧ w'.cell? ⟨w27.heap.size + 1, 0, none⟩ = some (.bool s6) ∧ w'.cell? ⟨w27.heap.size + 1, 1, none⟩ = some (.slice p6 n6 c6)) (go_keep) (first
      | (have hm := mk50_1; clear hm; go_at_call 72; refine (quot_some P1.out P2.out (Int.mul_ne_zero (den_ne _) (by rw [Ne, Rat.num_eq_zero]; exact HR.out)) (by have := HK.out; omega)).mono ?_; rintro e w61 ⟨v, rfl, hv, hb⟩; obtain ⟨s9a, p9a, n9a, c9a, s9b, p9b, n9b, c9b, rfl⟩ := hv.opened; obtain ⟨ht9, d9, hu9, hd9⟩ := hv.two; have HD9 := hid hd9; replace X1 := hid (X1.out.below hb X1.out.lt); replace X2 := hid (X2.out.below hb X2.out.lt); replace XQ := hid (XQ.out.below hb XQ.out.lt); replace XA := hid (XA.out.below hb XA.out.lt); replace XB := hid (XB.out.below hb XB.out.lt); replace XC := hid (XC.out.below hb XC.out.lt); replace XD := hid (XD.out.below hb XD.out.lt); replace HT1 := hid (HT1.out.on hb); replace HU1 := hid (HU1.out.on hb); replace HT2 := hid (HT2.out.on hb); replace HU2 := hid (HU2.out.on hb); replace HA := hid (HA.out.on hb); replace HB := hid (HB.out.on hb); replace HC := hid (HC.out.on hb); replace HE := hid (HE.out.on hb); replace P1 := hid (P1.out.on hb); replace P2 := hid (P2.out.on hb); replace B := hid (B.out.trans (hb.mono B.out.size)); clear c57a c57b c58a c58b c59a c59b c60a c60b; have HT9 := hid ht9; have HU9 := hid hu9; clear hb hv ht9 hu9 hd9; obtain ⟨c62a, c62b⟩ := XA.out.both; obtain ⟨c63a, c63b⟩ := XB.out.both; obtain ⟨c64a, c64b⟩ := XC.out.both; obtain ⟨c65a, c65b⟩ := XD.out.both; obtain ⟨⟨c66a, c66b⟩, ⟨c66c, c66d⟩, ⟨c66e, c66f⟩, c66g, c66h⟩ := XQ.out.stores; obtain ⟨r67a, r67b, r67c⟩ := XQ.out.last B.out (by have := L0.out; have := L1.out; omega) s9a s9b p9a p9b n9a n9b c9a c9b; replace X1 := hid ((((X1.out.other (g2 := w.heap.size + 1 + 1) (by have := L0.out; have := L1.out; omega) 0 (.bool s9a)).other (g2 := w.heap.size + 1 + 1) (by have := L0.out; have := L1.out; omega) 1 (.slice p9a n9a c9a)).other (g2 := w.heap.size + 1 + 1) (by have := L0.out; have := L1.out; omega) 2 (.bool s9b)).other (g2 := w.heap.size + 1 + 1) (by have := L0.out; have := L1.out; omega) 3 (.slice p9b n9b c9b)); replace X2 := hid ((((X2.out.other (g2 := w.heap.size + 1 + 1) (by have := L0.out; have := L1.out; omega) 0 (.bool s9a)).other (g2 := w.heap.size + 1 + 1) (by have := L0.out; have := L1.out; omega) 1 (.slice p9a n9a c9a)).other (g2 := w.heap.size + 1 + 1) (by have := L0.out; have := L1.out; omega) 2 (.bool s9b)).other (g2 := w.heap.size + 1 + 1) (by have := L0.out; have := L1.out; omega) 3 (.slice p9b n9b c9b)); replace XA := hid ((((XA.out.other (g2 := w.heap.size + 1 + 1) (by have := L0.out; have := L1.out; omega) 0 (.bool s9a)).other (g2 := w.heap.size + 1 + 1) (by have := L0.out; have := L1.out; omega) 1 (.slice p9a n9a c9a)).other (g2 := w.heap.size + 1 + 1) (by have := L0.out; have := L1.out; omega) 2 (.bool s9b)).other (g2 := w.heap.size + 1 + 1) (by have := L0.out; have := L1.out; omega) 3 (.slice p9b n9b c9b)); replace XB := hid ((((XB.out.other (g2 := w.heap.size + 1 + 1) (by have := L0.out; have := L1.out; omega) 0 (.bool s9a)).other (g2 := w.heap.size + 1 + 1) (by have := L0.out; have := L1.out; omega) 1 (.slice p9a n9a c9a)).other (g2 := w.heap.size + 1 + 1) (by have := L0.out; have := L1.out; omega) 2 (.bool s9b)).other (g2 := w.heap.size + 1 + 1) (by have := L0.out; have := L1.out; omega) 3 (.slice p9b n9b c9b)); replace XC := hid ((((XC.out.other (g2 := w.heap.size + 1 + 1) (by have := L0.out; have := L1.out; omega) 0 (.bool s9a)).other (g2 := w.heap.size + 1 + 1) (by have := L0.out; have := L1.out; omega) 1 (.slice p9a n9a c9a)).other (g2 := w.heap.size + 1 + 1) (by have := L0.out; have := L1.out; omega) 2 (.bool s9b)).other (g2 := w.heap.size + 1 + 1) (by have := L0.out; have := L1.out; omega) 3 (.slice p9b n9b c9b)); replace XD := hid ((((XD.out.other (g2 := w.heap.size + 1 + 1) (by have := L0.out; have := L1.out; omega) 0 (.bool s9a)).other (g2 := w.heap.size + 1 + 1) (by have := L0.out; have := L1.out; omega) 1 (.slice p9a n9a c9a)).other (g2 := w.heap.size + 1 + 1) (by have := L0.out; have := L1.out; omega) 2 (.bool s9b)).other (g2 := w.heap.size + 1 + 1) (by have := L0.out; have := L1.out; omega) 3 (.slice p9b n9b c9b)); replace HT1 := hid (r67c HT1.out); replace HU1 := hid (r67c HU1.out); replace HT2 := hid (r67c HT2.out); replace HU2 := hid (r67c HU2.out); replace HA := hid (r67c HA.out); replace HB := hid (r67c HB.out); replace HC := hid (r67c HC.out); replace HE := hid (r67c HE.out); replace P1 := hid (r67c P1.out); replace P2 := hid (r67c P2.out); replace HT9 := hid (r67c HT9.out); replace HU9 := hid (r67c HU9.out); replace XQ := hid r67a; replace B := hid r67b; clear r67a r67b r67c; obtain ⟨c68a, c68b⟩ := XA.out.both; obtain ⟨c69a, c69b⟩ := XB.out.both; obtain ⟨c70a, c70b⟩ := XC.out.both; obtain ⟨c71a, c71b⟩ := XD.out.both; have mk50_2 := hid True.intro)
      | (have hm := mk50_0; clear hm; go_at_call 47; refine (mul_whl HB.out HC.out (by have := HK.out; omega) (by have := HK.out; omega)).mono ?_; rintro e w56 ⟨v, rfl, hv, hb⟩; obtain ⟨s12, p12, n12, c12, rfl⟩ := hv.opened; replace X1 := hid (X1.out.below hb X1.out.lt); replace X2 := hid (X2.out.below hb X2.out.lt); replace XQ := hid (XQ.out.below hb XQ.out.lt); replace XA := hid (XA.out.below hb XA.out.lt); replace XB := hid (XB.out.below hb XB.out.lt); replace XC := hid (XC.out.below hb XC.out.lt); replace XD := hid (XD.out.below hb XD.out.lt); replace HT1 := hid (HT1.out.on hb); replace HU1 := hid (HU1.out.on hb); replace HT2 := hid (HT2.out.on hb); replace HU2 := hid (HU2.out.on hb); replace HA := hid (HA.out.on hb); replace HB := hid (HB.out.on hb); replace HC := hid (HC.out.on hb); replace HE := hid (HE.out.on hb); replace P1 := hid (P1.out.on hb); replace B := hid (B.out.trans (hb.mono B.out.size)); clear c52a c52b c53a c53b c54a c54b c55a c55b; have P2 := hid hv; clear hb hv; obtain ⟨c57a, c57b⟩ := XA.out.both; obtain ⟨c58a, c58b⟩ := XB.out.both; obtain ⟨c59a, c59b⟩ := XC.out.both; obtain ⟨c60a, c60b⟩ := XD.out.both; have mk50_1 := hid True.intro)
      | (go_at_call 47; refine (mul_whl HA.out HE.out (by have := HK.out; omega) (by have := HK.out; omega)).mono ?_; rintro e w51 ⟨v, rfl, hv, hb⟩; obtain ⟨s11, p11, n11, c11, rfl⟩ := hv.opened; replace X1 := hid (X1.out.below hb X1.out.lt); replace X2 := hid (X2.out.below hb X2.out.lt); replace XQ := hid (XQ.out.below hb XQ.out.lt); replace XA := hid (XA.out.below hb XA.out.lt); replace XB := hid (XB.out.below hb XB.out.lt); replace XC := hid (XC.out.below hb XC.out.lt); replace XD := hid (XD.out.below hb XD.out.lt); replace HT1 := hid (HT1.out.on hb); replace HU1 := hid (HU1.out.on hb); replace HT2 := hid (HT2.out.on hb); replace HU2 := hid (HU2.out.on hb); replace HA := hid (HA.out.on hb); replace HB := hid (HB.out.on hb); replace HC := hid (HC.out.on hb); replace HE := hid (HE.out.on hb); replace B := hid (B.out.trans (hb.mono B.out.size)); clear c34a c34b c34c c34d c35a c35b c35c c35d c36a c36b c36c c36d c37a c37b c38a c38b c39a c39b c40a c40b c42a c42b c43a c43b c44a c44b c45a c45b c46a c46b c47a c47b c48a c48b c49a c49b; have P1 := hid hv; clear hb hv; obtain ⟨c52a, c52b⟩ := XA.out.both; obtain ⟨c53a, c53b⟩ := XB.out.both; obtain ⟨c54a, c54b⟩ := XC.out.both; obtain ⟨c55a, c55b⟩ := XD.out.both; have mk50_0 := hid True.intro))
  go_wp2_with fail
  refine bodyPost_ret (res_num_tmp rfl rfl rfl XQ.out) rfl ?_
  exact ⟨_, rfl, (by rw [div_parts]; exact (Rtl.mk2 HT9.out HU9.out HD9.out).mono (by omega)), B.out⟩

end Go.Proofs.Ytckkbjnipacodaa

/-
  PACKAGE rat: Less, Floor.
-/
namespace Go.Proofs.Ytckkbjnipacodaa
open Go.RowKit
open Num
set_option linter.unusedVariables false
set_option maxRecDepth 100000
set_option linter.unusedSimpArgs false

set_option maxHeartbeats 4000000 in
theorem lessq_rtl {w : World} {v u : Value} {q r : Rat} {k : Nat} (h : Rtl w v q k) (h' : Rtl w u r k) (hk1 : 1 ≤ k) (hk : k ≤ 68719476736) :
    Calls Try.prog 57 #[v, u] w fun e w' => e = .returned (.bool (decide (q < r))) ∧ Below w.heap.size w w' := by
  have HL := hid (show decide (q < r) = decide (q.num * r.den < r.num * q.den) from decide_eq_decide.2 (Rat.lt_iff q r))
  obtain ⟨s1a, p1a, n1a, c1a, s1b, p1b, n1b, c1b, rfl⟩ := h.opened
  obtain ⟨ht1, d1, hu1, hd1⟩ := h.two
  have HD1 := hid hd1
  obtain ⟨s2a, p2a, n2a, c2a, s2b, p2b, n2b, c2b, rfl⟩ := h'.opened
  obtain ⟨ht2, d2, hu2, hd2⟩ := h'.two
  have HD2 := hid hd2
  have HK := hid hk
  have HK1 := hid hk1
  have B := hid (Below.refl w.heap.size w)
  have HT1 := hid ht1
  have HU1 := hid hu1
  have HT2 := hid ht2
  have HU2 := hid hu2
  have hb1 := (Below.refl _ _).alloc (Nat.le_refl w.heap.size) (.cells #[.bool s1a, .slice p1a n1a c1a, .bool s1b, .slice p1b n1b c1b] 64)
  have hx2 := Nbx.new w s1a s1b (.slice p1a n1a c1a) (.slice p1b n1b c1b)
  replace HT1 := hid (HT1.out.on hb1)
  replace HU1 := hid (HU1.out.on hb1)
  replace HT2 := hid (HT2.out.on hb1)
  replace HU2 := hid (HU2.out.on hb1)
  replace B := hid (B.out.trans (hb1.mono B.out.size))
  have X1 := hid hx2
  have hs3 : (w.alloc (.cells #[.bool s1a, .slice p1a n1a c1a, .bool s1b, .slice p1b n1b c1b] 64)).heap.size = w.heap.size + 1 := by simp
  clear hb1 hx2
  have hb4 := (Below.refl _ _).alloc (Nat.le_refl (w.alloc (.cells #[.bool s1a, .slice p1a n1a c1a, .bool s1b, .slice p1b n1b c1b] 64)).heap.size) (.cells #[.bool s2a, .slice p2a n2a c2a, .bool s2b, .slice p2b n2b c2b] 64)
  have hx5 := Nbx.new (w.alloc (.cells #[.bool s1a, .slice p1a n1a c1a, .bool s1b, .slice p1b n1b c1b] 64)) s2a s2b (.slice p2a n2a c2a) (.slice p2b n2b c2b)
  rw [hs3] at hx5
  replace X1 := hid (X1.out.below hb4 X1.out.lt)
  replace HT1 := hid (HT1.out.on hb4)
  replace HU1 := hid (HU1.out.on hb4)
  replace HT2 := hid (HT2.out.on hb4)
  replace HU2 := hid (HU2.out.on hb4)
  replace B := hid (B.out.trans (hb4.mono B.out.size))
  have X2 := hid hx5
  have hs6 : ((w.alloc (.cells #[.bool s1a, .slice p1a n1a c1a, .bool s1b, .slice p1b n1b c1b] 64)).alloc (.cells #[.bool s2a, .slice p2a n2a c2a, .bool s2b, .slice p2b n2b c2b] 64)).heap.size = w.heap.size + 1 + 1 := by simp [hs3]
  clear hb4 hx5
  clear hs6 h h' ht1 hu1 ht2 hu2 hd1 hd2 hk hk1
  go_enter Try.func57, Try.ntmps57
  obtain ⟨c7a, c7b, c7c, c7d⟩ := X1.out.cells
  obtain ⟨c8a, c8b, c8c, c8d⟩ := X2.out.cells
  go_wp2_with fail
  generalize hW : (w.alloc (.cells #[.bool s1a, .slice p1a n1a c1a, .bool s1b, .slice p1b n1b c1b] 64)).alloc (.cells #[.bool s2a, .slice p2a n2a c2a, .bool s2b, .slice p2b n2b c2b] 64) = W9 at *
  clear hW
  refine (parts_rtl (Rtl.mk2 HT1.out HU1.out HD1.out) HK1.out).mono ?_
  rintro e w10 ⟨v, u, rfl, hv, hu, hb⟩
  obtain ⟨s3, p3, n3, c3, rfl⟩ := hv.opened
  obtain ⟨s4, p4, n4, c4, rfl⟩ := hu.opened
  replace X1 := hid (X1.out.below hb X1.out.lt)
  replace X2 := hid (X2.out.below hb X2.out.lt)
  replace HT1 := hid (HT1.out.on hb)
  replace HU1 := hid (HU1.out.on hb)
  replace HT2 := hid (HT2.out.on hb)
  replace HU2 := hid (HU2.out.on hb)
  replace B := hid (B.out.trans (hb.mono B.out.size))
  clear c7a c7b c7c c7d c8a c8b c8c c8d
  have HA := hid hv
  have HB := hid hu
  clear hb hv hu
  have hb11 := (Below.refl _ _).alloc (Nat.le_refl w10.heap.size) (.cells #[.bool s3, .slice p3 n3 c3] 51)
  have hx12 := Box.new w10 s3 p3 n3 c3
  have L0 := hid X2.out.lt
  replace X1 := hid (X1.out.below hb11 X1.out.lt)
  replace X2 := hid (X2.out.below hb11 X2.out.lt)
  replace HT1 := hid (HT1.out.on hb11)
  replace HU1 := hid (HU1.out.on hb11)
  replace HT2 := hid (HT2.out.on hb11)
  replace HU2 := hid (HU2.out.on hb11)
  replace HA := hid (HA.out.on hb11)
  replace HB := hid (HB.out.on hb11)
  replace B := hid (B.out.trans (hb11.mono B.out.size))
  have XA := hid hx12
  have hs13 : (w10.alloc (.cells #[.bool s3, .slice p3 n3 c3] 51)).heap.size = w10.heap.size + 1 := by simp
  clear hb11 hx12
  have hb14 := (Below.refl _ _).alloc (Nat.le_refl (w10.alloc (.cells #[.bool s3, .slice p3 n3 c3] 51)).heap.size) (.cells #[.bool s4, .slice p4 n4 c4] 51)
  have hx15 := Box.new (w10.alloc (.cells #[.bool s3, .slice p3 n3 c3] 51)) s4 p4 n4 c4
  rw [hs13] at hx15
  replace X1 := hid (X1.out.below hb14 X1.out.lt)
  replace X2 := hid (X2.out.below hb14 X2.out.lt)
  replace XA := hid (XA.out.below hb14 XA.out.lt)
  replace HT1 := hid (HT1.out.on hb14)
  replace HU1 := hid (HU1.out.on hb14)
  replace HT2 := hid (HT2.out.on hb14)
  replace HU2 := hid (HU2.out.on hb14)
  replace HA := hid (HA.out.on hb14)
  replace HB := hid (HB.out.on hb14)
  replace B := hid (B.out.trans (hb14.mono B.out.size))
  have XB := hid hx15
  have hs16 : ((w10.alloc (.cells #[.bool s3, .slice p3 n3 c3] 51)).alloc (.cells #[.bool s4, .slice p4 n4 c4] 51)).heap.size = w10.heap.size + 1 + 1 := by simp [hs13]
  clear hb14 hx15
  obtain ⟨c17a, c17b, c17c, c17d⟩ := X1.out.cells
  obtain ⟨c18a, c18b, c18c, c18d⟩ := X2.out.cells
  obtain ⟨c19a, c19b⟩ := XA.out.both
  obtain ⟨c20a, c20b⟩ := XB.out.both
  go_wp2_with fail
  generalize hW : (w10.alloc (.cells #[.bool s3, .slice p3 n3 c3] 51)).alloc (.cells #[.bool s4, .slice p4 n4 c4] 51) = W21 at *
  clear hW
  refine (parts_rtl (Rtl.mk2 HT2.out HU2.out HD2.out) HK1.out).mono ?_
  rintro e w22 ⟨v, u, rfl, hv, hu, hb⟩
  obtain ⟨s5, p5, n5, c5, rfl⟩ := hv.opened
  obtain ⟨s6, p6, n6, c6, rfl⟩ := hu.opened
  replace X1 := hid (X1.out.below hb X1.out.lt)
  replace X2 := hid (X2.out.below hb X2.out.lt)
  replace XA := hid (XA.out.below hb XA.out.lt)
  replace XB := hid (XB.out.below hb XB.out.lt)
  replace HT1 := hid (HT1.out.on hb)
  replace HU1 := hid (HU1.out.on hb)
  replace HT2 := hid (HT2.out.on hb)
  replace HU2 := hid (HU2.out.on hb)
  replace HA := hid (HA.out.on hb)
  replace HB := hid (HB.out.on hb)
  replace B := hid (B.out.trans (hb.mono B.out.size))
  clear c17a c17b c17c c17d c18a c18b c18c c18d c19a c19b c20a c20b
  have HC := hid hv
  have HE := hid hu
  clear hb hv hu
  have hb23 := (Below.refl _ _).alloc (Nat.le_refl w22.heap.size) (.cells #[.bool s5, .slice p5 n5 c5] 51)
  have hx24 := Box.new w22 s5 p5 n5 c5
  have L1 := hid XB.out.lt
  replace X1 := hid (X1.out.below hb23 X1.out.lt)
  replace X2 := hid (X2.out.below hb23 X2.out.lt)
  replace XA := hid (XA.out.below hb23 XA.out.lt)
  replace XB := hid (XB.out.below hb23 XB.out.lt)
  replace HT1 := hid (HT1.out.on hb23)
  replace HU1 := hid (HU1.out.on hb23)
  replace HT2 := hid (HT2.out.on hb23)
  replace HU2 := hid (HU2.out.on hb23)
  replace HA := hid (HA.out.on hb23)
  replace HB := hid (HB.out.on hb23)
  replace HC := hid (HC.out.on hb23)
  replace HE := hid (HE.out.on hb23)
  replace B := hid (B.out.trans (hb23.mono B.out.size))
  have XC := hid hx24
  have hs25 : (w22.alloc (.cells #[.bool s5, .slice p5 n5 c5] 51)).heap.size = w22.heap.size + 1 := by simp
  clear hb23 hx24
  have hb26 := (Below.refl _ _).alloc (Nat.le_refl (w22.alloc (.cells #[.bool s5, .slice p5 n5 c5] 51)).heap.size) (.cells #[.bool s6, .slice p6 n6 c6] 51)
  have hx27 := Box.new (w22.alloc (.cells #[.bool s5, .slice p5 n5 c5] 51)) s6 p6 n6 c6
  rw [hs25] at hx27
  replace X1 := hid (X1.out.below hb26 X1.out.lt)
  replace X2 := hid (X2.out.below hb26 X2.out.lt)
  replace XA := hid (XA.out.below hb26 XA.out.lt)
  replace XB := hid (XB.out.below hb26 XB.out.lt)
  replace XC := hid (XC.out.below hb26 XC.out.lt)
  replace HT1 := hid (HT1.out.on hb26)
  replace HU1 := hid (HU1.out.on hb26)
  replace HT2 := hid (HT2.out.on hb26)
  replace HU2 := hid (HU2.out.on hb26)
  replace HA := hid (HA.out.on hb26)
  replace HB := hid (HB.out.on hb26)
  replace HC := hid (HC.out.on hb26)
  replace HE := hid (HE.out.on hb26)
  replace B := hid (B.out.trans (hb26.mono B.out.size))
  have XD := hid hx27
  have hs28 : ((w22.alloc (.cells #[.bool s5, .slice p5 n5 c5] 51)).alloc (.cells #[.bool s6, .slice p6 n6 c6] 51)).heap.size = w22.heap.size + 1 + 1 := by simp [hs25]
  clear hb26 hx27
  obtain ⟨c29a, c29b, c29c, c29d⟩ := X1.out.cells
  obtain ⟨c30a, c30b, c30c, c30d⟩ := X2.out.cells
  obtain ⟨c31a, c31b⟩ := XA.out.both
  obtain ⟨c32a, c32b⟩ := XB.out.both
  obtain ⟨c33a, c33b⟩ := XC.out.both
  obtain ⟨c34a, c34b⟩ := XD.out.both
  go_wp2_with fail
  generalize hW : (w22.alloc (.cells #[.bool s5, .slice p5 n5 c5] 51)).alloc (.cells #[.bool s6, .slice p6 n6 c6] 51) = W35 at *
  clear hW
  obtain ⟨c36a, c36b⟩ := XA.out.both
  obtain ⟨c37a, c37b⟩ := XB.out.both
  obtain ⟨c38a, c38b⟩ := XC.out.both
  obtain ⟨c39a, c39b⟩ := XD.out.both
  replace X1 := hid X1.out.dr
  replace X2 := hid X2.out.dr
  replace XA := hid XA.out.dr
  replace XB := hid XB.out.dr
  replace XC := hid XC.out.dr
  replace XD := hid XD.out.dr
  replace HT1 := hid HT1.out.drew
  replace HU1 := hid HU1.out.drew
  replace HT2 := hid HT2.out.drew
  replace HU2 := hid HU2.out.drew
  replace HA := hid HA.out.drew
  replace HB := hid HB.out.drew
  replace HC := hid HC.out.drew
  replace HE := hid HE.out.drew
  replace B := hid (Below.drew B.out)
  obtain ⟨c40a, c40b⟩ := XA.out.both
  obtain ⟨c41a, c41b⟩ := XB.out.both
  obtain ⟨c42a, c42b⟩ := XC.out.both
  obtain ⟨c43a, c43b⟩ := XD.out.both
  go_region_held3 (fun w' => w'.cell? ⟨w10.heap.size, 0, none⟩ = some (.bool s3) ∧ w'.cell? ⟨w10.heap.size, 1, none⟩ = some (.slice p3 n3 c3) ∧ w'.cell? ⟨w10.heap.size + 1, 0, none⟩ = some (.bool s4) ∧ w'.cell? ⟨w10.heap.size + 1, 1, none⟩ = some (.slice p4 n4 c4) ∧ w'.cell? ⟨w22.heap.size, 0, none⟩ = some (.bool s5) ∧ w'.cell? ⟨w22.heap.size, 1, none⟩ = some (.slice p5 n5 c5) ∧ w'.cell? ⟨w22.heap.size + 1, 0, none⟩ = some (.bool s6) ∧ w'.cell? ⟨w22.heap.size + 1, 1, none⟩ = some (.slice p6 n6 c6)) (go_keep) (first
      | (have hm := mk44_1; clear hm; go_at_call 76; refine (zless_whl P1.out P2.out (by have := HK.out; omega) (by have := HK.out; omega)).mono ?_; rintro e w55 ⟨rfl, hb⟩; replace X1 := hid (X1.out.below hb X1.out.lt); replace X2 := hid (X2.out.below hb X2.out.lt); replace XA := hid (XA.out.below hb XA.out.lt); replace XB := hid (XB.out.below hb XB.out.lt); replace XC := hid (XC.out.below hb XC.out.lt); replace XD := hid (XD.out.below hb XD.out.lt); replace HT1 := hid (HT1.out.on hb); replace HU1 := hid (HU1.out.on hb); replace HT2 := hid (HT2.out.on hb); replace HU2 := hid (HU2.out.on hb); replace HA := hid (HA.out.on hb); replace HB := hid (HB.out.on hb); replace HC := hid (HC.out.on hb); replace HE := hid (HE.out.on hb); replace P1 := hid (P1.out.on hb); replace P2 := hid (P2.out.on hb); replace B := hid (B.out.trans (hb.mono B.out.size)); clear c51a c51b c52a c52b c53a c53b c54a c54b; clear hb ; obtain ⟨c56a, c56b⟩ := XA.out.both; obtain ⟨c57a, c57b⟩ := XB.out.both; obtain ⟨c58a, c58b⟩ := XC.out.both; obtain ⟨c59a, c59b⟩ := XD.out.both; have mk44_2 := hid True.intro)
      | (have hm := mk44_0; clear hm; go_at_call 47; refine (mul_whl HC.out HB.out (by have := HK.out; omega) (by have := HK.out; omega)).mono ?_; rintro e w50 ⟨v, rfl, hv, hb⟩; obtain ⟨s12, p12, n12, c12, rfl⟩ := hv.opened; replace X1 := hid (X1.out.below hb X1.out.lt); replace X2 := hid (X2.out.below hb X2.out.lt); replace XA := hid (XA.out.below hb XA.out.lt); replace XB := hid (XB.out.below hb XB.out.lt); replace XC := hid (XC.out.below hb XC.out.lt); replace XD := hid (XD.out.below hb XD.out.lt); replace HT1 := hid (HT1.out.on hb); replace HU1 := hid (HU1.out.on hb); replace HT2 := hid (HT2.out.on hb); replace HU2 := hid (HU2.out.on hb); replace HA := hid (HA.out.on hb); replace HB := hid (HB.out.on hb); replace HC := hid (HC.out.on hb); replace HE := hid (HE.out.on hb); replace P1 := hid (P1.out.on hb); replace B := hid (B.out.trans (hb.mono B.out.size)); clear c46a c46b c47a c47b c48a c48b c49a c49b; have P2 := hid hv; clear hb hv; obtain ⟨c51a, c51b⟩ := XA.out.both; obtain ⟨c52a, c52b⟩ := XB.out.both; obtain ⟨c53a, c53b⟩ := XC.out.both; obtain ⟨c54a, c54b⟩ := XD.out.both; have mk44_1 := hid True.intro)
      | (go_at_call 47; refine (mul_whl HA.out HE.out (by have := HK.out; omega) (by have := HK.out; omega)).mono ?_; rintro e w45 ⟨v, rfl, hv, hb⟩; obtain ⟨s11, p11, n11, c11, rfl⟩ := hv.opened; replace X1 := hid (X1.out.below hb X1.out.lt); replace X2 := hid (X2.out.below hb X2.out.lt); replace XA := hid (XA.out.below hb XA.out.lt); replace XB := hid (XB.out.below hb XB.out.lt); replace XC := hid (XC.out.below hb XC.out.lt); replace XD := hid (XD.out.below hb XD.out.lt); replace HT1 := hid (HT1.out.on hb); replace HU1 := hid (HU1.out.on hb); replace HT2 := hid (HT2.out.on hb); replace HU2 := hid (HU2.out.on hb); replace HA := hid (HA.out.on hb); replace HB := hid (HB.out.on hb); replace HC := hid (HC.out.on hb); replace HE := hid (HE.out.on hb); replace B := hid (B.out.trans (hb.mono B.out.size)); clear c29a c29b c29c c29d c30a c30b c30c c30d c31a c31b c32a c32b c33a c33b c34a c34b c36a c36b c37a c37b c38a c38b c39a c39b c40a c40b c41a c41b c42a c42b c43a c43b; have P1 := hid hv; clear hb hv; obtain ⟨c46a, c46b⟩ := XA.out.both; obtain ⟨c47a, c47b⟩ := XB.out.both; obtain ⟨c48a, c48b⟩ := XC.out.both; obtain ⟨c49a, c49b⟩ := XD.out.both; have mk44_0 := hid True.intro))
  go_wp2_with fail
  go_ret
  exact ⟨ret_bool HL.out.symm, B.out⟩

set_option maxHeartbeats 2000000 in
theorem floorq_rtl {w : World} {v : Value} {q : Rat} {k : Nat} (h : Rtl w v q k) (hk1 : 1 ≤ k) (hk : k ≤ 68719476736) :
    Calls Try.prog 59 #[v] w fun e w' => ∃ v, e = .returned v ∧ Whl w' v q.floor (k + 1) ∧ Below w.heap.size w w' := by
  obtain ⟨s1a, p1a, n1a, c1a, s1b, p1b, n1b, c1b, rfl⟩ := h.opened
  obtain ⟨ht1, d1, hu1, hd1⟩ := h.two
  have HD1 := hid hd1
  have HK := hid hk
  have HK1 := hid hk1
  have B := hid (Below.refl w.heap.size w)
  have HT1 := hid ht1
  have HU1 := hid hu1
  have hb1 := (Below.refl _ _).alloc (Nat.le_refl w.heap.size) (.cells #[.bool s1a, .slice p1a n1a c1a, .bool s1b, .slice p1b n1b c1b] 64)
  have hx2 := Nbx.new w s1a s1b (.slice p1a n1a c1a) (.slice p1b n1b c1b)
  replace HT1 := hid (HT1.out.on hb1)
  replace HU1 := hid (HU1.out.on hb1)
  replace B := hid (B.out.trans (hb1.mono B.out.size))
  have X1 := hid hx2
  have hs3 : (w.alloc (.cells #[.bool s1a, .slice p1a n1a c1a, .bool s1b, .slice p1b n1b c1b] 64)).heap.size = w.heap.size + 1 := by simp
  clear hb1 hx2
  have hb4 := (Below.refl _ _).alloc (Nat.le_refl (w.alloc (.cells #[.bool s1a, .slice p1a n1a c1a, .bool s1b, .slice p1b n1b c1b] 64)).heap.size) (.cells #[.bool false, .slice none 0 0] 51)
  have hx5 := Box.new (w.alloc (.cells #[.bool s1a, .slice p1a n1a c1a, .bool s1b, .slice p1b n1b c1b] 64)) false none 0 0
  rw [hs3] at hx5
  replace X1 := hid (X1.out.below hb4 X1.out.lt)
  replace HT1 := hid (HT1.out.on hb4)
  replace HU1 := hid (HU1.out.on hb4)
  replace B := hid (B.out.trans (hb4.mono B.out.size))
  have R1 := hid hx5
  have hs6 : ((w.alloc (.cells #[.bool s1a, .slice p1a n1a c1a, .bool s1b, .slice p1b n1b c1b] 64)).alloc (.cells #[.bool false, .slice none 0 0] 51)).heap.size = w.heap.size + 1 + 1 := by simp [hs3]
  clear hb4 hx5
  clear hs6 h ht1 hu1 hd1 hk hk1
  go_enter Try.func59, Try.ntmps59
  obtain ⟨c7a, c7b, c7c, c7d⟩ := X1.out.cells
  obtain ⟨c8a, c8b⟩ := R1.out.both
  go_wp2_with fail
  generalize hW : (w.alloc (.cells #[.bool s1a, .slice p1a n1a c1a, .bool s1b, .slice p1b n1b c1b] 64)).alloc (.cells #[.bool false, .slice none 0 0] 51) = W9 at *
  clear hW
  refine (parts_rtl (Rtl.mk2 HT1.out HU1.out HD1.out) HK1.out).mono ?_
  rintro e w10 ⟨v, u, rfl, hv, hu, hb⟩
  obtain ⟨s3, p3, n3, c3, rfl⟩ := hv.opened
  obtain ⟨s4, p4, n4, c4, rfl⟩ := hu.opened
  replace X1 := hid (X1.out.below hb X1.out.lt)
  replace R1 := hid (R1.out.below hb R1.out.lt)
  replace HT1 := hid (HT1.out.on hb)
  replace HU1 := hid (HU1.out.on hb)
  replace B := hid (B.out.trans (hb.mono B.out.size))
  clear c7a c7b c7c c7d c8a c8b
  have HA := hid hv
  have HB := hid hu
  clear hb hv hu
  have hb11 := (Below.refl _ _).alloc (Nat.le_refl w10.heap.size) (.cells #[.bool s3, .slice p3 n3 c3] 51)
  have hx12 := Box.new w10 s3 p3 n3 c3
  have L0 := hid R1.out.lt
  replace X1 := hid (X1.out.below hb11 X1.out.lt)
  replace R1 := hid (R1.out.below hb11 R1.out.lt)
  replace HT1 := hid (HT1.out.on hb11)
  replace HU1 := hid (HU1.out.on hb11)
  replace HA := hid (HA.out.on hb11)
  replace HB := hid (HB.out.on hb11)
  replace B := hid (B.out.trans (hb11.mono B.out.size))
  have XA := hid hx12
  have hs13 : (w10.alloc (.cells #[.bool s3, .slice p3 n3 c3] 51)).heap.size = w10.heap.size + 1 := by simp
  clear hb11 hx12
  have hb14 := (Below.refl _ _).alloc (Nat.le_refl (w10.alloc (.cells #[.bool s3, .slice p3 n3 c3] 51)).heap.size) (.cells #[.bool s4, .slice p4 n4 c4] 51)
  have hx15 := Box.new (w10.alloc (.cells #[.bool s3, .slice p3 n3 c3] 51)) s4 p4 n4 c4
  rw [hs13] at hx15
  replace X1 := hid (X1.out.below hb14 X1.out.lt)
  replace R1 := hid (R1.out.below hb14 R1.out.lt)
  replace XA := hid (XA.out.below hb14 XA.out.lt)
  replace HT1 := hid (HT1.out.on hb14)
  replace HU1 := hid (HU1.out.on hb14)
  replace HA := hid (HA.out.on hb14)
  replace HB := hid (HB.out.on hb14)
  replace B := hid (B.out.trans (hb14.mono B.out.size))
  have XB := hid hx15
  have hs16 : ((w10.alloc (.cells #[.bool s3, .slice p3 n3 c3] 51)).alloc (.cells #[.bool s4, .slice p4 n4 c4] 51)).heap.size = w10.heap.size + 1 + 1 := by simp [hs13]
  clear hb14 hx15
  obtain ⟨c17a, c17b, c17c, c17d⟩ := X1.out.cells
  obtain ⟨c18a, c18b⟩ := R1.out.both
  obtain ⟨c19a, c19b⟩ := XA.out.both
  obtain ⟨c20a, c20b⟩ := XB.out.both
  go_wp2_with fail
  generalize hW : (w10.alloc (.cells #[.bool s3, .slice p3 n3 c3] 51)).alloc (.cells #[.bool s4, .slice p4 n4 c4] 51) = W21 at *
  clear hW
  refine (div_whl HA.out HB.out (den_ne q) (by have := HK.out; omega) (by have := HK.out; omega)).mono ?_
  rintro e w22 ⟨v, u, rfl, hv, hu, hb⟩
  obtain ⟨s5, p5, n5, c5, rfl⟩ := hv.opened
  obtain ⟨s6, p6, n6, c6, rfl⟩ := hu.opened
  replace X1 := hid (X1.out.below hb X1.out.lt)
  replace R1 := hid (R1.out.below hb R1.out.lt)
  replace XA := hid (XA.out.below hb XA.out.lt)
  replace XB := hid (XB.out.below hb XB.out.lt)
  replace HT1 := hid (HT1.out.on hb)
  replace HU1 := hid (HU1.out.on hb)
  replace HA := hid (HA.out.on hb)
  replace HB := hid (HB.out.on hb)
  replace B := hid (B.out.trans (hb.mono B.out.size))
  clear c17a c17b c17c c17d c18a c18b c19a c19b c20a c20b
  have HC := hid hv
  have HE := hid hu
  clear hb hv hu
  have hb23 := (Below.refl _ _).alloc (Nat.le_refl w22.heap.size) (.cells #[.bool s5, .slice p5 n5 c5] 51)
  have hx24 := Box.new w22 s5 p5 n5 c5
  have L1 := hid XB.out.lt
  replace X1 := hid (X1.out.below hb23 X1.out.lt)
  replace R1 := hid (R1.out.below hb23 R1.out.lt)
  replace XA := hid (XA.out.below hb23 XA.out.lt)
  replace XB := hid (XB.out.below hb23 XB.out.lt)
  replace HT1 := hid (HT1.out.on hb23)
  replace HU1 := hid (HU1.out.on hb23)
  replace HA := hid (HA.out.on hb23)
  replace HB := hid (HB.out.on hb23)
  replace HC := hid (HC.out.on hb23)
  replace HE := hid (HE.out.on hb23)
  replace B := hid (B.out.trans (hb23.mono B.out.size))
  have XC := hid hx24
  have hs25 : (w22.alloc (.cells #[.bool s5, .slice p5 n5 c5] 51)).heap.size = w22.heap.size + 1 := by simp
  clear hb23 hx24
  have hb26 := (Below.refl _ _).alloc (Nat.le_refl (w22.alloc (.cells #[.bool s5, .slice p5 n5 c5] 51)).heap.size) (.cells #[.bool s6, .slice p6 n6 c6] 51)
  have hx27 := Box.new (w22.alloc (.cells #[.bool s5, .slice p5 n5 c5] 51)) s6 p6 n6 c6
  rw [hs25] at hx27
  replace X1 := hid (X1.out.below hb26 X1.out.lt)
  replace R1 := hid (R1.out.below hb26 R1.out.lt)
  replace XA := hid (XA.out.below hb26 XA.out.lt)
  replace XB := hid (XB.out.below hb26 XB.out.lt)
  replace XC := hid (XC.out.below hb26 XC.out.lt)
  replace HT1 := hid (HT1.out.on hb26)
  replace HU1 := hid (HU1.out.on hb26)
  replace HA := hid (HA.out.on hb26)
  replace HB := hid (HB.out.on hb26)
  replace HC := hid (HC.out.on hb26)
  replace HE := hid (HE.out.on hb26)
  replace B := hid (B.out.trans (hb26.mono B.out.size))
  have XD := hid hx27
  have hs28 : ((w22.alloc (.cells #[.bool s5, .slice p5 n5 c5] 51)).alloc (.cells #[.bool s6, .slice p6 n6 c6] 51)).heap.size = w22.heap.size + 1 + 1 := by simp [hs25]
  clear hb26 hx27
  obtain ⟨c29a, c29b, c29c, c29d⟩ := X1.out.cells
  obtain ⟨c30a, c30b⟩ := R1.out.both
  obtain ⟨c31a, c31b⟩ := XA.out.both
  obtain ⟨c32a, c32b⟩ := XB.out.both
  obtain ⟨c33a, c33b⟩ := XC.out.both
  obtain ⟨c34a, c34b⟩ := XD.out.both
  obtain ⟨c35a, c35b, c35c, c35d⟩ := R1.out.stores
  obtain ⟨r36a, r36b, r36c⟩ := R1.out.last B.out (by have := L0.out; have := L1.out; omega) s5 p5 n5 c5
  replace X1 := hid ((X1.out.other (g2 := w.heap.size + 1) (by have := L0.out; have := L1.out; omega) 0 (.bool s5)).other (g2 := w.heap.size + 1) (by have := L0.out; have := L1.out; omega) 1 (.slice p5 n5 c5))
  replace XA := hid ((XA.out.other (g2 := w.heap.size + 1) (by have := L0.out; have := L1.out; omega) 0 (.bool s5)).other (g2 := w.heap.size + 1) (by have := L0.out; have := L1.out; omega) 1 (.slice p5 n5 c5))
  replace XB := hid ((XB.out.other (g2 := w.heap.size + 1) (by have := L0.out; have := L1.out; omega) 0 (.bool s5)).other (g2 := w.heap.size + 1) (by have := L0.out; have := L1.out; omega) 1 (.slice p5 n5 c5))
  replace XC := hid ((XC.out.other (g2 := w.heap.size + 1) (by have := L0.out; have := L1.out; omega) 0 (.bool s5)).other (g2 := w.heap.size + 1) (by have := L0.out; have := L1.out; omega) 1 (.slice p5 n5 c5))
  replace XD := hid ((XD.out.other (g2 := w.heap.size + 1) (by have := L0.out; have := L1.out; omega) 0 (.bool s5)).other (g2 := w.heap.size + 1) (by have := L0.out; have := L1.out; omega) 1 (.slice p5 n5 c5))
  replace HT1 := hid (r36c HT1.out)
  replace HU1 := hid (r36c HU1.out)
  replace HA := hid (r36c HA.out)
  replace HB := hid (r36c HB.out)
  replace HC := hid (r36c HC.out)
  replace HE := hid (r36c HE.out)
  replace R1 := hid r36a
  replace B := hid r36b
  clear r36a r36b r36c
  go_wp2_with fail
  refine bodyPost_ret (res_one rfl rfl R1.out) rfl ?_
  exact ⟨_, rfl, (by rw [Rat.floor_def]; exact HC.out), B.out⟩

end Go.Proofs.Ytckkbjnipacodaa
