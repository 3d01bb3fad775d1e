/-
  PACKAGE rat: TEXTS OF FRACTIONS; EACH FUNCTION AT WHATEVER TEXTS.
-/
import Derived.Test.YtjeeepcnaaadmaaRatTxt
namespace Go.Proofs.Ytjeeepcnaaadmaa
open Go.RowKit
open Num
set_option linter.unusedVariables false
set_option maxRecDepth 100000
set_option linter.unusedSimpArgs false

theorem ba_ext {a b : ByteArray} (h : a.data.toList = b.data.toList) : a = b := by
  obtain ⟨⟨l⟩⟩ := a
  obtain ⟨⟨m⟩⟩ := b
  simp only at h
  rw [h]
theorem app_list (a b : ByteArray) : (a ++ b).data.toList = a.data.toList ++ b.data.toList := by
  rw [ByteArray.data_append, Array.toList_append]
theorem no_slash {l : List UInt8} (h : ∀ c ∈ l, c ≠ 47) : hasSl l = false ∧ cutB l = l := by
  induction l with
  | nil => exact ⟨rfl, rfl⟩
  | cons b l ih =>
    have h1 : (b != 47) = true := by simpa using h b (List.mem_cons_self ..)
    obtain ⟨i1, i2⟩ := ih fun c hc => h c (List.mem_cons_of_mem _ hc)
    exact ⟨by rw [← i1]; simp [hasSl, List.dropWhile_cons, h1], by rw [cutB, List.takeWhile_cons, if_pos h1]; exact congrArg _ i2⟩
theorem at_slash {l m : List UInt8} (h : ∀ c ∈ l, c ≠ 47) : hasSl (l ++ 47 :: m) = true ∧ cutB (l ++ 47 :: m) = l ∧ cutA (l ++ 47 :: m) = m := by
  have h' : ∀ c ∈ l, (c != 47) = true := fun c hc => by simpa using h c hc
  refine ⟨?_, ?_, ?_⟩
  · rw [hasSl, List.dropWhile_append_of_pos h']; simp
  · rw [cutB, List.takeWhile_append_of_pos h']; simp
  · rw [cutA, List.dropWhile_append_of_pos h']; simp
theorem slash_split {l : List UInt8} (h : hasSl l = true) : l = cutB l ++ 47 :: cutA l := by
  induction l with
  | nil => exact absurd h (by decide)
  | cons b l ih =>
    by_cases hb : b = 47
    · subst hb
      simp [cutB, cutA]
    · have h1 : (b != 47) = true := by simpa using hb
      have e1 : hasSl (b :: l) = hasSl l := by simp [hasSl, List.dropWhile_cons, h1]
      have e2 : cutB (b :: l) = b :: cutB l := by simp [cutB, List.takeWhile_cons, h1]
      have e3 : cutA (b :: l) = cutA l := by simp [cutA, List.dropWhile_cons, h1]
      rw [e1] at h
      rw [e2, e3, List.cons_append, ← ih h]
theorem dig_ne {c : UInt8} (h : isDig c = true) : c ≠ 47 := by
  intro e; subst e; exact absurd h (by decide)
theorem ztxt_ne (z : Int) : ∀ c ∈ (ztxt z).data.toList, c ≠ 47 := by
  have hd : ∀ n, ∀ c ∈ dtext n, c ≠ 47 := fun n c hc => dig_ne (List.all_eq_true.1 (dtext_all n) c hc)
  rw [ztxt_list]
  split
  · intro c hc
    rcases List.mem_cons.1 hc with rfl | hc
    · decide
    · exact hd _ c hc
  · exact hd _
theorem whlOf_ztxt (z : Int) : whlOf (ztxt z).data.toList = z := znum_ztxt z
theorem ztxt_whlOf {l : List UInt8} (h : isWhl l = true) : (ztxt (whlOf l)).data.toList = l := by
  have := ztxt_znum (s := ⟨l.toArray⟩) (by simpa using h)
  have e : znum ⟨l.toArray⟩ = whlOf l := by simp [znum]
  rw [e] at this
  rw [this]
theorem qtxt_one {q : Rat} (h : q.den = 1) : qtxt q = ztxt q.num := by rw [qtxt, if_pos h]
theorem qtxt_two {q : Rat} (h : q.den ≠ 1) : (qtxt q).data.toList = (ztxt q.num).data.toList ++ 47 :: (ztxt q.den).data.toList := by
  rw [qtxt, if_neg h, app_list, app_list]
  simp
theorem rat_of_one {q : Rat} (h : q.den = 1) : (q.num : Rat) = q := by
  apply Rat.ext
  · rw [Rat.num_intCast]
  · rw [Rat.den_intCast, h]
theorem isRat_qtxt (q : Rat) : isRat (qtxt q).data.toList = true := by
  by_cases h : q.den = 1
  · rw [qtxt_one h, isRat, if_neg (by rw [(no_slash (ztxt_ne _)).1]; decide)]
    exact isWhl_ztxt _
  · have hd := q.den_pos
    obtain ⟨e1, e2, e3⟩ := at_slash (m := (ztxt (q.den : Int)).data.toList) (ztxt_ne q.num)
    rw [qtxt_two h, isRat, if_pos e1, e2, e3, isWhl_ztxt, isWhl_ztxt, whlOf_ztxt, whlOf_ztxt]
    have hr : Int.gcd q.num q.den = 1 := q.reduced
    rw [decide_eq_true (by omega), decide_eq_true hr]
    rfl
theorem qnum_qtxt (q : Rat) : qnum (qtxt q) = q := by
  unfold qnum
  by_cases h : q.den = 1
  · rw [qtxt_one h, ratOf, if_neg (by rw [(no_slash (ztxt_ne _)).1]; decide), whlOf_ztxt]
    exact rat_of_one h
  · obtain ⟨e1, e2, e3⟩ := at_slash (m := (ztxt (q.den : Int)).data.toList) (ztxt_ne q.num)
    rw [qtxt_two h, ratOf, if_pos e1, e2, e3, whlOf_ztxt, whlOf_ztxt, Rat.num_divInt_den]
theorem qtxt_inj {p q : Rat} (h : qtxt p = qtxt q) : p = q := by
  have := congrArg qnum h
  rwa [qnum_qtxt, qnum_qtxt] at this
theorem qtxt_qnum {s : ByteArray} (h : isRat s.data.toList = true) : qtxt (qnum s) = s := by
  apply ba_ext
  unfold qnum
  cases hs : hasSl s.data.toList
  · rw [isRat, hs] at h
    rw [ratOf, hs, if_neg (by decide), qtxt_one (Rat.den_intCast _), Rat.num_intCast]
    exact ztxt_whlOf (by simpa using h)
  · rw [isRat, hs] at h
    simp only [if_true, Bool.and_eq_true, decide_eq_true_eq] at h
    obtain ⟨⟨⟨h1, h2⟩, h3⟩, h4⟩ := h
    obtain ⟨e1, e2⟩ := divInt_coprime h3 h4
    rw [ratOf, hs, if_pos rfl, qtxt_two (by omega), e1, e2, ztxt_whlOf h1, ztxt_whlOf h2]
    exact (slash_split hs).symm
theorem qtxt_good {s : ByteArray} (h : GoodQ s) : qtxt (qnum s) = s := qtxt_qnum h.2
theorem qtxt_zero : qtxt 0 = ⟨#[48]⟩ := by rw [qtxt_one rfl]; exact ztxt_zero
theorem qtxt_int (z : Int) : qtxt (z : Rat) = ztxt z := by rw [qtxt_one (Rat.den_intCast _), Rat.num_intCast]

theorem whl_lt {l : List UInt8} (h : isWhl l = true) : (whlOf l).natAbs < 10 ^ l.length := by
  cases hb : (l.head? == some 45)
  · have h3 : isNat l = true := by rw [isWhl, hb] at h; simpa using h
    have h4 : whlOf l = (dval l : Int) := by rw [whlOf, hb]; rfl
    rw [h4]
    simpa using dval_lt' h3
  · have h3 : isNat l.tail = true := by rw [isWhl, hb] at h; simp at h; exact h.1
    have h4 : whlOf l = -(dval l.tail : Int) := by rw [whlOf, hb]; rfl
    rw [h4]
    exact Nat.lt_of_lt_of_le (by simpa using dval_lt' h3) (Nat.pow_le_pow_right (by omega) (by simp))
theorem qnum_lt {s : ByteArray} (h : GoodQ s) : (qnum s).num.natAbs < 10 ^ 100 ∧ (qnum s).den < 10 ^ 100 := by
  obtain ⟨hl, h⟩ := h
  have hsz : s.data.toList.length = s.size := rfl
  have h1 : (1 : Nat) < 10 ^ 100 := by decide +kernel
  have up : ∀ {l : List UInt8}, isWhl l = true → l.length ≤ 100 → (whlOf l).natAbs < 10 ^ 100 := fun hw hl => Nat.lt_of_lt_of_le (whl_lt hw) (Nat.pow_le_pow_right (by omega) hl)
  unfold qnum
  cases hs : hasSl s.data.toList
  · rw [isRat, hs] at h
    rw [ratOf, hs, if_neg (by decide), Rat.num_intCast, Rat.den_intCast]
    exact ⟨up (by simpa using h) (by omega), h1⟩
  · rw [isRat, hs] at h
    simp only [if_true, Bool.and_eq_true, decide_eq_true_eq] at h
    obtain ⟨⟨⟨h1', h2⟩, h3⟩, h4⟩ := h
    obtain ⟨e1, e2⟩ := divInt_coprime h3 h4
    have hlen := congrArg List.length (slash_split hs)
    rw [List.length_append, List.length_cons] at hlen
    rw [ratOf, hs, if_pos rfl, e1]
    refine ⟨up h1' (by omega), ?_⟩
    have := up h2 (by omega)
    omega
theorem divInt_le (z y : Int) : (Rat.divInt z y).num.natAbs ≤ z.natAbs ∧ (Rat.divInt z y).den ≤ max y.natAbs 1 := by
  by_cases h : y = 0
  · subst h; rw [Rat.divInt_zero]; simp
  · obtain ⟨e1, e2⟩ := divInt_parts z y h
    refine ⟨by rw [e1]; exact natAbs_ediv_le _ _, ?_⟩
    have h1 := natAbs_ediv_le y (if y < 0 then -(Int.gcd z y : Int) else (Int.gcd z y : Int))
    rw [← e2] at h1
    have : ((Rat.divInt z y).den : Int).natAbs = (Rat.divInt z y).den := by simp
    omega
theorem size_qtxt {q : Rat} (k : Nat) (hk : 0 < k) (hn : q.num.natAbs < 10 ^ k) (hd : q.den < 10 ^ k) : (qtxt q).size ≤ 2 * k + 3 := by
  have h1 := size_ztxt_le hn hk
  have h2 := size_ztxt_le (z := (q.den : Int)) (k := k) (by simpa using hd) hk
  unfold qtxt
  split
  · omega
  · rw [ByteArray.size_append, ByteArray.size_append]
    have : (⟨#[47]⟩ : ByteArray).size = 1 := rfl
    omega
theorem big_sum : (10 : Nat) ^ 100 * 10 ^ 100 + 10 ^ 100 * 10 ^ 100 < 10 ^ 300 := by decide +kernel
theorem big_mul : (10 : Nat) ^ 100 * 10 ^ 100 < 10 ^ 300 := by decide +kernel
theorem size_divInt {z y : Int} (hz : z.natAbs < 10 ^ 300) (hy : y.natAbs < 10 ^ 300) : (qtxt (Rat.divInt z y)).size ≤ maxLen := by
  have h1 : (1 : Nat) < 10 ^ 300 := by decide +kernel
  obtain ⟨a, b⟩ := divInt_le z y
  have h2 : max y.natAbs 1 < 10 ^ 300 := by omega
  have := size_qtxt (q := Rat.divInt z y) 300 (by omega) (by omega) (by omega)
  unfold maxLen; omega
theorem lt_mul_big {a b : Nat} (ha : a < 10 ^ 100) (hb : b < 10 ^ 100) : a * b < 10 ^ 100 * 10 ^ 100 := Nat.mul_lt_mul'' ha hb
theorem size_add {a b : ByteArray} (ha : GoodQ a) (hb : GoodQ b) : (qtxt (qnum a + qnum b)).size ≤ maxLen := by
  obtain ⟨a1, a2⟩ := qnum_lt ha
  obtain ⟨b1, b2⟩ := qnum_lt hb
  rw [add_parts]
  have c1 := lt_mul_big a1 b2
  have c2 := lt_mul_big b1 a2
  have c3 := lt_mul_big a2 b2
  have e1 := big_sum
  have e2 := big_mul
  refine size_divInt ?_ ?_
  · have t := Int.natAbs_add_le ((qnum a).num * (qnum b).den) ((qnum b).num * (qnum a).den)
    simp only [Int.natAbs_mul, Int.natAbs_natCast] at t
    omega
  · rw [Int.natAbs_mul, Int.natAbs_natCast, Int.natAbs_natCast]; omega
theorem size_mul {a b : ByteArray} (ha : GoodQ a) (hb : GoodQ b) : (qtxt (qnum a * qnum b)).size ≤ maxLen := by
  obtain ⟨a1, a2⟩ := qnum_lt ha
  obtain ⟨b1, b2⟩ := qnum_lt hb
  rw [mul_parts]
  have c1 := lt_mul_big a1 b1
  have c3 := lt_mul_big a2 b2
  have e2 := big_mul
  refine size_divInt ?_ ?_
  · rw [Int.natAbs_mul]; omega
  · rw [Int.natAbs_mul, Int.natAbs_natCast, Int.natAbs_natCast]; omega
theorem size_div {a b : ByteArray} (ha : GoodQ a) (hb : GoodQ b) : (qtxt (qnum a / qnum b)).size ≤ maxLen := by
  obtain ⟨a1, a2⟩ := qnum_lt ha
  obtain ⟨b1, b2⟩ := qnum_lt hb
  rw [div_parts]
  have c1 := lt_mul_big a1 b2
  have c3 := lt_mul_big a2 b1
  have e2 := big_mul
  refine size_divInt ?_ ?_
  · rw [Int.natAbs_mul, Int.natAbs_natCast]; omega
  · rw [Int.natAbs_mul, Int.natAbs_natCast]; omega

theorem BadQ.ne {s : ByteArray} {k : Int} (h : BadQ s k) : k ≠ 0 := by
  rcases h with ⟨_, rfl⟩ | ⟨_, _, rfl⟩ <;> decide
theorem WrongQ.ne {a b : ByteArray} {k : Int} (h : WrongQ a b k) : k ≠ 0 := by
  rcases h with h | ⟨_, h⟩ <;> exact h.ne
theorem BadQ.not {s : ByteArray} {k : Int} (h : BadQ s k) : ¬ GoodQ s := by
  rintro ⟨h1, h2⟩
  rcases h with ⟨h, _⟩ | ⟨_, h, _⟩
  · omega
  · rw [h] at h2; cases h2
theorem WrongQ.not {a b : ByteArray} {k : Int} (h : WrongQ a b k) : ¬ (GoodQ a ∧ GoodQ b) := by
  rintro ⟨h1, h2⟩
  rcases h with h | ⟨_, h⟩
  · exact h.not h1
  · exact h.not h2

/-- What a function of two fractions tells: the text of f, or nothing and an error. -/
def QTells (f : Rat → Rat → Rat) (a b s : ByteArray) (k : Int) : Prop :=
  (k = 0 ∧ GoodQ a ∧ GoodQ b ∧ s = qtxt (f (qnum a) (qnum b))) ∨ (k ≠ 0 ∧ WrongQ a b k ∧ s = ⟨#[]⟩)
theorem QTells.yes {f : Rat → Rat → Rat} {a b s : ByteArray} {k : Int} (h : QTells f a b s k) (hk : k = 0) : GoodQ a ∧ GoodQ b ∧ s = qtxt (f (qnum a) (qnum b)) := by
  rcases h with ⟨_, h⟩ | ⟨h, _⟩
  · exact h
  · exact absurd hk h
theorem QTells.zero {f : Rat → Rat → Rat} {a b s : ByteArray} {k : Int} (h : QTells f a b s k) (ha : GoodQ a) (hb : GoodQ b) : k = 0 := by
  rcases h with ⟨h, _⟩ | ⟨_, h, _⟩
  · exact h
  · exact absurd ⟨ha, hb⟩ h.not
theorem QTells.no {f : Rat → Rat → Rat} {a b s : ByteArray} {k : Int} (h : QTells f a b s k) (hn : ¬ (GoodQ a ∧ GoodQ b)) : k ≠ 0 ∧ s = ⟨#[]⟩ := by
  rcases h with ⟨_, h1, h2, _⟩ | ⟨h, _, h2⟩
  · exact absurd ⟨h1, h2⟩ hn
  · exact ⟨h, h2⟩
/-- What a division tells. -/
def QDivs (a b s : ByteArray) (k : Int) : Prop :=
  (k = 0 ∧ GoodQ a ∧ GoodQ b ∧ qnum b ≠ 0 ∧ s = qtxt (qnum a / qnum b)) ∨
  (k ≠ 0 ∧ s = ⟨#[]⟩ ∧ (WrongQ a b k ∨ (GoodQ a ∧ GoodQ b ∧ qnum b = 0 ∧ k = 5)))
theorem QDivs.yes {a b s : ByteArray} {k : Int} (h : QDivs a b s k) (hk : k = 0) : GoodQ a ∧ GoodQ b ∧ qnum b ≠ 0 ∧ s = qtxt (qnum a / qnum b) := by
  rcases h with ⟨_, h⟩ | ⟨h, _⟩
  · exact h
  · exact absurd hk h
theorem QDivs.zero {a b s : ByteArray} {k : Int} (h : QDivs a b s k) (ha : GoodQ a) (hb : GoodQ b) (h0 : qnum b ≠ 0) : k = 0 := by
  rcases h with ⟨h, _⟩ | ⟨_, _, h | ⟨_, _, h, _⟩⟩
  · exact h
  · exact absurd ⟨ha, hb⟩ h.not
  · exact absurd h h0
theorem QDivs.no {a b s : ByteArray} {k : Int} (h : QDivs a b s k) (hk : k ≠ 0) : s = ⟨#[]⟩ ∧ (GoodQ a → GoodQ b → qnum b = 0) := by
  rcases h with ⟨h, _⟩ | ⟨_, hs, h | ⟨_, _, h, _⟩⟩
  · exact absurd h hk
  · exact ⟨hs, fun h1 h2 => absurd ⟨h1, h2⟩ h.not⟩
  · exact ⟨hs, fun _ _ => h⟩
/-- What a comparison tells. -/
def QLess (a b : ByteArray) (t : Bool) (k : Int) : Prop :=
  (k = 0 ∧ GoodQ a ∧ GoodQ b ∧ t = decide (qnum a < qnum b)) ∨ (k ≠ 0 ∧ WrongQ a b k ∧ t = false)
theorem QLess.yes {a b : ByteArray} {t : Bool} {k : Int} (h : QLess a b t k) (hk : k = 0) : GoodQ a ∧ GoodQ b ∧ t = decide (qnum a < qnum b) := by
  rcases h with ⟨_, h⟩ | ⟨h, _⟩
  · exact h
  · exact absurd hk h
theorem QLess.zero {a b : ByteArray} {t : Bool} {k : Int} (h : QLess a b t k) (ha : GoodQ a) (hb : GoodQ b) : k = 0 := by
  rcases h with ⟨h, _⟩ | ⟨_, h, _⟩
  · exact h
  · exact absurd ⟨ha, hb⟩ h.not
theorem QLess.no {a b : ByteArray} {t : Bool} {k : Int} (h : QLess a b t k) (hn : ¬ (GoodQ a ∧ GoodQ b)) : k ≠ 0 ∧ t = false := by
  rcases h with ⟨_, h1, h2, _⟩ | ⟨h, _, h2⟩
  · exact absurd ⟨h1, h2⟩ hn
  · exact ⟨h, h2⟩
/-- What Floor tells. -/
def QFloors (a s : ByteArray) (k : Int) : Prop := (k = 0 ∧ GoodQ a ∧ s = ztxt (qnum a).floor) ∨ (k ≠ 0 ∧ BadQ a k ∧ s = ⟨#[]⟩)
/-- What Make tells. -/
def QMakes (a b s : ByteArray) (k : Int) : Prop :=
  (k = 0 ∧ GoodZ a ∧ GoodZ b ∧ znum b ≠ 0 ∧ s = qtxt (Rat.divInt (znum a) (znum b))) ∨
  (k ≠ 0 ∧ s = ⟨#[]⟩ ∧ (WrongZ a b k ∨ (GoodZ a ∧ GoodZ b ∧ znum b = 0 ∧ k = 5)))
theorem QMakes.yes {a b s : ByteArray} {k : Int} (h : QMakes a b s k) (hk : k = 0) : GoodZ a ∧ GoodZ b ∧ znum b ≠ 0 ∧ s = qtxt (Rat.divInt (znum a) (znum b)) := by
  rcases h with ⟨_, h⟩ | ⟨h, _⟩
  · exact h
  · exact absurd hk h
theorem QMakes.no {a b s : ByteArray} {k : Int} (h : QMakes a b s k) (hk : k ≠ 0) : s = ⟨#[]⟩ := by
  rcases h with ⟨h, _⟩ | ⟨_, h, _⟩
  · exact absurd h hk
  · exact h

theorem qadd_any (a b : ByteArray) (ha : a.size ≤ maxLen) (hb : b.size ≤ maxLen) (w : World) :
    Calls Try.prog 13 #[.string a, .string b] w fun e w' => ∃ (s : ByteArray) (k : Int), e = .returned (.tuple #[.string s, errv k]) ∧ QTells (· + ·) a b s k ∧ s.size ≤ maxLen ∧ Below w.heap.size w w' := by
  rcases rightQ_or_wrong a b with ⟨h1, h2⟩ | ⟨k, h⟩
  · refine (qadd_good h1 h2 w).mono ?_
    rintro e w' ⟨rfl, hb⟩
    exact ⟨_, 0, rfl, .inl ⟨rfl, h1, h2, rfl⟩, size_add h1 h2, hb⟩
  · refine (qadd_bad h ha hb w).mono ?_
    rintro e w' ⟨rfl, hb⟩
    exact ⟨_, k, by rw [errv_some h.ne], .inr ⟨h.ne, h, rfl⟩, Nat.zero_le _, hb⟩
theorem qmul_any (a b : ByteArray) (ha : a.size ≤ maxLen) (hb : b.size ≤ maxLen) (w : World) :
    Calls Try.prog 16 #[.string a, .string b] w fun e w' => ∃ (s : ByteArray) (k : Int), e = .returned (.tuple #[.string s, errv k]) ∧ QTells (· * ·) a b s k ∧ s.size ≤ maxLen ∧ Below w.heap.size w w' := by
  rcases rightQ_or_wrong a b with ⟨h1, h2⟩ | ⟨k, h⟩
  · refine (qmul_good h1 h2 w).mono ?_
    rintro e w' ⟨rfl, hb⟩
    exact ⟨_, 0, rfl, .inl ⟨rfl, h1, h2, rfl⟩, size_mul h1 h2, hb⟩
  · refine (qmul_bad h ha hb w).mono ?_
    rintro e w' ⟨rfl, hb⟩
    exact ⟨_, k, by rw [errv_some h.ne], .inr ⟨h.ne, h, rfl⟩, Nat.zero_le _, hb⟩
theorem qdiv_any (a b : ByteArray) (ha : a.size ≤ maxLen) (hb : b.size ≤ maxLen) (w : World) :
    Calls Try.prog 24 #[.string a, .string b] w fun e w' => ∃ (s : ByteArray) (k : Int), e = .returned (.tuple #[.string s, errv k]) ∧ QDivs a b s k ∧ s.size ≤ maxLen ∧ Below w.heap.size w w' := by
  rcases rightQ_or_wrong a b with ⟨h1, h2⟩ | ⟨k, h⟩
  · by_cases h0 : qnum b = 0
    · refine (qdiv_zero h1 h2 h0 w).mono ?_
      rintro e w' ⟨rfl, hb⟩
      exact ⟨_, 5, rfl, .inr ⟨by decide, rfl, .inr ⟨h1, h2, h0, rfl⟩⟩, Nat.zero_le _, hb⟩
    · refine (qdiv_good h1 h2 h0 w).mono ?_
      rintro e w' ⟨rfl, hb⟩
      exact ⟨_, 0, rfl, .inl ⟨rfl, h1, h2, h0, rfl⟩, size_div h1 h2, hb⟩
  · refine (qdiv_bad h ha hb w).mono ?_
    rintro e w' ⟨rfl, hb⟩
    exact ⟨_, k, by rw [errv_some h.ne], .inr ⟨h.ne, rfl, .inl h⟩, Nat.zero_le _, hb⟩
theorem qless_any (a b : ByteArray) (ha : a.size ≤ maxLen) (hb : b.size ≤ maxLen) (w : World) :
    Calls Try.prog 12 #[.string a, .string b] w fun e w' => ∃ (t : Bool) (k : Int), e = .returned (.tuple #[.bool t, errv k]) ∧ QLess a b t k ∧ Below w.heap.size w w' := by
  rcases rightQ_or_wrong a b with ⟨h1, h2⟩ | ⟨k, h⟩
  · refine (qless_good h1 h2 w).mono ?_
    rintro e w' ⟨rfl, hb⟩
    exact ⟨_, 0, rfl, .inl ⟨rfl, h1, h2, rfl⟩, hb⟩
  · refine (qless_bad h ha hb w).mono ?_
    rintro e w' ⟨rfl, hb⟩
    exact ⟨_, k, by rw [errv_some h.ne], .inr ⟨h.ne, h, rfl⟩, hb⟩
theorem floor_lt {a : ByteArray} (h : GoodQ a) : (qnum a).floor.natAbs < 10 ^ 100 := by
  rw [Rat.floor_def]
  exact Nat.lt_of_le_of_lt (natAbs_ediv_le _ _) (qnum_lt h).1
theorem qfloor_any (a : ByteArray) (ha : a.size ≤ maxLen) (w : World) :
    Calls Try.prog 14 #[.string a] w fun e w' => ∃ (s : ByteArray) (k : Int), e = .returned (.tuple #[.string s, errv k]) ∧ QFloors a s k ∧ s.size ≤ maxLen ∧ Below w.heap.size w w' := by
  rcases goodQ_or_bad a with h1 | ⟨k, h⟩
  · refine (qfloor_good h1 w).mono ?_
    rintro e w' ⟨rfl, hb⟩
    refine ⟨_, 0, rfl, .inl ⟨rfl, h1, rfl⟩, size_ztxt_max (Nat.lt_trans (floor_lt h1) (by decide +kernel)), hb⟩
  · refine (qfloor_bad h ha w).mono ?_
    rintro e w' ⟨rfl, hb⟩
    exact ⟨_, k, by rw [errv_some h.ne], .inr ⟨h.ne, h, rfl⟩, Nat.zero_le _, hb⟩
theorem qmake_any (a b : ByteArray) (ha : a.size ≤ maxLen) (hb : b.size ≤ maxLen) (w : World) :
    Calls Try.prog 20 #[.string a, .string b] w fun e w' => ∃ (s : ByteArray) (k : Int), e = .returned (.tuple #[.string s, errv k]) ∧ QMakes a b s k ∧ s.size ≤ maxLen ∧ Below w.heap.size w w' := by
  rcases rightZ_or_wrong a b with ⟨h1, h2⟩ | ⟨k, h⟩
  · by_cases h0 : znum b = 0
    · refine (qmake_zero h1 h2 h0 w).mono ?_
      rintro e w' ⟨rfl, hb⟩
      exact ⟨_, 5, rfl, .inr ⟨by decide, rfl, .inr ⟨h1, h2, h0, rfl⟩⟩, Nat.zero_le _, hb⟩
    · refine (qmake_good h1 h2 h0 w).mono ?_
      rintro e w' ⟨rfl, hb⟩
      have hp : (10 : Nat) ^ 100 < 10 ^ 300 := by decide +kernel
      exact ⟨_, 0, rfl, .inl ⟨rfl, h1, h2, h0, rfl⟩, size_divInt (Nat.lt_trans (znum_lt h1) hp) (Nat.lt_trans (znum_lt h2) hp), hb⟩
  · refine (qmake_bad h ha hb w).mono ?_
    rintro e w' ⟨rfl, hb⟩
    exact ⟨_, k, by rw [errv_some h.ne], .inr ⟨h.ne, rfl, .inl h⟩, Nat.zero_le _, hb⟩

theorem minus_half (w : World) :
    Calls Try.prog 20 #[.string ⟨#[50]⟩, .string ⟨#[45, 52]⟩] w fun e w' => e = .returned (.tuple #[.string ⟨#[45, 49, 47, 50]⟩, .nilIface]) ∧ Below w.heap.size w w' := by
  have h := qmake_good (a := ⟨#[50]⟩) (b := ⟨#[45, 52]⟩) ⟨by decide, by decide⟩ ⟨by decide, by decide⟩ (by decide) w
  have e1 := qtxt_qnum (s := ⟨#[45, 49, 47, 50]⟩) (by decide +kernel)
  have e3 : Rat.divInt (znum ⟨#[50]⟩) (znum ⟨#[45, 52]⟩) = qnum ⟨#[45, 49, 47, 50]⟩ := by decide +kernel
  rw [e3, e1] at h
  exact h

set_option maxHeartbeats 400000 in
theorem halved_true (w : World) :
    Calls Try.prog 11 #[] w fun e w' => e = .returned (.bool true) ∧ Below w.heap.size w w' := by
  have H := hid (minus_half w)
  go_enter Try.func11, Try.ntmps11
  go_wp2_with fail
  refine H.out.mono ?_
  rintro e w' ⟨rfl, hb⟩
  go_wp2_with fail
  go_ret
  exact ⟨rfl, hb⟩

end Go.Proofs.Ytjeeepcnaaadmaa

