/-
  PLAIN NUMBERS: natural numbers as lists of limbs to the base 4294967296, the least one first: their value. Nothing of a program.
-/
namespace Go.Proofs.YtkdeopikojgboaaGreatDoor
namespace Num

def B : Nat := 4294967296
theorem B_eq : B = 4294967296 := rfl
theorem B_pos : 0 < B := by decide

/-- Limb i; 0 beyond the end. -/
def dg (l : List Nat) (i : Nat) : Nat := (l[i]?).getD 0
theorem dg_lt {l : List Nat} {i : Nat} (h : i < l.length) : dg l i = l[i] := by simp [dg, h]
theorem dg_ge {l : List Nat} {i : Nat} (h : l.length ≤ i) : dg l i = 0 := by simp [dg, h]
theorem dg_zeros (n i : Nat) : dg (List.replicate n 0) i = 0 := by simp only [dg, List.getElem?_replicate]; split <;> simp
theorem dg_take {l : List Nat} {i k : Nat} (h : i < k) : dg (l.take k) i = dg l i := by simp [dg, h]
theorem dg_drop {l : List Nat} {i k : Nat} : dg (l.drop k) i = dg l (k + i) := by simp [dg, List.getElem?_drop]

/-- The value of limbs, the least one first. -/
def val : List Nat → Nat
  | [] => 0
  | x :: xs => x + B * val xs

theorem val_nil : val [] = 0 := rfl
theorem val_cons (x : Nat) (xs : List Nat) : val (x :: xs) = x + B * val xs := rfl

theorem val_append (a b : List Nat) : val (a ++ b) = val a + B ^ a.length * val b := by
  induction a with
  | nil => simp [val]
  | cons x xs ih => simp only [List.cons_append, val_cons, ih, List.length_cons, Nat.pow_succ]; rw [Nat.mul_add, Nat.mul_comm (B ^ xs.length) B, Nat.mul_assoc]; omega

theorem val_split' (l : List Nat) (k : Nat) : val l = val (l.take k) + B ^ (l.take k).length * val (l.drop k) := by
  have := val_append (l.take k) (l.drop k)
  rw [List.take_append_drop] at this
  exact this

theorem val_single (x : Nat) : val [x] = x := by simp [val]

/-- One place more is read: what lies beyond the end counts 0. -/
theorem val_take_succ (l : List Nat) (k : Nat) : val (l.take (k + 1)) = val (l.take k) + dg l k * B ^ k := by
  by_cases h : k < l.length
  · rw [List.take_succ_eq_append_getElem h, val_append, val_single, List.length_take, Nat.min_eq_left (by omega), dg_lt h, Nat.mul_comm]
  · rw [List.take_of_length_le (by omega), List.take_of_length_le (by omega), dg_ge (by omega)]; omega

theorem val_take_all (l : List Nat) (k : Nat) (h : l.length ≤ k) : val (l.take k) = val l := by rw [List.take_of_length_le h]

/-- A limb is written behind those that were read. -/
theorem val_take_set (l : List Nat) (k x : Nat) (h : k < l.length) : val ((l.set k x).take (k + 1)) = val (l.take k) + x * B ^ k := by
  rw [val_take_succ, List.take_set_of_le (Nat.le_refl k)]
  rw [dg_lt (by simpa using h), List.getElem_set_self]

theorem val_take_set_le (l : List Nat) (k j x : Nat) (h : k ≤ j) : val ((l.set j x).take k) = val (l.take k) := by
  rw [List.take_set_of_le h]

theorem dg_set_self (l : List Nat) (k x : Nat) (h : k < l.length) : dg (l.set k x) k = x := by
  rw [dg_lt (by simpa using h), List.getElem_set_self]

theorem dg_set_ne (l : List Nat) (k j x : Nat) (h : j ≠ k) : dg (l.set k x) j = dg l j := by
  simp only [dg, List.getElem?_set]
  rw [if_neg (by omega)]

/-- One limb is written. -/
theorem val_set (l : List Nat) (k x : Nat) (h : k < l.length) : val (l.set k x) + dg l k * B ^ k = val l + x * B ^ k := by
  have e1 := val_split' (l.set k x) (k + 1)
  have e2 := val_split' l (k + 1)
  rw [List.drop_set_of_lt (by omega)] at e1
  rw [List.length_take, List.length_set] at e1
  rw [List.length_take] at e2
  have h1 := val_take_set l k x h
  have h2 := val_take_succ l k
  omega

/-- All limbs fit. -/
def Fits (l : List Nat) : Prop := ∀ i, dg l i < 4294967296

theorem Fits.nil : Fits [] := fun i => by simp [dg]
theorem Fits.take {l : List Nat} (h : Fits l) (k : Nat) : Fits (l.take k) := fun i => by
  have := h i
  simp only [dg, List.getElem?_take] at this ⊢
  split <;> simp_all
theorem Fits.drop {l : List Nat} (h : Fits l) (k : Nat) : Fits (l.drop k) := fun i => by
  have := h (k + i)
  simp only [dg, List.getElem?_drop] at this ⊢
  exact this
theorem Fits.set {l : List Nat} (h : Fits l) (k x : Nat) (hx : x < 4294967296) : Fits (l.set k x) := fun i => by
  by_cases e : i = k
  · subst e
    by_cases hl : i < l.length
    · rw [dg_set_self _ _ _ hl]; exact hx
    · rw [dg_ge (by simp; omega)]; omega
  · rw [dg_set_ne _ _ _ _ e]; exact h i
theorem Fits.append {a b : List Nat} (ha : Fits a) (hb : Fits b) : Fits (a ++ b) := fun i => by
  by_cases h : i < a.length
  · have := ha i
    simp only [dg] at this ⊢
    rw [List.getElem?_append_left h]; exact this
  · have := hb (i - a.length)
    simp only [dg] at this ⊢
    rw [List.getElem?_append_right (by omega)]; exact this
theorem Fits.single {x : Nat} (h : x < 4294967296) : Fits [x] := fun i => by
  match i with
  | 0 => simpa [dg] using h
  | i + 1 => simp [dg]
theorem Fits.zeros (n : Nat) : Fits (List.replicate n 0) := fun i => by
  simp only [dg, List.getElem?_replicate]; split <;> simp
theorem Fits.cons {x : Nat} {l : List Nat} (h : Fits (x :: l)) : x < 4294967296 ∧ Fits l := ⟨by simpa [dg] using h 0, fun i => by simpa [dg] using h (i + 1)⟩

theorem val_lt {l : List Nat} (h : Fits l) : val l < B ^ l.length := by
  induction l with
  | nil => simp [val]
  | cons x xs ih =>
    obtain ⟨h1, h2⟩ := h.cons
    have := ih h2
    rw [val_cons, List.length_cons, Nat.pow_succ, Nat.mul_comm (B ^ xs.length) B]
    have h3 : val xs + 1 ≤ B ^ xs.length := this
    have h4 := Nat.mul_le_mul_left B h3
    rw [Nat.mul_add] at h4
    simp only [B_eq] at h4 ⊢
    omega

theorem val_zeros (n : Nat) : val (List.replicate n 0) = 0 := by
  induction n with
  | zero => rfl
  | succ n ih => rw [List.replicate_succ, val_cons, ih]; rfl

theorem val_take_zeros (n k : Nat) : val ((List.replicate n 0).take k) = 0 := by
  rw [List.take_replicate]; exact val_zeros _

/-- No leading nought. -/
def Trim (l : List Nat) : Prop := l = [] ∨ 0 < dg l (l.length - 1)

theorem Trim.low {l : List Nat} (h : Trim l) (hn : l ≠ []) : B ^ (l.length - 1) ≤ val l := by
  rcases h with h | h
  · exact absurd h hn
  · have hl : 0 < l.length := List.length_pos_iff.2 hn
    have e := val_take_succ l (l.length - 1)
    rw [Nat.sub_add_cancel hl, List.take_length] at e
    rw [e]
    have := Nat.mul_le_mul_right (B ^ (l.length - 1)) h
    omega

theorem Trim.zero_iff {l : List Nat} (h : Trim l) : val l = 0 ↔ l = [] := by
  constructor
  · intro e
    apply Classical.byContradiction
    intro hn
    have := h.low hn
    have hp : 0 < B ^ (l.length - 1) := Nat.pow_pos B_pos
    omega
  · rintro rfl; rfl

/-- The greater length, the greater number. -/
theorem lt_of_length {x y : List Nat} (hx : Fits x) (hy : Trim y) (h : x.length < y.length) : val x < val y := by
  have hn : y ≠ [] := by intro e; subst e; simp at h
  have h1 := val_lt hx
  have h2 := hy.low hn
  have h3 : B ^ x.length ≤ B ^ (y.length - 1) := Nat.pow_le_pow_right B_pos (by omega)
  omega

theorem length_le_of_val {x : List Nat} (hx : Trim x) (k : Nat) (h : val x < B ^ k) : x.length ≤ k := by
  apply Classical.byContradiction
  intro hn
  have hne : x ≠ [] := by intro e; subst e; simp at hn
  have h2 := hx.low hne
  have h3 : B ^ k ≤ B ^ (x.length - 1) := Nat.pow_le_pow_right B_pos (by omega)
  omega

/-- Two numbers of like limbs from place k on are compared by the limbs below. -/
theorem val_split (l : List Nat) (k : Nat) : val l = val (l.take k) + B ^ k * val (l.drop k) := by
  by_cases h : k ≤ l.length
  · have := val_append (l.take k) (l.drop k)
    rw [List.take_append_drop, List.length_take, Nat.min_eq_left h] at this
    exact this
  · rw [List.take_of_length_le (by omega), List.drop_eq_nil_of_le (by omega)]; simp [val]

/-- The part of a step: the low limb stays, the rest is carried. -/
theorem carry_split (s p : Nat) : (s % 4294967296) * p + (s / 4294967296) * (p * B) = s * p := by
  have h := Nat.div_add_mod s 4294967296
  have e : s * p = (4294967296 * (s / 4294967296) + s % 4294967296) * p := by rw [h]
  rw [e, Nat.add_mul, B_eq, Nat.mul_comm p 4294967296, ← Nat.mul_assoc, Nat.mul_comm (s / 4294967296) 4294967296]
  omega

/-- How many limbs are left without leading noughts, out of the first n. -/
def tl (l : List Nat) : Nat → Nat
  | 0 => 0
  | n + 1 => if dg l n = 0 then tl l n else n + 1
def tlen (l : List Nat) : Nat := tl l l.length
theorem tl_zero (l : List Nat) : tl l 0 = 0 := rfl
theorem tl_skip {l : List Nat} {n : Nat} (h : dg l n = 0) : tl l (n + 1) = tl l n := by simp [tl, h]
theorem tl_stop {l : List Nat} {n : Nat} (h : dg l n ≠ 0) : tl l (n + 1) = n + 1 := by simp [tl, h]
theorem tl_le (l : List Nat) (n : Nat) : tl l n ≤ n := by
  induction n with
  | zero => exact Nat.le_refl _
  | succ n ih => unfold tl; split <;> omega
theorem tlen_le (l : List Nat) : tlen l ≤ l.length := tl_le l _
def trimL (l : List Nat) : List Nat := l.take (tlen l)
theorem length_trimL (l : List Nat) : (trimL l).length = tlen l := by
  rw [trimL, List.length_take, Nat.min_eq_left (tlen_le l)]
theorem val_take_tl (l : List Nat) (n : Nat) : val (l.take (tl l n)) = val (l.take n) := by
  induction n with
  | zero => rfl
  | succ n ih =>
    by_cases h : dg l n = 0
    · rw [tl_skip h, ih, val_take_succ, h]; omega
    · rw [tl_stop h]
theorem val_trimL (l : List Nat) : val (trimL l) = val l := by
  rw [trimL, tlen, val_take_tl, List.take_length]
theorem tl_top (l : List Nat) (n : Nat) (h : 0 < tl l n) : dg l (tl l n - 1) ≠ 0 := by
  induction n with
  | zero => simp [tl] at h
  | succ n ih =>
    by_cases e : dg l n = 0
    · rw [tl_skip e] at h ⊢; exact ih h
    · rw [tl_stop e]; exact e
theorem trim_trimL (l : List Nat) : Trim (trimL l) := by
  by_cases h : tlen l = 0
  · left; rw [trimL, h, List.take_zero]
  · right
    rw [length_trimL, trimL, dg_take (by omega)]
    have := tl_top l l.length (by rw [← tlen]; omega)
    rw [← tlen] at this
    omega
theorem fits_trimL {l : List Nat} (h : Fits l) : Fits (trimL l) := h.take _
theorem tlen_of_trim {l : List Nat} (h : Trim l) : tlen l = l.length := by
  rcases h with rfl | h
  · rfl
  · by_cases e : l.length = 0
    · rw [List.length_eq_zero_iff] at e; subst e; rfl
    · obtain ⟨n, hn⟩ : ∃ n, l.length = n + 1 := ⟨l.length - 1, by omega⟩
      unfold tlen
      rw [hn] at h ⊢
      exact tl_stop (by rw [Nat.add_sub_cancel] at h; omega)

theorem drop_dg {l : List Nat} {k : Nat} (h : k < l.length) : l.drop k = dg l k :: l.drop (k + 1) := by
  rw [List.drop_eq_getElem_cons h, dg_lt h]

/-- Of two numbers that are alike above limb k this limb decides, if it is not alike. -/
theorem val_lt_of_top {x y : List Nat} {k : Nat} (hx : Fits x) (hy : Fits y) (hd : x.drop (k + 1) = y.drop (k + 1)) (h1 : k < x.length) (h2 : k < y.length) (hne : dg x k ≠ dg y k) :
    val x < val y ↔ dg x k < dg y k := by
  have e1 := val_split x (k + 1)
  have e2 := val_split y (k + 1)
  rw [val_take_succ] at e1 e2
  rw [hd] at e1
  have b1 := val_lt (hx.take k)
  have b2 := val_lt (hy.take k)
  rw [List.length_take, Nat.min_eq_left (by omega)] at b1 b2
  generalize hP : B ^ k = P at *
  generalize B ^ (k + 1) * val (y.drop (k + 1)) = T at *
  constructor
  · intro h
    apply Classical.byContradiction
    intro hn
    have h3 : dg y k + 1 ≤ dg x k := by omega
    have h4 := Nat.mul_le_mul_right P h3
    rw [Nat.add_mul] at h4
    omega
  · intro h
    have h3 : dg x k + 1 ≤ dg y k := by omega
    have h4 := Nat.mul_le_mul_right P h3
    rw [Nat.add_mul] at h4
    omega

end Num
end Go.Proofs.YtkdeopikojgboaaGreatDoor

/-
  PLAIN TEXTS: decimal digits. Nothing of a program.
-/
namespace Go.Proofs.YtkdeopikojgboaaGreatDoor
namespace Num

def isDig (b : UInt8) : Bool := decide (48 ≤ b.toNat ∧ b.toNat ≤ 57)
/-- A natural number's text: digits, without a leading 0. -/
def isNat (l : List UInt8) : Bool := !l.isEmpty && !(l.head? == some 48 && !(l == [48])) && l.all isDig
def dval (l : List UInt8) : Nat := l.foldl (fun n b => 10 * n + (b.toNat - 48)) 0

theorem isNat_nil : isNat [] = false := rfl
theorem isNat_lead {l : List UInt8} (h1 : l.head? = some 48) (h2 : (l == [48]) = false) : isNat l = false := by
  simp [isNat, h1, h2]
theorem isNat_rest {l : List UInt8} (h0 : l ≠ []) (h : l.head? ≠ some 48 ∨ (l == [48]) = true) : isNat l = l.all isDig := by
  rw [isNat]
  have e0 : l.isEmpty = false := by simpa using h0
  rw [e0]
  rcases h with h | h
  · have : (l.head? == some 48) = false := by simpa using h
    simp [this]
  · simp [h]

theorem dval_nil : dval [] = 0 := rfl
theorem dval_snoc (l : List UInt8) (b : UInt8) : dval (l ++ [b]) = 10 * dval l + (b.toNat - 48) := by
  simp [dval, List.foldl_append]
theorem foldl_dval (l : List UInt8) (n : Nat) : l.foldl (fun n b => 10 * n + (b.toNat - 48)) n = n * 10 ^ l.length + dval l := by
  induction l generalizing n with
  | nil => simp [dval]
  | cons b l ih =>
    have e : dval (b :: l) = (10 * 0 + (b.toNat - 48)) * 10 ^ l.length + dval l := by rw [dval, List.foldl_cons, ih]
    rw [List.foldl_cons, ih, e, List.length_cons, Nat.pow_succ]
    simp only [Nat.mul_zero, Nat.zero_add, Nat.add_mul]
    rw [Nat.mul_comm 10 n, Nat.mul_assoc, Nat.mul_comm 10 (10 ^ l.length)]
    omega
theorem dval_append (a b : List UInt8) : dval (a ++ b) = dval a * 10 ^ b.length + dval b := by
  rw [dval, List.foldl_append, foldl_dval]; rfl
theorem all_take {l : List UInt8} (h : l.all isDig = true) (k : Nat) : (l.take k).all isDig = true := by
  rw [List.all_eq_true] at h ⊢
  exact fun x hx => h x (List.mem_of_mem_take hx)
theorem all_drop {l : List UInt8} (h : l.all isDig = true) (k : Nat) : (l.drop k).all isDig = true := by
  rw [List.all_eq_true] at h ⊢
  exact fun x hx => h x (List.mem_of_mem_drop hx)
theorem dval_lt {l : List UInt8} (h : l.all isDig = true) : dval l < 10 ^ l.length := by
  induction l with
  | nil => simp [dval]
  | cons b l ih =>
    rw [List.all_cons, Bool.and_eq_true] at h
    have h1 := ih h.2
    have h2 : b.toNat ≤ 57 := by have := h.1; simp [isDig] at this; exact this.2
    have e := dval_append [b] l
    rw [List.singleton_append] at e
    have e2 : dval [b] = b.toNat - 48 := by simp [dval]
    rw [e, e2, List.length_cons, Nat.pow_succ]
    have h3 := Nat.mul_le_mul_right (10 ^ l.length) (show b.toNat - 48 ≤ 9 by omega)
    omega

/-- The digit n. -/
def dch (n : Nat) : UInt8 := UInt8.ofNat (48 + n)

/-- The digits of a number. -/
def dtext (n : Nat) : List UInt8 := if _h : n < 10 then [dch n] else dtext (n / 10) ++ [dch (n % 10)]
  termination_by n
  decreasing_by omega

theorem dtext_small {n : Nat} (h : n < 10) : dtext n = [dch n] := by rw [dtext, dif_pos h]
theorem dtext_big {n : Nat} (h : ¬ n < 10) : dtext n = dtext (n / 10) ++ [dch (n % 10)] := by rw [dtext, dif_neg h]
theorem toNat_dig {n : Nat} (h : n < 10) : (dch n).toNat = 48 + n := by
  rw [dch, UInt8.toNat_ofNat']; omega
theorem isDig_dig {n : Nat} (h : n < 10) : isDig (dch n) = true := by
  simp only [isDig, toNat_dig h, decide_eq_true_eq]; omega
theorem dtext_ne (n : Nat) : dtext n ≠ [] := by
  by_cases h : n < 10
  · rw [dtext_small h]; simp
  · rw [dtext_big h]; simp
theorem dtext_all (n : Nat) : (dtext n).all isDig = true := by
  induction n using Nat.strongRecOn with
  | _ n ih =>
    by_cases h : n < 10
    · rw [dtext_small h]; simp [isDig_dig h]
    · rw [dtext_big h, List.all_append, ih (n / 10) (by omega)]
      simp [isDig_dig (Nat.mod_lt n (show 0 < 10 by omega))]
theorem dval_dtext (n : Nat) : dval (dtext n) = n := by
  induction n using Nat.strongRecOn with
  | _ n ih =>
    by_cases h : n < 10
    · rw [dtext_small h]
      have := dval_snoc [] (dch n)
      rw [List.nil_append, toNat_dig h, dval_nil] at this
      rw [this]; omega
    · rw [dtext_big h, dval_snoc, ih (n / 10) (by omega), toNat_dig (Nat.mod_lt n (by omega))]; omega
theorem head_dtext (n : Nat) (h : n ≠ 0) : (dtext n).head? ≠ some 48 := by
  induction n using Nat.strongRecOn with
  | _ n ih =>
    by_cases hs : n < 10
    · rw [dtext_small hs]
      intro e
      simp only [List.head?_cons, Option.some.injEq] at e
      have := congrArg UInt8.toNat e
      rw [toNat_dig hs] at this
      have h48 : (48 : UInt8).toNat = 48 := rfl
      omega
    · rw [dtext_big hs]
      have hne := dtext_ne (n / 10)
      have h1 := ih (n / 10) (by omega) (by omega)
      cases hd : dtext (n / 10) with
      | nil => exact absurd hd hne
      | cons a t => rw [hd] at h1; simpa using h1
theorem dtext_zero : dtext 0 = [48] := by rw [dtext_small (by omega)]; rfl
theorem isNat_dtext (n : Nat) : isNat (dtext n) = true := by
  rw [isNat_rest (dtext_ne n) ?_, dtext_all]
  by_cases h : n = 0
  · right; rw [h, dtext_zero]; rfl
  · left; exact head_dtext n h

/-- A list of digits whose value is not 0 and that begins with no 0 is the text of its value. -/
theorem dtext_dval {l : List UInt8} (h : isNat l = true) : dtext (dval l) = l := by
  obtain ⟨n, hn⟩ : ∃ n, l.length = n := ⟨_, rfl⟩
  induction n using Nat.strongRecOn generalizing l with
  | _ n ih =>
    have hne : l ≠ [] := by intro e; rw [e] at h; simp [isNat_nil] at h
    have hall : l.all isDig = true := by
      rw [isNat, Bool.and_eq_true] at h; exact h.2
    have hlead : l.head? ≠ some 48 ∨ (l == [48]) = true := by
      by_cases h1 : l.head? = some 48
      · right
        cases h2 : (l == [48]) with
        | true => rfl
        | false => rw [isNat_lead h1 h2] at h; simp at h
      · left; exact h1
    obtain ⟨a, b, rfl⟩ : ∃ a b, l = a ++ [b] := ⟨l.dropLast, l.getLast hne, (List.dropLast_concat_getLast hne).symm⟩
    have hb : isDig b = true := by rw [List.all_append, Bool.and_eq_true] at hall; simpa using hall.2
    have hb2 : 48 ≤ b.toNat ∧ b.toNat ≤ 57 := by simpa [isDig] using hb
    have hbe : dch (b.toNat - 48) = b := by
      apply UInt8.toNat_inj.1
      rw [toNat_dig (by omega)]; omega
    rw [dval_snoc]
    by_cases ha : a = []
    · subst ha
      rw [dval_nil, dtext_small (by omega)]
      simp only [Nat.mul_zero, Nat.zero_add, List.nil_append]
      rw [hbe]
    · have hlead2 : a.head? ≠ some 48 := by
        rcases hlead with h1 | h1
        · intro e
          apply h1
          cases a with
          | nil => exact absurd rfl ha
          | cons x t => simpa using e
        · have := congrArg List.length (eq_of_beq h1)
          simp at this
          exact absurd this ha
      have halla : a.all isDig = true := by rw [List.all_append, Bool.and_eq_true] at hall; exact hall.1
      have hna : isNat a = true := by rw [isNat_rest ha (.inl hlead2)]; exact halla
      have e := ih a.length (by rw [← hn]; simp) hna rfl
      have hpos : 0 < dval a := by
        apply Nat.pos_of_ne_zero
        intro e0
        rw [e0, dtext_zero] at e
        rw [← e] at hlead2
        simp at hlead2
      rw [dtext_big (by omega), show (10 * dval a + (b.toNat - 48)) / 10 = dval a by omega, show (10 * dval a + (b.toNat - 48)) % 10 = b.toNat - 48 by omega, e, hbe]

theorem dtext_inj {a b : Nat} (h : dtext a = dtext b) : a = b := by
  have := congrArg dval h
  rwa [dval_dtext, dval_dtext] at this

theorem isNat_all {l : List UInt8} (h : isNat l = true) : l.all isDig = true := by
  rw [isNat, Bool.and_eq_true] at h; exact h.2
theorem isNat_ne {l : List UInt8} (h : isNat l = true) : l ≠ [] := by
  intro e; rw [e, isNat_nil] at h; simp at h

theorem length_dtext_le {n k : Nat} (h : n < 10 ^ k) (hk : 0 < k) : (dtext n).length ≤ k := by
  induction k generalizing n with
  | zero => omega
  | succ k ih =>
    by_cases hs : n < 10
    · rw [dtext_small hs]; simp
    · rw [dtext_big hs, List.length_append]
      by_cases hk0 : k = 0
      · subst hk0; simp at h; omega
      · have := ih (n := n / 10) (by rw [Nat.pow_succ] at h; omega) (by omega)
        simp only [List.length_singleton]
        omega

/-! ### Digits, the least one first -/
def rval : List Nat → Nat
  | [] => 0
  | d :: ds => d + 10 * rval ds
theorem rval_append (a b : List Nat) : rval (a ++ b) = rval a + 10 ^ a.length * rval b := by
  induction a with
  | nil => simp [rval]
  | cons x xs ih => simp only [List.cons_append, rval, ih, List.length_cons, Nat.pow_succ]; rw [Nat.mul_add, Nat.mul_comm (10 ^ xs.length) 10, Nat.mul_assoc]; omega
theorem rval_snoc (a : List Nat) (d : Nat) : rval (a ++ [d]) = rval a + 10 ^ a.length * d := by rw [rval_append]; simp [rval]
theorem rval_take_succ (l : List Nat) (k : Nat) (h : k < l.length) : rval (l.take (k + 1)) = rval (l.take k) + 10 ^ k * dg l k := by
  rw [List.take_succ_eq_append_getElem h, rval_snoc, List.length_take, Nat.min_eq_left (by omega), dg_lt h]

/-- All digits are below 10. -/
def Low (ds : List Nat) : Prop := ∀ i, dg ds i < 10
theorem Low.nil : Low [] := fun i => by simp [dg]
theorem Low.snoc {ds : List Nat} {d : Nat} (h : Low ds) (hd : d < 10) : Low (ds ++ [d]) := fun i => by
  by_cases h1 : i < ds.length
  · have := h i; simp only [dg] at this ⊢; rw [List.getElem?_append_left h1]; exact this
  · simp only [dg]; rw [List.getElem?_append_right (by omega)]
    by_cases h2 : i - ds.length = 0
    · rw [h2]; simpa using hd
    · rw [List.getElem?_eq_none (by simp; omega)]; simp
theorem Low.take {ds : List Nat} (h : Low ds) (k : Nat) : Low (ds.take k) := fun i => by
  have := h i
  simp only [dg, List.getElem?_take] at this ⊢
  split <;> simp_all
theorem Low.mem {ds : List Nat} (h : Low ds) : ∀ d ∈ ds, d < 10 := by
  intro d hd
  obtain ⟨i, hi, rfl⟩ := List.mem_iff_getElem.1 hd
  have := h i
  rwa [dg_lt hi] at this

/-- The text of digits, the least one first. -/
def rtext (ds : List Nat) : List UInt8 := ds.reverse.map dch
theorem dval_rtext {ds : List Nat} (h : Low ds) : dval (rtext ds) = rval ds := by
  have hm := h.mem
  clear h
  induction ds with
  | nil => rfl
  | cons d ds ih =>
    have h1 : rtext (d :: ds) = rtext ds ++ [dch d] := by simp [rtext]
    rw [h1, dval_snoc, ih (fun x hx => hm x (List.mem_cons_of_mem _ hx)), toNat_dig (hm d List.mem_cons_self), rval]
    omega
theorem all_rtext {ds : List Nat} (h : Low ds) : (rtext ds).all isDig = true := by
  rw [List.all_eq_true]
  intro x hx
  simp only [rtext, List.mem_map, List.mem_reverse] at hx
  obtain ⟨d, hd, rfl⟩ := hx
  exact isDig_dig (h.mem d hd)
theorem rtext_eq {ds : List Nat} (h : Low ds) (hn : 0 < ds.length) (htop : dg ds (ds.length - 1) ≠ 0) : rtext ds = dtext (rval ds) := by
  have hne : rtext ds ≠ [] := by
    intro e
    have := congrArg List.length e
    simp [rtext] at this
    rw [this] at hn; simp at hn
  have hh : (rtext ds).head? ≠ some 48 := by
    rw [rtext, List.head?_map, List.head?_reverse, List.getLast?_eq_getElem?]
    rw [List.getElem?_eq_getElem (by omega), Option.map_some]
    intro e
    rw [dg_lt (by omega)] at htop
    have h9 := h.mem _ (List.getElem_mem (show ds.length - 1 < ds.length by omega))
    have h2 := congrArg UInt8.toNat (Option.some.inj e)
    rw [toNat_dig h9] at h2
    have h48 : (48 : UInt8).toNat = 48 := rfl
    omega
  have hN : isNat (rtext ds) = true := by rw [isNat_rest hne (.inl hh)]; exact all_rtext h
  have := dtext_dval hN
  rw [dval_rtext h] at this
  exact this.symm

theorem ext_dg {a b : List Nat} (hl : a.length = b.length) (h : ∀ t, t < a.length → dg a t = dg b t) : a = b := by
  apply List.ext_getElem hl
  intro i h1 h2
  have := h i h1
  rwa [dg_lt h1, dg_lt h2] at this
theorem dg_reverse {l : List Nat} {i : Nat} (h : i < l.length) : dg l.reverse i = dg l (l.length - 1 - i) := by
  rw [dg_lt (by simpa using h), dg_lt (by omega), List.getElem_reverse]

/-- So few digits. -/
theorem digits_few {N n k : Nat} (h1 : N < B ^ n) (h2 : 10 ^ k ≤ N) : k ≤ 10 * n := by
  apply Classical.byContradiction
  intro hh
  have h3 : B ^ n ≤ (10 ^ 10) ^ n := Nat.pow_le_pow_left (by rw [B_eq]; omega) n
  rw [← Nat.pow_mul] at h3
  have h4 : 10 ^ (10 * n) ≤ 10 ^ k := Nat.pow_le_pow_right (by omega) (by omega)
  omega

end Num
end Go.Proofs.YtkdeopikojgboaaGreatDoor

/-
  PLAIN NUMBERS to the base 10000, four digits a place, the least one first: their value. Nothing of a program.
-/
namespace Go.Proofs.YtkdeopikojgboaaGreatDoor
namespace Num4
open Num (dg dg_lt dg_ge dg_zeros dg_take dg_drop dg_set_self dg_set_ne tl tlen tl_zero tl_skip tl_stop tl_le tlen_le trimL length_trimL tl_top drop_dg)

def B : Nat := 10000
theorem B_eq : B = 10000 := rfl
theorem B_pos : 0 < B := by decide
/-- The value of limbs, the least one first. -/
def val : List Nat → Nat
  | [] => 0
  | x :: xs => x + B * val xs
theorem val_nil : val [] = 0 := rfl
theorem val_cons (x : Nat) (xs : List Nat) : val (x :: xs) = x + B * val xs := rfl
theorem val_append (a b : List Nat) : val (a ++ b) = val a + B ^ a.length * val b := by
  induction a with
  | nil => simp [val]
  | cons x xs ih => simp only [List.cons_append, val_cons, ih, List.length_cons, Nat.pow_succ]; rw [Nat.mul_add, Nat.mul_comm (B ^ xs.length) B, Nat.mul_assoc]; omega
theorem val_split' (l : List Nat) (k : Nat) : val l = val (l.take k) + B ^ (l.take k).length * val (l.drop k) := by
  have := val_append (l.take k) (l.drop k)
  rw [List.take_append_drop] at this
  exact this
theorem val_single (x : Nat) : val [x] = x := by simp [val]
/-- One place more is read: what lies beyond the end counts 0. -/
theorem val_take_succ (l : List Nat) (k : Nat) : val (l.take (k + 1)) = val (l.take k) + dg l k * B ^ k := by
  by_cases h : k < l.length
  · rw [List.take_succ_eq_append_getElem h, val_append, val_single, List.length_take, Nat.min_eq_left (by omega), dg_lt h, Nat.mul_comm]
  · rw [List.take_of_length_le (by omega), List.take_of_length_le (by omega), dg_ge (by omega)]; omega
theorem val_take_all (l : List Nat) (k : Nat) (h : l.length ≤ k) : val (l.take k) = val l := by rw [List.take_of_length_le h]
/-- A limb is written behind those that were read. -/
theorem val_take_set (l : List Nat) (k x : Nat) (h : k < l.length) : val ((l.set k x).take (k + 1)) = val (l.take k) + x * B ^ k := by
  rw [val_take_succ, List.take_set_of_le (Nat.le_refl k)]
  rw [dg_lt (by simpa using h), List.getElem_set_self]
theorem val_take_set_le (l : List Nat) (k j x : Nat) (h : k ≤ j) : val ((l.set j x).take k) = val (l.take k) := by
  rw [List.take_set_of_le h]
/-- One limb is written. -/
theorem val_set (l : List Nat) (k x : Nat) (h : k < l.length) : val (l.set k x) + dg l k * B ^ k = val l + x * B ^ k := by
  have e1 := val_split' (l.set k x) (k + 1)
  have e2 := val_split' l (k + 1)
  rw [List.drop_set_of_lt (by omega)] at e1
  rw [List.length_take, List.length_set] at e1
  rw [List.length_take] at e2
  have h1 := val_take_set l k x h
  have h2 := val_take_succ l k
  omega
/-- All limbs fit. -/
def Fits (l : List Nat) : Prop := ∀ i, dg l i < 10000
theorem Fits.nil : Fits [] := fun i => by simp [dg]
theorem Fits.take {l : List Nat} (h : Fits l) (k : Nat) : Fits (l.take k) := fun i => by
  have := h i
  simp only [dg, List.getElem?_take] at this ⊢
  split <;> simp_all
theorem Fits.drop {l : List Nat} (h : Fits l) (k : Nat) : Fits (l.drop k) := fun i => by
  have := h (k + i)
  simp only [dg, List.getElem?_drop] at this ⊢
  exact this
theorem Fits.set {l : List Nat} (h : Fits l) (k x : Nat) (hx : x < 10000) : Fits (l.set k x) := fun i => by
  by_cases e : i = k
  · subst e
    by_cases hl : i < l.length
    · rw [dg_set_self _ _ _ hl]; exact hx
    · rw [dg_ge (by simp; omega)]; omega
  · rw [dg_set_ne _ _ _ _ e]; exact h i
theorem Fits.append {a b : List Nat} (ha : Fits a) (hb : Fits b) : Fits (a ++ b) := fun i => by
  by_cases h : i < a.length
  · have := ha i
    simp only [dg] at this ⊢
    rw [List.getElem?_append_left h]; exact this
  · have := hb (i - a.length)
    simp only [dg] at this ⊢
    rw [List.getElem?_append_right (by omega)]; exact this
theorem Fits.single {x : Nat} (h : x < 10000) : Fits [x] := fun i => by
  match i with
  | 0 => simpa [dg] using h
  | i + 1 => simp [dg]
theorem Fits.zeros (n : Nat) : Fits (List.replicate n 0) := fun i => by
  simp only [dg, List.getElem?_replicate]; split <;> simp
theorem Fits.cons {x : Nat} {l : List Nat} (h : Fits (x :: l)) : x < 10000 ∧ Fits l := ⟨by simpa [dg] using h 0, fun i => by simpa [dg] using h (i + 1)⟩
theorem val_lt {l : List Nat} (h : Fits l) : val l < B ^ l.length := by
  induction l with
  | nil => simp [val]
  | cons x xs ih =>
    obtain ⟨h1, h2⟩ := h.cons
    have := ih h2
    rw [val_cons, List.length_cons, Nat.pow_succ, Nat.mul_comm (B ^ xs.length) B]
    have h3 : val xs + 1 ≤ B ^ xs.length := this
    have h4 := Nat.mul_le_mul_left B h3
    rw [Nat.mul_add] at h4
    simp only [B_eq] at h4 ⊢
    omega
theorem val_zeros (n : Nat) : val (List.replicate n 0) = 0 := by
  induction n with
  | zero => rfl
  | succ n ih => rw [List.replicate_succ, val_cons, ih]; rfl
theorem val_take_zeros (n k : Nat) : val ((List.replicate n 0).take k) = 0 := by
  rw [List.take_replicate]; exact val_zeros _
/-- No leading nought. -/
def Trim (l : List Nat) : Prop := l = [] ∨ 0 < dg l (l.length - 1)
theorem Trim.low {l : List Nat} (h : Trim l) (hn : l ≠ []) : B ^ (l.length - 1) ≤ val l := by
  rcases h with h | h
  · exact absurd h hn
  · have hl : 0 < l.length := List.length_pos_iff.2 hn
    have e := val_take_succ l (l.length - 1)
    rw [Nat.sub_add_cancel hl, List.take_length] at e
    rw [e]
    have := Nat.mul_le_mul_right (B ^ (l.length - 1)) h
    omega
theorem Trim.zero_iff {l : List Nat} (h : Trim l) : val l = 0 ↔ l = [] := by
  constructor
  · intro e
    apply Classical.byContradiction
    intro hn
    have := h.low hn
    have hp : 0 < B ^ (l.length - 1) := Nat.pow_pos B_pos
    omega
  · rintro rfl; rfl
/-- The greater length, the greater number. -/
theorem lt_of_length {x y : List Nat} (hx : Fits x) (hy : Trim y) (h : x.length < y.length) : val x < val y := by
  have hn : y ≠ [] := by intro e; subst e; simp at h
  have h1 := val_lt hx
  have h2 := hy.low hn
  have h3 : B ^ x.length ≤ B ^ (y.length - 1) := Nat.pow_le_pow_right B_pos (by omega)
  omega
theorem length_le_of_val {x : List Nat} (hx : Trim x) (k : Nat) (h : val x < B ^ k) : x.length ≤ k := by
  apply Classical.byContradiction
  intro hn
  have hne : x ≠ [] := by intro e; subst e; simp at hn
  have h2 := hx.low hne
  have h3 : B ^ k ≤ B ^ (x.length - 1) := Nat.pow_le_pow_right B_pos (by omega)
  omega
/-- Two numbers of like limbs from place k on are compared by the limbs below. -/
theorem val_split (l : List Nat) (k : Nat) : val l = val (l.take k) + B ^ k * val (l.drop k) := by
  by_cases h : k ≤ l.length
  · have := val_append (l.take k) (l.drop k)
    rw [List.take_append_drop, List.length_take, Nat.min_eq_left h] at this
    exact this
  · rw [List.take_of_length_le (by omega), List.drop_eq_nil_of_le (by omega)]; simp [val]
/-- The part of a step: the low limb stays, the rest is carried. -/
theorem carry_split (s p : Nat) : (s % 10000) * p + (s / 10000) * (p * B) = s * p := by
  have h := Nat.div_add_mod s 10000
  have e : s * p = (10000 * (s / 10000) + s % 10000) * p := by rw [h]
  rw [e, Nat.add_mul, B_eq, Nat.mul_comm p 10000, ← Nat.mul_assoc, Nat.mul_comm (s / 10000) 10000]
  omega
theorem val_take_tl (l : List Nat) (n : Nat) : val (l.take (tl l n)) = val (l.take n) := by
  induction n with
  | zero => rfl
  | succ n ih =>
    by_cases h : dg l n = 0
    · rw [tl_skip h, ih, val_take_succ, h]; omega
    · rw [tl_stop h]
theorem val_trimL (l : List Nat) : val (trimL l) = val l := by
  rw [trimL, tlen, val_take_tl, List.take_length]
theorem trim_trimL (l : List Nat) : Trim (trimL l) := by
  by_cases h : tlen l = 0
  · left; rw [trimL, h, List.take_zero]
  · right
    rw [length_trimL, trimL, dg_take (by omega)]
    have := tl_top l l.length (by rw [← tlen]; omega)
    rw [← tlen] at this
    omega
theorem fits_trimL {l : List Nat} (h : Fits l) : Fits (trimL l) := h.take _
theorem tlen_of_trim {l : List Nat} (h : Trim l) : tlen l = l.length := by
  rcases h with rfl | h
  · rfl
  · by_cases e : l.length = 0
    · rw [List.length_eq_zero_iff] at e; subst e; rfl
    · obtain ⟨n, hn⟩ : ∃ n, l.length = n + 1 := ⟨l.length - 1, by omega⟩
      unfold tlen
      rw [hn] at h ⊢
      exact tl_stop (by rw [Nat.add_sub_cancel] at h; omega)
/-- Of two numbers that are alike above limb k this limb decides, if it is not alike. -/
theorem val_lt_of_top {x y : List Nat} {k : Nat} (hx : Fits x) (hy : Fits y) (hd : x.drop (k + 1) = y.drop (k + 1)) (h1 : k < x.length) (h2 : k < y.length) (hne : dg x k ≠ dg y k) :
    val x < val y ↔ dg x k < dg y k := by
  have e1 := val_split x (k + 1)
  have e2 := val_split y (k + 1)
  rw [val_take_succ] at e1 e2
  rw [hd] at e1
  have b1 := val_lt (hx.take k)
  have b2 := val_lt (hy.take k)
  rw [List.length_take, Nat.min_eq_left (by omega)] at b1 b2
  generalize hP : B ^ k = P at *
  generalize B ^ (k + 1) * val (y.drop (k + 1)) = T at *
  constructor
  · intro h
    apply Classical.byContradiction
    intro hn
    have h3 : dg y k + 1 ≤ dg x k := by omega
    have h4 := Nat.mul_le_mul_right P h3
    rw [Nat.add_mul] at h4
    omega
  · intro h
    have h3 : dg x k + 1 ≤ dg y k := by omega
    have h4 := Nat.mul_le_mul_right P h3
    rw [Nat.add_mul] at h4
    omega

end Num4
end Go.Proofs.YtkdeopikojgboaaGreatDoor

/-
  THE EXTENDED EUCLIDEAN ALGORITHM, on integers (nothing of a program).
-/
namespace Go.Proofs.YtkdeopikojgboaaGreatDoor
namespace Num
set_option linter.unusedVariables false

/-- The greatest divisor of both and how it is made of them, by the document's recursion. -/
def zg (a b : Int) : Int × Int × Int :=
  if h : b = 0 then ((a.natAbs : Int), a.sign, 0)
  else
    let t := zg b (a % b)
    (t.1, t.2.2, t.2.1 - a / b * t.2.2)
termination_by b.natAbs
decreasing_by
  have h1 := Int.emod_nonneg a h
  have h2 := Int.emod_lt a h
  omega

theorem zg_zero (a : Int) : zg a 0 = ((a.natAbs : Int), a.sign, 0) := by rw [zg]; simp
theorem zg_step (a b : Int) (h : b ≠ 0) : zg a b = ((zg b (a % b)).1, (zg b (a % b)).2.2, (zg b (a % b)).2.1 - a / b * (zg b (a % b)).2.2) := by
  rw [zg]; simp [h]

theorem zg_ind {P : Int → Int → Prop} (h0 : ∀ a, P a 0) (h1 : ∀ a b, b ≠ 0 → P b (a % b) → P a b) (a b : Int) : P a b := by
  have : ∀ n : Nat, ∀ a b : Int, b.natAbs ≤ n → P a b := by
    intro n
    induction n with
    | zero => intro a b h; rw [show b = 0 by omega]; exact h0 a
    | succ n ih =>
      intro a b h
      by_cases hb : b = 0
      · subst hb; exact h0 a
      · refine h1 a b hb (ih _ _ ?_)
        have e1 := Int.emod_nonneg a hb
        have e2 := Int.emod_lt a hb
        omega
  exact this _ a b (Nat.le_refl _)

theorem gcd_emod (a b : Int) : Int.gcd (a % b) b = Int.gcd a b := by
  have h := Int.gcd_add_mul_left_left b (a % b) (a / b)
  rw [Int.emod_add_mul_ediv] at h
  exact h.symm

theorem zg_gcd (a b : Int) : (zg a b).1 = (Int.gcd a b : Int) := by
  refine zg_ind (P := fun a b => (zg a b).1 = (Int.gcd a b : Int)) ?_ ?_ a b
  · intro a; rw [zg_zero]; simp
  · intro a b hb ih
    rw [zg_step a b hb]
    show (zg b (a % b)).1 = _
    rw [ih, Int.gcd_comm b (a % b), gcd_emod]

theorem zg_made (a b : Int) : (zg a b).2.1 * a + (zg a b).2.2 * b = (zg a b).1 := by
  refine zg_ind (P := fun a b => (zg a b).2.1 * a + (zg a b).2.2 * b = (zg a b).1) ?_ ?_ a b
  · intro a; rw [zg_zero]; simp [Int.sign_mul_self]
  · intro a b hb ih
    rw [zg_step a b hb]
    show (zg b (a % b)).2.2 * a + ((zg b (a % b)).2.1 - a / b * (zg b (a % b)).2.2) * b = (zg b (a % b)).1
    rw [← ih]
    have h := Int.mul_ediv_add_emod a b
    generalize (zg b (a % b)).2.2 = v at *
    generalize (zg b (a % b)).2.1 = u at *
    generalize a % b = r at *
    generalize a / b = q at *
    rw [← h]
    simp only [Int.sub_mul, Int.mul_add]
    rw [show v * (b * q) = q * v * b by rw [Int.mul_comm b q, ← Int.mul_assoc, Int.mul_comm v q]]
    omega

theorem zg_small (a b : Int) (hb : b ≠ 0) : (zg a b).2.1.natAbs ≤ b.natAbs ∧ (zg a b).2.2.natAbs ≤ max a.natAbs 1 := by
  revert hb
  refine zg_ind (P := fun a b => b ≠ 0 → (zg a b).2.1.natAbs ≤ b.natAbs ∧ (zg a b).2.2.natAbs ≤ max a.natAbs 1) ?_ ?_ a b
  · intro a h; exact absurd rfl h
  · intro a b hb ih _
    have hm := zg_made a b
    rw [zg_gcd] at hm
    by_cases hr : a % b = 0
    · rw [zg_step a b hb, hr, zg_zero]
      show (0 : Int).natAbs ≤ _ ∧ (b.sign - a / b * 0).natAbs ≤ _
      rw [Int.mul_zero, Int.sub_zero]
      refine ⟨by simp, ?_⟩
      have : b.sign.natAbs ≤ 1 := by rw [Int.natAbs_sign]; split <;> omega
      omega
    · have h1 := ih hr
      have h2 : (zg a b).2.1.natAbs ≤ b.natAbs := by
        rw [zg_step a b hb]
        show (zg b (a % b)).2.2.natAbs ≤ _
        have := h1.2
        omega
      refine ⟨h2, ?_⟩
      have e1 := Int.emod_nonneg a hb
      have e2 := Int.emod_lt a hb
      have hg : Int.gcd a b < b.natAbs := by
        have h3 : Int.gcd a b = Int.gcd b (a % b) := by
          rw [Int.gcd_comm b (a % b), gcd_emod]
        have h4 : Int.gcd b (a % b) ≤ (a % b).natAbs := Nat.le_of_dvd (by omega) (Int.natAbs_dvd_natAbs.2 (Int.gcd_dvd_right b (a % b)) |> fun h => by simpa using h)
        omega
      have h5 : ((zg a b).2.2 * b).natAbs ≤ Int.gcd a b + (zg a b).2.1.natAbs * a.natAbs := by
        have h6 : (zg a b).2.2 * b = (Int.gcd a b : Int) - (zg a b).2.1 * a := by omega
        rw [h6]
        refine Nat.le_trans (Int.natAbs_sub_le _ _) ?_
        rw [Int.natAbs_mul]
        simp
      rw [Int.natAbs_mul] at h5
      have h7 : (zg a b).2.1.natAbs * a.natAbs ≤ b.natAbs * a.natAbs := Nat.mul_le_mul_right _ h2
      have h8 : (zg a b).2.2.natAbs * b.natAbs < (a.natAbs + 1) * b.natAbs := by
        rw [Nat.add_mul, Nat.one_mul, Nat.mul_comm a.natAbs]
        omega
      have := Nat.lt_of_mul_lt_mul_right h8
      omega

end Num
end Go.Proofs.YtkdeopikojgboaaGreatDoor

/-
  INTERVALS: what holds of least and greatest of products and quotients. Nothing of a program.
-/
namespace Go.Proofs.YtkdeopikojgboaaGreatDoor
set_option linter.unusedVariables false

def mn (a b : Rat) : Rat := if b < a then b else a
def mx (a b : Rat) : Rat := if a < b then b else a
theorem mn_le_l (a b : Rat) : mn a b ≤ a := by unfold mn; split <;> grind
theorem mn_le_r (a b : Rat) : mn a b ≤ b := by unfold mn; split <;> grind
theorem le_mx_l (a b : Rat) : a ≤ mx a b := by unfold mx; split <;> grind
theorem le_mx_r (a b : Rat) : b ≤ mx a b := by unfold mx; split <;> grind
theorem mn_or (a b : Rat) : mn a b = a ∨ mn a b = b := by unfold mn; split <;> simp
theorem mx_or (a b : Rat) : mx a b = a ∨ mx a b = b := by unfold mx; split <;> simp
/-- Least and greatest of four. -/
def lo4 (a b c d : Rat) : Rat := mn (mn (mn a b) c) d
def hi4 (a b c d : Rat) : Rat := mx (mx (mx a b) c) d
theorem lo4_le (a b c d : Rat) : lo4 a b c d ≤ a ∧ lo4 a b c d ≤ b ∧ lo4 a b c d ≤ c ∧ lo4 a b c d ≤ d := by
  unfold lo4
  have h1 := mn_le_l (mn (mn a b) c) d
  have h2 := mn_le_r (mn (mn a b) c) d
  have h3 := mn_le_l (mn a b) c
  have h4 := mn_le_r (mn a b) c
  have h5 := mn_le_l a b
  have h6 := mn_le_r a b
  refine ⟨?_, ?_, ?_, ?_⟩ <;> grind
theorem le_hi4 (a b c d : Rat) : a ≤ hi4 a b c d ∧ b ≤ hi4 a b c d ∧ c ≤ hi4 a b c d ∧ d ≤ hi4 a b c d := by
  unfold hi4
  have h1 := le_mx_l (mx (mx a b) c) d
  have h2 := le_mx_r (mx (mx a b) c) d
  have h3 := le_mx_l (mx a b) c
  have h4 := le_mx_r (mx a b) c
  have h5 := le_mx_l a b
  have h6 := le_mx_r a b
  refine ⟨?_, ?_, ?_, ?_⟩ <;> grind
theorem lo4_or (a b c d : Rat) : lo4 a b c d = a ∨ lo4 a b c d = b ∨ lo4 a b c d = c ∨ lo4 a b c d = d := by
  unfold lo4
  rcases mn_or (mn (mn a b) c) d with h | h
  · rcases mn_or (mn a b) c with h2 | h2
    · rcases mn_or a b with h3 | h3
      · exact .inl (by rw [h, h2, h3])
      · exact .inr (.inl (by rw [h, h2, h3]))
    · exact .inr (.inr (.inl (by rw [h, h2])))
  · exact .inr (.inr (.inr h))
theorem hi4_or (a b c d : Rat) : hi4 a b c d = a ∨ hi4 a b c d = b ∨ hi4 a b c d = c ∨ hi4 a b c d = d := by
  unfold hi4
  rcases mx_or (mx (mx a b) c) d with h | h
  · rcases mx_or (mx a b) c with h2 | h2
    · rcases mx_or a b with h3 | h3
      · exact .inl (by rw [h, h2, h3])
      · exact .inr (.inl (by rw [h, h2, h3]))
    · exact .inr (.inr (.inl (by rw [h, h2])))
  · exact .inr (.inr (.inr h))
/-- A product with one factor in an interval lies between those with its ends. -/
theorem line_in {a t b c : Rat} (h1 : a ≤ t) (h2 : t ≤ b) : (a * c ≤ t * c ∧ t * c ≤ b * c) ∨ (b * c ≤ t * c ∧ t * c ≤ a * c) := by
  rcases Rat.le_total (a := 0) (b := c) with hc | hc
  · exact .inl ⟨Rat.mul_le_mul_of_nonneg_right h1 hc, Rat.mul_le_mul_of_nonneg_right h2 hc⟩
  · have h3 := Rat.mul_le_mul_of_nonneg_right h1 (c := -c) (by grind)
    have h4 := Rat.mul_le_mul_of_nonneg_right h2 (c := -c) (by grind)
    exact .inr ⟨by grind, by grind⟩
/-- MOORE: a product of two that lie in intervals. -/
theorem mul_in {p q r s x y : Rat} (hx1 : p ≤ x) (hx2 : x ≤ q) (hy1 : r ≤ y) (hy2 : y ≤ s) : lo4 (p * r) (p * s) (q * r) (q * s) ≤ x * y ∧ x * y ≤ hi4 (p * r) (p * s) (q * r) (q * s) := by
  obtain ⟨l1, l2, l3, l4⟩ := lo4_le (p * r) (p * s) (q * r) (q * s)
  obtain ⟨m1, m2, m3, m4⟩ := le_hi4 (p * r) (p * s) (q * r) (q * s)
  have e1 := line_in (c := y) hx1 hx2
  have e2 := line_in (c := p) hy1 hy2
  have e3 := line_in (c := q) hy1 hy2
  rw [Rat.mul_comm r p, Rat.mul_comm y p, Rat.mul_comm s p] at e2
  rw [Rat.mul_comm r q, Rat.mul_comm y q, Rat.mul_comm s q] at e3
  generalize lo4 (p * r) (p * s) (q * r) (q * s) = L at *
  generalize hi4 (p * r) (p * s) (q * r) (q * s) = H at *
  rcases e1 with ⟨a1, a2⟩ | ⟨a1, a2⟩ <;> rcases e2 with ⟨b1, b2⟩ | ⟨b1, b2⟩ <;> rcases e3 with ⟨c1, c2⟩ | ⟨c1, c2⟩ <;> constructor <;> grind
/-- One divided by what lies in an interval without nought. -/
theorem inv_in {r s y : Rat} (hy1 : r ≤ y) (hy2 : y ≤ s) (h0 : 0 < r ∨ s < 0) : s⁻¹ ≤ y⁻¹ ∧ y⁻¹ ≤ r⁻¹ := by
  have key : ∀ {a b : Rat}, a ≤ b → (0 < a ∨ b < 0) → b⁻¹ ≤ a⁻¹ := by
    intro a b hab h
    have ha : a ≠ 0 := by grind
    have hb : b ≠ 0 := by grind
    have ea := Rat.mul_inv_cancel a ha
    have eb := Rat.mul_inv_cancel b hb
    have hp : 0 < a * b := by
      rcases h with h | h
      · exact Rat.mul_pos h (by grind)
      · have := Rat.mul_pos (a := -a) (b := -b) (by grind) (by grind)
        grind
    have hq : 0 < (a * b)⁻¹ := Rat.inv_pos.2 hp
    have h2 := Rat.mul_le_mul_of_nonneg_right hab (c := (a * b)⁻¹) (by grind)
    have e := Rat.mul_inv_cancel (a * b) (by grind)
    have i1 : a * (a * b)⁻¹ = b⁻¹ := by
      have h3 : a * (a * b)⁻¹ * (b * b⁻¹) = (a * b * (a * b)⁻¹) * b⁻¹ := by grind
      rw [eb, e, Rat.mul_one, Rat.one_mul] at h3
      exact h3
    have i2 : b * (a * b)⁻¹ = a⁻¹ := by
      have h3 : b * (a * b)⁻¹ * (a * a⁻¹) = (a * b * (a * b)⁻¹) * a⁻¹ := by grind
      rw [ea, e, Rat.mul_one, Rat.one_mul] at h3
      exact h3
    rw [i1, i2] at h2
    exact h2
  exact ⟨key hy2 (by grind), key hy1 (by grind)⟩
/-- A quotient of two that lie in intervals, the second one without nought. -/
theorem div_in {p q r s x y : Rat} (hx1 : p ≤ x) (hx2 : x ≤ q) (hy1 : r ≤ y) (hy2 : y ≤ s) (h0 : 0 < r ∨ s < 0) : lo4 (p / r) (p / s) (q / r) (q / s) ≤ x / y ∧ x / y ≤ hi4 (p / r) (p / s) (q / r) (q / s) := by
  obtain ⟨i1, i2⟩ := inv_in hy1 hy2 h0
  obtain ⟨j1, j2⟩ := mul_in hx1 hx2 i1 i2
  simp only [Rat.div_def]
  obtain ⟨l1, l2, l3, l4⟩ := lo4_le (p * r⁻¹) (p * s⁻¹) (q * r⁻¹) (q * s⁻¹)
  obtain ⟨m1, m2, m3, m4⟩ := le_hi4 (p * r⁻¹) (p * s⁻¹) (q * r⁻¹) (q * s⁻¹)
  constructor
  · rcases lo4_or (p * s⁻¹) (p * r⁻¹) (q * s⁻¹) (q * r⁻¹) with e | e | e | e <;> rw [e] at j1 <;> grind
  · rcases hi4_or (p * s⁻¹) (p * r⁻¹) (q * s⁻¹) (q * r⁻¹) with e | e | e | e <;> rw [e] at j2 <;> grind
/-- Ends that lie in an interval: what is made of products of ends lies in whatever holds all products. -/
theorem mul_sub {p q r s L H : Rat} (h1 : p ≤ q) (h2 : r ≤ s) (h : ∀ x y, p ≤ x → x ≤ q → r ≤ y → y ≤ s → L ≤ x * y ∧ x * y ≤ H) : L ≤ lo4 (p * r) (p * s) (q * r) (q * s) ∧ hi4 (p * r) (p * s) (q * r) (q * s) ≤ H := by
  have a1 := h p r (by grind) h1 (by grind) h2
  have a2 := h p s (by grind) h1 h2 (by grind)
  have a3 := h q r h1 (by grind) (by grind) h2
  have a4 := h q s h1 (by grind) h2 (by grind)
  constructor
  · rcases lo4_or (p * r) (p * s) (q * r) (q * s) with e | e | e | e <;> rw [e] <;> grind
  · rcases hi4_or (p * r) (p * s) (q * r) (q * s) with e | e | e | e <;> rw [e] <;> grind
/-- In a wider one. -/
theorem mul_wider {p q p' q' r s : Rat} (h1 : p ≤ q) (h2 : r ≤ s) (h3 : p' ≤ p) (h4 : q ≤ q') : lo4 (p' * r) (p' * s) (q' * r) (q' * s) ≤ lo4 (p * r) (p * s) (q * r) (q * s) ∧ hi4 (p * r) (p * s) (q * r) (q * s) ≤ hi4 (p' * r) (p' * s) (q' * r) (q' * s) :=
  mul_sub h1 h2 fun x y a b c d => mul_in (by grind) (by grind) c d
/-- MOORE: no wider together. -/
theorem mul_spreads {p q r s t u : Rat} (h1 : p ≤ q) (h2 : r ≤ s) (h3 : t ≤ u) :
    lo4 (p * r) (p * s) (q * r) (q * s) + lo4 (p * t) (p * u) (q * t) (q * u) ≤ lo4 (p * (r + t)) (p * (s + u)) (q * (r + t)) (q * (s + u)) ∧
    hi4 (p * (r + t)) (p * (s + u)) (q * (r + t)) (q * (s + u)) ≤ hi4 (p * r) (p * s) (q * r) (q * s) + hi4 (p * t) (p * u) (q * t) (q * u) := by
  obtain ⟨l1, l2, l3, l4⟩ := lo4_le (p * r) (p * s) (q * r) (q * s)
  obtain ⟨m1, m2, m3, m4⟩ := le_hi4 (p * r) (p * s) (q * r) (q * s)
  obtain ⟨k1, k2, k3, k4⟩ := lo4_le (p * t) (p * u) (q * t) (q * u)
  obtain ⟨n1, n2, n3, n4⟩ := le_hi4 (p * t) (p * u) (q * t) (q * u)
  generalize lo4 (p * r) (p * s) (q * r) (q * s) = L at *
  generalize hi4 (p * r) (p * s) (q * r) (q * s) = H at *
  generalize lo4 (p * t) (p * u) (q * t) (q * u) = L2 at *
  generalize hi4 (p * t) (p * u) (q * t) (q * u) = H2 at *
  constructor
  · rcases lo4_or (p * (r + t)) (p * (s + u)) (q * (r + t)) (q * (s + u)) with e | e | e | e <;> rw [e, Rat.mul_add] <;> grind
  · rcases hi4_or (p * (r + t)) (p * (s + u)) (q * (r + t)) (q * (s + u)) with e | e | e | e <;> rw [e, Rat.mul_add] <;> grind

/-- In another order of their ends. -/
theorem lo4_swap (a b c d : Rat) : lo4 a b c d = lo4 b a d c := by
  obtain ⟨l1, l2, l3, l4⟩ := lo4_le a b c d
  obtain ⟨m1, m2, m3, m4⟩ := lo4_le b a d c
  apply Rat.le_antisymm
  · rcases lo4_or b a d c with e | e | e | e <;> rw [e] <;> assumption
  · rcases lo4_or a b c d with e | e | e | e <;> rw [e] <;> assumption
theorem hi4_swap (a b c d : Rat) : hi4 a b c d = hi4 b a d c := by
  obtain ⟨l1, l2, l3, l4⟩ := le_hi4 a b c d
  obtain ⟨m1, m2, m3, m4⟩ := le_hi4 b a d c
  apply Rat.le_antisymm
  · rcases hi4_or a b c d with e | e | e | e <;> rw [e] <;> assumption
  · rcases hi4_or b a d c with e | e | e | e <;> rw [e] <;> assumption
theorem mn_mx (i j : Rat) : (mn i j = i ∧ mx i j = j) ∨ (mn i j = j ∧ mx i j = i) := by
  unfold mn mx
  by_cases h1 : j < i
  · right; rw [if_pos h1, if_neg (by grind)]; exact ⟨rfl, rfl⟩
  · by_cases h2 : i < j
    · left; rw [if_neg h1, if_pos h2]; exact ⟨rfl, rfl⟩
    · left; rw [if_neg h1, if_neg h2]; exact ⟨rfl, by grind⟩
/-- Divided by each end, or times what each end makes of one, in whatever order. -/
theorem div_ends (p q r s : Rat) : lo4 (p * mn (1 / r) (1 / s)) (p * mx (1 / r) (1 / s)) (q * mn (1 / r) (1 / s)) (q * mx (1 / r) (1 / s)) = lo4 (p / r) (p / s) (q / r) (q / s) ∧
    hi4 (p * mn (1 / r) (1 / s)) (p * mx (1 / r) (1 / s)) (q * mn (1 / r) (1 / s)) (q * mx (1 / r) (1 / s)) = hi4 (p / r) (p / s) (q / r) (q / s) := by
  have e : ∀ x y : Rat, x * (1 / y) = x / y := by
    intro x y
    rw [Rat.div_def, Rat.div_def, Rat.one_mul]
  rcases mn_mx (1 / r) (1 / s) with ⟨h1, h2⟩ | ⟨h1, h2⟩
  · rw [h1, h2]; simp only [e, and_self]
  · rw [h1, h2]; simp only [e]
    exact ⟨lo4_swap _ _ _ _, hi4_swap _ _ _ _⟩

end Go.Proofs.YtkdeopikojgboaaGreatDoor
