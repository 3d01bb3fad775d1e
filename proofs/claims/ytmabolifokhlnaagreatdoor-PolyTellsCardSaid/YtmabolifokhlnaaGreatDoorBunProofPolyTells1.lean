/-
  PLAIN NUMBERS: natural numbers as lists of limbs to the base 4294967296, the least one first: their value. Nothing of a program.
-/
namespace Go.Proofs.YtmabolifokhlnaaGreatDoor
namespace Num

def B : Nat := 4294967296
theorem B_eq : B = 4294967296 := rfl
theorem B_pos : 0 < B := by decide

/-- Limb i; 0 beyond the end. -/
def dg (l : List Nat) (i : Nat) : Nat := (l[i]?).getD 0
theorem dg_lt {l : List Nat} {i : Nat} (h : i < l.length) : dg l i = l[i] := by simp [dg, h]
theorem dg_ge {l : List Nat} {i : Nat} (h : l.length ≤ i) : dg l i = 0 := by simp [dg, h]
theorem dg_zeros (n i : Nat) : dg (List.replicate n 0) i = 0 := by simp only [dg, List.getElem?_replicate]; split <;> simp
theorem dg_take {l : List Nat} {i k : Nat} (h : i < k) : dg (l.take k) i = dg l i := by simp [dg, h]
theorem dg_drop {l : List Nat} {i k : Nat} : dg (l.drop k) i = dg l (k + i) := by simp [dg, List.getElem?_drop]

/-- The value of limbs, the least one first. -/
def val : List Nat → Nat
  | [] => 0
  | x :: xs => x + B * val xs

theorem val_nil : val [] = 0 := rfl
theorem val_cons (x : Nat) (xs : List Nat) : val (x :: xs) = x + B * val xs := rfl

theorem val_append (a b : List Nat) : val (a ++ b) = val a + B ^ a.length * val b := by
  induction a with
  | nil => simp [val]
  | cons x xs ih => simp only [List.cons_append, val_cons, ih, List.length_cons, Nat.pow_succ]; rw [Nat.mul_add, Nat.mul_comm (B ^ xs.length) B, Nat.mul_assoc]; omega

theorem val_split' (l : List Nat) (k : Nat) : val l = val (l.take k) + B ^ (l.take k).length * val (l.drop k) := by
  have := val_append (l.take k) (l.drop k)
  rw [List.take_append_drop] at this
  exact this

theorem val_single (x : Nat) : val [x] = x := by simp [val]

/-- One place more is read: what lies beyond the end counts 0. -/
theorem val_take_succ (l : List Nat) (k : Nat) : val (l.take (k + 1)) = val (l.take k) + dg l k * B ^ k := by
  by_cases h : k < l.length
  · rw [List.take_succ_eq_append_getElem h, val_append, val_single, List.length_take, Nat.min_eq_left (by omega), dg_lt h, Nat.mul_comm]
  · rw [List.take_of_length_le (by omega), List.take_of_length_le (by omega), dg_ge (by omega)]; omega

theorem val_take_all (l : List Nat) (k : Nat) (h : l.length ≤ k) : val (l.take k) = val l := by rw [List.take_of_length_le h]

/-- A limb is written behind those that were read. -/
theorem val_take_set (l : List Nat) (k x : Nat) (h : k < l.length) : val ((l.set k x).take (k + 1)) = val (l.take k) + x * B ^ k := by
  rw [val_take_succ, List.take_set_of_le (Nat.le_refl k)]
  rw [dg_lt (by simpa using h), List.getElem_set_self]

theorem dg_set_self (l : List Nat) (k x : Nat) (h : k < l.length) : dg (l.set k x) k = x := by
  rw [dg_lt (by simpa using h), List.getElem_set_self]

theorem dg_set_ne (l : List Nat) (k j x : Nat) (h : j ≠ k) : dg (l.set k x) j = dg l j := by
  simp only [dg, List.getElem?_set]
  rw [if_neg (by omega)]

/-- One limb is written. -/
theorem val_set (l : List Nat) (k x : Nat) (h : k < l.length) : val (l.set k x) + dg l k * B ^ k = val l + x * B ^ k := by
  have e1 := val_split' (l.set k x) (k + 1)
  have e2 := val_split' l (k + 1)
  rw [List.drop_set_of_lt (by omega)] at e1
  rw [List.length_take, List.length_set] at e1
  rw [List.length_take] at e2
  have h1 := val_take_set l k x h
  have h2 := val_take_succ l k
  omega

/-- All limbs fit. -/
def Fits (l : List Nat) : Prop := ∀ i, dg l i < 4294967296

theorem Fits.nil : Fits [] := fun i => by simp [dg]
theorem Fits.take {l : List Nat} (h : Fits l) (k : Nat) : Fits (l.take k) := fun i => by
  have := h i
  simp only [dg, List.getElem?_take] at this ⊢
  split <;> simp_all
theorem Fits.drop {l : List Nat} (h : Fits l) (k : Nat) : Fits (l.drop k) := fun i => by
  have := h (k + i)
  simp only [dg, List.getElem?_drop] at this ⊢
  exact this
theorem Fits.set {l : List Nat} (h : Fits l) (k x : Nat) (hx : x < 4294967296) : Fits (l.set k x) := fun i => by
  by_cases e : i = k
  · subst e
    by_cases hl : i < l.length
    · rw [dg_set_self _ _ _ hl]; exact hx
    · rw [dg_ge (by simp; omega)]; omega
  · rw [dg_set_ne _ _ _ _ e]; exact h i
theorem Fits.append {a b : List Nat} (ha : Fits a) (hb : Fits b) : Fits (a ++ b) := fun i => by
  by_cases h : i < a.length
  · have := ha i
    simp only [dg] at this ⊢
    rw [List.getElem?_append_left h]; exact this
  · have := hb (i - a.length)
    simp only [dg] at this ⊢
    rw [List.getElem?_append_right (by omega)]; exact this
theorem Fits.single {x : Nat} (h : x < 4294967296) : Fits [x] := fun i => by
  match i with
  | 0 => simpa [dg] using h
  | i + 1 => simp [dg]
theorem Fits.zeros (n : Nat) : Fits (List.replicate n 0) := fun i => by
  simp only [dg, List.getElem?_replicate]; split <;> simp
theorem Fits.cons {x : Nat} {l : List Nat} (h : Fits (x :: l)) : x < 4294967296 ∧ Fits l := ⟨by simpa [dg] using h 0, fun i => by simpa [dg] using h (i + 1)⟩

theorem val_lt {l : List Nat} (h : Fits l) : val l < B ^ l.length := by
  induction l with
  | nil => simp [val]
  | cons x xs ih =>
    obtain ⟨h1, h2⟩ := h.cons
    have := ih h2
    rw [val_cons, List.length_cons, Nat.pow_succ, Nat.mul_comm (B ^ xs.length) B]
    have h3 : val xs + 1 ≤ B ^ xs.length := this
    have h4 := Nat.mul_le_mul_left B h3
    rw [Nat.mul_add] at h4
    simp only [B_eq] at h4 ⊢
    omega

theorem val_zeros (n : Nat) : val (List.replicate n 0) = 0 := by
  induction n with
  | zero => rfl
  | succ n ih => rw [List.replicate_succ, val_cons, ih]; rfl

theorem val_take_zeros (n k : Nat) : val ((List.replicate n 0).take k) = 0 := by
  rw [List.take_replicate]; exact val_zeros _

/-- No leading nought. -/
def Trim (l : List Nat) : Prop := l = [] ∨ 0 < dg l (l.length - 1)

theorem Trim.low {l : List Nat} (h : Trim l) (hn : l ≠ []) : B ^ (l.length - 1) ≤ val l := by
  rcases h with h | h
  · exact absurd h hn
  · have hl : 0 < l.length := List.length_pos_iff.2 hn
    have e := val_take_succ l (l.length - 1)
    rw [Nat.sub_add_cancel hl, List.take_length] at e
    rw [e]
    have := Nat.mul_le_mul_right (B ^ (l.length - 1)) h
    omega

theorem Trim.zero_iff {l : List Nat} (h : Trim l) : val l = 0 ↔ l = [] := by
  constructor
  · intro e
    apply Classical.byContradiction
    intro hn
    have := h.low hn
    have hp : 0 < B ^ (l.length - 1) := Nat.pow_pos B_pos
    omega
  · rintro rfl; rfl

/-- The greater length, the greater number. -/
theorem lt_of_length {x y : List Nat} (hx : Fits x) (hy : Trim y) (h : x.length < y.length) : val x < val y := by
  have hn : y ≠ [] := by intro e; subst e; simp at h
  have h1 := val_lt hx
  have h2 := hy.low hn
  have h3 : B ^ x.length ≤ B ^ (y.length - 1) := Nat.pow_le_pow_right B_pos (by omega)
  omega

theorem length_le_of_val {x : List Nat} (hx : Trim x) (k : Nat) (h : val x < B ^ k) : x.length ≤ k := by
  apply Classical.byContradiction
  intro hn
  have hne : x ≠ [] := by intro e; subst e; simp at hn
  have h2 := hx.low hne
  have h3 : B ^ k ≤ B ^ (x.length - 1) := Nat.pow_le_pow_right B_pos (by omega)
  omega

/-- Two numbers of like limbs from place k on are compared by the limbs below. -/
theorem val_split (l : List Nat) (k : Nat) : val l = val (l.take k) + B ^ k * val (l.drop k) := by
  by_cases h : k ≤ l.length
  · have := val_append (l.take k) (l.drop k)
    rw [List.take_append_drop, List.length_take, Nat.min_eq_left h] at this
    exact this
  · rw [List.take_of_length_le (by omega), List.drop_eq_nil_of_le (by omega)]; simp [val]

/-- The part of a step: the low limb stays, the rest is carried. -/
theorem carry_split (s p : Nat) : (s % 4294967296) * p + (s / 4294967296) * (p * B) = s * p := by
  have h := Nat.div_add_mod s 4294967296
  have e : s * p = (4294967296 * (s / 4294967296) + s % 4294967296) * p := by rw [h]
  rw [e, Nat.add_mul, B_eq, Nat.mul_comm p 4294967296, ← Nat.mul_assoc, Nat.mul_comm (s / 4294967296) 4294967296]
  omega

/-- How many limbs are left without leading noughts, out of the first n. -/
def tl (l : List Nat) : Nat → Nat
  | 0 => 0
  | n + 1 => if dg l n = 0 then tl l n else n + 1
def tlen (l : List Nat) : Nat := tl l l.length
theorem tl_zero (l : List Nat) : tl l 0 = 0 := rfl
theorem tl_skip {l : List Nat} {n : Nat} (h : dg l n = 0) : tl l (n + 1) = tl l n := by simp [tl, h]
theorem tl_stop {l : List Nat} {n : Nat} (h : dg l n ≠ 0) : tl l (n + 1) = n + 1 := by simp [tl, h]
theorem tl_le (l : List Nat) (n : Nat) : tl l n ≤ n := by
  induction n with
  | zero => exact Nat.le_refl _
  | succ n ih => unfold tl; split <;> omega
theorem tlen_le (l : List Nat) : tlen l ≤ l.length := tl_le l _
def trimL (l : List Nat) : List Nat := l.take (tlen l)
theorem length_trimL (l : List Nat) : (trimL l).length = tlen l := by
  rw [trimL, List.length_take, Nat.min_eq_left (tlen_le l)]
theorem val_take_tl (l : List Nat) (n : Nat) : val (l.take (tl l n)) = val (l.take n) := by
  induction n with
  | zero => rfl
  | succ n ih =>
    by_cases h : dg l n = 0
    · rw [tl_skip h, ih, val_take_succ, h]; omega
    · rw [tl_stop h]
theorem val_trimL (l : List Nat) : val (trimL l) = val l := by
  rw [trimL, tlen, val_take_tl, List.take_length]
theorem tl_top (l : List Nat) (n : Nat) (h : 0 < tl l n) : dg l (tl l n - 1) ≠ 0 := by
  induction n with
  | zero => simp [tl] at h
  | succ n ih =>
    by_cases e : dg l n = 0
    · rw [tl_skip e] at h ⊢; exact ih h
    · rw [tl_stop e]; exact e
theorem trim_trimL (l : List Nat) : Trim (trimL l) := by
  by_cases h : tlen l = 0
  · left; rw [trimL, h, List.take_zero]
  · right
    rw [length_trimL, trimL, dg_take (by omega)]
    have := tl_top l l.length (by rw [← tlen]; omega)
    rw [← tlen] at this
    omega
theorem fits_trimL {l : List Nat} (h : Fits l) : Fits (trimL l) := h.take _
theorem drop_dg {l : List Nat} {k : Nat} (h : k < l.length) : l.drop k = dg l k :: l.drop (k + 1) := by
  rw [List.drop_eq_getElem_cons h, dg_lt h]

/-- Of two numbers that are alike above limb k this limb decides, if it is not alike. -/
theorem val_lt_of_top {x y : List Nat} {k : Nat} (hx : Fits x) (hy : Fits y) (hd : x.drop (k + 1) = y.drop (k + 1)) (h1 : k < x.length) (h2 : k < y.length) (hne : dg x k ≠ dg y k) :
    val x < val y ↔ dg x k < dg y k := by
  have e1 := val_split x (k + 1)
  have e2 := val_split y (k + 1)
  rw [val_take_succ] at e1 e2
  rw [hd] at e1
  have b1 := val_lt (hx.take k)
  have b2 := val_lt (hy.take k)
  rw [List.length_take, Nat.min_eq_left (by omega)] at b1 b2
  generalize hP : B ^ k = P at *
  generalize B ^ (k + 1) * val (y.drop (k + 1)) = T at *
  constructor
  · intro h
    apply Classical.byContradiction
    intro hn
    have h3 : dg y k + 1 ≤ dg x k := by omega
    have h4 := Nat.mul_le_mul_right P h3
    rw [Nat.add_mul] at h4
    omega
  · intro h
    have h3 : dg x k + 1 ≤ dg y k := by omega
    have h4 := Nat.mul_le_mul_right P h3
    rw [Nat.add_mul] at h4
    omega

end Num
end Go.Proofs.YtmabolifokhlnaaGreatDoor

/-
  PLAIN TEXTS: decimal digits. Nothing of a program.
-/
namespace Go.Proofs.YtmabolifokhlnaaGreatDoor
namespace Num

def isDig (b : UInt8) : Bool := decide (48 ≤ b.toNat ∧ b.toNat ≤ 57)
/-- A natural number's text: digits, without a leading 0. -/
def isNat (l : List UInt8) : Bool := !l.isEmpty && !(l.head? == some 48 && !(l == [48])) && l.all isDig
def dval (l : List UInt8) : Nat := l.foldl (fun n b => 10 * n + (b.toNat - 48)) 0

theorem isNat_nil : isNat [] = false := rfl
theorem isNat_lead {l : List UInt8} (h1 : l.head? = some 48) (h2 : (l == [48]) = false) : isNat l = false := by
  simp [isNat, h1, h2]
theorem isNat_rest {l : List UInt8} (h0 : l ≠ []) (h : l.head? ≠ some 48 ∨ (l == [48]) = true) : isNat l = l.all isDig := by
  rw [isNat]
  have e0 : l.isEmpty = false := by simpa using h0
  rw [e0]
  rcases h with h | h
  · have : (l.head? == some 48) = false := by simpa using h
    simp [this]
  · simp [h]

theorem dval_nil : dval [] = 0 := rfl
theorem dval_snoc (l : List UInt8) (b : UInt8) : dval (l ++ [b]) = 10 * dval l + (b.toNat - 48) := by
  simp [dval, List.foldl_append]
theorem foldl_dval (l : List UInt8) (n : Nat) : l.foldl (fun n b => 10 * n + (b.toNat - 48)) n = n * 10 ^ l.length + dval l := by
  induction l generalizing n with
  | nil => simp [dval]
  | cons b l ih =>
    have e : dval (b :: l) = (10 * 0 + (b.toNat - 48)) * 10 ^ l.length + dval l := by rw [dval, List.foldl_cons, ih]
    rw [List.foldl_cons, ih, e, List.length_cons, Nat.pow_succ]
    simp only [Nat.mul_zero, Nat.zero_add, Nat.add_mul]
    rw [Nat.mul_comm 10 n, Nat.mul_assoc, Nat.mul_comm 10 (10 ^ l.length)]
    omega
theorem dval_append (a b : List UInt8) : dval (a ++ b) = dval a * 10 ^ b.length + dval b := by
  rw [dval, List.foldl_append, foldl_dval]; rfl
theorem all_drop {l : List UInt8} (h : l.all isDig = true) (k : Nat) : (l.drop k).all isDig = true := by
  rw [List.all_eq_true] at h ⊢
  exact fun x hx => h x (List.mem_of_mem_drop hx)
theorem dval_lt {l : List UInt8} (h : l.all isDig = true) : dval l < 10 ^ l.length := by
  induction l with
  | nil => simp [dval]
  | cons b l ih =>
    rw [List.all_cons, Bool.and_eq_true] at h
    have h1 := ih h.2
    have h2 : b.toNat ≤ 57 := by have := h.1; simp [isDig] at this; exact this.2
    have e := dval_append [b] l
    rw [List.singleton_append] at e
    have e2 : dval [b] = b.toNat - 48 := by simp [dval]
    rw [e, e2, List.length_cons, Nat.pow_succ]
    have h3 := Nat.mul_le_mul_right (10 ^ l.length) (show b.toNat - 48 ≤ 9 by omega)
    omega

/-- The digit n. -/
def dch (n : Nat) : UInt8 := UInt8.ofNat (48 + n)

/-- The digits of a number. -/
def dtext (n : Nat) : List UInt8 := if _h : n < 10 then [dch n] else dtext (n / 10) ++ [dch (n % 10)]
  termination_by n
  decreasing_by omega

theorem dtext_small {n : Nat} (h : n < 10) : dtext n = [dch n] := by rw [dtext, dif_pos h]
theorem dtext_big {n : Nat} (h : ¬ n < 10) : dtext n = dtext (n / 10) ++ [dch (n % 10)] := by rw [dtext, dif_neg h]
theorem toNat_dig {n : Nat} (h : n < 10) : (dch n).toNat = 48 + n := by
  rw [dch, UInt8.toNat_ofNat']; omega
theorem isDig_dig {n : Nat} (h : n < 10) : isDig (dch n) = true := by
  simp only [isDig, toNat_dig h, decide_eq_true_eq]; omega
theorem dtext_zero : dtext 0 = [48] := by rw [dtext_small (by omega)]; rfl
/-- A list of digits whose value is not 0 and that begins with no 0 is the text of its value. -/
theorem dtext_dval {l : List UInt8} (h : isNat l = true) : dtext (dval l) = l := by
  obtain ⟨n, hn⟩ : ∃ n, l.length = n := ⟨_, rfl⟩
  induction n using Nat.strongRecOn generalizing l with
  | _ n ih =>
    have hne : l ≠ [] := by intro e; rw [e] at h; simp [isNat_nil] at h
    have hall : l.all isDig = true := by
      rw [isNat, Bool.and_eq_true] at h; exact h.2
    have hlead : l.head? ≠ some 48 ∨ (l == [48]) = true := by
      by_cases h1 : l.head? = some 48
      · right
        cases h2 : (l == [48]) with
        | true => rfl
        | false => rw [isNat_lead h1 h2] at h; simp at h
      · left; exact h1
    obtain ⟨a, b, rfl⟩ : ∃ a b, l = a ++ [b] := ⟨l.dropLast, l.getLast hne, (List.dropLast_concat_getLast hne).symm⟩
    have hb : isDig b = true := by rw [List.all_append, Bool.and_eq_true] at hall; simpa using hall.2
    have hb2 : 48 ≤ b.toNat ∧ b.toNat ≤ 57 := by simpa [isDig] using hb
    have hbe : dch (b.toNat - 48) = b := by
      apply UInt8.toNat_inj.1
      rw [toNat_dig (by omega)]; omega
    rw [dval_snoc]
    by_cases ha : a = []
    · subst ha
      rw [dval_nil, dtext_small (by omega)]
      simp only [Nat.mul_zero, Nat.zero_add, List.nil_append]
      rw [hbe]
    · have hlead2 : a.head? ≠ some 48 := by
        rcases hlead with h1 | h1
        · intro e
          apply h1
          cases a with
          | nil => exact absurd rfl ha
          | cons x t => simpa using e
        · have := congrArg List.length (eq_of_beq h1)
          simp at this
          exact absurd this ha
      have halla : a.all isDig = true := by rw [List.all_append, Bool.and_eq_true] at hall; exact hall.1
      have hna : isNat a = true := by rw [isNat_rest ha (.inl hlead2)]; exact halla
      have e := ih a.length (by rw [← hn]; simp) hna rfl
      have hpos : 0 < dval a := by
        apply Nat.pos_of_ne_zero
        intro e0
        rw [e0, dtext_zero] at e
        rw [← e] at hlead2
        simp at hlead2
      rw [dtext_big (by omega), show (10 * dval a + (b.toNat - 48)) / 10 = dval a by omega, show (10 * dval a + (b.toNat - 48)) % 10 = b.toNat - 48 by omega, e, hbe]

theorem isNat_all {l : List UInt8} (h : isNat l = true) : l.all isDig = true := by
  rw [isNat, Bool.and_eq_true] at h; exact h.2
theorem isNat_ne {l : List UInt8} (h : isNat l = true) : l ≠ [] := by
  intro e; rw [e, isNat_nil] at h; simp at h

theorem length_dtext_le {n k : Nat} (h : n < 10 ^ k) (hk : 0 < k) : (dtext n).length ≤ k := by
  induction k generalizing n with
  | zero => omega
  | succ k ih =>
    by_cases hs : n < 10
    · rw [dtext_small hs]; simp
    · rw [dtext_big hs, List.length_append]
      by_cases hk0 : k = 0
      · subst hk0; simp at h; omega
      · have := ih (n := n / 10) (by rw [Nat.pow_succ] at h; omega) (by omega)
        simp only [List.length_singleton]
        omega

/-! ### Digits, the least one first -/
def rval : List Nat → Nat
  | [] => 0
  | d :: ds => d + 10 * rval ds
theorem rval_append (a b : List Nat) : rval (a ++ b) = rval a + 10 ^ a.length * rval b := by
  induction a with
  | nil => simp [rval]
  | cons x xs ih => simp only [List.cons_append, rval, ih, List.length_cons, Nat.pow_succ]; rw [Nat.mul_add, Nat.mul_comm (10 ^ xs.length) 10, Nat.mul_assoc]; omega
theorem rval_snoc (a : List Nat) (d : Nat) : rval (a ++ [d]) = rval a + 10 ^ a.length * d := by rw [rval_append]; simp [rval]
theorem rval_take_succ (l : List Nat) (k : Nat) (h : k < l.length) : rval (l.take (k + 1)) = rval (l.take k) + 10 ^ k * dg l k := by
  rw [List.take_succ_eq_append_getElem h, rval_snoc, List.length_take, Nat.min_eq_left (by omega), dg_lt h]

/-- All digits are below 10. -/
def Low (ds : List Nat) : Prop := ∀ i, dg ds i < 10
theorem Low.nil : Low [] := fun i => by simp [dg]
theorem Low.snoc {ds : List Nat} {d : Nat} (h : Low ds) (hd : d < 10) : Low (ds ++ [d]) := fun i => by
  by_cases h1 : i < ds.length
  · have := h i; simp only [dg] at this ⊢; rw [List.getElem?_append_left h1]; exact this
  · simp only [dg]; rw [List.getElem?_append_right (by omega)]
    by_cases h2 : i - ds.length = 0
    · rw [h2]; simpa using hd
    · rw [List.getElem?_eq_none (by simp; omega)]; simp
theorem Low.take {ds : List Nat} (h : Low ds) (k : Nat) : Low (ds.take k) := fun i => by
  have := h i
  simp only [dg, List.getElem?_take] at this ⊢
  split <;> simp_all
theorem Low.mem {ds : List Nat} (h : Low ds) : ∀ d ∈ ds, d < 10 := by
  intro d hd
  obtain ⟨i, hi, rfl⟩ := List.mem_iff_getElem.1 hd
  have := h i
  rwa [dg_lt hi] at this

/-- The text of digits, the least one first. -/
def rtext (ds : List Nat) : List UInt8 := ds.reverse.map dch
theorem dval_rtext {ds : List Nat} (h : Low ds) : dval (rtext ds) = rval ds := by
  have hm := h.mem
  clear h
  induction ds with
  | nil => rfl
  | cons d ds ih =>
    have h1 : rtext (d :: ds) = rtext ds ++ [dch d] := by simp [rtext]
    rw [h1, dval_snoc, ih (fun x hx => hm x (List.mem_cons_of_mem _ hx)), toNat_dig (hm d List.mem_cons_self), rval]
    omega
theorem all_rtext {ds : List Nat} (h : Low ds) : (rtext ds).all isDig = true := by
  rw [List.all_eq_true]
  intro x hx
  simp only [rtext, List.mem_map, List.mem_reverse] at hx
  obtain ⟨d, hd, rfl⟩ := hx
  exact isDig_dig (h.mem d hd)
theorem rtext_eq {ds : List Nat} (h : Low ds) (hn : 0 < ds.length) (htop : dg ds (ds.length - 1) ≠ 0) : rtext ds = dtext (rval ds) := by
  have hne : rtext ds ≠ [] := by
    intro e
    have := congrArg List.length e
    simp [rtext] at this
    rw [this] at hn; simp at hn
  have hh : (rtext ds).head? ≠ some 48 := by
    rw [rtext, List.head?_map, List.head?_reverse, List.getLast?_eq_getElem?]
    rw [List.getElem?_eq_getElem (by omega), Option.map_some]
    intro e
    rw [dg_lt (by omega)] at htop
    have h9 := h.mem _ (List.getElem_mem (show ds.length - 1 < ds.length by omega))
    have h2 := congrArg UInt8.toNat (Option.some.inj e)
    rw [toNat_dig h9] at h2
    have h48 : (48 : UInt8).toNat = 48 := rfl
    omega
  have hN : isNat (rtext ds) = true := by rw [isNat_rest hne (.inl hh)]; exact all_rtext h
  have := dtext_dval hN
  rw [dval_rtext h] at this
  exact this.symm

theorem ext_dg {a b : List Nat} (hl : a.length = b.length) (h : ∀ t, t < a.length → dg a t = dg b t) : a = b := by
  apply List.ext_getElem hl
  intro i h1 h2
  have := h i h1
  rwa [dg_lt h1, dg_lt h2] at this
theorem dg_reverse {l : List Nat} {i : Nat} (h : i < l.length) : dg l.reverse i = dg l (l.length - 1 - i) := by
  rw [dg_lt (by simpa using h), dg_lt (by omega), List.getElem_reverse]

/-- So few digits. -/
theorem digits_few {N n k : Nat} (h1 : N < B ^ n) (h2 : 10 ^ k ≤ N) : k ≤ 10 * n := by
  apply Classical.byContradiction
  intro hh
  have h3 : B ^ n ≤ (10 ^ 10) ^ n := Nat.pow_le_pow_left (by rw [B_eq]; omega) n
  rw [← Nat.pow_mul] at h3
  have h4 : 10 ^ (10 * n) ≤ 10 ^ k := Nat.pow_le_pow_right (by omega) (by omega)
  omega

end Num
end Go.Proofs.YtmabolifokhlnaaGreatDoor

/-
  THE EXTENDED EUCLIDEAN ALGORITHM, on integers (nothing of a program).
-/
namespace Go.Proofs.YtmabolifokhlnaaGreatDoor
namespace Num
set_option linter.unusedVariables false

/-- The greatest divisor of both and how it is made of them, by the document's recursion. -/
def zg (a b : Int) : Int × Int × Int :=
  if h : b = 0 then ((a.natAbs : Int), a.sign, 0)
  else
    let t := zg b (a % b)
    (t.1, t.2.2, t.2.1 - a / b * t.2.2)
termination_by b.natAbs
decreasing_by
  have h1 := Int.emod_nonneg a h
  have h2 := Int.emod_lt a h
  omega

theorem zg_zero (a : Int) : zg a 0 = ((a.natAbs : Int), a.sign, 0) := by rw [zg]; simp
theorem zg_step (a b : Int) (h : b ≠ 0) : zg a b = ((zg b (a % b)).1, (zg b (a % b)).2.2, (zg b (a % b)).2.1 - a / b * (zg b (a % b)).2.2) := by
  rw [zg]; simp [h]

theorem zg_ind {P : Int → Int → Prop} (h0 : ∀ a, P a 0) (h1 : ∀ a b, b ≠ 0 → P b (a % b) → P a b) (a b : Int) : P a b := by
  have : ∀ n : Nat, ∀ a b : Int, b.natAbs ≤ n → P a b := by
    intro n
    induction n with
    | zero => intro a b h; rw [show b = 0 by omega]; exact h0 a
    | succ n ih =>
      intro a b h
      by_cases hb : b = 0
      · subst hb; exact h0 a
      · refine h1 a b hb (ih _ _ ?_)
        have e1 := Int.emod_nonneg a hb
        have e2 := Int.emod_lt a hb
        omega
  exact this _ a b (Nat.le_refl _)

theorem gcd_emod (a b : Int) : Int.gcd (a % b) b = Int.gcd a b := by
  have h := Int.gcd_add_mul_left_left b (a % b) (a / b)
  rw [Int.emod_add_mul_ediv] at h
  exact h.symm

theorem zg_gcd (a b : Int) : (zg a b).1 = (Int.gcd a b : Int) := by
  refine zg_ind (P := fun a b => (zg a b).1 = (Int.gcd a b : Int)) ?_ ?_ a b
  · intro a; rw [zg_zero]; simp
  · intro a b hb ih
    rw [zg_step a b hb]
    show (zg b (a % b)).1 = _
    rw [ih, Int.gcd_comm b (a % b), gcd_emod]

theorem zg_made (a b : Int) : (zg a b).2.1 * a + (zg a b).2.2 * b = (zg a b).1 := by
  refine zg_ind (P := fun a b => (zg a b).2.1 * a + (zg a b).2.2 * b = (zg a b).1) ?_ ?_ a b
  · intro a; rw [zg_zero]; simp [Int.sign_mul_self]
  · intro a b hb ih
    rw [zg_step a b hb]
    show (zg b (a % b)).2.2 * a + ((zg b (a % b)).2.1 - a / b * (zg b (a % b)).2.2) * b = (zg b (a % b)).1
    rw [← ih]
    have h := Int.mul_ediv_add_emod a b
    generalize (zg b (a % b)).2.2 = v at *
    generalize (zg b (a % b)).2.1 = u at *
    generalize a % b = r at *
    generalize a / b = q at *
    rw [← h]
    simp only [Int.sub_mul, Int.mul_add]
    rw [show v * (b * q) = q * v * b by rw [Int.mul_comm b q, ← Int.mul_assoc, Int.mul_comm v q]]
    omega

theorem zg_small (a b : Int) (hb : b ≠ 0) : (zg a b).2.1.natAbs ≤ b.natAbs ∧ (zg a b).2.2.natAbs ≤ max a.natAbs 1 := by
  revert hb
  refine zg_ind (P := fun a b => b ≠ 0 → (zg a b).2.1.natAbs ≤ b.natAbs ∧ (zg a b).2.2.natAbs ≤ max a.natAbs 1) ?_ ?_ a b
  · intro a h; exact absurd rfl h
  · intro a b hb ih _
    have hm := zg_made a b
    rw [zg_gcd] at hm
    by_cases hr : a % b = 0
    · rw [zg_step a b hb, hr, zg_zero]
      show (0 : Int).natAbs ≤ _ ∧ (b.sign - a / b * 0).natAbs ≤ _
      rw [Int.mul_zero, Int.sub_zero]
      refine ⟨by simp, ?_⟩
      have : b.sign.natAbs ≤ 1 := by rw [Int.natAbs_sign]; split <;> omega
      omega
    · have h1 := ih hr
      have h2 : (zg a b).2.1.natAbs ≤ b.natAbs := by
        rw [zg_step a b hb]
        show (zg b (a % b)).2.2.natAbs ≤ _
        have := h1.2
        omega
      refine ⟨h2, ?_⟩
      have e1 := Int.emod_nonneg a hb
      have e2 := Int.emod_lt a hb
      have hg : Int.gcd a b < b.natAbs := by
        have h3 : Int.gcd a b = Int.gcd b (a % b) := by
          rw [Int.gcd_comm b (a % b), gcd_emod]
        have h4 : Int.gcd b (a % b) ≤ (a % b).natAbs := Nat.le_of_dvd (by omega) (Int.natAbs_dvd_natAbs.2 (Int.gcd_dvd_right b (a % b)) |> fun h => by simpa using h)
        omega
      have h5 : ((zg a b).2.2 * b).natAbs ≤ Int.gcd a b + (zg a b).2.1.natAbs * a.natAbs := by
        have h6 : (zg a b).2.2 * b = (Int.gcd a b : Int) - (zg a b).2.1 * a := by omega
        rw [h6]
        refine Nat.le_trans (Int.natAbs_sub_le _ _) ?_
        rw [Int.natAbs_mul]
        simp
      rw [Int.natAbs_mul] at h5
      have h7 : (zg a b).2.1.natAbs * a.natAbs ≤ b.natAbs * a.natAbs := Nat.mul_le_mul_right _ h2
      have h8 : (zg a b).2.2.natAbs * b.natAbs < (a.natAbs + 1) * b.natAbs := by
        rw [Nat.add_mul, Nat.one_mul, Nat.mul_comm a.natAbs]
        omega
      have := Nat.lt_of_mul_lt_mul_right h8
      omega

end Num
end Go.Proofs.YtmabolifokhlnaaGreatDoor

/-
  PLAIN NUMBERS to the base 10000, four digits a place, the least one first: their value. Nothing of a program.
-/
namespace Go.Proofs.YtmabolifokhlnaaGreatDoor
namespace Num4
open Num (dg dg_lt dg_ge dg_zeros dg_take dg_drop dg_set_self dg_set_ne tl tlen tl_zero tl_skip tl_stop tl_le tlen_le trimL length_trimL tl_top drop_dg)

def B : Nat := 10000
theorem B_eq : B = 10000 := rfl
theorem B_pos : 0 < B := by decide
/-- The value of limbs, the least one first. -/
def val : List Nat → Nat
  | [] => 0
  | x :: xs => x + B * val xs
theorem val_nil : val [] = 0 := rfl
theorem val_cons (x : Nat) (xs : List Nat) : val (x :: xs) = x + B * val xs := rfl
theorem val_append (a b : List Nat) : val (a ++ b) = val a + B ^ a.length * val b := by
  induction a with
  | nil => simp [val]
  | cons x xs ih => simp only [List.cons_append, val_cons, ih, List.length_cons, Nat.pow_succ]; rw [Nat.mul_add, Nat.mul_comm (B ^ xs.length) B, Nat.mul_assoc]; omega
theorem val_split' (l : List Nat) (k : Nat) : val l = val (l.take k) + B ^ (l.take k).length * val (l.drop k) := by
  have := val_append (l.take k) (l.drop k)
  rw [List.take_append_drop] at this
  exact this
theorem val_single (x : Nat) : val [x] = x := by simp [val]
/-- One place more is read: what lies beyond the end counts 0. -/
theorem val_take_succ (l : List Nat) (k : Nat) : val (l.take (k + 1)) = val (l.take k) + dg l k * B ^ k := by
  by_cases h : k < l.length
  · rw [List.take_succ_eq_append_getElem h, val_append, val_single, List.length_take, Nat.min_eq_left (by omega), dg_lt h, Nat.mul_comm]
  · rw [List.take_of_length_le (by omega), List.take_of_length_le (by omega), dg_ge (by omega)]; omega
theorem val_take_all (l : List Nat) (k : Nat) (h : l.length ≤ k) : val (l.take k) = val l := by rw [List.take_of_length_le h]
/-- A limb is written behind those that were read. -/
theorem val_take_set (l : List Nat) (k x : Nat) (h : k < l.length) : val ((l.set k x).take (k + 1)) = val (l.take k) + x * B ^ k := by
  rw [val_take_succ, List.take_set_of_le (Nat.le_refl k)]
  rw [dg_lt (by simpa using h), List.getElem_set_self]
/-- One limb is written. -/
theorem val_set (l : List Nat) (k x : Nat) (h : k < l.length) : val (l.set k x) + dg l k * B ^ k = val l + x * B ^ k := by
  have e1 := val_split' (l.set k x) (k + 1)
  have e2 := val_split' l (k + 1)
  rw [List.drop_set_of_lt (by omega)] at e1
  rw [List.length_take, List.length_set] at e1
  rw [List.length_take] at e2
  have h1 := val_take_set l k x h
  have h2 := val_take_succ l k
  omega
/-- All limbs fit. -/
def Fits (l : List Nat) : Prop := ∀ i, dg l i < 10000
theorem Fits.nil : Fits [] := fun i => by simp [dg]
theorem Fits.take {l : List Nat} (h : Fits l) (k : Nat) : Fits (l.take k) := fun i => by
  have := h i
  simp only [dg, List.getElem?_take] at this ⊢
  split <;> simp_all
theorem Fits.drop {l : List Nat} (h : Fits l) (k : Nat) : Fits (l.drop k) := fun i => by
  have := h (k + i)
  simp only [dg, List.getElem?_drop] at this ⊢
  exact this
theorem Fits.set {l : List Nat} (h : Fits l) (k x : Nat) (hx : x < 10000) : Fits (l.set k x) := fun i => by
  by_cases e : i = k
  · subst e
    by_cases hl : i < l.length
    · rw [dg_set_self _ _ _ hl]; exact hx
    · rw [dg_ge (by simp; omega)]; omega
  · rw [dg_set_ne _ _ _ _ e]; exact h i
theorem Fits.append {a b : List Nat} (ha : Fits a) (hb : Fits b) : Fits (a ++ b) := fun i => by
  by_cases h : i < a.length
  · have := ha i
    simp only [dg] at this ⊢
    rw [List.getElem?_append_left h]; exact this
  · have := hb (i - a.length)
    simp only [dg] at this ⊢
    rw [List.getElem?_append_right (by omega)]; exact this
theorem Fits.single {x : Nat} (h : x < 10000) : Fits [x] := fun i => by
  match i with
  | 0 => simpa [dg] using h
  | i + 1 => simp [dg]
theorem Fits.zeros (n : Nat) : Fits (List.replicate n 0) := fun i => by
  simp only [dg, List.getElem?_replicate]; split <;> simp
theorem Fits.cons {x : Nat} {l : List Nat} (h : Fits (x :: l)) : x < 10000 ∧ Fits l := ⟨by simpa [dg] using h 0, fun i => by simpa [dg] using h (i + 1)⟩
theorem val_lt {l : List Nat} (h : Fits l) : val l < B ^ l.length := by
  induction l with
  | nil => simp [val]
  | cons x xs ih =>
    obtain ⟨h1, h2⟩ := h.cons
    have := ih h2
    rw [val_cons, List.length_cons, Nat.pow_succ, Nat.mul_comm (B ^ xs.length) B]
    have h3 : val xs + 1 ≤ B ^ xs.length := this
    have h4 := Nat.mul_le_mul_left B h3
    rw [Nat.mul_add] at h4
    simp only [B_eq] at h4 ⊢
    omega
theorem val_zeros (n : Nat) : val (List.replicate n 0) = 0 := by
  induction n with
  | zero => rfl
  | succ n ih => rw [List.replicate_succ, val_cons, ih]; rfl
theorem val_take_zeros (n k : Nat) : val ((List.replicate n 0).take k) = 0 := by
  rw [List.take_replicate]; exact val_zeros _
/-- No leading nought. -/
def Trim (l : List Nat) : Prop := l = [] ∨ 0 < dg l (l.length - 1)
theorem Trim.low {l : List Nat} (h : Trim l) (hn : l ≠ []) : B ^ (l.length - 1) ≤ val l := by
  rcases h with h | h
  · exact absurd h hn
  · have hl : 0 < l.length := List.length_pos_iff.2 hn
    have e := val_take_succ l (l.length - 1)
    rw [Nat.sub_add_cancel hl, List.take_length] at e
    rw [e]
    have := Nat.mul_le_mul_right (B ^ (l.length - 1)) h
    omega
theorem Trim.zero_iff {l : List Nat} (h : Trim l) : val l = 0 ↔ l = [] := by
  constructor
  · intro e
    apply Classical.byContradiction
    intro hn
    have := h.low hn
    have hp : 0 < B ^ (l.length - 1) := Nat.pow_pos B_pos
    omega
  · rintro rfl; rfl
/-- The greater length, the greater number. -/
theorem lt_of_length {x y : List Nat} (hx : Fits x) (hy : Trim y) (h : x.length < y.length) : val x < val y := by
  have hn : y ≠ [] := by intro e; subst e; simp at h
  have h1 := val_lt hx
  have h2 := hy.low hn
  have h3 : B ^ x.length ≤ B ^ (y.length - 1) := Nat.pow_le_pow_right B_pos (by omega)
  omega
theorem length_le_of_val {x : List Nat} (hx : Trim x) (k : Nat) (h : val x < B ^ k) : x.length ≤ k := by
  apply Classical.byContradiction
  intro hn
  have hne : x ≠ [] := by intro e; subst e; simp at hn
  have h2 := hx.low hne
  have h3 : B ^ k ≤ B ^ (x.length - 1) := Nat.pow_le_pow_right B_pos (by omega)
  omega
/-- Two numbers of like limbs from place k on are compared by the limbs below. -/
theorem val_split (l : List Nat) (k : Nat) : val l = val (l.take k) + B ^ k * val (l.drop k) := by
  by_cases h : k ≤ l.length
  · have := val_append (l.take k) (l.drop k)
    rw [List.take_append_drop, List.length_take, Nat.min_eq_left h] at this
    exact this
  · rw [List.take_of_length_le (by omega), List.drop_eq_nil_of_le (by omega)]; simp [val]
/-- The part of a step: the low limb stays, the rest is carried. -/
theorem carry_split (s p : Nat) : (s % 10000) * p + (s / 10000) * (p * B) = s * p := by
  have h := Nat.div_add_mod s 10000
  have e : s * p = (10000 * (s / 10000) + s % 10000) * p := by rw [h]
  rw [e, Nat.add_mul, B_eq, Nat.mul_comm p 10000, ← Nat.mul_assoc, Nat.mul_comm (s / 10000) 10000]
  omega
theorem val_take_tl (l : List Nat) (n : Nat) : val (l.take (tl l n)) = val (l.take n) := by
  induction n with
  | zero => rfl
  | succ n ih =>
    by_cases h : dg l n = 0
    · rw [tl_skip h, ih, val_take_succ, h]; omega
    · rw [tl_stop h]
theorem val_trimL (l : List Nat) : val (trimL l) = val l := by
  rw [trimL, tlen, val_take_tl, List.take_length]
theorem trim_trimL (l : List Nat) : Trim (trimL l) := by
  by_cases h : tlen l = 0
  · left; rw [trimL, h, List.take_zero]
  · right
    rw [length_trimL, trimL, dg_take (by omega)]
    have := tl_top l l.length (by rw [← tlen]; omega)
    rw [← tlen] at this
    omega
theorem fits_trimL {l : List Nat} (h : Fits l) : Fits (trimL l) := h.take _
/-- Of two numbers that are alike above limb k this limb decides, if it is not alike. -/
theorem val_lt_of_top {x y : List Nat} {k : Nat} (hx : Fits x) (hy : Fits y) (hd : x.drop (k + 1) = y.drop (k + 1)) (h1 : k < x.length) (h2 : k < y.length) (hne : dg x k ≠ dg y k) :
    val x < val y ↔ dg x k < dg y k := by
  have e1 := val_split x (k + 1)
  have e2 := val_split y (k + 1)
  rw [val_take_succ] at e1 e2
  rw [hd] at e1
  have b1 := val_lt (hx.take k)
  have b2 := val_lt (hy.take k)
  rw [List.length_take, Nat.min_eq_left (by omega)] at b1 b2
  generalize hP : B ^ k = P at *
  generalize B ^ (k + 1) * val (y.drop (k + 1)) = T at *
  constructor
  · intro h
    apply Classical.byContradiction
    intro hn
    have h3 : dg y k + 1 ≤ dg x k := by omega
    have h4 := Nat.mul_le_mul_right P h3
    rw [Nat.add_mul] at h4
    omega
  · intro h
    have h3 : dg x k + 1 ≤ dg y k := by omega
    have h4 := Nat.mul_le_mul_right P h3
    rw [Nat.add_mul] at h4
    omega

end Num4
end Go.Proofs.YtmabolifokhlnaaGreatDoor

/-
  POLYNOMIALS as lists of coefficients: values, sums, products, derivatives, what is moved, what is left. Nothing of a program.
-/
namespace Go.Proofs.YtmabolifokhlnaaGreatDoor
set_option linter.unusedVariables false
/-- A coefficient. -/
def co (l : List Rat) (i : Nat) : Rat := l[i]?.getD 0
theorem co_nil (i : Nat) : co [] i = 0 := by simp [co]
theorem co_zero (a : Rat) (l : List Rat) : co (a :: l) 0 = a := by simp [co]
theorem co_succ (a : Rat) (l : List Rat) (i : Nat) : co (a :: l) (i + 1) = co l i := by simp [co]
theorem co_ge {l : List Rat} {i : Nat} (h : l.length ≤ i) : co l i = 0 := by simp [co, h]
/-- The value. -/
def pv : List Rat → Rat → Rat
  | [], _ => 0
  | a :: l, x => a + x * pv l x
theorem pv_nil (x : Rat) : pv [] x = 0 := rfl
theorem pv_cons (a : Rat) (l : List Rat) (x : Rat) : pv (a :: l) x = a + x * pv l x := rfl
theorem pv_zero {l : List Rat} (h : ∀ i, co l i = 0) (x : Rat) : pv l x = 0 := by
  induction l with
  | nil => rfl
  | cons a l ih =>
    have h0 := h 0
    rw [co_zero] at h0
    rw [pv_cons, ih (fun i => by rw [← co_succ a]; exact h (i + 1)), h0]
    grind
theorem pv_congr : ∀ {l m : List Rat}, (∀ i, co l i = co m i) → ∀ x, pv l x = pv m x := by
  intro l
  induction l with
  | nil => intro m h x; rw [pv_nil, pv_zero (fun i => by rw [← h i, co_nil])]
  | cons a l ih =>
    intro m h x
    cases m with
    | nil => rw [pv_nil, pv_zero (fun i => by rw [h i, co_nil])]
    | cons b m =>
      have h0 := h 0
      rw [co_zero, co_zero] at h0
      rw [pv_cons, pv_cons, ih (m := m) (fun i => by have := h (i + 1); rwa [co_succ, co_succ] at this) x, h0]
/-- Divided by x less r. -/
def syn : List Rat → Rat → List Rat
  | [], _ => []
  | _ :: l, r => match l with
    | [] => []
    | _ :: _ => pv l r :: syn l r
theorem syn_len (l : List Rat) (r : Rat) : (syn l r).length = l.length - 1 := by
  induction l with
  | nil => rfl
  | cons a l ih =>
    cases l with
    | nil => rfl
    | cons b l => show (pv (b :: l) r :: syn (b :: l) r).length = _; rw [List.length_cons, ih]; simp
theorem syn_pv (l : List Rat) (r x : Rat) : pv l x = pv l r + (x - r) * pv (syn l r) x := by
  induction l with
  | nil => simp [pv, syn]; grind
  | cons a l ih =>
    cases l with
    | nil => simp [pv, syn]; grind
    | cons b l =>
      show a + x * pv (b :: l) x = a + r * pv (b :: l) r + (x - r) * (pv (b :: l) r + x * pv (syn (b :: l) r) x)
      rw [ih]
      generalize pv (b :: l) r = v
      generalize pv (syn (b :: l) r) x = y
      grind
/-- What is nought from some natural on has no coefficient but nought. -/
theorem co_of_zero : ∀ (n : Nat) (l : List Rat), l.length ≤ n → ∀ N : Nat, (∀ k : Nat, N ≤ k → pv l (k : Rat) = 0) → ∀ i, co l i = 0 := by
  intro n
  induction n with
  | zero =>
    intro l hl N h i
    have : l = [] := List.length_eq_zero_iff.1 (by omega)
    rw [this, co_nil]
  | succ n ih =>
    intro l hl N h
    have hN := h N (Nat.le_refl _)
    have hs : ∀ i, co (syn l N) i = 0 := by
      refine ih _ (by rw [syn_len]; omega) (N + 1) fun k hk => ?_
      have h1 := syn_pv l N k
      rw [h k (by omega), hN] at h1
      have hne : (k : Rat) - (N : Rat) ≠ 0 := by
        have : (N : Rat) < (k : Rat) := by exact_mod_cast hk
        grind
      have h2 : ((k : Rat) - N) * pv (syn l N) k = 0 := by grind
      rcases Rat.mul_eq_zero.1 h2 with h3 | h3
      · exact absurd h3 hne
      · exact h3
    -- the value is the same everywhere: nought
    have hv : ∀ x, pv l x = 0 := by
      intro x
      rw [syn_pv l N x, hN, pv_zero hs]
      grind
    clear hs hN h
    -- so each coefficient in turn
    cases l with
    | nil => intro i; exact co_nil i
    | cons a l =>
      have h0 := hv 0
      rw [pv_cons] at h0
      have ha : a = 0 := by grind
      have hl2 : ∀ i, co l i = 0 := by
        refine ih l (by simpa using hl) 1 fun k hk => ?_
        have h1 := hv k
        rw [pv_cons, ha] at h1
        have hk0 : (k : Rat) ≠ 0 := by
          have : (0 : Rat) < (k : Rat) := by exact_mod_cast hk
          grind
        have h2 : (k : Rat) * pv l k = 0 := by grind
        rcases Rat.mul_eq_zero.1 h2 with h3 | h3
        · exact absurd h3 hk0
        · exact h3
      intro i
      cases i with
      | zero => rw [co_zero, ha]
      | succ i => rw [co_succ]; exact hl2 i
/-- Sums, place by place. -/
def padd : List Rat → List Rat → List Rat
  | [], m => m
  | a :: l, [] => a :: l
  | a :: l, b :: m => (a + b) :: padd l m
theorem padd_nil (l : List Rat) : padd l [] = l := by cases l <;> rfl
theorem co_padd : ∀ (l m : List Rat) (i : Nat), co (padd l m) i = co l i + co m i := by
  intro l
  induction l with
  | nil => intro m i; rw [co_nil]; show co m i = 0 + co m i; grind
  | cons a l ih =>
    intro m i
    cases m with
    | nil => rw [padd_nil, co_nil]; grind
    | cons b m =>
      show co ((a + b) :: padd l m) i = _
      cases i with
      | zero => rw [co_zero, co_zero, co_zero]
      | succ i => rw [co_succ, co_succ, co_succ, ih]
theorem pv_padd : ∀ (l m : List Rat) (x : Rat), pv (padd l m) x = pv l x + pv m x := by
  intro l
  induction l with
  | nil => intro m x; show pv m x = 0 + pv m x; grind
  | cons a l ih =>
    intro m x
    cases m with
    | nil => rw [padd_nil, pv_nil]; grind
    | cons b m =>
      show (a + b) + x * pv (padd l m) x = (a + x * pv l x) + (b + x * pv m x)
      rw [ih]; grind
def psc (c : Rat) (l : List Rat) : List Rat := l.map (c * ·)
theorem co_psc (c : Rat) : ∀ (l : List Rat) (i : Nat), co (psc c l) i = c * co l i := by
  intro l
  induction l with
  | nil => intro i; show co [] i = _; rw [co_nil]; grind
  | cons a l ih =>
    intro i
    show co (c * a :: psc c l) i = _
    cases i with
    | zero => rw [co_zero, co_zero]
    | succ i => rw [co_succ, co_succ, ih]
theorem pv_psc (c : Rat) : ∀ (l : List Rat) (x : Rat), pv (psc c l) x = c * pv l x := by
  intro l
  induction l with
  | nil => intro x; show (0 : Rat) = c * 0; grind
  | cons a l ih => intro x; show c * a + x * pv (psc c l) x = c * (a + x * pv l x); rw [ih]; grind
/-- **Two polynomials with the same value everywhere have the same coefficients.** -/
theorem co_of_pv {l m : List Rat} (h : ∀ x, pv l x = pv m x) (i : Nat) : co l i = co m i := by
  have h1 : ∀ x, pv (padd l (psc (-1) m)) x = 0 := by
    intro x
    rw [pv_padd, pv_psc, h]
    grind
  have h2 := co_of_zero _ _ (Nat.le_refl _) 0 (fun k _ => h1 k) i
  rw [co_padd, co_psc] at h2
  grind
/-- Products. -/
def mulr : List Rat → List Rat → List Rat
  | [], _ => []
  | a :: l, m => padd (psc a m) (0 :: mulr l m)
theorem pv_mulr : ∀ (l m : List Rat) (x : Rat), pv (mulr l m) x = pv l x * pv m x := by
  intro l
  induction l with
  | nil => intro m x; show (0 : Rat) = 0 * _; grind
  | cons a l ih =>
    intro m x
    show pv (padd (psc a m) (0 :: mulr l m)) x = (a + x * pv l x) * pv m x
    rw [pv_padd, pv_psc, pv_cons, ih]
    grind
/-- Sums of so many. -/
def sumN (f : Nat → Rat) : Nat → Rat
  | 0 => 0
  | n + 1 => sumN f n + f n
theorem sumN_congr {f g : Nat → Rat} {n : Nat} (h : ∀ k, k < n → f k = g k) : sumN f n = sumN g n := by
  induction n with
  | zero => rfl
  | succ n ih => show sumN f n + f n = sumN g n + g n; rw [ih (fun k hk => h k (by omega)), h n (by omega)]
theorem sumN_zero {f : Nat → Rat} {n : Nat} (h : ∀ k, k < n → f k = 0) : sumN f n = 0 := by
  induction n with
  | zero => rfl
  | succ n ih => show sumN f n + f n = 0; rw [ih (fun k hk => h k (by omega)), h n (by omega)]; grind
theorem sumN_head (f : Nat → Rat) : ∀ n, sumN f (n + 1) = f 0 + sumN (fun k => f (k + 1)) n := by
  intro n
  induction n with
  | zero => show (0 : Rat) + f 0 = f 0 + 0; grind
  | succ n ih => show sumN f (n + 1) + f (n + 1) = f 0 + (sumN (fun k => f (k + 1)) n + f (n + 1)); rw [ih]; grind
theorem sumN_more (f : Nat → Rat) {n m : Nat} (h : n ≤ m) (h0 : ∀ k, n ≤ k → k < m → f k = 0) : sumN f m = sumN f n := by
  induction m with
  | zero => have : n = 0 := by omega
            rw [this]
  | succ m ih =>
    by_cases hm : n = m + 1
    · rw [hm]
    · show sumN f m + f m = _
      rw [ih (by omega) (fun k h1 h2 => h0 k h1 (by omega)), h0 m (by omega) (by omega)]
      grind
def cnv (l m : List Rat) (i : Nat) : Rat := sumN (fun k => co l k * co m (i - k)) (i + 1)
theorem co_mulr : ∀ (l m : List Rat) (i : Nat), co (mulr l m) i = cnv l m i := by
  intro l
  induction l with
  | nil =>
    intro m i
    show co [] i = _
    rw [co_nil, cnv, sumN_zero]
    intro k _
    rw [co_nil]
    grind
  | cons a l ih =>
    intro m i
    show co (padd (psc a m) (0 :: mulr l m)) i = _
    rw [co_padd, co_psc, cnv, sumN_head]
    cases i with
    | zero =>
      rw [co_zero, co_zero]
      show a * co m 0 + 0 = a * co m 0 + 0
      rfl
    | succ i =>
      rw [co_succ, ih, cnv, co_zero]
      congr 1
      refine sumN_congr fun k hk => ?_
      rw [co_succ, show i + 1 - (k + 1) = i - k by omega]
theorem cnv_big {l m : List Rat} {i : Nat} (h : l.length + m.length ≤ i + 1) : cnv l m i = 0 := by
  refine sumN_zero fun k hk => ?_
  by_cases h1 : l.length ≤ k
  · rw [co_ge h1]; grind
  · rw [co_ge (l := m) (by omega)]; grind
theorem cnv_top {l m : List Rat} {a b : Nat} (ha : l.length = a + 1) (hb : m.length = b + 1) : cnv l m (a + b) = co l a * co m b := by
  have e : a + b + 1 = a + (b + 1) := by omega
  rw [cnv]
  have h1 : sumN (fun k => co l k * co m (a + b - k)) (a + b + 1) = sumN (fun k => co l k * co m (a + b - k)) (a + 1) := by
    refine sumN_more _ (by omega) fun k h1 h2 => ?_
    show co l k * _ = 0
    rw [co_ge (by omega)]; grind
  rw [h1]
  show sumN (fun k => co l k * co m (a + b - k)) a + co l a * co m (a + b - a) = _
  rw [sumN_zero, show a + b - a = b by omega]
  · grind
  · intro k hk
    rw [co_ge (l := m) (by omega)]; grind
/-- Without noughts at the end. -/
def trimQ : List Rat → List Rat
  | [] => []
  | a :: l => if trimQ l = [] ∧ a = 0 then [] else a :: trimQ l
theorem co_trim : ∀ (l : List Rat) (i : Nat), co (trimQ l) i = co l i := by
  intro l
  induction l with
  | nil => intro i; rfl
  | cons a l ih =>
    intro i
    rw [trimQ]
    split
    · rename_i h
      cases i with
      | zero => rw [co_nil, co_zero, h.2]
      | succ i => rw [co_nil, co_succ, ← ih, h.1, co_nil]
    · cases i with
      | zero => rw [co_zero, co_zero]
      | succ i => rw [co_succ, co_succ, ih]
theorem trim_zero {l : List Rat} (h : ∀ i, co l i = 0) : trimQ l = [] := by
  induction l with
  | nil => rfl
  | cons a l ih =>
    have h0 := h 0
    rw [co_zero] at h0
    rw [trimQ, if_pos ⟨ih (fun i => by rw [← co_succ a]; exact h (i + 1)), h0⟩]
/-- **What has the same coefficients is, trimmed, the same.** -/
theorem trim_ext : ∀ {l m : List Rat}, (∀ i, co l i = co m i) → trimQ l = trimQ m := by
  intro l
  induction l with
  | nil => intro m h; exact (trim_zero (fun i => by rw [← h i, co_nil])).symm
  | cons a l ih =>
    intro m h
    cases m with
    | nil => exact trim_zero (fun i => by rw [h i, co_nil])
    | cons b m =>
      have h0 := h 0
      rw [co_zero, co_zero] at h0
      have h1 := ih (m := m) (fun i => by have := h (i + 1); rwa [co_succ, co_succ] at this)
      rw [trimQ, trimQ, h0, h1]
def Trm (l : List Rat) : Prop := trimQ l = l
theorem trm_trim (l : List Rat) : Trm (trimQ l) := trim_ext (co_trim l)
theorem trm_ext {l m : List Rat} (hl : Trm l) (hm : Trm m) (h : ∀ i, co l i = co m i) : l = m := by
  rw [← hl, ← hm]; exact trim_ext h
theorem trim_len (l : List Rat) : (trimQ l).length ≤ l.length := by
  induction l with
  | nil => exact Nat.le_refl _
  | cons a l ih =>
    rw [trimQ]
    split
    · exact Nat.zero_le _
    · simp; exact ih
theorem trm_last {l : List Rat} (h : Trm l) (hn : l ≠ []) : co l (l.length - 1) ≠ 0 := by
  induction l with
  | nil => exact absurd rfl hn
  | cons a l ih =>
    have h' : trimQ (a :: l) = a :: l := h
    rw [trimQ] at h'
    split at h'
    · cases h'
    · rename_i hc
      have hl : trimQ l = l := (List.cons.inj h').2
      cases l with
      | nil =>
        intro e
        exact hc ⟨hl, by simpa [co] using e⟩
      | cons b l =>
        have h1 := ih hl (by simp)
        simp only [List.length_cons, Nat.add_sub_cancel] at h1 ⊢
        rw [co_succ]
        exact h1
theorem trm_of_last {l : List Rat} (h : l = [] ∨ co l (l.length - 1) ≠ 0) : Trm l := by
  induction l with
  | nil => rfl
  | cons a l ih =>
    have h1 := h.resolve_left (by simp)
    show trimQ (a :: l) = a :: l
    cases l with
    | nil =>
      rw [trimQ, if_neg]
      · rfl
      · rintro ⟨_, e⟩
        exact h1 (by simp [co, e])
    | cons b l =>
      simp only [List.length_cons, Nat.add_sub_cancel] at h1
      rw [co_succ] at h1
      have h2 : trimQ (b :: l) = b :: l := ih (.inr (by simpa using h1))
      rw [trimQ, h2, if_neg]
      rintro ⟨e, _⟩
      cases e
/-- As many coefficients as a bound says, off a function. -/
def lof (n : Nat) (f : Nat → Rat) : List Rat := (List.range n).map f
theorem co_lof (n : Nat) (f : Nat → Rat) (i : Nat) : co (lof n f) i = if i < n then f i else 0 := by
  unfold co lof
  rw [List.getElem?_map]
  by_cases h : i < n
  · rw [List.getElem?_range h, if_pos h]; rfl
  · rw [if_neg h, List.getElem?_eq_none (by simp; omega)]; rfl
/-- What the reference tells. -/
def addp (l m : List Rat) : List Rat := trimQ (lof (max l.length m.length) fun i => co l i + co m i)
def mulp (l m : List Rat) : List Rat := trimQ (lof (l.length + m.length - 1) (cnv l m))
theorem co_addp (l m : List Rat) (i : Nat) : co (addp l m) i = co l i + co m i := by
  rw [addp, co_trim, co_lof]
  split
  · rfl
  · rw [co_ge (by omega), co_ge (by omega)]; grind
theorem co_mulp (l m : List Rat) (i : Nat) : co (mulp l m) i = cnv l m i := by
  rw [mulp, co_trim, co_lof]
  split
  · rfl
  · exact (cnv_big (by omega)).symm
theorem pv_addp (l m : List Rat) (x : Rat) : pv (addp l m) x = pv l x + pv m x := by
  rw [← pv_padd]; exact pv_congr (fun i => by rw [co_addp, co_padd]) x
theorem pv_mulp (l m : List Rat) (x : Rat) : pv (mulp l m) x = pv l x * pv m x := by
  rw [← pv_mulr]; exact pv_congr (fun i => by rw [co_mulp, co_mulr]) x
theorem trm_addp (l m : List Rat) : Trm (addp l m) := trm_trim _
theorem trm_mulp (l m : List Rat) : Trm (mulp l m) := trm_trim _
/-- **Trimmed, and with the same value everywhere: the same.** -/
theorem trm_pv {l m : List Rat} (hl : Trm l) (hm : Trm m) (h : ∀ x, pv l x = pv m x) : l = m := trm_ext hl hm (co_of_pv h)
/-- The derivative, from the first coefficient on. -/
def pder : List Rat → List Rat
  | [] => []
  | _ :: l => padd l (0 :: pder l)
theorem co_pder : ∀ (l : List Rat) (i : Nat), co (pder l) i = co l (i + 1) * ((i : Rat) + 1) := by
  intro l
  induction l with
  | nil => intro i; show co [] i = _; rw [co_nil, co_nil]; grind
  | cons a l ih =>
    intro i
    show co (padd l (0 :: pder l)) i = _
    rw [co_padd, co_succ]
    cases i with
    | zero => rw [co_zero]; simp; grind
    | succ i =>
      rw [co_succ, ih]
      push_cast
      grind
/-- What the reference tells. -/
def slope (l : List Rat) : List Rat := trimQ (lof (l.length - 1) fun i => co l (i + 1) * ((i : Rat) + 1))
theorem co_slope (l : List Rat) (i : Nat) : co (slope l) i = co (pder l) i := by
  rw [slope, co_trim, co_lof, co_pder]
  split
  · rfl
  · rw [co_ge (by omega)]; grind
theorem trm_slope (l : List Rat) : Trm (slope l) := trm_trim _
/-- Moved: with x and a together in place of x (by Horner). -/
def pmov : List Rat → Rat → List Rat
  | [], _ => []
  | c :: l, a => padd [c] (mulr [a, 1] (pmov l a))
theorem pv_pmov : ∀ (l : List Rat) (a x : Rat), pv (pmov l a) x = pv l (x + a) := by
  intro l
  induction l with
  | nil => intro a x; rfl
  | cons c l ih =>
    intro a x
    show pv (padd [c] (mulr [a, 1] (pmov l a))) x = c + (x + a) * pv l (x + a)
    rw [pv_padd, pv_mulr, ih]
    show (c + x * 0) + (a + x * (1 + x * 0)) * _ = _
    grind
def moved (l : List Rat) (a : Rat) : List Rat := trimQ (pmov l a)
theorem pv_trim (l : List Rat) (x : Rat) : pv (trimQ l) x = pv l x := pv_congr (co_trim l) x
theorem pv_moved (l : List Rat) (a x : Rat) : pv (moved l a) x = pv l (x + a) := by rw [moved, pv_trim, pv_pmov]
theorem trm_moved (l : List Rat) (a : Rat) : Trm (moved l a) := trm_trim _
theorem co_mul_lin (a : Rat) (m : List Rat) : co (mulr [a, 1] m) 0 = a * co m 0 ∧ ∀ i, co (mulr [a, 1] m) (i + 1) = a * co m (i + 1) + co m i := by
  have e : mulr [a, 1] m = padd (psc a m) (0 :: padd (psc 1 m) (0 :: [])) := rfl
  constructor
  · rw [e, co_padd, co_psc, co_zero]; grind
  · intro i
    rw [e, co_padd, co_psc, co_succ, co_padd, co_psc]
    cases i with
    | zero => rw [co_zero]; grind
    | succ i => rw [co_succ, co_nil]; grind
theorem co_pmov_top : ∀ (l : List Rat) (a : Rat), (∀ i, l.length ≤ i → co (pmov l a) i = 0) ∧ co (pmov l a) (l.length - 1) = co l (l.length - 1) := by
  intro l
  induction l with
  | nil => intro a; exact ⟨fun i _ => co_nil i, rfl⟩
  | cons c l ih =>
    intro a
    obtain ⟨h1, h2⟩ := ih a
    have e : pmov (c :: l) a = padd [c] (mulr [a, 1] (pmov l a)) := rfl
    obtain ⟨m0, m1⟩ := co_mul_lin a (pmov l a)
    constructor
    · intro i hi
      rw [List.length_cons] at hi
      obtain ⟨j, rfl⟩ : ∃ j, i = j + 1 := ⟨i - 1, by omega⟩
      rw [e, co_padd, co_succ, co_nil, m1, h1 _ (by omega), h1 _ (by omega)]
      grind
    · rw [List.length_cons, Nat.add_sub_cancel]
      cases l with
      | nil =>
        rw [e, co_padd]
        show co [c] 0 + co (mulr [a, 1] (pmov [] a)) 0 = co [c] 0
        rw [m0]
        show co [c] 0 + a * co [] 0 = _
        rw [co_nil]; grind
      | cons d l =>
        rw [e, co_padd, List.length_cons, co_succ, co_succ, co_nil, m1, h1 _ (by simp)]
        have h3 : co (pmov (d :: l) a) l.length = co (d :: l) l.length := by simpa using h2
        rw [h3]
        grind
theorem len_of {l : List Rat} {n : Nat} (hl : Trm l) (hn : 1 ≤ n) (h1 : co l (n - 1) ≠ 0) (h0 : ∀ i, n ≤ i → co l i = 0) : l.length = n := by
  have hne : l ≠ [] := by rintro rfl; exact h1 (co_nil _)
  have ht := trm_last hl hne
  have hp : 0 < l.length := List.length_pos_iff.2 hne
  rcases Nat.lt_trichotomy l.length n with h | h | h
  · exact absurd (co_ge (by omega)) h1
  · exact h
  · exact absurd (h0 _ (by omega)) ht
theorem moved_len {l : List Rat} (hl : Trm l) (a : Rat) : (moved l a).length = l.length := by
  cases l with
  | nil => rfl
  | cons c l =>
    obtain ⟨h1, h2⟩ := co_pmov_top (c :: l) a
    refine len_of (trm_moved _ _) (by simp) ?_ ?_
    · rw [moved, co_trim, h2]
      exact trm_last hl (by simp)
    · intro i hi
      rw [moved, co_trim]
      exact h1 i hi
/-- **EUCLID: what is left is just that.** -/
theorem div_unique {q k1 r1 k2 r2 : List Rat} (hq : Trm q) (h0 : q ≠ []) (hk1 : Trm k1) (hr1 : Trm r1) (hk2 : Trm k2) (hr2 : Trm r2) (l1 : r1.length < q.length) (l2 : r2.length < q.length)
    (h : ∀ x, pv k1 x * pv q x + pv r1 x = pv k2 x * pv q x + pv r2 x) : k1 = k2 ∧ r1 = r2 := by
  have key : ∀ d : List Rat, Trm d → (∀ x, pv d x * pv q x = pv (padd r2 (psc (-1) r1)) x) → d = [] := by
    intro d hd hx
    apply Classical.byContradiction
    intro hne
    have hc := co_of_pv (l := mulr d q) (m := padd r2 (psc (-1) r1)) (fun x => by rw [pv_mulr, hx])
    obtain ⟨a, ha⟩ : ∃ a, d.length = a + 1 := ⟨d.length - 1, by have := List.length_pos_iff.2 hne; omega⟩
    obtain ⟨b, hb⟩ : ∃ b, q.length = b + 1 := ⟨q.length - 1, by have := List.length_pos_iff.2 h0; omega⟩
    have h1 := hc (a + b)
    rw [co_mulr, cnv_top ha hb, co_padd, co_psc, co_ge (l := r2) (by omega), co_ge (l := r1) (by omega)] at h1
    have h2 := trm_last hd hne
    have h3 := trm_last hq h0
    rw [ha, Nat.add_sub_cancel] at h2
    rw [hb, Nat.add_sub_cancel] at h3
    have h4 : co d a * co q b = 0 := by rw [h1]; grind
    rcases Rat.mul_eq_zero.1 h4 with h5 | h5
    · exact h2 h5
    · exact h3 h5
  have hd := key (trimQ (padd k1 (psc (-1) k2))) (trm_trim _) (fun x => by
    have := h x
    rw [pv_trim, pv_padd, pv_psc, pv_padd, pv_psc]
    grind)
  have hk : k1 = k2 := by
    refine trm_ext hk1 hk2 fun i => ?_
    have h1 := co_trim (padd k1 (psc (-1) k2)) i
    rw [hd, co_nil, co_padd, co_psc] at h1
    grind
  subst hk
  refine ⟨rfl, trm_pv hr1 hr2 fun x => ?_⟩
  have := h x
  grind
end Go.Proofs.YtmabolifokhlnaaGreatDoor

/-
  POLYNOMIALS: one division by steps; the value power by power. Nothing of a program.
-/
namespace Go.Proofs.YtmabolifokhlnaaGreatDoor
set_option linter.unusedVariables false
/-- The last coefficient. -/
def top (l : List Rat) : Rat := co l (l.length - 1)
theorem top_ne {l : List Rat} (h : Trm l) (hn : l ≠ []) : top l ≠ 0 := trm_last h hn
/-- A power times a number. -/
def mon (d : Nat) (c : Rat) : List Rat := List.replicate d 0 ++ [c]
theorem len_mon (d : Nat) (c : Rat) : (mon d c).length = d + 1 := by simp [mon]
theorem co_mon (d : Nat) (c : Rat) (i : Nat) : co (mon d c) i = if i = d then c else 0 := by
  unfold co mon
  by_cases h : i < d
  · rw [List.getElem?_append_left (by simpa using h), if_neg (by omega)]
    simp [h]
  · rw [List.getElem?_append_right (by simpa using h)]
    by_cases h2 : i = d
    · subst h2; simp
    · rw [if_neg h2, List.getElem?_eq_none (by simp; omega)]; rfl
theorem pow_nat_succ (x : Rat) (n : Nat) : x ^ (n + 1) = x ^ n * x := Rat.pow_succ x n
theorem pv_mon (d : Nat) (c x : Rat) : pv (mon d c) x = c * x ^ d := by
  induction d with
  | zero => show c + x * 0 = c * x ^ 0; rw [Rat.pow_zero]; grind
  | succ d ih =>
    show (0 : Rat) + x * pv (mon d c) x = _
    rw [ih, pow_nat_succ]; grind
theorem cnv_mon (d : Nat) (c : Rat) (q : List Rat) (i : Nat) : cnv (mon d c) q i = if d ≤ i then c * co q (i - d) else 0 := by
  unfold cnv
  split
  · rename_i h
    have h1 : sumN (fun k => co (mon d c) k * co q (i - k)) (i + 1) = sumN (fun k => co (mon d c) k * co q (i - k)) (d + 1) := by
      refine sumN_more _ (by omega) fun k h1 h2 => ?_
      show co (mon d c) k * _ = 0
      rw [co_mon, if_neg (by omega)]; grind
    rw [h1]
    show sumN _ d + co (mon d c) d * co q (i - d) = _
    rw [sumN_zero, co_mon, if_pos rfl]
    · grind
    · intro k hk
      rw [co_mon, if_neg (by omega)]; grind
  · rename_i h
    refine sumN_zero fun k hk => ?_
    rw [co_mon, if_neg (by omega)]; grind
/-- One step of a division: what is left. -/
def stepp (p q : List Rat) : List Rat := addp p (mulp (mulp (mon (p.length - q.length) (top p / top q)) q) (trimQ [-1]))
theorem trm_stepp (p q : List Rat) : Trm (stepp p q) := trm_addp _ _
theorem pv_minus (x : Rat) : pv (trimQ [-1]) x = -1 := by rw [pv_trim]; show (-1 : Rat) + x * 0 = _; grind
theorem pv_stepp (p q : List Rat) (x : Rat) : pv (stepp p q) x = pv p x - top p / top q * x ^ (p.length - q.length) * pv q x := by
  rw [stepp, pv_addp, pv_mulp, pv_mulp, pv_mon, pv_minus]; grind
theorem co_stepp (p q : List Rat) (i : Nat) : co (stepp p q) i = co p i - (if p.length - q.length ≤ i then top p / top q * co q (i - (p.length - q.length)) else 0) := by
  have h : ∀ x, pv (stepp p q) x = pv (padd p (psc (-1) (mulr (mon (p.length - q.length) (top p / top q)) q))) x := by
    intro x
    rw [pv_stepp, pv_padd, pv_psc, pv_mulr, pv_mon]; grind
  rw [co_of_pv h i, co_padd, co_psc, co_mulr, cnv_mon]
  split <;> grind
theorem stepp_less {p q : List Rat} (hp : Trm p) (hq : Trm q) (h0 : q ≠ []) (hl : q.length ≤ p.length) : (stepp p q).length < p.length := by
  have hq1 : 0 < q.length := List.length_pos_iff.2 h0
  apply Classical.byContradiction
  intro h
  have hne : stepp p q ≠ [] := by intro e; rw [e, List.length_nil] at h; omega
  have ht := trm_last (trm_stepp p q) hne
  apply ht
  rw [co_stepp]
  by_cases hg : p.length ≤ (stepp p q).length - 1
  · have hz : co q ((stepp p q).length - 1 - (p.length - q.length)) = 0 := co_ge (by omega)
    rw [co_ge hg, if_pos (by omega), hz]; grind
  · have e : (stepp p q).length - 1 = p.length - 1 := by omega
    rw [e, if_pos (by omega), show p.length - 1 - (p.length - q.length) = q.length - 1 by omega]
    have hz : top q ≠ 0 := top_ne hq h0
    show top p - top p / top q * top q = 0
    rw [Rat.div_mul_cancel hz]; grind
/-- Value: power by power. -/
theorem pv_sum (l : List Rat) (x : Rat) : pv l x = sumN (fun i => co l i * x ^ i) l.length := by
  induction l with
  | nil => rfl
  | cons a l ih =>
    rw [pv_cons, List.length_cons, sumN_head, co_zero, ih, Rat.pow_zero]
    have h : ∀ n, x * sumN (fun i => co l i * x ^ i) n = sumN (fun k => co (a :: l) (k + 1) * x ^ (k + 1)) n := by
      intro n
      induction n with
      | zero => show x * 0 = 0; grind
      | succ n ih2 =>
        show x * (sumN (fun i => co l i * x ^ i) n + co l n * x ^ n) = sumN (fun k => co (a :: l) (k + 1) * x ^ (k + 1)) n + co (a :: l) (n + 1) * x ^ (n + 1)
        rw [← ih2, co_succ, pow_nat_succ]; grind
    rw [h]
    grind
/-- What a division by steps holds. -/
theorem div_steps {p0 p q out : List Rat} (hp : Trm p) (hq : Trm q) (h0 : q ≠ []) (hl : q.length ≤ p.length) (h : ∀ x, pv p0 x = pv out x * pv q x + pv p x) :
    ∀ x, pv p0 x = pv (addp out (mon (p.length - q.length) (top p / top q))) x * pv q x + pv (stepp p q) x := by
  intro x
  rw [pv_addp, pv_mon, pv_stepp, h x]; grind
end Go.Proofs.YtmabolifokhlnaaGreatDoor

/-
  CONTINUED FRACTIONS; THE NEAREST FRACTION OF A SMALL DENOMINATOR: the mathematics.
-/
namespace Go.Proofs.YtmabolifokhlnaaGreatDoor
set_option linter.unusedVariables false
set_option linter.unusedSimpArgs false
/-! ### The nearest one -/
def siz (q : Rat) : Rat := if q < 0 then -q else q
/-- p is the one to tell: of all with a denominator of m or less the nearest to x; of two the one of the smaller denominator, or the smaller one. -/
def Bst (x : Rat) (m : Nat) (p : Rat) : Prop := p.den ≤ m ∧ ∀ r : Rat, r.den ≤ m → siz (x - p) < siz (x - r) ∨ (siz (x - p) = siz (x - r) ∧ (p.den < r.den ∨ (p.den = r.den ∧ p ≤ r)))
theorem Bst.least {x p r : Rat} {m : Nat} (h : Bst x m p) (hr : r.den ≤ m) : siz (x - p) ≤ siz (x - r) := by
  rcases h.2 r hr with h | ⟨h, _⟩
  · exact Rat.le_of_lt h
  · rw [h]; exact Rat.le_refl
theorem Bst.self {x p : Rat} {m : Nat} (h : Bst x m p) (hr : x.den ≤ m) : p = x := by
  have := h.least hr
  unfold siz at this
  grind
/-- Side by side: nothing lies between but what has a denominator as great as both together. -/
def Adj (l h : Rat) : Prop := h.num * l.den - l.num * h.den = 1
theorem Adj.far {l h r : Rat} {m : Nat} (ha : Adj l h) (hm : m < l.den + h.den) (hr : r.den ≤ m) : r ≤ l ∨ h ≤ r := by
  by_cases h1 : r ≤ l
  · exact .inl h1
  by_cases h2 : h ≤ r
  · exact .inr h2
  exfalso
  have h1 := (Rat.lt_iff _ _).1 (Rat.not_le.1 h1)
  have h2 := (Rat.lt_iff _ _).1 (Rat.not_le.1 h2)
  unfold Adj at ha
  have e : (r.den : Int) = l.den * (h.num * r.den - r.num * h.den) + h.den * (r.num * l.den - l.num * r.den) := by
    have : l.den * (h.num * r.den - r.num * h.den) + h.den * (r.num * l.den - l.num * r.den) = (r.den : Int) * (h.num * l.den - l.num * h.den) := by grind
    rw [this, ha]; omega
  have p1 : (l.den : Int) * 1 ≤ l.den * (h.num * r.den - r.num * h.den) := Int.mul_le_mul_of_nonneg_left (by omega) (by omega)
  have p2 : (h.den : Int) * 1 ≤ h.den * (r.num * l.den - l.num * r.den) := Int.mul_le_mul_of_nonneg_left (by omega) (by omega)
  omega
theorem Adj.lt {l h : Rat} (ha : Adj l h) : l < h := by
  unfold Adj at ha
  exact (Rat.lt_iff _ _).2 (by omega)
end Go.Proofs.YtmabolifokhlnaaGreatDoor

/-
  INTERVALS: what holds of least and greatest of products and quotients. Nothing of a program.
-/
namespace Go.Proofs.YtmabolifokhlnaaGreatDoor
set_option linter.unusedVariables false
def mx (a b : Rat) : Rat := if a < b then b else a
def hi4 (a b c d : Rat) : Rat := mx (mx (mx a b) c) d
end Go.Proofs.YtmabolifokhlnaaGreatDoor
