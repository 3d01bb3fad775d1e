/-
  PLAIN NUMBERS: natural numbers as lists of limbs to the base 4294967296, the least one first: their value. Nothing of a program.
-/
namespace Go.Proofs.Ytokojbgpboccnaa
namespace Num

def B : Nat := 4294967296
theorem B_eq : B = 4294967296 := rfl
theorem B_pos : 0 < B := by decide

/-- Limb i; 0 beyond the end. -/
def dg (l : List Nat) (i : Nat) : Nat := (l[i]?).getD 0
theorem dg_lt {l : List Nat} {i : Nat} (h : i < l.length) : dg l i = l[i] := by simp [dg, h]
theorem dg_ge {l : List Nat} {i : Nat} (h : l.length ≤ i) : dg l i = 0 := by simp [dg, h]
theorem dg_zeros (n i : Nat) : dg (List.replicate n 0) i = 0 := by simp only [dg, List.getElem?_replicate]; split <;> simp
theorem dg_take {l : List Nat} {i k : Nat} (h : i < k) : dg (l.take k) i = dg l i := by simp [dg, h]
theorem dg_drop {l : List Nat} {i k : Nat} : dg (l.drop k) i = dg l (k + i) := by simp [dg, List.getElem?_drop]

/-- The value of limbs, the least one first. -/
def val : List Nat → Nat
  | [] => 0
  | x :: xs => x + B * val xs

theorem val_nil : val [] = 0 := rfl
theorem val_cons (x : Nat) (xs : List Nat) : val (x :: xs) = x + B * val xs := rfl

theorem val_append (a b : List Nat) : val (a ++ b) = val a + B ^ a.length * val b := by
  induction a with
  | nil => simp [val]
  | cons x xs ih => simp only [List.cons_append, val_cons, ih, List.length_cons, Nat.pow_succ]; rw [Nat.mul_add, Nat.mul_comm (B ^ xs.length) B, Nat.mul_assoc]; omega

theorem val_split' (l : List Nat) (k : Nat) : val l = val (l.take k) + B ^ (l.take k).length * val (l.drop k) := by
  have := val_append (l.take k) (l.drop k)
  rw [List.take_append_drop] at this
  exact this

theorem val_single (x : Nat) : val [x] = x := by simp [val]

/-- One place more is read: what lies beyond the end counts 0. -/
theorem val_take_succ (l : List Nat) (k : Nat) : val (l.take (k + 1)) = val (l.take k) + dg l k * B ^ k := by
  by_cases h : k < l.length
  · rw [List.take_succ_eq_append_getElem h, val_append, val_single, List.length_take, Nat.min_eq_left (by omega), dg_lt h, Nat.mul_comm]
  · rw [List.take_of_length_le (by omega), List.take_of_length_le (by omega), dg_ge (by omega)]; omega

theorem val_take_all (l : List Nat) (k : Nat) (h : l.length ≤ k) : val (l.take k) = val l := by rw [List.take_of_length_le h]

/-- A limb is written behind those that were read. -/
theorem val_take_set (l : List Nat) (k x : Nat) (h : k < l.length) : val ((l.set k x).take (k + 1)) = val (l.take k) + x * B ^ k := by
  rw [val_take_succ, List.take_set_of_le (Nat.le_refl k)]
  rw [dg_lt (by simpa using h), List.getElem_set_self]

theorem dg_set_self (l : List Nat) (k x : Nat) (h : k < l.length) : dg (l.set k x) k = x := by
  rw [dg_lt (by simpa using h), List.getElem_set_self]

theorem dg_set_ne (l : List Nat) (k j x : Nat) (h : j ≠ k) : dg (l.set k x) j = dg l j := by
  simp only [dg, List.getElem?_set]
  rw [if_neg (by omega)]

/-- One limb is written. -/
theorem val_set (l : List Nat) (k x : Nat) (h : k < l.length) : val (l.set k x) + dg l k * B ^ k = val l + x * B ^ k := by
  have e1 := val_split' (l.set k x) (k + 1)
  have e2 := val_split' l (k + 1)
  rw [List.drop_set_of_lt (by omega)] at e1
  rw [List.length_take, List.length_set] at e1
  rw [List.length_take] at e2
  have h1 := val_take_set l k x h
  have h2 := val_take_succ l k
  omega

/-- All limbs fit. -/
def Fits (l : List Nat) : Prop := ∀ i, dg l i < 4294967296

theorem Fits.nil : Fits [] := fun i => by simp [dg]
theorem Fits.take {l : List Nat} (h : Fits l) (k : Nat) : Fits (l.take k) := fun i => by
  have := h i
  simp only [dg, List.getElem?_take] at this ⊢
  split <;> simp_all
theorem Fits.drop {l : List Nat} (h : Fits l) (k : Nat) : Fits (l.drop k) := fun i => by
  have := h (k + i)
  simp only [dg, List.getElem?_drop] at this ⊢
  exact this
theorem Fits.set {l : List Nat} (h : Fits l) (k x : Nat) (hx : x < 4294967296) : Fits (l.set k x) := fun i => by
  by_cases e : i = k
  · subst e
    by_cases hl : i < l.length
    · rw [dg_set_self _ _ _ hl]; exact hx
    · rw [dg_ge (by simp; omega)]; omega
  · rw [dg_set_ne _ _ _ _ e]; exact h i
theorem Fits.append {a b : List Nat} (ha : Fits a) (hb : Fits b) : Fits (a ++ b) := fun i => by
  by_cases h : i < a.length
  · have := ha i
    simp only [dg] at this ⊢
    rw [List.getElem?_append_left h]; exact this
  · have := hb (i - a.length)
    simp only [dg] at this ⊢
    rw [List.getElem?_append_right (by omega)]; exact this
theorem Fits.single {x : Nat} (h : x < 4294967296) : Fits [x] := fun i => by
  match i with
  | 0 => simpa [dg] using h
  | i + 1 => simp [dg]
theorem Fits.zeros (n : Nat) : Fits (List.replicate n 0) := fun i => by
  simp only [dg, List.getElem?_replicate]; split <;> simp
theorem Fits.cons {x : Nat} {l : List Nat} (h : Fits (x :: l)) : x < 4294967296 ∧ Fits l := ⟨by simpa [dg] using h 0, fun i => by simpa [dg] using h (i + 1)⟩

theorem val_lt {l : List Nat} (h : Fits l) : val l < B ^ l.length := by
  induction l with
  | nil => simp [val]
  | cons x xs ih =>
    obtain ⟨h1, h2⟩ := h.cons
    have := ih h2
    rw [val_cons, List.length_cons, Nat.pow_succ, Nat.mul_comm (B ^ xs.length) B]
    have h3 : val xs + 1 ≤ B ^ xs.length := this
    have h4 := Nat.mul_le_mul_left B h3
    rw [Nat.mul_add] at h4
    simp only [B_eq] at h4 ⊢
    omega

theorem val_zeros (n : Nat) : val (List.replicate n 0) = 0 := by
  induction n with
  | zero => rfl
  | succ n ih => rw [List.replicate_succ, val_cons, ih]; rfl

/-- No leading nought. -/
def Trim (l : List Nat) : Prop := l = [] ∨ 0 < dg l (l.length - 1)

theorem Trim.low {l : List Nat} (h : Trim l) (hn : l ≠ []) : B ^ (l.length - 1) ≤ val l := by
  rcases h with h | h
  · exact absurd h hn
  · have hl : 0 < l.length := List.length_pos_iff.2 hn
    have e := val_take_succ l (l.length - 1)
    rw [Nat.sub_add_cancel hl, List.take_length] at e
    rw [e]
    have := Nat.mul_le_mul_right (B ^ (l.length - 1)) h
    omega

theorem Trim.zero_iff {l : List Nat} (h : Trim l) : val l = 0 ↔ l = [] := by
  constructor
  · intro e
    apply Classical.byContradiction
    intro hn
    have := h.low hn
    have hp : 0 < B ^ (l.length - 1) := Nat.pow_pos B_pos
    omega
  · rintro rfl; rfl

/-- The greater length, the greater number. -/
theorem lt_of_length {x y : List Nat} (hx : Fits x) (hy : Trim y) (h : x.length < y.length) : val x < val y := by
  have hn : y ≠ [] := by intro e; subst e; simp at h
  have h1 := val_lt hx
  have h2 := hy.low hn
  have h3 : B ^ x.length ≤ B ^ (y.length - 1) := Nat.pow_le_pow_right B_pos (by omega)
  omega

theorem length_le_of_val {x : List Nat} (hx : Trim x) (k : Nat) (h : val x < B ^ k) : x.length ≤ k := by
  apply Classical.byContradiction
  intro hn
  have hne : x ≠ [] := by intro e; subst e; simp at hn
  have h2 := hx.low hne
  have h3 : B ^ k ≤ B ^ (x.length - 1) := Nat.pow_le_pow_right B_pos (by omega)
  omega

/-- Two numbers of like limbs from place k on are compared by the limbs below. -/
theorem val_split (l : List Nat) (k : Nat) : val l = val (l.take k) + B ^ k * val (l.drop k) := by
  by_cases h : k ≤ l.length
  · have := val_append (l.take k) (l.drop k)
    rw [List.take_append_drop, List.length_take, Nat.min_eq_left h] at this
    exact this
  · rw [List.take_of_length_le (by omega), List.drop_eq_nil_of_le (by omega)]; simp [val]

/-- The part of a step: the low limb stays, the rest is carried. -/
theorem carry_split (s p : Nat) : (s % 4294967296) * p + (s / 4294967296) * (p * B) = s * p := by
  have h := Nat.div_add_mod s 4294967296
  have e : s * p = (4294967296 * (s / 4294967296) + s % 4294967296) * p := by rw [h]
  rw [e, Nat.add_mul, B_eq, Nat.mul_comm p 4294967296, ← Nat.mul_assoc, Nat.mul_comm (s / 4294967296) 4294967296]
  omega

/-- How many limbs are left without leading noughts, out of the first n. -/
def tl (l : List Nat) : Nat → Nat
  | 0 => 0
  | n + 1 => if dg l n = 0 then tl l n else n + 1
def tlen (l : List Nat) : Nat := tl l l.length
theorem tl_zero (l : List Nat) : tl l 0 = 0 := rfl
theorem tl_skip {l : List Nat} {n : Nat} (h : dg l n = 0) : tl l (n + 1) = tl l n := by simp [tl, h]
theorem tl_stop {l : List Nat} {n : Nat} (h : dg l n ≠ 0) : tl l (n + 1) = n + 1 := by simp [tl, h]
theorem tl_le (l : List Nat) (n : Nat) : tl l n ≤ n := by
  induction n with
  | zero => exact Nat.le_refl _
  | succ n ih => unfold tl; split <;> omega
theorem tlen_le (l : List Nat) : tlen l ≤ l.length := tl_le l _
def trimL (l : List Nat) : List Nat := l.take (tlen l)
theorem length_trimL (l : List Nat) : (trimL l).length = tlen l := by
  rw [trimL, List.length_take, Nat.min_eq_left (tlen_le l)]
theorem val_take_tl (l : List Nat) (n : Nat) : val (l.take (tl l n)) = val (l.take n) := by
  induction n with
  | zero => rfl
  | succ n ih =>
    by_cases h : dg l n = 0
    · rw [tl_skip h, ih, val_take_succ, h]; omega
    · rw [tl_stop h]
theorem val_trimL (l : List Nat) : val (trimL l) = val l := by
  rw [trimL, tlen, val_take_tl, List.take_length]
theorem tl_top (l : List Nat) (n : Nat) (h : 0 < tl l n) : dg l (tl l n - 1) ≠ 0 := by
  induction n with
  | zero => simp [tl] at h
  | succ n ih =>
    by_cases e : dg l n = 0
    · rw [tl_skip e] at h ⊢; exact ih h
    · rw [tl_stop e]; exact e
theorem trim_trimL (l : List Nat) : Trim (trimL l) := by
  by_cases h : tlen l = 0
  · left; rw [trimL, h, List.take_zero]
  · right
    rw [length_trimL, trimL, dg_take (by omega)]
    have := tl_top l l.length (by rw [← tlen]; omega)
    rw [← tlen] at this
    omega
theorem fits_trimL {l : List Nat} (h : Fits l) : Fits (trimL l) := h.take _
theorem drop_dg {l : List Nat} {k : Nat} (h : k < l.length) : l.drop k = dg l k :: l.drop (k + 1) := by
  rw [List.drop_eq_getElem_cons h, dg_lt h]

/-- Of two numbers that are alike above limb k this limb decides, if it is not alike. -/
theorem val_lt_of_top {x y : List Nat} {k : Nat} (hx : Fits x) (hy : Fits y) (hd : x.drop (k + 1) = y.drop (k + 1)) (h1 : k < x.length) (h2 : k < y.length) (hne : dg x k ≠ dg y k) :
    val x < val y ↔ dg x k < dg y k := by
  have e1 := val_split x (k + 1)
  have e2 := val_split y (k + 1)
  rw [val_take_succ] at e1 e2
  rw [hd] at e1
  have b1 := val_lt (hx.take k)
  have b2 := val_lt (hy.take k)
  rw [List.length_take, Nat.min_eq_left (by omega)] at b1 b2
  generalize hP : B ^ k = P at *
  generalize B ^ (k + 1) * val (y.drop (k + 1)) = T at *
  constructor
  · intro h
    apply Classical.byContradiction
    intro hn
    have h3 : dg y k + 1 ≤ dg x k := by omega
    have h4 := Nat.mul_le_mul_right P h3
    rw [Nat.add_mul] at h4
    omega
  · intro h
    have h3 : dg x k + 1 ≤ dg y k := by omega
    have h4 := Nat.mul_le_mul_right P h3
    rw [Nat.add_mul] at h4
    omega

end Num
end Go.Proofs.Ytokojbgpboccnaa

/-
  PLAIN TEXTS: decimal digits. Nothing of a program.
-/
namespace Go.Proofs.Ytokojbgpboccnaa
namespace Num

def isDig (b : UInt8) : Bool := decide (48 ≤ b.toNat ∧ b.toNat ≤ 57)
/-- A natural number's text: digits, without a leading 0. -/
def isNat (l : List UInt8) : Bool := !l.isEmpty && !(l.head? == some 48 && !(l == [48])) && l.all isDig
def dval (l : List UInt8) : Nat := l.foldl (fun n b => 10 * n + (b.toNat - 48)) 0

theorem isNat_nil : isNat [] = false := rfl
theorem isNat_lead {l : List UInt8} (h1 : l.head? = some 48) (h2 : (l == [48]) = false) : isNat l = false := by
  simp [isNat, h1, h2]
theorem isNat_rest {l : List UInt8} (h0 : l ≠ []) (h : l.head? ≠ some 48 ∨ (l == [48]) = true) : isNat l = l.all isDig := by
  rw [isNat]
  have e0 : l.isEmpty = false := by simpa using h0
  rw [e0]
  rcases h with h | h
  · have : (l.head? == some 48) = false := by simpa using h
    simp [this]
  · simp [h]

theorem dval_nil : dval [] = 0 := rfl
theorem dval_snoc (l : List UInt8) (b : UInt8) : dval (l ++ [b]) = 10 * dval l + (b.toNat - 48) := by
  simp [dval, List.foldl_append]
theorem foldl_dval (l : List UInt8) (n : Nat) : l.foldl (fun n b => 10 * n + (b.toNat - 48)) n = n * 10 ^ l.length + dval l := by
  induction l generalizing n with
  | nil => simp [dval]
  | cons b l ih =>
    have e : dval (b :: l) = (10 * 0 + (b.toNat - 48)) * 10 ^ l.length + dval l := by rw [dval, List.foldl_cons, ih]
    rw [List.foldl_cons, ih, e, List.length_cons, Nat.pow_succ]
    simp only [Nat.mul_zero, Nat.zero_add, Nat.add_mul]
    rw [Nat.mul_comm 10 n, Nat.mul_assoc, Nat.mul_comm 10 (10 ^ l.length)]
    omega
theorem dval_append (a b : List UInt8) : dval (a ++ b) = dval a * 10 ^ b.length + dval b := by
  rw [dval, List.foldl_append, foldl_dval]; rfl
theorem all_drop {l : List UInt8} (h : l.all isDig = true) (k : Nat) : (l.drop k).all isDig = true := by
  rw [List.all_eq_true] at h ⊢
  exact fun x hx => h x (List.mem_of_mem_drop hx)
theorem dval_lt {l : List UInt8} (h : l.all isDig = true) : dval l < 10 ^ l.length := by
  induction l with
  | nil => simp [dval]
  | cons b l ih =>
    rw [List.all_cons, Bool.and_eq_true] at h
    have h1 := ih h.2
    have h2 : b.toNat ≤ 57 := by have := h.1; simp [isDig] at this; exact this.2
    have e := dval_append [b] l
    rw [List.singleton_append] at e
    have e2 : dval [b] = b.toNat - 48 := by simp [dval]
    rw [e, e2, List.length_cons, Nat.pow_succ]
    have h3 := Nat.mul_le_mul_right (10 ^ l.length) (show b.toNat - 48 ≤ 9 by omega)
    omega

/-- The digit n. -/
def dch (n : Nat) : UInt8 := UInt8.ofNat (48 + n)

/-- The digits of a number. -/
def dtext (n : Nat) : List UInt8 := if _h : n < 10 then [dch n] else dtext (n / 10) ++ [dch (n % 10)]
  termination_by n
  decreasing_by omega

theorem dtext_small {n : Nat} (h : n < 10) : dtext n = [dch n] := by rw [dtext, dif_pos h]
theorem dtext_big {n : Nat} (h : ¬ n < 10) : dtext n = dtext (n / 10) ++ [dch (n % 10)] := by rw [dtext, dif_neg h]
theorem toNat_dig {n : Nat} (h : n < 10) : (dch n).toNat = 48 + n := by
  rw [dch, UInt8.toNat_ofNat']; omega
theorem isDig_dig {n : Nat} (h : n < 10) : isDig (dch n) = true := by
  simp only [isDig, toNat_dig h, decide_eq_true_eq]; omega
theorem dtext_zero : dtext 0 = [48] := by rw [dtext_small (by omega)]; rfl
/-- A list of digits whose value is not 0 and that begins with no 0 is the text of its value. -/
theorem dtext_dval {l : List UInt8} (h : isNat l = true) : dtext (dval l) = l := by
  obtain ⟨n, hn⟩ : ∃ n, l.length = n := ⟨_, rfl⟩
  induction n using Nat.strongRecOn generalizing l with
  | _ n ih =>
    have hne : l ≠ [] := by intro e; rw [e] at h; simp [isNat_nil] at h
    have hall : l.all isDig = true := by
      rw [isNat, Bool.and_eq_true] at h; exact h.2
    have hlead : l.head? ≠ some 48 ∨ (l == [48]) = true := by
      by_cases h1 : l.head? = some 48
      · right
        cases h2 : (l == [48]) with
        | true => rfl
        | false => rw [isNat_lead h1 h2] at h; simp at h
      · left; exact h1
    obtain ⟨a, b, rfl⟩ : ∃ a b, l = a ++ [b] := ⟨l.dropLast, l.getLast hne, (List.dropLast_concat_getLast hne).symm⟩
    have hb : isDig b = true := by rw [List.all_append, Bool.and_eq_true] at hall; simpa using hall.2
    have hb2 : 48 ≤ b.toNat ∧ b.toNat ≤ 57 := by simpa [isDig] using hb
    have hbe : dch (b.toNat - 48) = b := by
      apply UInt8.toNat_inj.1
      rw [toNat_dig (by omega)]; omega
    rw [dval_snoc]
    by_cases ha : a = []
    · subst ha
      rw [dval_nil, dtext_small (by omega)]
      simp only [Nat.mul_zero, Nat.zero_add, List.nil_append]
      rw [hbe]
    · have hlead2 : a.head? ≠ some 48 := by
        rcases hlead with h1 | h1
        · intro e
          apply h1
          cases a with
          | nil => exact absurd rfl ha
          | cons x t => simpa using e
        · have := congrArg List.length (eq_of_beq h1)
          simp at this
          exact absurd this ha
      have halla : a.all isDig = true := by rw [List.all_append, Bool.and_eq_true] at hall; exact hall.1
      have hna : isNat a = true := by rw [isNat_rest ha (.inl hlead2)]; exact halla
      have e := ih a.length (by rw [← hn]; simp) hna rfl
      have hpos : 0 < dval a := by
        apply Nat.pos_of_ne_zero
        intro e0
        rw [e0, dtext_zero] at e
        rw [← e] at hlead2
        simp at hlead2
      rw [dtext_big (by omega), show (10 * dval a + (b.toNat - 48)) / 10 = dval a by omega, show (10 * dval a + (b.toNat - 48)) % 10 = b.toNat - 48 by omega, e, hbe]

theorem isNat_all {l : List UInt8} (h : isNat l = true) : l.all isDig = true := by
  rw [isNat, Bool.and_eq_true] at h; exact h.2
theorem length_dtext_le {n k : Nat} (h : n < 10 ^ k) (hk : 0 < k) : (dtext n).length ≤ k := by
  induction k generalizing n with
  | zero => omega
  | succ k ih =>
    by_cases hs : n < 10
    · rw [dtext_small hs]; simp
    · rw [dtext_big hs, List.length_append]
      by_cases hk0 : k = 0
      · subst hk0; simp at h; omega
      · have := ih (n := n / 10) (by rw [Nat.pow_succ] at h; omega) (by omega)
        simp only [List.length_singleton]
        omega

/-! ### Digits, the least one first -/
def rval : List Nat → Nat
  | [] => 0
  | d :: ds => d + 10 * rval ds
theorem rval_append (a b : List Nat) : rval (a ++ b) = rval a + 10 ^ a.length * rval b := by
  induction a with
  | nil => simp [rval]
  | cons x xs ih => simp only [List.cons_append, rval, ih, List.length_cons, Nat.pow_succ]; rw [Nat.mul_add, Nat.mul_comm (10 ^ xs.length) 10, Nat.mul_assoc]; omega
theorem rval_snoc (a : List Nat) (d : Nat) : rval (a ++ [d]) = rval a + 10 ^ a.length * d := by rw [rval_append]; simp [rval]
theorem rval_take_succ (l : List Nat) (k : Nat) (h : k < l.length) : rval (l.take (k + 1)) = rval (l.take k) + 10 ^ k * dg l k := by
  rw [List.take_succ_eq_append_getElem h, rval_snoc, List.length_take, Nat.min_eq_left (by omega), dg_lt h]

/-- All digits are below 10. -/
def Low (ds : List Nat) : Prop := ∀ i, dg ds i < 10
theorem Low.nil : Low [] := fun i => by simp [dg]
theorem Low.snoc {ds : List Nat} {d : Nat} (h : Low ds) (hd : d < 10) : Low (ds ++ [d]) := fun i => by
  by_cases h1 : i < ds.length
  · have := h i; simp only [dg] at this ⊢; rw [List.getElem?_append_left h1]; exact this
  · simp only [dg]; rw [List.getElem?_append_right (by omega)]
    by_cases h2 : i - ds.length = 0
    · rw [h2]; simpa using hd
    · rw [List.getElem?_eq_none (by simp; omega)]; simp
theorem Low.take {ds : List Nat} (h : Low ds) (k : Nat) : Low (ds.take k) := fun i => by
  have := h i
  simp only [dg, List.getElem?_take] at this ⊢
  split <;> simp_all
theorem Low.mem {ds : List Nat} (h : Low ds) : ∀ d ∈ ds, d < 10 := by
  intro d hd
  obtain ⟨i, hi, rfl⟩ := List.mem_iff_getElem.1 hd
  have := h i
  rwa [dg_lt hi] at this

/-- The text of digits, the least one first. -/
def rtext (ds : List Nat) : List UInt8 := ds.reverse.map dch
theorem dval_rtext {ds : List Nat} (h : Low ds) : dval (rtext ds) = rval ds := by
  have hm := h.mem
  clear h
  induction ds with
  | nil => rfl
  | cons d ds ih =>
    have h1 : rtext (d :: ds) = rtext ds ++ [dch d] := by simp [rtext]
    rw [h1, dval_snoc, ih (fun x hx => hm x (List.mem_cons_of_mem _ hx)), toNat_dig (hm d List.mem_cons_self), rval]
    omega
theorem all_rtext {ds : List Nat} (h : Low ds) : (rtext ds).all isDig = true := by
  rw [List.all_eq_true]
  intro x hx
  simp only [rtext, List.mem_map, List.mem_reverse] at hx
  obtain ⟨d, hd, rfl⟩ := hx
  exact isDig_dig (h.mem d hd)
theorem rtext_eq {ds : List Nat} (h : Low ds) (hn : 0 < ds.length) (htop : dg ds (ds.length - 1) ≠ 0) : rtext ds = dtext (rval ds) := by
  have hne : rtext ds ≠ [] := by
    intro e
    have := congrArg List.length e
    simp [rtext] at this
    rw [this] at hn; simp at hn
  have hh : (rtext ds).head? ≠ some 48 := by
    rw [rtext, List.head?_map, List.head?_reverse, List.getLast?_eq_getElem?]
    rw [List.getElem?_eq_getElem (by omega), Option.map_some]
    intro e
    rw [dg_lt (by omega)] at htop
    have h9 := h.mem _ (List.getElem_mem (show ds.length - 1 < ds.length by omega))
    have h2 := congrArg UInt8.toNat (Option.some.inj e)
    rw [toNat_dig h9] at h2
    have h48 : (48 : UInt8).toNat = 48 := rfl
    omega
  have hN : isNat (rtext ds) = true := by rw [isNat_rest hne (.inl hh)]; exact all_rtext h
  have := dtext_dval hN
  rw [dval_rtext h] at this
  exact this.symm

theorem ext_dg {a b : List Nat} (hl : a.length = b.length) (h : ∀ t, t < a.length → dg a t = dg b t) : a = b := by
  apply List.ext_getElem hl
  intro i h1 h2
  have := h i h1
  rwa [dg_lt h1, dg_lt h2] at this
theorem dg_reverse {l : List Nat} {i : Nat} (h : i < l.length) : dg l.reverse i = dg l (l.length - 1 - i) := by
  rw [dg_lt (by simpa using h), dg_lt (by omega), List.getElem_reverse]

/-- So few digits. -/
theorem digits_few {N n k : Nat} (h1 : N < B ^ n) (h2 : 10 ^ k ≤ N) : k ≤ 10 * n := by
  apply Classical.byContradiction
  intro hh
  have h3 : B ^ n ≤ (10 ^ 10) ^ n := Nat.pow_le_pow_left (by rw [B_eq]; omega) n
  rw [← Nat.pow_mul] at h3
  have h4 : 10 ^ (10 * n) ≤ 10 ^ k := Nat.pow_le_pow_right (by omega) (by omega)
  omega

end Num
end Go.Proofs.Ytokojbgpboccnaa

/-
  LEHMER'S STEPS of the Euclidean algorithm: what leading words tell of two numbers (nothing of a program).
-/
namespace Go.Proofs.Ytokojbgpboccnaa
namespace Num
set_option linter.unusedVariables false

/-- How many times x and y make the two remainders at hand; A, C: the leading words of x and y; a, b: those of the remainders; e: 1 or -1 by turns. -/
structure Leh (x y A C a b xa ya xb yb : Nat) (e : Int) : Prop where
  sgn : e = 1 ∨ e = -1
  area : A = a * yb + b * ya
  less : xb ≤ yb
  one : 1 ≤ yb
  start : (xa = 1 ∧ ya = 0 ∧ xb = 0 ∧ yb = 1 ∧ e = 1) ∨ (xa ≤ ya ∧ 1 ≤ ya)
  fit : yb < 4294967296
  fita : ya < 4294967296
  low : b ≤ a
  wa : (a : Int) = e * (xa * A - ya * C)
  wb : (b : Int) = e * (yb * C - xb * A)
  real : ∃ r s : Nat, (r : Int) = e * (xa * x - ya * y) ∧ (s : Int) = e * (yb * y - xb * x) ∧ s ≤ r ∧ r ≤ x ∧ s ≤ y ∧ Nat.gcd r s = Nat.gcd x y ∧ (1 ≤ ya → s < y)

theorem Leh.fitxb {x y A C a b xa ya xb yb : Nat} {e : Int} (h : Leh x y A C a b xa ya xb yb e) : xb < 4294967296 := Nat.lt_of_le_of_lt h.less h.fit
theorem Leh.fitxa {x y A C a b xa ya xb yb : Nat} {e : Int} (h : Leh x y A C a b xa ya xb yb e) : xa < 4294967296 := by
  have := h.fita
  rcases h.start with h1 | h1 <;> omega

theorem Leh.first {x y A C : Nat} (hCA : C ≤ A) (hyx : y ≤ x) : Leh x y A C A C 1 0 0 1 1 :=
  ⟨.inl rfl, by omega, by omega, by omega, .inl ⟨rfl, rfl, rfl, rfl, rfl⟩, by omega, by omega, hCA, by omega, by omega, x, y, by omega, by omega, hyx, Nat.le_refl _, Nat.le_refl _, rfl, by omega⟩

theorem lin_lt {m n z D : Nat} (h1 : n ≤ m) (h2 : 1 ≤ m) (hz : z < D) : n * z < m * D := by
  rcases Nat.eq_zero_or_pos n with h | h
  · subst h; rw [Nat.zero_mul]; exact Nat.mul_pos (by omega) (by omega)
  · have e1 : n * z < n * D := Nat.mul_lt_mul_of_pos_left hz h
    have e2 : n * D ≤ m * D := Nat.mul_le_mul_right _ h1
    omega

theorem Leh.top {x y A C a b xa ya xb yb : Nat} {e : Int} (h : Leh x y A C a b xa ya xb yb e) : a ≤ A := by
  have h1 := h.area
  have := Nat.mul_le_mul_left a h.one
  omega

/-- No share of the next remainder leaves a word. -/
theorem Leh.room {x y A C a b xa ya xb yb : Nat} {e : Int} (h : Leh x y A C a b xa ya xb yb e) (hb : 0 < b) :
    (ya + a / b * yb) * b ≤ A ∧ ya + a / b * yb ≤ A ∧ xa + a / b * xb ≤ ya + a / b * yb ∧ 1 ≤ a / b := by
  have h1 := h.area
  have h2 := Nat.div_mul_le_self a b
  have h4 : (ya + a / b * yb) * b ≤ A := by
    have : a / b * yb * b ≤ a * yb := by
      rw [Nat.mul_right_comm]; exact Nat.mul_le_mul_right _ h2
    rw [Nat.add_mul, h1, Nat.mul_comm ya b]; omega
  have h5 : ya + a / b * yb ≤ A := by
    have : (ya + a / b * yb) * 1 ≤ (ya + a / b * yb) * b := Nat.mul_le_mul_left _ hb
    omega
  have hq : 1 ≤ a / b := (Nat.le_div_iff_mul_le hb).2 (by have := h.low; omega)
  refine ⟨h4, h5, ?_, hq⟩
  have e1 : a / b * xb ≤ a / b * yb := Nat.mul_le_mul_left _ h.less
  rcases h.start with ⟨s1, s2, s3, s4, _⟩ | ⟨s1, _⟩
  · subst s1; subst s2; subst s3; subst s4; omega
  · omega

theorem leh_id {r s q t D e xa ya xb yb x y A C x0 y0 a b X Y : Int} (hr : r = e * (xa * x - ya * y)) (hs : s = e * (yb * y - xb * x)) (wa : a = e * (xa * A - ya * C)) (wb : b = e * (yb * C - xb * A))
    (ht : t = a - b * q) (hX : X = xa + q * xb) (hY : Y = ya + q * yb) (hx : x = A * D + x0) (hy : y = C * D + y0) :
    r - q * s = t * D + e * (X * x0 - Y * y0) ∧ s = b * D + e * (yb * y0 - xb * x0) ∧ t = -e * (Y * C - X * A) ∧ r - q * s = -e * (Y * y - X * x) := by
  subst ht hX hY
  subst hr hs wa wb
  subst hx hy
  refine ⟨?_, ?_, ?_, ?_⟩ <;> grind

theorem Leh.step {x y A C a b xa ya xb yb D x0 y0 : Nat} {e : Int} (h : Leh x y A C a b xa ya xb yb e) (hx : x = A * D + x0) (hy : y = C * D + y0) (hx0 : x0 < D) (hy0 : y0 < D) (hb : 0 < b)
    (hA : A < 18446744073709551616) (t1 : ya + a / b * yb ≤ a % b) (t2 : yb + (ya + a / b * yb) ≤ b - a % b) :
    Leh x y A C b (a % b) xb yb (xa + a / b * xb) (ya + a / b * yb) (-e) := by
  obtain ⟨m1, m2, m3, hq⟩ := h.room hb
  have hd := Nat.div_add_mod a b
  have hlt : a % b < b := Nat.mod_lt _ hb
  have h1 := h.area
  have h2 := h.one
  have w1 := h.wa
  have w2 := h.wb
  obtain ⟨r, s, hr, hs, hsr, hrx, hsy, hg, hst⟩ := h.real
  generalize a / b = q at *
  generalize a % b = t at *
  obtain ⟨X, hX⟩ : ∃ X, X = xa + q * xb := ⟨_, rfl⟩
  obtain ⟨Y, hY⟩ : ∃ Y, Y = ya + q * yb := ⟨_, rfl⟩
  rw [← hX, ← hY]
  rw [← hY] at m1 m2 m3 t1 t2
  rw [← hX] at m3
  have hY1 : 1 ≤ Y := by
    have := Nat.mul_le_mul hq h2; omega
  have fitY : Y < 4294967296 := by
    apply Classical.byContradiction
    intro hh
    have : 4294967296 * (4294967296 + 4294967296) ≤ Y * b := Nat.mul_le_mul (by omega) (by omega)
    omega
  have n1 : X * x0 < t * D := lin_lt (by omega) (by omega) hx0
  have n2 : Y * y0 < t * D := lin_lt t1 (by omega) hy0
  have n3 : (xb + X) * x0 < (b - t) * D := lin_lt (by have := h.less; omega) (by omega) hx0
  have n4 : (yb + Y) * y0 < (b - t) * D := lin_lt t2 (by omega) hy0
  rw [Nat.add_mul] at n3 n4
  rw [Nat.sub_mul] at n3 n4
  have hadI : (b : Int) * q + t = a := by exact_mod_cast hd
  have hXI : (X : Int) = xa + q * xb := by exact_mod_cast hX
  have hYI : (Y : Int) = ya + q * yb := by exact_mod_cast hY
  have hxI : (x : Int) = A * D + x0 := by exact_mod_cast hx
  have hyI : (y : Int) = C * D + y0 := by exact_mod_cast hy
  have key := leh_id hr hs w1 w2 (t := (t : Int)) (by omega) hXI hYI hxI hyI
  obtain ⟨k1, k2, k3, k4⟩ := key
  have kk : (q : Int) * s = ((q * s : Nat) : Int) := by push_cast; rfl
  have kt : (t : Int) * D = ((t * D : Nat) : Int) := by push_cast; rfl
  have kb : (b : Int) * D = ((b * D : Nat) : Int) := by push_cast; rfl
  have kX : (X : Int) * x0 = ((X * x0 : Nat) : Int) := by push_cast; rfl
  have kY : (Y : Int) * y0 = ((Y * y0 : Nat) : Int) := by push_cast; rfl
  have ky : (yb : Int) * y0 = ((yb * y0 : Nat) : Int) := by push_cast; rfl
  have kx : (xb : Int) * x0 = ((xb * x0 : Nat) : Int) := by push_cast; rfl
  rw [kk, kt, kX, kY] at k1
  rw [kb, ky, kx] at k2
  have hle : q * s ≤ r ∧ r - q * s < s := by
    rcases h.sgn with rfl | rfl <;> omega
  refine ⟨?_, ?_, m3, hY1, .inr ⟨h.less, h2⟩, fitY, h.fit, Nat.le_of_lt hlt, ?_, k3, s, r - q * s, ?_, ?_, Nat.le_of_lt hle.2, ?_, ?_, ?_, ?_⟩
  · rcases h.sgn with rfl | rfl
    · exact .inr rfl
    · exact .inl rfl
  · rw [h1, ← hd, hY, Nat.add_mul, Nat.mul_add, Nat.mul_comm q yb, Nat.mul_assoc, Nat.mul_comm q yb]; omega
  · rw [w2, Int.neg_mul, ← Int.mul_neg, Int.neg_sub]
  · rw [hs, Int.neg_mul, ← Int.mul_neg, Int.neg_sub]
  · have : ((r - q * s : Nat) : Int) = r - ((q * s : Nat) : Int) := by omega
    rw [this, ← kk]; exact k4
  · omega
  · omega
  · rw [← hg, Nat.gcd_comm r s]
    have e1 : r = (r - q * s) + q * s := by omega
    conv => rhs; rw [e1]
    simp
  · intro _; omega

theorem Leh.even {x y A C a b xa ya xb yb : Nat} (h : Leh x y A C a b xa ya xb yb 1) : ∃ r s : Nat, r + ya * y = xa * x ∧ s + xb * x = yb * y ∧ s ≤ r ∧ r ≤ x ∧ s ≤ y ∧ Nat.gcd r s = Nat.gcd x y ∧ (1 ≤ ya → s < y) := by
  obtain ⟨r, s, h1, h2, h3⟩ := h.real
  refine ⟨r, s, ?_, ?_, h3⟩
  · have : ((r + ya * y : Nat) : Int) = ((xa * x : Nat) : Int) := by rw [Int.natCast_add, Int.natCast_mul, Int.natCast_mul, h1]; omega
    exact_mod_cast this
  · have : ((s + xb * x : Nat) : Int) = ((yb * y : Nat) : Int) := by rw [Int.natCast_add, Int.natCast_mul, Int.natCast_mul, h2]; omega
    exact_mod_cast this
theorem Leh.odd {x y A C a b xa ya xb yb : Nat} (h : Leh x y A C a b xa ya xb yb (-1)) : ∃ r s : Nat, r + xa * x = ya * y ∧ s + yb * y = xb * x ∧ s ≤ r ∧ r ≤ x ∧ s ≤ y ∧ Nat.gcd r s = Nat.gcd x y ∧ (1 ≤ ya → s < y) := by
  obtain ⟨r, s, h1, h2, h3⟩ := h.real
  refine ⟨r, s, ?_, ?_, h3⟩
  · have : ((r + xa * x : Nat) : Int) = ((ya * y : Nat) : Int) := by rw [Int.natCast_add, Int.natCast_mul, Int.natCast_mul, h1]; omega
    exact_mod_cast this
  · have : ((s + yb * y : Nat) : Int) = ((xb * x : Nat) : Int) := by rw [Int.natCast_add, Int.natCast_mul, Int.natCast_mul, h2]; omega
    exact_mod_cast this

/-- The word at a place, and as many bits of the limb below it. -/
def lead (xs : List Nat) (P s : Nat) : Nat := (dg xs (P + 1) + 4294967296 * dg xs (P + 2)) * 2 ^ s + dg xs P / 2 ^ (32 - s)
theorem shift_parts {s : Nat} (hs : s ≤ 31) : 2 ^ s * 2 ^ (32 - s) = B ∧ 0 < 2 ^ s ∧ 0 < 2 ^ (32 - s) := ⟨by rw [← Nat.pow_add, show s + (32 - s) = 32 by omega]; rfl, Nat.pow_pos (by omega), Nat.pow_pos (by omega)⟩
theorem lead_lt {xs : List Nat} {P s : Nat} (hf : Fits xs) (hs : s ≤ 31) (hov : dg xs (P + 2) * 2 ^ s < 4294967296) : lead xs P s < 18446744073709551616 := by
  obtain ⟨e, hp, hq⟩ := shift_parts hs
  have h0 := hf P
  have h1 := hf (P + 1)
  unfold lead
  generalize dg xs P = c at *
  generalize dg xs (P + 1) = a at *
  generalize dg xs (P + 2) = b at *
  generalize 2 ^ s = S at *
  generalize 2 ^ (32 - s) = T at *
  rw [B_eq] at e
  have hb : b + 1 ≤ T := by
    have : b * S < T * S := by rw [Nat.mul_comm T]; omega
    exact Nat.lt_of_mul_lt_mul_right this
  have h3 := Nat.mul_le_mul_right S (show a + 4294967296 * b + 1 ≤ 4294967296 * T by omega)
  rw [Nat.mul_assoc, Nat.mul_comm T, e, Nat.add_mul _ 1] at h3
  have h4 : c / T < S := by rw [Nat.div_lt_iff_lt_mul hq, e]; exact h0
  omega
/-- The leading word is what is left without the lower bits. -/
theorem lead_val {xs : List Nat} {P s : Nat} (hf : Fits xs) (hs : s ≤ 31) (hl : xs.length ≤ P + 3) : ∃ x0, x0 < B ^ P * 2 ^ (32 - s) ∧ val xs = lead xs P s * (B ^ P * 2 ^ (32 - s)) + x0 := by
  obtain ⟨e, hp, hq⟩ := shift_parts hs
  have e1 := val_take_succ xs (P + 2)
  rw [List.take_of_length_le (by omega), val_take_succ xs (P + 1), val_take_succ xs P] at e1
  have h0 : val (xs.take P) < B ^ P := by
    have h1 := val_lt (hf.take P)
    have h2 : B ^ (xs.take P).length ≤ B ^ P := Nat.pow_le_pow_right B_pos (by rw [List.length_take]; omega)
    omega
  refine ⟨val (xs.take P) + dg xs P % 2 ^ (32 - s) * B ^ P, ?_, ?_⟩
  · have h1 : dg xs P % 2 ^ (32 - s) + 1 ≤ 2 ^ (32 - s) := Nat.mod_lt _ hq
    have h2 := Nat.mul_le_mul_left (B ^ P) h1
    rw [Nat.mul_add, Nat.mul_one, Nat.mul_comm] at h2
    omega
  · unfold lead
    have h1 := Nat.div_add_mod (dg xs P) (2 ^ (32 - s))
    rw [e1, ← B_eq]
    generalize dg xs P / 2 ^ (32 - s) = y at *
    generalize dg xs P % 2 ^ (32 - s) = z at *
    generalize dg xs (P + 1) = a at *
    generalize dg xs (P + 2) = b at *
    generalize val (xs.take P) = v at *
    rw [← h1, Nat.pow_succ, show P + 2 = P + 1 + 1 from rfl, Nat.pow_succ, Nat.pow_succ]
    generalize B ^ P = Q at *
    generalize 2 ^ s = S at *
    generalize 2 ^ (32 - s) = T at *
    rw [← e]
    clear e1 h0 h1 e hp hq
    grind
theorem lead_le {xs ys : List Nat} {P s : Nat} (hx : Fits xs) (hy : Fits ys) (hs : s ≤ 31) (hl : xs.length ≤ P + 3) (hl' : ys.length ≤ P + 3) (h : val ys ≤ val xs) : lead ys P s ≤ lead xs P s ∧ dg ys (P + 2) ≤ dg xs (P + 2) := by
  obtain ⟨x0, a1, a2⟩ := lead_val hx hs hl
  obtain ⟨y0, b1, b2⟩ := lead_val hy hs hl'
  constructor
  · apply Classical.byContradiction
    intro hh
    have h3 := Nat.mul_le_mul_right (B ^ P * 2 ^ (32 - s)) (show lead xs P s + 1 ≤ lead ys P s by omega)
    rw [Nat.add_mul] at h3
    omega
  · apply Classical.byContradiction
    intro hh
    have e1 := val_take_succ xs (P + 2)
    have e2 := val_take_succ ys (P + 2)
    rw [List.take_of_length_le (by omega)] at e1 e2
    have h1 := val_lt (hx.take (P + 2))
    have h2 : B ^ (xs.take (P + 2)).length ≤ B ^ (P + 2) := Nat.pow_le_pow_right B_pos (by rw [List.length_take]; omega)
    have h3 := Nat.mul_le_mul_right (B ^ (P + 2)) (show dg xs (P + 2) + 1 ≤ dg ys (P + 2) by omega)
    rw [Nat.add_mul] at h3
    omega

end Num
end Go.Proofs.Ytokojbgpboccnaa

/-
  THE EXTENDED EUCLIDEAN ALGORITHM, on integers (nothing of a program).
-/
namespace Go.Proofs.Ytokojbgpboccnaa
namespace Num
set_option linter.unusedVariables false

/-- The greatest divisor of both and how it is made of them, by the document's recursion. -/
def zg (a b : Int) : Int × Int × Int :=
  if h : b = 0 then ((a.natAbs : Int), a.sign, 0)
  else
    let t := zg b (a % b)
    (t.1, t.2.2, t.2.1 - a / b * t.2.2)
termination_by b.natAbs
decreasing_by
  have h1 := Int.emod_nonneg a h
  have h2 := Int.emod_lt a h
  omega

end Num
end Go.Proofs.Ytokojbgpboccnaa

/-
  PLAIN NUMBERS to the base 10000, four digits a place, the least one first: their value. Nothing of a program.
-/
namespace Go.Proofs.Ytokojbgpboccnaa
namespace Num4
open Num (dg dg_lt dg_ge dg_zeros dg_take dg_drop dg_set_self dg_set_ne tl tlen tl_zero tl_skip tl_stop tl_le tlen_le trimL length_trimL tl_top drop_dg)

def B : Nat := 10000
theorem B_eq : B = 10000 := rfl
theorem B_pos : 0 < B := by decide
/-- The value of limbs, the least one first. -/
def val : List Nat → Nat
  | [] => 0
  | x :: xs => x + B * val xs
theorem val_nil : val [] = 0 := rfl
theorem val_cons (x : Nat) (xs : List Nat) : val (x :: xs) = x + B * val xs := rfl
theorem val_append (a b : List Nat) : val (a ++ b) = val a + B ^ a.length * val b := by
  induction a with
  | nil => simp [val]
  | cons x xs ih => simp only [List.cons_append, val_cons, ih, List.length_cons, Nat.pow_succ]; rw [Nat.mul_add, Nat.mul_comm (B ^ xs.length) B, Nat.mul_assoc]; omega
theorem val_split' (l : List Nat) (k : Nat) : val l = val (l.take k) + B ^ (l.take k).length * val (l.drop k) := by
  have := val_append (l.take k) (l.drop k)
  rw [List.take_append_drop] at this
  exact this
theorem val_single (x : Nat) : val [x] = x := by simp [val]
/-- One place more is read: what lies beyond the end counts 0. -/
theorem val_take_succ (l : List Nat) (k : Nat) : val (l.take (k + 1)) = val (l.take k) + dg l k * B ^ k := by
  by_cases h : k < l.length
  · rw [List.take_succ_eq_append_getElem h, val_append, val_single, List.length_take, Nat.min_eq_left (by omega), dg_lt h, Nat.mul_comm]
  · rw [List.take_of_length_le (by omega), List.take_of_length_le (by omega), dg_ge (by omega)]; omega
theorem val_take_all (l : List Nat) (k : Nat) (h : l.length ≤ k) : val (l.take k) = val l := by rw [List.take_of_length_le h]
/-- A limb is written behind those that were read. -/
theorem val_take_set (l : List Nat) (k x : Nat) (h : k < l.length) : val ((l.set k x).take (k + 1)) = val (l.take k) + x * B ^ k := by
  rw [val_take_succ, List.take_set_of_le (Nat.le_refl k)]
  rw [dg_lt (by simpa using h), List.getElem_set_self]
/-- One limb is written. -/
theorem val_set (l : List Nat) (k x : Nat) (h : k < l.length) : val (l.set k x) + dg l k * B ^ k = val l + x * B ^ k := by
  have e1 := val_split' (l.set k x) (k + 1)
  have e2 := val_split' l (k + 1)
  rw [List.drop_set_of_lt (by omega)] at e1
  rw [List.length_take, List.length_set] at e1
  rw [List.length_take] at e2
  have h1 := val_take_set l k x h
  have h2 := val_take_succ l k
  omega
/-- All limbs fit. -/
def Fits (l : List Nat) : Prop := ∀ i, dg l i < 10000
theorem Fits.nil : Fits [] := fun i => by simp [dg]
theorem Fits.take {l : List Nat} (h : Fits l) (k : Nat) : Fits (l.take k) := fun i => by
  have := h i
  simp only [dg, List.getElem?_take] at this ⊢
  split <;> simp_all
theorem Fits.drop {l : List Nat} (h : Fits l) (k : Nat) : Fits (l.drop k) := fun i => by
  have := h (k + i)
  simp only [dg, List.getElem?_drop] at this ⊢
  exact this
theorem Fits.set {l : List Nat} (h : Fits l) (k x : Nat) (hx : x < 10000) : Fits (l.set k x) := fun i => by
  by_cases e : i = k
  · subst e
    by_cases hl : i < l.length
    · rw [dg_set_self _ _ _ hl]; exact hx
    · rw [dg_ge (by simp; omega)]; omega
  · rw [dg_set_ne _ _ _ _ e]; exact h i
theorem Fits.append {a b : List Nat} (ha : Fits a) (hb : Fits b) : Fits (a ++ b) := fun i => by
  by_cases h : i < a.length
  · have := ha i
    simp only [dg] at this ⊢
    rw [List.getElem?_append_left h]; exact this
  · have := hb (i - a.length)
    simp only [dg] at this ⊢
    rw [List.getElem?_append_right (by omega)]; exact this
theorem Fits.single {x : Nat} (h : x < 10000) : Fits [x] := fun i => by
  match i with
  | 0 => simpa [dg] using h
  | i + 1 => simp [dg]
theorem Fits.zeros (n : Nat) : Fits (List.replicate n 0) := fun i => by
  simp only [dg, List.getElem?_replicate]; split <;> simp
theorem Fits.cons {x : Nat} {l : List Nat} (h : Fits (x :: l)) : x < 10000 ∧ Fits l := ⟨by simpa [dg] using h 0, fun i => by simpa [dg] using h (i + 1)⟩
theorem val_lt {l : List Nat} (h : Fits l) : val l < B ^ l.length := by
  induction l with
  | nil => simp [val]
  | cons x xs ih =>
    obtain ⟨h1, h2⟩ := h.cons
    have := ih h2
    rw [val_cons, List.length_cons, Nat.pow_succ, Nat.mul_comm (B ^ xs.length) B]
    have h3 : val xs + 1 ≤ B ^ xs.length := this
    have h4 := Nat.mul_le_mul_left B h3
    rw [Nat.mul_add] at h4
    simp only [B_eq] at h4 ⊢
    omega
theorem val_zeros (n : Nat) : val (List.replicate n 0) = 0 := by
  induction n with
  | zero => rfl
  | succ n ih => rw [List.replicate_succ, val_cons, ih]; rfl
/-- No leading nought. -/
def Trim (l : List Nat) : Prop := l = [] ∨ 0 < dg l (l.length - 1)
theorem Trim.low {l : List Nat} (h : Trim l) (hn : l ≠ []) : B ^ (l.length - 1) ≤ val l := by
  rcases h with h | h
  · exact absurd h hn
  · have hl : 0 < l.length := List.length_pos_iff.2 hn
    have e := val_take_succ l (l.length - 1)
    rw [Nat.sub_add_cancel hl, List.take_length] at e
    rw [e]
    have := Nat.mul_le_mul_right (B ^ (l.length - 1)) h
    omega
theorem Trim.zero_iff {l : List Nat} (h : Trim l) : val l = 0 ↔ l = [] := by
  constructor
  · intro e
    apply Classical.byContradiction
    intro hn
    have := h.low hn
    have hp : 0 < B ^ (l.length - 1) := Nat.pow_pos B_pos
    omega
  · rintro rfl; rfl
/-- The greater length, the greater number. -/
theorem lt_of_length {x y : List Nat} (hx : Fits x) (hy : Trim y) (h : x.length < y.length) : val x < val y := by
  have hn : y ≠ [] := by intro e; subst e; simp at h
  have h1 := val_lt hx
  have h2 := hy.low hn
  have h3 : B ^ x.length ≤ B ^ (y.length - 1) := Nat.pow_le_pow_right B_pos (by omega)
  omega
theorem length_le_of_val {x : List Nat} (hx : Trim x) (k : Nat) (h : val x < B ^ k) : x.length ≤ k := by
  apply Classical.byContradiction
  intro hn
  have hne : x ≠ [] := by intro e; subst e; simp at hn
  have h2 := hx.low hne
  have h3 : B ^ k ≤ B ^ (x.length - 1) := Nat.pow_le_pow_right B_pos (by omega)
  omega
/-- Two numbers of like limbs from place k on are compared by the limbs below. -/
theorem val_split (l : List Nat) (k : Nat) : val l = val (l.take k) + B ^ k * val (l.drop k) := by
  by_cases h : k ≤ l.length
  · have := val_append (l.take k) (l.drop k)
    rw [List.take_append_drop, List.length_take, Nat.min_eq_left h] at this
    exact this
  · rw [List.take_of_length_le (by omega), List.drop_eq_nil_of_le (by omega)]; simp [val]
/-- The part of a step: the low limb stays, the rest is carried. -/
theorem carry_split (s p : Nat) : (s % 10000) * p + (s / 10000) * (p * B) = s * p := by
  have h := Nat.div_add_mod s 10000
  have e : s * p = (10000 * (s / 10000) + s % 10000) * p := by rw [h]
  rw [e, Nat.add_mul, B_eq, Nat.mul_comm p 10000, ← Nat.mul_assoc, Nat.mul_comm (s / 10000) 10000]
  omega
theorem val_take_tl (l : List Nat) (n : Nat) : val (l.take (tl l n)) = val (l.take n) := by
  induction n with
  | zero => rfl
  | succ n ih =>
    by_cases h : dg l n = 0
    · rw [tl_skip h, ih, val_take_succ, h]; omega
    · rw [tl_stop h]
theorem val_trimL (l : List Nat) : val (trimL l) = val l := by
  rw [trimL, tlen, val_take_tl, List.take_length]
theorem trim_trimL (l : List Nat) : Trim (trimL l) := by
  by_cases h : tlen l = 0
  · left; rw [trimL, h, List.take_zero]
  · right
    rw [length_trimL, trimL, dg_take (by omega)]
    have := tl_top l l.length (by rw [← tlen]; omega)
    rw [← tlen] at this
    omega
theorem fits_trimL {l : List Nat} (h : Fits l) : Fits (trimL l) := h.take _
/-- Of two numbers that are alike above limb k this limb decides, if it is not alike. -/
theorem val_lt_of_top {x y : List Nat} {k : Nat} (hx : Fits x) (hy : Fits y) (hd : x.drop (k + 1) = y.drop (k + 1)) (h1 : k < x.length) (h2 : k < y.length) (hne : dg x k ≠ dg y k) :
    val x < val y ↔ dg x k < dg y k := by
  have e1 := val_split x (k + 1)
  have e2 := val_split y (k + 1)
  rw [val_take_succ] at e1 e2
  rw [hd] at e1
  have b1 := val_lt (hx.take k)
  have b2 := val_lt (hy.take k)
  rw [List.length_take, Nat.min_eq_left (by omega)] at b1 b2
  generalize hP : B ^ k = P at *
  generalize B ^ (k + 1) * val (y.drop (k + 1)) = T at *
  constructor
  · intro h
    apply Classical.byContradiction
    intro hn
    have h3 : dg y k + 1 ≤ dg x k := by omega
    have h4 := Nat.mul_le_mul_right P h3
    rw [Nat.add_mul] at h4
    omega
  · intro h
    have h3 : dg x k + 1 ≤ dg y k := by omega
    have h4 := Nat.mul_le_mul_right P h3
    rw [Nat.add_mul] at h4
    omega

end Num4
end Go.Proofs.Ytokojbgpboccnaa

/-
  POLYNOMIALS as lists of coefficients: values, sums, products, derivatives, what is moved, what is left. Nothing of a program.
-/
namespace Go.Proofs.Ytokojbgpboccnaa
set_option linter.unusedVariables false
/-- A coefficient. -/
def co (l : List Rat) (i : Nat) : Rat := l[i]?.getD 0
theorem co_nil (i : Nat) : co [] i = 0 := by simp [co]
theorem co_zero (a : Rat) (l : List Rat) : co (a :: l) 0 = a := by simp [co]
theorem co_succ (a : Rat) (l : List Rat) (i : Nat) : co (a :: l) (i + 1) = co l i := by simp [co]
theorem co_ge {l : List Rat} {i : Nat} (h : l.length ≤ i) : co l i = 0 := by simp [co, h]
/-- The value. -/
def pv : List Rat → Rat → Rat
  | [], _ => 0
  | a :: l, x => a + x * pv l x
theorem pv_nil (x : Rat) : pv [] x = 0 := rfl
theorem pv_cons (a : Rat) (l : List Rat) (x : Rat) : pv (a :: l) x = a + x * pv l x := rfl
theorem pv_zero {l : List Rat} (h : ∀ i, co l i = 0) (x : Rat) : pv l x = 0 := by
  induction l with
  | nil => rfl
  | cons a l ih =>
    have h0 := h 0
    rw [co_zero] at h0
    rw [pv_cons, ih (fun i => by rw [← co_succ a]; exact h (i + 1)), h0]
    grind
theorem pv_congr : ∀ {l m : List Rat}, (∀ i, co l i = co m i) → ∀ x, pv l x = pv m x := by
  intro l
  induction l with
  | nil => intro m h x; rw [pv_nil, pv_zero (fun i => by rw [← h i, co_nil])]
  | cons a l ih =>
    intro m h x
    cases m with
    | nil => rw [pv_nil, pv_zero (fun i => by rw [h i, co_nil])]
    | cons b m =>
      have h0 := h 0
      rw [co_zero, co_zero] at h0
      rw [pv_cons, pv_cons, ih (m := m) (fun i => by have := h (i + 1); rwa [co_succ, co_succ] at this) x, h0]
/-- Divided by x less r. -/
def syn : List Rat → Rat → List Rat
  | [], _ => []
  | _ :: l, r => match l with
    | [] => []
    | _ :: _ => pv l r :: syn l r
theorem syn_len (l : List Rat) (r : Rat) : (syn l r).length = l.length - 1 := by
  induction l with
  | nil => rfl
  | cons a l ih =>
    cases l with
    | nil => rfl
    | cons b l => show (pv (b :: l) r :: syn (b :: l) r).length = _; rw [List.length_cons, ih]; simp
theorem syn_pv (l : List Rat) (r x : Rat) : pv l x = pv l r + (x - r) * pv (syn l r) x := by
  induction l with
  | nil => simp [pv, syn]; grind
  | cons a l ih =>
    cases l with
    | nil => simp [pv, syn]; grind
    | cons b l =>
      show a + x * pv (b :: l) x = a + r * pv (b :: l) r + (x - r) * (pv (b :: l) r + x * pv (syn (b :: l) r) x)
      rw [ih]
      generalize pv (b :: l) r = v
      generalize pv (syn (b :: l) r) x = y
      grind
/-- What is nought from some natural on has no coefficient but nought. -/
theorem co_of_zero : ∀ (n : Nat) (l : List Rat), l.length ≤ n → ∀ N : Nat, (∀ k : Nat, N ≤ k → pv l (k : Rat) = 0) → ∀ i, co l i = 0 := by
  intro n
  induction n with
  | zero =>
    intro l hl N h i
    have : l = [] := List.length_eq_zero_iff.1 (by omega)
    rw [this, co_nil]
  | succ n ih =>
    intro l hl N h
    have hN := h N (Nat.le_refl _)
    have hs : ∀ i, co (syn l N) i = 0 := by
      refine ih _ (by rw [syn_len]; omega) (N + 1) fun k hk => ?_
      have h1 := syn_pv l N k
      rw [h k (by omega), hN] at h1
      have hne : (k : Rat) - (N : Rat) ≠ 0 := by
        have : (N : Rat) < (k : Rat) := by exact_mod_cast hk
        grind
      have h2 : ((k : Rat) - N) * pv (syn l N) k = 0 := by grind
      rcases Rat.mul_eq_zero.1 h2 with h3 | h3
      · exact absurd h3 hne
      · exact h3
    -- the value is the same everywhere: nought
    have hv : ∀ x, pv l x = 0 := by
      intro x
      rw [syn_pv l N x, hN, pv_zero hs]
      grind
    clear hs hN h
    -- so each coefficient in turn
    cases l with
    | nil => intro i; exact co_nil i
    | cons a l =>
      have h0 := hv 0
      rw [pv_cons] at h0
      have ha : a = 0 := by grind
      have hl2 : ∀ i, co l i = 0 := by
        refine ih l (by simpa using hl) 1 fun k hk => ?_
        have h1 := hv k
        rw [pv_cons, ha] at h1
        have hk0 : (k : Rat) ≠ 0 := by
          have : (0 : Rat) < (k : Rat) := by exact_mod_cast hk
          grind
        have h2 : (k : Rat) * pv l k = 0 := by grind
        rcases Rat.mul_eq_zero.1 h2 with h3 | h3
        · exact absurd h3 hk0
        · exact h3
      intro i
      cases i with
      | zero => rw [co_zero, ha]
      | succ i => rw [co_succ]; exact hl2 i
/-- Sums, place by place. -/
def padd : List Rat → List Rat → List Rat
  | [], m => m
  | a :: l, [] => a :: l
  | a :: l, b :: m => (a + b) :: padd l m
theorem padd_nil (l : List Rat) : padd l [] = l := by cases l <;> rfl
theorem co_padd : ∀ (l m : List Rat) (i : Nat), co (padd l m) i = co l i + co m i := by
  intro l
  induction l with
  | nil => intro m i; rw [co_nil]; show co m i = 0 + co m i; grind
  | cons a l ih =>
    intro m i
    cases m with
    | nil => rw [padd_nil, co_nil]; grind
    | cons b m =>
      show co ((a + b) :: padd l m) i = _
      cases i with
      | zero => rw [co_zero, co_zero, co_zero]
      | succ i => rw [co_succ, co_succ, co_succ, ih]
theorem pv_padd : ∀ (l m : List Rat) (x : Rat), pv (padd l m) x = pv l x + pv m x := by
  intro l
  induction l with
  | nil => intro m x; show pv m x = 0 + pv m x; grind
  | cons a l ih =>
    intro m x
    cases m with
    | nil => rw [padd_nil, pv_nil]; grind
    | cons b m =>
      show (a + b) + x * pv (padd l m) x = (a + x * pv l x) + (b + x * pv m x)
      rw [ih]; grind
def psc (c : Rat) (l : List Rat) : List Rat := l.map (c * ·)
theorem co_psc (c : Rat) : ∀ (l : List Rat) (i : Nat), co (psc c l) i = c * co l i := by
  intro l
  induction l with
  | nil => intro i; show co [] i = _; rw [co_nil]; grind
  | cons a l ih =>
    intro i
    show co (c * a :: psc c l) i = _
    cases i with
    | zero => rw [co_zero, co_zero]
    | succ i => rw [co_succ, co_succ, ih]
theorem pv_psc (c : Rat) : ∀ (l : List Rat) (x : Rat), pv (psc c l) x = c * pv l x := by
  intro l
  induction l with
  | nil => intro x; show (0 : Rat) = c * 0; grind
  | cons a l ih => intro x; show c * a + x * pv (psc c l) x = c * (a + x * pv l x); rw [ih]; grind
/-- **Two polynomials with the same value everywhere have the same coefficients.** -/
theorem co_of_pv {l m : List Rat} (h : ∀ x, pv l x = pv m x) (i : Nat) : co l i = co m i := by
  have h1 : ∀ x, pv (padd l (psc (-1) m)) x = 0 := by
    intro x
    rw [pv_padd, pv_psc, h]
    grind
  have h2 := co_of_zero _ _ (Nat.le_refl _) 0 (fun k _ => h1 k) i
  rw [co_padd, co_psc] at h2
  grind
/-- Products. -/
def mulr : List Rat → List Rat → List Rat
  | [], _ => []
  | a :: l, m => padd (psc a m) (0 :: mulr l m)
theorem pv_mulr : ∀ (l m : List Rat) (x : Rat), pv (mulr l m) x = pv l x * pv m x := by
  intro l
  induction l with
  | nil => intro m x; show (0 : Rat) = 0 * _; grind
  | cons a l ih =>
    intro m x
    show pv (padd (psc a m) (0 :: mulr l m)) x = (a + x * pv l x) * pv m x
    rw [pv_padd, pv_psc, pv_cons, ih]
    grind
/-- Sums of so many. -/
def sumN (f : Nat → Rat) : Nat → Rat
  | 0 => 0
  | n + 1 => sumN f n + f n
theorem sumN_congr {f g : Nat → Rat} {n : Nat} (h : ∀ k, k < n → f k = g k) : sumN f n = sumN g n := by
  induction n with
  | zero => rfl
  | succ n ih => show sumN f n + f n = sumN g n + g n; rw [ih (fun k hk => h k (by omega)), h n (by omega)]
theorem sumN_zero {f : Nat → Rat} {n : Nat} (h : ∀ k, k < n → f k = 0) : sumN f n = 0 := by
  induction n with
  | zero => rfl
  | succ n ih => show sumN f n + f n = 0; rw [ih (fun k hk => h k (by omega)), h n (by omega)]; grind
theorem sumN_head (f : Nat → Rat) : ∀ n, sumN f (n + 1) = f 0 + sumN (fun k => f (k + 1)) n := by
  intro n
  induction n with
  | zero => show (0 : Rat) + f 0 = f 0 + 0; grind
  | succ n ih => show sumN f (n + 1) + f (n + 1) = f 0 + (sumN (fun k => f (k + 1)) n + f (n + 1)); rw [ih]; grind
theorem sumN_more (f : Nat → Rat) {n m : Nat} (h : n ≤ m) (h0 : ∀ k, n ≤ k → k < m → f k = 0) : sumN f m = sumN f n := by
  induction m with
  | zero => have : n = 0 := by omega
            rw [this]
  | succ m ih =>
    by_cases hm : n = m + 1
    · rw [hm]
    · show sumN f m + f m = _
      rw [ih (by omega) (fun k h1 h2 => h0 k h1 (by omega)), h0 m (by omega) (by omega)]
      grind
def cnv (l m : List Rat) (i : Nat) : Rat := sumN (fun k => co l k * co m (i - k)) (i + 1)
theorem co_mulr : ∀ (l m : List Rat) (i : Nat), co (mulr l m) i = cnv l m i := by
  intro l
  induction l with
  | nil =>
    intro m i
    show co [] i = _
    rw [co_nil, cnv, sumN_zero]
    intro k _
    rw [co_nil]
    grind
  | cons a l ih =>
    intro m i
    show co (padd (psc a m) (0 :: mulr l m)) i = _
    rw [co_padd, co_psc, cnv, sumN_head]
    cases i with
    | zero =>
      rw [co_zero, co_zero]
      show a * co m 0 + 0 = a * co m 0 + 0
      rfl
    | succ i =>
      rw [co_succ, ih, cnv, co_zero]
      congr 1
      refine sumN_congr fun k hk => ?_
      rw [co_succ, show i + 1 - (k + 1) = i - k by omega]
theorem cnv_big {l m : List Rat} {i : Nat} (h : l.length + m.length ≤ i + 1) : cnv l m i = 0 := by
  refine sumN_zero fun k hk => ?_
  by_cases h1 : l.length ≤ k
  · rw [co_ge h1]; grind
  · rw [co_ge (l := m) (by omega)]; grind
theorem cnv_top {l m : List Rat} {a b : Nat} (ha : l.length = a + 1) (hb : m.length = b + 1) : cnv l m (a + b) = co l a * co m b := by
  have e : a + b + 1 = a + (b + 1) := by omega
  rw [cnv]
  have h1 : sumN (fun k => co l k * co m (a + b - k)) (a + b + 1) = sumN (fun k => co l k * co m (a + b - k)) (a + 1) := by
    refine sumN_more _ (by omega) fun k h1 h2 => ?_
    show co l k * _ = 0
    rw [co_ge (by omega)]; grind
  rw [h1]
  show sumN (fun k => co l k * co m (a + b - k)) a + co l a * co m (a + b - a) = _
  rw [sumN_zero, show a + b - a = b by omega]
  · grind
  · intro k hk
    rw [co_ge (l := m) (by omega)]; grind
/-- Without noughts at the end. -/
def trimQ : List Rat → List Rat
  | [] => []
  | a :: l => if trimQ l = [] ∧ a = 0 then [] else a :: trimQ l
theorem co_trim : ∀ (l : List Rat) (i : Nat), co (trimQ l) i = co l i := by
  intro l
  induction l with
  | nil => intro i; rfl
  | cons a l ih =>
    intro i
    rw [trimQ]
    split
    · rename_i h
      cases i with
      | zero => rw [co_nil, co_zero, h.2]
      | succ i => rw [co_nil, co_succ, ← ih, h.1, co_nil]
    · cases i with
      | zero => rw [co_zero, co_zero]
      | succ i => rw [co_succ, co_succ, ih]
theorem trim_zero {l : List Rat} (h : ∀ i, co l i = 0) : trimQ l = [] := by
  induction l with
  | nil => rfl
  | cons a l ih =>
    have h0 := h 0
    rw [co_zero] at h0
    rw [trimQ, if_pos ⟨ih (fun i => by rw [← co_succ a]; exact h (i + 1)), h0⟩]
/-- **What has the same coefficients is, trimmed, the same.** -/
theorem trim_ext : ∀ {l m : List Rat}, (∀ i, co l i = co m i) → trimQ l = trimQ m := by
  intro l
  induction l with
  | nil => intro m h; exact (trim_zero (fun i => by rw [← h i, co_nil])).symm
  | cons a l ih =>
    intro m h
    cases m with
    | nil => exact trim_zero (fun i => by rw [h i, co_nil])
    | cons b m =>
      have h0 := h 0
      rw [co_zero, co_zero] at h0
      have h1 := ih (m := m) (fun i => by have := h (i + 1); rwa [co_succ, co_succ] at this)
      rw [trimQ, trimQ, h0, h1]
def Trm (l : List Rat) : Prop := trimQ l = l
theorem trm_trim (l : List Rat) : Trm (trimQ l) := trim_ext (co_trim l)
theorem trm_ext {l m : List Rat} (hl : Trm l) (hm : Trm m) (h : ∀ i, co l i = co m i) : l = m := by
  rw [← hl, ← hm]; exact trim_ext h
theorem trim_len (l : List Rat) : (trimQ l).length ≤ l.length := by
  induction l with
  | nil => exact Nat.le_refl _
  | cons a l ih =>
    rw [trimQ]
    split
    · exact Nat.zero_le _
    · simp; exact ih
theorem trm_last {l : List Rat} (h : Trm l) (hn : l ≠ []) : co l (l.length - 1) ≠ 0 := by
  induction l with
  | nil => exact absurd rfl hn
  | cons a l ih =>
    have h' : trimQ (a :: l) = a :: l := h
    rw [trimQ] at h'
    split at h'
    · cases h'
    · rename_i hc
      have hl : trimQ l = l := (List.cons.inj h').2
      cases l with
      | nil =>
        intro e
        exact hc ⟨hl, by simpa [co] using e⟩
      | cons b l =>
        have h1 := ih hl (by simp)
        simp only [List.length_cons, Nat.add_sub_cancel] at h1 ⊢
        rw [co_succ]
        exact h1
theorem trm_of_last {l : List Rat} (h : l = [] ∨ co l (l.length - 1) ≠ 0) : Trm l := by
  induction l with
  | nil => rfl
  | cons a l ih =>
    have h1 := h.resolve_left (by simp)
    show trimQ (a :: l) = a :: l
    cases l with
    | nil =>
      rw [trimQ, if_neg]
      · rfl
      · rintro ⟨_, e⟩
        exact h1 (by simp [co, e])
    | cons b l =>
      simp only [List.length_cons, Nat.add_sub_cancel] at h1
      rw [co_succ] at h1
      have h2 : trimQ (b :: l) = b :: l := ih (.inr (by simpa using h1))
      rw [trimQ, h2, if_neg]
      rintro ⟨e, _⟩
      cases e
/-- As many coefficients as a bound says, off a function. -/
def lof (n : Nat) (f : Nat → Rat) : List Rat := (List.range n).map f
theorem co_lof (n : Nat) (f : Nat → Rat) (i : Nat) : co (lof n f) i = if i < n then f i else 0 := by
  unfold co lof
  rw [List.getElem?_map]
  by_cases h : i < n
  · rw [List.getElem?_range h, if_pos h]; rfl
  · rw [if_neg h, List.getElem?_eq_none (by simp; omega)]; rfl
/-- What the reference tells. -/
def addp (l m : List Rat) : List Rat := trimQ (lof (max l.length m.length) fun i => co l i + co m i)
def mulp (l m : List Rat) : List Rat := trimQ (lof (l.length + m.length - 1) (cnv l m))
theorem co_addp (l m : List Rat) (i : Nat) : co (addp l m) i = co l i + co m i := by
  rw [addp, co_trim, co_lof]
  split
  · rfl
  · rw [co_ge (by omega), co_ge (by omega)]; grind
theorem co_mulp (l m : List Rat) (i : Nat) : co (mulp l m) i = cnv l m i := by
  rw [mulp, co_trim, co_lof]
  split
  · rfl
  · exact (cnv_big (by omega)).symm
theorem pv_addp (l m : List Rat) (x : Rat) : pv (addp l m) x = pv l x + pv m x := by
  rw [← pv_padd]; exact pv_congr (fun i => by rw [co_addp, co_padd]) x
theorem pv_mulp (l m : List Rat) (x : Rat) : pv (mulp l m) x = pv l x * pv m x := by
  rw [← pv_mulr]; exact pv_congr (fun i => by rw [co_mulp, co_mulr]) x
theorem trm_addp (l m : List Rat) : Trm (addp l m) := trm_trim _
theorem trm_mulp (l m : List Rat) : Trm (mulp l m) := trm_trim _
/-- **Trimmed, and with the same value everywhere: the same.** -/
theorem trm_pv {l m : List Rat} (hl : Trm l) (hm : Trm m) (h : ∀ x, pv l x = pv m x) : l = m := trm_ext hl hm (co_of_pv h)
/-- The derivative, from the first coefficient on. -/
def pder : List Rat → List Rat
  | [] => []
  | _ :: l => padd l (0 :: pder l)
theorem co_pder : ∀ (l : List Rat) (i : Nat), co (pder l) i = co l (i + 1) * ((i : Rat) + 1) := by
  intro l
  induction l with
  | nil => intro i; show co [] i = _; rw [co_nil, co_nil]; grind
  | cons a l ih =>
    intro i
    show co (padd l (0 :: pder l)) i = _
    rw [co_padd, co_succ]
    cases i with
    | zero => rw [co_zero]; simp; grind
    | succ i =>
      rw [co_succ, ih]
      push_cast
      grind
/-- What the reference tells. -/
def slope (l : List Rat) : List Rat := trimQ (lof (l.length - 1) fun i => co l (i + 1) * ((i : Rat) + 1))
theorem co_slope (l : List Rat) (i : Nat) : co (slope l) i = co (pder l) i := by
  rw [slope, co_trim, co_lof, co_pder]
  split
  · rfl
  · rw [co_ge (by omega)]; grind
theorem trm_slope (l : List Rat) : Trm (slope l) := trm_trim _
/-- Moved: with x and a together in place of x (by Horner). -/
def pmov : List Rat → Rat → List Rat
  | [], _ => []
  | c :: l, a => padd [c] (mulr [a, 1] (pmov l a))
def moved (l : List Rat) (a : Rat) : List Rat := trimQ (pmov l a)
theorem pv_trim (l : List Rat) (x : Rat) : pv (trimQ l) x = pv l x := pv_congr (co_trim l) x
theorem len_of {l : List Rat} {n : Nat} (hl : Trm l) (hn : 1 ≤ n) (h1 : co l (n - 1) ≠ 0) (h0 : ∀ i, n ≤ i → co l i = 0) : l.length = n := by
  have hne : l ≠ [] := by rintro rfl; exact h1 (co_nil _)
  have ht := trm_last hl hne
  have hp : 0 < l.length := List.length_pos_iff.2 hne
  rcases Nat.lt_trichotomy l.length n with h | h | h
  · exact absurd (co_ge (by omega)) h1
  · exact h
  · exact absurd (h0 _ (by omega)) ht
/-- **EUCLID: what is left is just that.** -/
theorem div_unique {q k1 r1 k2 r2 : List Rat} (hq : Trm q) (h0 : q ≠ []) (hk1 : Trm k1) (hr1 : Trm r1) (hk2 : Trm k2) (hr2 : Trm r2) (l1 : r1.length < q.length) (l2 : r2.length < q.length)
    (h : ∀ x, pv k1 x * pv q x + pv r1 x = pv k2 x * pv q x + pv r2 x) : k1 = k2 ∧ r1 = r2 := by
  have key : ∀ d : List Rat, Trm d → (∀ x, pv d x * pv q x = pv (padd r2 (psc (-1) r1)) x) → d = [] := by
    intro d hd hx
    apply Classical.byContradiction
    intro hne
    have hc := co_of_pv (l := mulr d q) (m := padd r2 (psc (-1) r1)) (fun x => by rw [pv_mulr, hx])
    obtain ⟨a, ha⟩ : ∃ a, d.length = a + 1 := ⟨d.length - 1, by have := List.length_pos_iff.2 hne; omega⟩
    obtain ⟨b, hb⟩ : ∃ b, q.length = b + 1 := ⟨q.length - 1, by have := List.length_pos_iff.2 h0; omega⟩
    have h1 := hc (a + b)
    rw [co_mulr, cnv_top ha hb, co_padd, co_psc, co_ge (l := r2) (by omega), co_ge (l := r1) (by omega)] at h1
    have h2 := trm_last hd hne
    have h3 := trm_last hq h0
    rw [ha, Nat.add_sub_cancel] at h2
    rw [hb, Nat.add_sub_cancel] at h3
    have h4 : co d a * co q b = 0 := by rw [h1]; grind
    rcases Rat.mul_eq_zero.1 h4 with h5 | h5
    · exact h2 h5
    · exact h3 h5
  have hd := key (trimQ (padd k1 (psc (-1) k2))) (trm_trim _) (fun x => by
    have := h x
    rw [pv_trim, pv_padd, pv_psc, pv_padd, pv_psc]
    grind)
  have hk : k1 = k2 := by
    refine trm_ext hk1 hk2 fun i => ?_
    have h1 := co_trim (padd k1 (psc (-1) k2)) i
    rw [hd, co_nil, co_padd, co_psc] at h1
    grind
  subst hk
  refine ⟨rfl, trm_pv hr1 hr2 fun x => ?_⟩
  have := h x
  grind
end Go.Proofs.Ytokojbgpboccnaa

/-
  POLYNOMIALS: one division by steps; the value power by power. Nothing of a program.
-/
namespace Go.Proofs.Ytokojbgpboccnaa
set_option linter.unusedVariables false
/-- The last coefficient. -/
def top (l : List Rat) : Rat := co l (l.length - 1)
theorem top_ne {l : List Rat} (h : Trm l) (hn : l ≠ []) : top l ≠ 0 := trm_last h hn
/-- A power times a number. -/
def mon (d : Nat) (c : Rat) : List Rat := List.replicate d 0 ++ [c]
theorem co_mon (d : Nat) (c : Rat) (i : Nat) : co (mon d c) i = if i = d then c else 0 := by
  unfold co mon
  by_cases h : i < d
  · rw [List.getElem?_append_left (by simpa using h), if_neg (by omega)]
    simp [h]
  · rw [List.getElem?_append_right (by simpa using h)]
    by_cases h2 : i = d
    · subst h2; simp
    · rw [if_neg h2, List.getElem?_eq_none (by simp; omega)]; rfl
theorem pow_nat_succ (x : Rat) (n : Nat) : x ^ (n + 1) = x ^ n * x := Rat.pow_succ x n
theorem pv_mon (d : Nat) (c x : Rat) : pv (mon d c) x = c * x ^ d := by
  induction d with
  | zero => show c + x * 0 = c * x ^ 0; rw [Rat.pow_zero]; grind
  | succ d ih =>
    show (0 : Rat) + x * pv (mon d c) x = _
    rw [ih, pow_nat_succ]; grind
theorem cnv_mon (d : Nat) (c : Rat) (q : List Rat) (i : Nat) : cnv (mon d c) q i = if d ≤ i then c * co q (i - d) else 0 := by
  unfold cnv
  split
  · rename_i h
    have h1 : sumN (fun k => co (mon d c) k * co q (i - k)) (i + 1) = sumN (fun k => co (mon d c) k * co q (i - k)) (d + 1) := by
      refine sumN_more _ (by omega) fun k h1 h2 => ?_
      show co (mon d c) k * _ = 0
      rw [co_mon, if_neg (by omega)]; grind
    rw [h1]
    show sumN _ d + co (mon d c) d * co q (i - d) = _
    rw [sumN_zero, co_mon, if_pos rfl]
    · grind
    · intro k hk
      rw [co_mon, if_neg (by omega)]; grind
  · rename_i h
    refine sumN_zero fun k hk => ?_
    rw [co_mon, if_neg (by omega)]; grind
/-- One step of a division: what is left. -/
def stepp (p q : List Rat) : List Rat := addp p (mulp (mulp (mon (p.length - q.length) (top p / top q)) q) (trimQ [-1]))
theorem trm_stepp (p q : List Rat) : Trm (stepp p q) := trm_addp _ _
theorem pv_minus (x : Rat) : pv (trimQ [-1]) x = -1 := by rw [pv_trim]; show (-1 : Rat) + x * 0 = _; grind
theorem pv_stepp (p q : List Rat) (x : Rat) : pv (stepp p q) x = pv p x - top p / top q * x ^ (p.length - q.length) * pv q x := by
  rw [stepp, pv_addp, pv_mulp, pv_mulp, pv_mon, pv_minus]; grind
theorem co_stepp (p q : List Rat) (i : Nat) : co (stepp p q) i = co p i - (if p.length - q.length ≤ i then top p / top q * co q (i - (p.length - q.length)) else 0) := by
  have h : ∀ x, pv (stepp p q) x = pv (padd p (psc (-1) (mulr (mon (p.length - q.length) (top p / top q)) q))) x := by
    intro x
    rw [pv_stepp, pv_padd, pv_psc, pv_mulr, pv_mon]; grind
  rw [co_of_pv h i, co_padd, co_psc, co_mulr, cnv_mon]
  split <;> grind
theorem stepp_less {p q : List Rat} (hp : Trm p) (hq : Trm q) (h0 : q ≠ []) (hl : q.length ≤ p.length) : (stepp p q).length < p.length := by
  have hq1 : 0 < q.length := List.length_pos_iff.2 h0
  apply Classical.byContradiction
  intro h
  have hne : stepp p q ≠ [] := by intro e; rw [e, List.length_nil] at h; omega
  have ht := trm_last (trm_stepp p q) hne
  apply ht
  rw [co_stepp]
  by_cases hg : p.length ≤ (stepp p q).length - 1
  · have hz : co q ((stepp p q).length - 1 - (p.length - q.length)) = 0 := co_ge (by omega)
    rw [co_ge hg, if_pos (by omega), hz]; grind
  · have e : (stepp p q).length - 1 = p.length - 1 := by omega
    rw [e, if_pos (by omega), show p.length - 1 - (p.length - q.length) = q.length - 1 by omega]
    have hz : top q ≠ 0 := top_ne hq h0
    show top p - top p / top q * top q = 0
    rw [Rat.div_mul_cancel hz]; grind
end Go.Proofs.Ytokojbgpboccnaa

/-
  POLYNOMIALS: what goes into both; those with no divisors; how often one of them is in another one. Nothing of a program.
-/
namespace Go.Proofs.Ytokojbgpboccnaa
set_option linter.unusedVariables false
/-! ### Lengths -/
theorem cnv_pos {l m : List Rat} {a b : Nat} (ha : l.length = a + 1) (hb : m.length = b + 1) (hl : Trm l) (hm : Trm m) : co (mulp l m) (a + b) ≠ 0 := by
  rw [co_mulp, cnv_top ha hb]
  have h1 := trm_last hl (by intro e; rw [e] at ha; simp at ha)
  have h2 := trm_last hm (by intro e; rw [e] at hb; simp at hb)
  rw [ha, Nat.add_sub_cancel] at h1
  rw [hb, Nat.add_sub_cancel] at h2
  intro h
  rcases Rat.mul_eq_zero.1 h with h | h
  · exact h1 h
  · exact h2 h
theorem len_mulp {l m : List Rat} (hl : Trm l) (hm : Trm m) (h1 : l ≠ []) (h2 : m ≠ []) : (mulp l m).length = l.length + m.length - 1 := by
  have e1 : l.length = (l.length - 1) + 1 := by have := List.length_pos_iff.2 h1; omega
  have e2 : m.length = (m.length - 1) + 1 := by have := List.length_pos_iff.2 h2; omega
  refine len_of (trm_mulp l m) (by omega) ?_ fun i hi => ?_
  · rw [show l.length + m.length - 1 - 1 = (l.length - 1) + (m.length - 1) by omega]
    exact cnv_pos e1 e2 hl hm
  · rw [co_mulp, cnv_big (by omega)]
theorem mulp_ne {l m : List Rat} (hl : Trm l) (hm : Trm m) (h1 : l ≠ []) (h2 : m ≠ []) : mulp l m ≠ [] := by
  intro e
  have h := len_mulp hl hm h1 h2
  have := List.length_pos_iff.2 h1
  have := List.length_pos_iff.2 h2
  rw [e, List.length_nil] at h
  omega
theorem top_mulp {l m : List Rat} (hl : Trm l) (hm : Trm m) (h1 : l ≠ []) (h2 : m ≠ []) : top (mulp l m) = top l * top m := by
  unfold top
  have e1 : l.length = (l.length - 1) + 1 := by have := List.length_pos_iff.2 h1; omega
  have e2 : m.length = (m.length - 1) + 1 := by have := List.length_pos_iff.2 h2; omega
  rw [len_mulp hl hm h1 h2, show l.length + m.length - 1 - 1 = (l.length - 1) + (m.length - 1) by omega, co_mulp, cnv_top e1 e2]
theorem nil_of_pv {l : List Rat} (hl : Trm l) (h : ∀ x, pv l x = 0) : l = [] := trm_pv hl rfl fun x => by rw [h x]; rfl
theorem pv_one (c x : Rat) : pv [c] x = c := by show c + x * 0 = c; grind
/-- With as few coefficients as one. -/
theorem one_of_len {l : List Rat} (h : l.length = 1) : ∃ c, l = [c] := by
  match l, h with
  | [c], _ => exact ⟨c, rfl⟩
/-! ### What goes into another one -/
def Dv (d p : List Rat) : Prop := ∃ k, Trm k ∧ ∀ x, pv p x = pv k x * pv d x
theorem Dv.of {d p k : List Rat} (h : ∀ x, pv p x = pv k x * pv d x) : Dv d p := ⟨trimQ k, trm_trim k, fun x => by rw [pv_trim, h x]⟩
theorem Dv.refl (p : List Rat) : Dv p p := Dv.of (k := [1]) fun x => by rw [pv_one]; grind
theorem Dv.nil (d : List Rat) : Dv d [] := Dv.of (k := []) fun x => by show (0 : Rat) = 0 * _; grind
theorem Dv.one (p : List Rat) : Dv [1] p := Dv.of (k := p) fun x => by rw [pv_one]; grind
theorem Dv.trans {a b c : List Rat} (h : Dv a b) (h' : Dv b c) : Dv a c := by
  obtain ⟨k, _, hk⟩ := h
  obtain ⟨m, _, hm⟩ := h'
  exact Dv.of (k := mulp m k) fun x => by rw [hm, hk, pv_mulp]; grind
theorem Dv.mul {d p : List Rat} (h : Dv d p) (q : List Rat) : Dv d (mulp q p) := by
  obtain ⟨k, _, hk⟩ := h
  exact Dv.of (k := mulp q k) fun x => by rw [pv_mulp, hk, pv_mulp]; grind
theorem Dv.cast {d p q : List Rat} (h : Dv d p) (e : ∀ x, pv q x = pv p x) : Dv d q := by
  obtain ⟨k, _, hk⟩ := h
  exact Dv.of (k := k) fun x => by rw [e, hk]
theorem Dv.comb {d p q r u v : List Rat} (h : Dv d p) (h' : Dv d q) (e : ∀ x, pv r x = pv u x * pv p x + pv v x * pv q x) : Dv d r := by
  obtain ⟨k, _, hk⟩ := h
  obtain ⟨m, _, hm⟩ := h'
  exact Dv.of (k := addp (mulp u k) (mulp v m)) fun x => by rw [e, hk, hm, pv_addp, pv_mulp, pv_mulp]; grind
theorem Dv.ne {d p : List Rat} (h : Dv d p) (hp : Trm p) (h0 : p ≠ []) : d ≠ [] := by
  rintro rfl
  obtain ⟨k, _, hk⟩ := h
  exact h0 (nil_of_pv hp fun x => by rw [hk]; show _ * (0 : Rat) = 0; grind)
/-- So often just, of those with a last coefficient that is not nought. -/
theorem Dv.eq {d p : List Rat} (h : Dv d p) (hp : Trm p) : ∃ k, Trm k ∧ p = mulp k d := by
  obtain ⟨k, hk, e⟩ := h
  exact ⟨k, hk, trm_pv hp (trm_mulp _ _) fun x => by rw [e, pv_mulp]⟩
theorem Dv.len {d p : List Rat} (h : Dv d p) (hd : Trm d) (hp : Trm p) (h0 : p ≠ []) : d.length ≤ p.length := by
  have h1 := h.ne hp h0
  obtain ⟨k, hk, e⟩ := h.eq hp
  have hk0 : k ≠ [] := by
    rintro rfl
    exact h0 (nil_of_pv hp fun x => by rw [e, pv_mulp]; show (0 : Rat) * _ = 0; grind)
  rw [e, len_mulp hk hd hk0 h1]
  have := List.length_pos_iff.2 hk0
  omega
/-- As long as what it goes into: a number of times. -/
theorem Dv.same {d p : List Rat} (h : Dv d p) (hd : Trm d) (hp : Trm p) (h0 : p ≠ []) (hl : d.length = p.length) : ∃ c, c ≠ 0 ∧ ∀ x, pv p x = c * pv d x := by
  have h1 := h.ne hp h0
  obtain ⟨k, hk, e⟩ := h.eq hp
  have hk0 : k ≠ [] := by
    rintro rfl
    exact h0 (nil_of_pv hp fun x => by rw [e, pv_mulp]; show (0 : Rat) * _ = 0; grind)
  have h2 := len_mulp hk hd hk0 h1
  rw [← e] at h2
  have := List.length_pos_iff.2 h1
  have := List.length_pos_iff.2 hk0
  obtain ⟨c, rfl⟩ := one_of_len (l := k) (by omega)
  refine ⟨c, fun hc => ?_, fun x => by rw [e, pv_mulp, pv_one]⟩
  subst hc
  exact h0 (nil_of_pv hp fun x => by rw [e, pv_mulp, pv_one]; grind)
/-! ### With 1 at its end -/
def Mnc (p : List Rat) : Prop := p ≠ [] ∧ top p = 1
theorem Mnc.trm {p : List Rat} (h : Mnc p) : Trm p := trm_of_last (.inr (by have := h.2; unfold top at this; rw [this]; decide))
theorem Mnc.eq {p q : List Rat} (hp : Mnc p) (hq : Mnc q) (h : Dv p q) (h' : Dv q p) : p = q := by
  have l1 := h.len hp.trm hq.trm hq.1
  have l2 := h'.len hq.trm hp.trm hp.1
  have hl : p.length = q.length := by omega
  obtain ⟨c, _, e⟩ := h.same hp.trm hq.trm hq.1 hl
  have h1 : co q (q.length - 1) = co (psc c p) (q.length - 1) := co_of_pv (fun x => by rw [e, pv_psc]) _
  rw [co_psc, ← hl] at h1
  have h2 : co q (p.length - 1) = 1 := by rw [hl]; exact hq.2
  have h3 : co p (p.length - 1) = 1 := hp.2
  rw [h2, h3] at h1
  have hc : c = 1 := by grind
  exact trm_pv hp.trm hq.trm fun x => by rw [e, hc]; grind
def mnc (p : List Rat) : List Rat := trimQ (psc (1 / top p) p)
theorem pv_mnc (p : List Rat) (x : Rat) : pv (mnc p) x = 1 / top p * pv p x := by rw [mnc, pv_trim, pv_psc]
theorem trm_mnc (p : List Rat) : Trm (mnc p) := trm_trim _
theorem co_mnc (p : List Rat) (i : Nat) : co (mnc p) i = 1 / top p * co p i := by rw [mnc, co_trim, co_psc]
theorem rat_inv {a : Rat} (h : a ≠ 0) : 1 / a * a = 1 := Rat.div_mul_cancel h
theorem mnc_len {p : List Rat} (hp : Trm p) (h0 : p ≠ []) : (mnc p).length = p.length := by
  have := List.length_pos_iff.2 h0
  refine len_of (trm_mnc p) this ?_ fun i hi => by rw [co_mnc, co_ge hi]; grind
  rw [co_mnc]
  show 1 / top p * top p ≠ 0
  rw [rat_inv (top_ne hp h0)]
  decide
theorem mnc_mnc {p : List Rat} (hp : Trm p) (h0 : p ≠ []) : Mnc (mnc p) := by
  have h1 := mnc_len hp h0
  refine ⟨fun e => ?_, ?_⟩
  · have := List.length_pos_iff.2 h0
    rw [e, List.length_nil] at h1
    omega
  · unfold top
    rw [h1, co_mnc]
    exact rat_inv (top_ne hp h0)
theorem mnc_nil : mnc [] = [] := rfl
theorem Mnc.self {p : List Rat} (h : Mnc p) : mnc p = p := trm_pv (trm_mnc p) h.trm fun x => by
  rw [pv_mnc, h.2]
  have : (1 : Rat) / 1 = 1 := by decide +kernel
  rw [this]; grind
theorem dv_mnc (p : List Rat) : Dv p (mnc p) := Dv.of (k := [1 / top p]) fun x => by rw [pv_mnc, pv_one]
theorem mnc_dv {p : List Rat} (hp : Trm p) : Dv (mnc p) p := by
  by_cases h0 : p = []
  · rw [h0]; exact Dv.nil _
  · refine Dv.of (k := [top p]) fun x => ?_
    have := rat_inv (top_ne hp h0)
    rw [pv_one, pv_mnc]
    grind
theorem Mnc.mul {p q : List Rat} (hp : Mnc p) (hq : Mnc q) : Mnc (mulp p q) :=
  ⟨mulp_ne hp.trm hq.trm hp.1 hq.1, by rw [top_mulp hp.trm hq.trm hp.1 hq.1, hp.2, hq.2]; decide +kernel⟩
theorem mnc_one : Mnc [1] := ⟨by simp, rfl⟩
/-! ### Division, the greatest that goes into both -/
theorem div_ex {q : List Rat} (hq : Trm q) (h0 : q ≠ []) : ∀ (n : Nat) (p : List Rat), Trm p → p.length ≤ n → ∃ y r, Trm y ∧ Trm r ∧ r.length < q.length ∧ ∀ x, pv p x = pv y x * pv q x + pv r x := by
  intro n
  induction n with
  | zero =>
    intro p hp hl
    have := List.length_pos_iff.2 h0
    exact ⟨[], p, rfl, hp, by omega, fun x => by show _ = (0 : Rat) * _ + _; grind⟩
  | succ n ih =>
    intro p hp hl
    by_cases h : p.length < q.length
    · exact ⟨[], p, rfl, hp, h, fun x => by show _ = (0 : Rat) * _ + _; grind⟩
    · have h1 := stepp_less hp hq h0 (by omega)
      obtain ⟨y, r, hy, hr, hrl, e⟩ := ih (stepp p q) (trm_stepp p q) (by omega)
      refine ⟨addp y (mon (p.length - q.length) (top p / top q)), r, trm_addp _ _, hr, hrl, fun x => ?_⟩
      have h2 := pv_stepp p q x
      rw [e] at h2
      rw [pv_addp, pv_mon]
      grind
theorem bez : ∀ (n : Nat) (p q : List Rat), Trm p → Trm q → q.length ≤ n → (p ≠ [] ∨ q ≠ []) → ∃ g u v, Mnc g ∧ Dv g p ∧ Dv g q ∧ ∀ x, pv g x = pv u x * pv p x + pv v x * pv q x := by
  intro n
  induction n with
  | zero =>
    intro p q hp hq hl h
    obtain rfl : q = [] := List.length_eq_zero_iff.1 (by omega)
    have h0 : p ≠ [] := by rcases h with h | h; exact h; exact absurd rfl h
    exact ⟨mnc p, [1 / top p], [], mnc_mnc hp h0, mnc_dv hp, Dv.nil _, fun x => by rw [pv_mnc, pv_one]; show _ = _ + (0 : Rat) * _; grind⟩
  | succ n ih =>
    intro p q hp hq hl h
    by_cases h0 : q = []
    · subst h0
      have h0 : p ≠ [] := by rcases h with h | h; exact h; exact absurd rfl h
      exact ⟨mnc p, [1 / top p], [], mnc_mnc hp h0, mnc_dv hp, Dv.nil _, fun x => by rw [pv_mnc, pv_one]; show _ = _ + (0 : Rat) * _; grind⟩
    · obtain ⟨y, r, hy, hr, hrl, e⟩ := div_ex hq h0 p.length p hp (Nat.le_refl _)
      obtain ⟨g, u, v, hg, h1, h2, h3⟩ := ih q r hq hr (by omega) (.inl h0)
      refine ⟨g, v, addp u (psc (-1) (mulp v y)), hg, h1.comb h2 (u := y) (v := [1]) (fun x => by rw [e, pv_one]; grind), h1, fun x => ?_⟩
      rw [h3, pv_addp, pv_psc, pv_mulp, e]; grind
open Classical in
noncomputable def gcdp (p q : List Rat) : List Rat := if h : Trm p ∧ Trm q ∧ (p ≠ [] ∨ q ≠ []) then (bez q.length p q h.1 h.2.1 (Nat.le_refl _) h.2.2).choose else []
theorem gcdp_spec {p q : List Rat} (hp : Trm p) (hq : Trm q) (h : p ≠ [] ∨ q ≠ []) : ∃ u v, Mnc (gcdp p q) ∧ Dv (gcdp p q) p ∧ Dv (gcdp p q) q ∧ ∀ x, pv (gcdp p q) x = pv u x * pv p x + pv v x * pv q x := by
  unfold gcdp
  rw [dif_pos ⟨hp, hq, h⟩]
  exact (bez q.length p q hp hq (Nat.le_refl _) h).choose_spec
theorem gcdp_nil : gcdp [] [] = [] := by
  unfold gcdp
  rw [dif_neg (by rintro ⟨_, _, h | h⟩ <;> exact h rfl)]
theorem gcdp_great {p q d : List Rat} (hp : Trm p) (hq : Trm q) (h : p ≠ [] ∨ q ≠ []) (h1 : Dv d p) (h2 : Dv d q) : Dv d (gcdp p q) := by
  obtain ⟨u, v, _, _, _, e⟩ := gcdp_spec hp hq h
  exact h1.comb h2 e
theorem gcdp_of {p q g : List Rat} (hp : Trm p) (hq : Trm q) (h : p ≠ [] ∨ q ≠ []) (hg : Mnc g) (h1 : Dv g p) (h2 : Dv g q) (h3 : ∀ d, Dv d p → Dv d q → Dv d g) : g = gcdp p q := by
  obtain ⟨u, v, k1, k2, k3, e⟩ := gcdp_spec hp hq h
  exact hg.eq k1 (h1.comb h2 e) (h3 _ k2 k3)
theorem gcdp_end {p : List Rat} (hp : Trm p) : gcdp p [] = mnc p := by
  by_cases h : p = []
  · rw [h, gcdp_nil, mnc_nil]
  · exact (gcdp_of hp (show Trm [] from rfl) (.inl h) (mnc_mnc hp h) (mnc_dv hp) (Dv.nil _) fun d h1 _ => h1.trans (dv_mnc p)).symm
/-- One round of Euclid's: with what is left, times any number that is not nought. -/
theorem gcdp_next {p q y r s : List Rat} {c : Rat} (hp : Trm p) (hq : Trm q) (h0 : q ≠ []) (e : ∀ x, pv p x = pv y x * pv q x + pv r x) (hs : Trm s) (hc : c ≠ 0) (es : ∀ x, pv s x = c * pv r x) : gcdp p q = gcdp q s := by
  obtain ⟨u, v, k1, k2, k3, _⟩ := gcdp_spec hp hq (.inr h0)
  have hi := rat_inv hc
  refine gcdp_of hq hs (.inl h0) k1 k3 ?_ fun d h1 h2 => ?_
  · exact k2.comb k3 (u := [c]) (v := psc (-c) y) fun x => by rw [es, pv_one, pv_psc, e]; grind
  · refine gcdp_great hp hq (.inr h0) ?_ h1
    exact h1.comb h2 (u := y) (v := [1 / c]) fun x => by rw [e, pv_one, es]; grind
end Go.Proofs.Ytokojbgpboccnaa

/-
  POLYNOMIALS: Gauss's lemma, and how long those can be that go into one: by their values (Kronecker). Nothing of a program.
-/
namespace Go.Proofs.Ytokojbgpboccnaa
set_option linter.unusedVariables false
/-! ### Primes -/
def Prm (p : Nat) : Prop := 2 ≤ p ∧ ∀ d, d ∣ p → d = 1 ∨ d = p
theorem prm_ex : ∀ n : Nat, 2 ≤ n → ∃ p, Prm p ∧ p ∣ n := by
  intro n
  induction n using Nat.strongRecOn with
  | ind n ih =>
    intro h
    by_cases hd : ∃ d, d ∣ n ∧ d ≠ 1 ∧ d ≠ n
    · obtain ⟨d, h1, h2, h3⟩ := hd
      have h4 := Nat.le_of_dvd (by omega) h1
      have h5 : d ≠ 0 := by rintro rfl; have := Nat.eq_zero_of_zero_dvd h1; omega
      obtain ⟨p, hp, hpd⟩ := ih d (by omega) (by omega)
      exact ⟨p, hp, Nat.dvd_trans hpd h1⟩
    · refine ⟨n, ⟨h, fun d hdn => ?_⟩, Nat.dvd_refl n⟩
      apply Classical.byContradiction
      intro hc
      exact hd ⟨d, hdn, fun e => hc (.inl e), fun e => hc (.inr e)⟩
theorem Prm.mul {p : Nat} (h : Prm p) {a b : Int} (hd : (p : Int) ∣ a * b) : (p : Int) ∣ a ∨ (p : Int) ∣ b := by
  have h1 : p ∣ a.natAbs * b.natAbs := by rw [← Int.natAbs_mul]; exact Int.ofNat_dvd_left.1 hd
  rcases h.2 (Nat.gcd p a.natAbs) (Nat.gcd_dvd_left _ _) with e | e
  · exact .inr (Int.ofNat_dvd_left.2 (Nat.Coprime.dvd_of_dvd_mul_left e h1))
  · exact .inl (Int.ofNat_dvd_left.2 (by rw [← e]; exact Nat.gcd_dvd_right _ _))
/-! ### Products of integral ones -/
def zsum (f : Nat → Int) : Nat → Int
  | 0 => 0
  | n + 1 => zsum f n + f n
theorem zsum_congr {f g : Nat → Int} {n : Nat} (h : ∀ k, k < n → f k = g k) : zsum f n = zsum g n := by
  induction n with
  | zero => rfl
  | succ n ih => show zsum f n + f n = zsum g n + g n; rw [ih fun k hk => h k (by omega), h n (by omega)]
theorem zsum_mul (c : Int) (f : Nat → Int) (n : Nat) : zsum (fun k => c * f k) n = c * zsum f n := by
  induction n with
  | zero => show (0 : Int) = c * 0; omega
  | succ n ih => show zsum _ n + c * f n = c * (zsum f n + f n); rw [ih]; grind
/-- All but one of the summands are so often something. -/
theorem zsum_one {p : Int} {f : Nat → Int} {i : Nat} : ∀ n, i < n → (∀ k, k < n → k ≠ i → p ∣ f k) → p ∣ zsum f n → p ∣ f i := by
  intro n
  induction n with
  | zero => intro h; omega
  | succ n ih =>
    intro hi hk hd
    change p ∣ zsum f n + f n at hd
    by_cases e : i = n
    · subst e
      have h0 : p ∣ zsum f i := by
        clear hd ih
        have : ∀ m, m ≤ i → p ∣ zsum f m := by
          intro m
          induction m with
          | zero => intro _; exact Int.dvd_zero _
          | succ m ihm => intro hm; exact Int.dvd_add (ihm (by omega)) (hk m (by omega) (by omega))
        exact this i (Nat.le_refl _)
      exact (Int.dvd_iff_dvd_of_dvd_add hd).1 h0
    · have h1 := hk n (by omega) (by omega)
      have h2 : p ∣ zsum f n := (Int.dvd_iff_dvd_of_dvd_add hd).2 h1
      exact ih (by omega) (fun k hk' => hk k (by omega)) h2
def icv (u v : Nat → Int) (t : Nat) : Int := zsum (fun a => u a * v (t - a)) (t + 1)
theorem least {P : Nat → Prop} (h : ∃ n, P n) : ∃ n, P n ∧ ∀ m, m < n → ¬ P m := by
  obtain ⟨n, hn⟩ := h
  induction n using Nat.strongRecOn with
  | ind n ih =>
    by_cases hm : ∃ m, m < n ∧ P m
    · obtain ⟨m, h1, h2⟩ := hm
      exact ih m h1 h2
    · exact ⟨n, hn, fun m h1 h2 => hm ⟨m, h1, h2⟩⟩
theorem prm_icv {p : Nat} (hp : Prm p) {u v : Nat → Int} (h : ∀ t, (p : Int) ∣ icv u v t) : (∀ i, (p : Int) ∣ u i) ∨ ∀ i, (p : Int) ∣ v i := by
  apply Classical.byContradiction
  intro hc
  have h1 : ∃ i, ¬ (p : Int) ∣ u i := Classical.byContradiction fun e => hc (.inl fun i => Classical.byContradiction fun e2 => e ⟨i, e2⟩)
  have h2 : ∃ i, ¬ (p : Int) ∣ v i := Classical.byContradiction fun e => hc (.inr fun i => Classical.byContradiction fun e2 => e ⟨i, e2⟩)
  obtain ⟨i, hi, li⟩ := least h1
  obtain ⟨j, hj, lj⟩ := least h2
  have h3 : (p : Int) ∣ u i * v (i + j - i) := zsum_one (i := i) (f := fun a => u a * v (i + j - a)) (i + j + 1) (by omega) (fun k hk hne => ?_) (h (i + j))
  · rw [Nat.add_sub_cancel_left] at h3
    rcases hp.mul h3 with e | e
    · exact hi e
    · exact hj e
  · by_cases hk2 : k < i
    · exact Int.dvd_mul_of_dvd_left (Classical.byContradiction fun e => li k hk2 e)
    · exact Int.dvd_mul_of_dvd_right (Classical.byContradiction fun e => lj (i + j - k) (by omega) e)
/-- GAUSS: what has integral multiples as divisors has integral divisors. -/
theorem gauss_int : ∀ N : Nat, 1 ≤ N → ∀ u v f : Nat → Int, (∀ t, (N : Int) * f t = icv u v t) → ∃ (s t : Int) (u' v' : Nat → Int), s ≠ 0 ∧ t ≠ 0 ∧ (∀ i, u i = s * u' i) ∧ (∀ i, v i = t * v' i) ∧ ∀ i, f i = icv u' v' i := by
  intro N
  induction N using Nat.strongRecOn with
  | ind N ih =>
    intro hN u v f hf
    by_cases h1 : N = 1
    · subst h1
      exact ⟨1, 1, u, v, by decide, by decide, fun i => by omega, fun i => by omega, fun i => by rw [← hf]; omega⟩
    · obtain ⟨p, hp, M, rfl⟩ := prm_ex N (by omega)
      have hM : M ≠ 0 := by rintro rfl; omega
      have hp2 := hp.1
      have hlt : M < p * M := by have := Nat.mul_le_mul_right M hp2; omega
      have hp0 : (p : Int) ≠ 0 := by omega
      rcases prm_icv hp (u := u) (v := v) (fun t => by rw [← hf, Int.natCast_mul, Int.mul_assoc]; exact Int.dvd_mul_right _ _) with h | h
      · have hu : ∀ i, u i = p * (u i / p) := fun i => (Int.mul_ediv_cancel' (h i)).symm
        obtain ⟨s, t, u', v', h3, h4, h5, h6, h7⟩ := ih M hlt (by omega) (fun i => u i / p) v f (fun t => by
          have h8 := hf t
          have h9 : icv u v t = p * icv (fun i => u i / p) v t := by
            unfold icv
            rw [← zsum_mul]
            exact zsum_congr fun k _ => by rw [← Int.mul_assoc, ← hu]
          rw [h9, Int.natCast_mul, Int.mul_assoc] at h8
          exact Int.eq_of_mul_eq_mul_left hp0 h8)
        refine ⟨p * s, t, u', v', Int.mul_ne_zero hp0 h3, h4, fun i => ?_, h6, h7⟩
        have h8 := h5 i
        rw [hu i, h8, Int.mul_assoc]
      · have hu : ∀ i, v i = p * (v i / p) := fun i => (Int.mul_ediv_cancel' (h i)).symm
        obtain ⟨s, t, u', v', h3, h4, h5, h6, h7⟩ := ih M hlt (by omega) u (fun i => v i / p) f (fun t => by
          have h8 := hf t
          have h9 : icv u v t = p * icv u (fun i => v i / p) t := by
            unfold icv
            rw [← zsum_mul]
            exact zsum_congr fun k _ => by
              have := hu (t - k)
              generalize v (t - k) / p = y at *
              rw [this]; grind
          rw [h9, Int.natCast_mul, Int.mul_assoc] at h8
          exact Int.eq_of_mul_eq_mul_left hp0 h8)
        refine ⟨s, p * t, u', v', h3, Int.mul_ne_zero hp0 h4, h5, fun i => ?_, h7⟩
        have h8 := h6 i
        rw [hu i, h8, Int.mul_assoc]
/-! ### Bounds by values -/
def zc (l : List Int) (i : Nat) : Int := l[i]?.getD 0
def zev : List Int → Int → Int
  | [], _ => 0
  | c :: l, x => c + x * zev l x
def zsy : List Int → Int → List Int
  | [], _ => []
  | [_], _ => []
  | _ :: b :: l, a => zev (b :: l) a :: zsy (b :: l) a
theorem zsy_len : ∀ (l : List Int) (a : Int), (zsy l a).length = l.length - 1
  | [], _ => rfl
  | [_], _ => rfl
  | c :: b :: l, a => by
    show (zsy (b :: l) a).length + 1 = _
    rw [zsy_len (b :: l) a]; simp
theorem zsy_ev : ∀ (l : List Int) (a x : Int), zev l x = zev l a + (x - a) * zev (zsy l a) x
  | [], a, x => by show (0 : Int) = 0 + (x - a) * 0; omega
  | [c], a, x => by show c + x * 0 = (c + a * 0) + (x - a) * 0; omega
  | c :: b :: l, a, x => by
    show c + x * zev (b :: l) x = (c + a * zev (b :: l) a) + (x - a) * (zev (b :: l) a + x * zev (zsy (b :: l) a) x)
    rw [zsy_ev (b :: l) a x]
    generalize zev (b :: l) a = y
    generalize zev (zsy (b :: l) a) x = z
    grind
theorem zc_cons (c : Int) (l : List Int) (i : Nat) : zc (c :: l) (i + 1) = zc l i := by simp [zc]
theorem zc_head (c : Int) (l : List Int) : zc (c :: l) 0 = c := by simp [zc]
theorem zc_nil (i : Nat) : zc [] i = 0 := by simp [zc]
theorem zsy_zc : ∀ (l : List Int) (a : Int), zc l 0 = zev l a - a * zc (zsy l a) 0 ∧ ∀ i, zc l (i + 1) = zc (zsy l a) i - a * zc (zsy l a) (i + 1)
  | [], a => ⟨by show zc [] 0 = 0 - a * zc [] 0; rw [zc_nil]; omega, fun i => by show zc [] (i + 1) = zc [] i - a * zc [] (i + 1); rw [zc_nil, zc_nil]; omega⟩
  | [c], a => ⟨by show zc [c] 0 = (c + a * 0) - a * zc [] 0; rw [zc_nil, zc_head]; omega, fun i => by show zc [c] (i + 1) = zc [] i - a * zc [] (i + 1); rw [zc_nil, zc_nil, zc_cons, zc_nil]; omega⟩
  | c :: b :: l, a => by
    obtain ⟨h0, h1⟩ := zsy_zc (b :: l) a
    refine ⟨?_, fun i => ?_⟩
    · show zc (c :: b :: l) 0 = (c + a * zev (b :: l) a) - a * zc (zev (b :: l) a :: zsy (b :: l) a) 0
      rw [zc_head, zc_head]; omega
    · show zc (c :: b :: l) (i + 1) = zc (zev (b :: l) a :: zsy (b :: l) a) i - a * zc (zev (b :: l) a :: zsy (b :: l) a) (i + 1)
      rw [zc_cons c (b :: l) i, zc_cons _ (zsy (b :: l) a) i]
      cases i with
      | zero => rw [zc_head _ (zsy (b :: l) a), h0]
      | succ i => rw [zc_cons _ (zsy (b :: l) a) i, h1]
theorem bnd : ∀ (n : Nat) (l : List Int) (pts : List Nat) (M : Nat), l.length ≤ n → pts.Nodup → n ≤ pts.length → (∀ a ∈ pts, a ≤ 16 ∧ (zev l a).natAbs ≤ M) → ∀ i, (zc l i).natAbs ≤ 36 ^ n * M := by
  intro n
  induction n with
  | zero =>
    intro l pts M hl _ _ _ i
    obtain rfl := List.length_eq_zero_iff.1 (show l.length = 0 by omega)
    rw [zc_nil]; exact Nat.zero_le _
  | succ n ih =>
    intro l pts M hl hd hp h
    match pts, hp with
    | a :: ps, hp =>
      obtain ⟨ha, hva⟩ := h a (by simp)
      have hnd := List.nodup_cons.1 hd
      have h1 := ih (zsy l a) ps (2 * M) (by rw [zsy_len]; omega) hnd.2 (by simp at hp; omega) fun b hb => by
        obtain ⟨hb1, hb2⟩ := h b (by simp [hb])
        refine ⟨hb1, ?_⟩
        have hne : b ≠ a := by rintro rfl; exact hnd.1 hb
        have h2 := zsy_ev l a b
        have h3 : (((b : Int) - a) * zev (zsy l a) b).natAbs ≤ 2 * M := by
          have : ((b : Int) - a) * zev (zsy l a) b = zev l b - zev l a := by omega
          rw [this]; omega
        rw [Int.natAbs_mul] at h3
        have h4 : 1 ≤ ((b : Int) - a).natAbs := by omega
        have h5 := Nat.mul_le_mul_right (zev (zsy l a) b).natAbs h4
        omega
      obtain ⟨k0, k1⟩ := zsy_zc l a
      have e : 36 ^ (n + 1) * M = 36 * (36 ^ n * M) := by rw [Nat.pow_succ]; grind
      have e2 : 36 ^ n * (2 * M) = 2 * (36 ^ n * M) := by grind
      have e3 : M ≤ 36 ^ n * M := Nat.le_mul_of_pos_left M (Nat.pow_pos (by decide))
      have hm : ∀ j, ((a : Int) * zc (zsy l a) j).natAbs ≤ 16 * (2 * (36 ^ n * M)) := fun j => by
        rw [Int.natAbs_mul]
        have := h1 j
        rw [e2] at this
        exact Nat.mul_le_mul (by omega) this
      intro i
      rw [e]
      cases i with
      | zero => have := hm 0; rw [k0]; omega
      | succ i => have := hm (i + 1); have h6 := h1 i; rw [e2] at h6; rw [k1]; omega
/-- A number is nought only so often: of any so many numbers below a bound, it is not nought at all of them. -/
theorem pts_ex : ∀ (n : Nat) (l : List Rat) (k : Nat), l.length ≤ n + 1 → (∃ i, co l i ≠ 0) → ∃ pts : List Nat, pts.Nodup ∧ k ≤ pts.length ∧ ∀ a ∈ pts, a < n + k ∧ pv l (a : Rat) ≠ 0 := by
  intro n
  induction n with
  | zero =>
    intro l k hl hne
    obtain ⟨i, hi⟩ := hne
    match l, hl with
    | [], _ => exact absurd (co_nil i) hi
    | [c], _ =>
      have hc : c ≠ 0 := by
        rintro rfl
        apply hi
        cases i with
        | zero => rw [co_zero]
        | succ i => rw [co_succ, co_nil]
      exact ⟨List.range k, List.nodup_range, by simp, fun a ha => ⟨by have := List.mem_range.1 ha; omega, by rw [pv_one]; exact hc⟩⟩
  | succ n ih =>
    intro l k hl hne
    by_cases h : ∀ a, a < k → pv l ((a : Nat) : Rat) ≠ 0
    · exact ⟨List.range k, List.nodup_range, by simp, fun a ha => ⟨by have := List.mem_range.1 ha; omega, h a (List.mem_range.1 ha)⟩⟩
    · have h1 : ∃ a, a < k ∧ pv l ((a : Nat) : Rat) = 0 := Classical.byContradiction fun e => h fun a ha e2 => e ⟨a, ha, e2⟩
      obtain ⟨a, ha, h0⟩ := h1
      have hs : ∀ x, pv l x = (x - (a : Rat)) * pv (syn l a) x := fun x => by rw [syn_pv l a x, h0]; grind
      have hne2 : ∃ i, co (syn l (a : Rat)) i ≠ 0 := by
        apply Classical.byContradiction
        intro e
        have h2 : ∀ i, co (syn l (a : Rat)) i = 0 := fun i => Classical.byContradiction fun e2 => e ⟨i, e2⟩
        obtain ⟨i, hi⟩ := hne
        apply hi
        have h3 := co_of_pv (l := l) (m := []) (fun x => by rw [hs, pv_zero h2]; show _ = (0 : Rat); grind) i
        rw [h3, co_nil]
      obtain ⟨pts, p1, p2, p3⟩ := ih (syn l a) (k + 1) (by rw [syn_len]; omega) hne2
      refine ⟨pts.erase a, p1.erase a, ?_, fun b hb => ?_⟩
      · have := List.length_erase (a := a) (l := pts)
        split at this <;> omega
      · have hb1 := List.mem_of_mem_erase hb
        obtain ⟨q1, q2⟩ := p3 b hb1
        refine ⟨by omega, ?_⟩
        rw [hs]
        have hne3 : b ≠ a := by
          rintro rfl
          exact (List.Nodup.mem_erase_iff p1).1 hb |>.1 rfl
        intro e
        rcases Rat.mul_eq_zero.1 e with e | e
        · have : (b : Rat) = (a : Rat) := by grind
          exact hne3 (by exact_mod_cast this)
        · exact q2 e
theorem cden : ∀ l : List Rat, ∃ a : Int, a ≠ 0 ∧ ∀ i, ∃ z : Int, co l i * (a : Rat) = (z : Rat)
  | [] => ⟨1, by decide, fun i => ⟨0, by rw [co_nil]; show (0 : Rat) * _ = 0; grind⟩⟩
  | c :: l => by
    obtain ⟨a, h1, h2⟩ := cden l
    have h3 : (c.den : Int) ≠ 0 := by have := c.den_pos; omega
    have h4 : c * ((c.den : Int) : Rat) = (c.num : Rat) := by
      have h5 := Rat.num_divInt_den c
      have h7 : (((c.den : Int)) : Rat) ≠ 0 := by exact_mod_cast h3
      rw [Rat.divInt_eq_div] at h5
      have h9 : (c.num : Rat) / ((c.den : Int) : Rat) * ((c.den : Int) : Rat) = (c.num : Rat) := Rat.div_mul_cancel h7
      rw [h5] at h9
      exact h9
    refine ⟨(c.den : Int) * a, Int.mul_ne_zero h3 h1, fun i => ?_⟩
    cases i with
    | zero => exact ⟨c.num * a, by rw [co_zero, Rat.intCast_mul, Rat.intCast_mul, ← h4]; grind⟩
    | succ i =>
      obtain ⟨z, hz⟩ := h2 i
      exact ⟨(c.den : Int) * z, by rw [co_succ, Rat.intCast_mul, Rat.intCast_mul, ← hz]; grind⟩
theorem zsum_cast (f : Nat → Int) : ∀ n, ((zsum f n : Int) : Rat) = sumN (fun k => (f k : Rat)) n
  | 0 => rfl
  | n + 1 => by
    show ((zsum f n + f n : Int) : Rat) = sumN _ n + (f n : Rat)
    rw [Rat.intCast_add, zsum_cast f n]
/-- So many whole coefficients, as a list. -/
def zlf (n : Nat) (f : Nat → Int) : List Int := (List.range n).map f
theorem zc_zlf {n : Nat} {f : Nat → Int} (h : ∀ i, n ≤ i → f i = 0) (i : Nat) : zc (zlf n f) i = f i := by
  unfold zc zlf
  by_cases hi : i < n
  · simp [hi]
  · rw [List.getElem?_eq_none (by simp; omega), h i (by omega)]; rfl
theorem zlf_len (n : Nat) (f : Nat → Int) : (zlf n f).length = n := by simp [zlf]
def zq (l : List Int) : List Rat := l.map (fun z : Int => (z : Rat))
theorem co_zq (l : List Int) (i : Nat) : co (zq l) i = ((zc l i : Int) : Rat) := by
  unfold co zc zq
  rw [List.getElem?_map]
  cases l[i]? <;> rfl
theorem pv_zq : ∀ (l : List Int) (x : Int), pv (zq l) (x : Rat) = ((zev l x : Int) : Rat)
  | [], x => rfl
  | c :: l, x => by
    show (c : Rat) + (x : Rat) * pv (zq l) x = ((c + x * zev l x : Int) : Rat)
    rw [pv_zq l x, Rat.intCast_add, Rat.intCast_mul]
theorem zev_le : ∀ (l : List Int) (a M : Nat), a ≤ 16 → (∀ i, (zc l i).natAbs ≤ M) → (zev l a).natAbs ≤ 17 ^ l.length * M
  | [], a, M, _, _ => Nat.zero_le _
  | c :: l, a, M, ha, h => by
    have h1 := zev_le l a M ha fun i => by have := h (i + 1); rwa [zc_cons] at this
    have h0 := h 0
    rw [zc_head] at h0
    show (c + (a : Int) * zev l a).natAbs ≤ 17 ^ (l.length + 1) * M
    have h2 : ((a : Int) * zev l a).natAbs ≤ 16 * (17 ^ l.length * M) := by rw [Int.natAbs_mul]; exact Nat.mul_le_mul (by omega) h1
    have e : 17 ^ (l.length + 1) * M = 17 * (17 ^ l.length * M) := by rw [Nat.pow_succ]; grind
    have e3 : M ≤ 17 ^ l.length * M := Nat.le_mul_of_pos_left M (Nat.pow_pos (by decide))
    rw [e]
    omega
theorem rat_mul_ne {a b : Rat} (h : a ≠ 0) (h2 : b ≠ 0) : a * b ≠ 0 := fun e => by
  rcases Rat.mul_eq_zero.1 e with e | e
  · exact h e
  · exact h2 e
/-- What is monic and goes into one of nine coefficients is not much longer, over one denominator. -/
theorem dv_bound {d p : List Rat} {M : Nat} (hd : Mnc d) (hp : Trm p) (h0 : p ≠ []) (hdv : Dv d p) (hl : p.length ≤ 9) {D : Int} (hD : D ≠ 0) (h : ∀ i, ∃ z : Int, z.natAbs ≤ M ∧ co p i * (D : Rat) = (z : Rat)) :
    ∃ E : Int, E ≠ 0 ∧ E.natAbs ≤ 36 ^ 9 * (17 ^ 9 * M) ∧ ∀ i, ∃ z : Int, z.natAbs ≤ 36 ^ 9 * (17 ^ 9 * M) ∧ co d i * (E : Rat) = (z : Rat) := by
  obtain ⟨k, hk, e⟩ := hdv.eq hp
  have hdl := hdv.len hd.trm hp h0
  obtain ⟨a, ha, hU⟩ := cden d
  obtain ⟨b, hb, hV⟩ := cden k
  have hDr : (D : Rat) ≠ 0 := by exact_mod_cast hD
  have har : (a : Rat) ≠ 0 := by exact_mod_cast ha
  have hbr : (b : Rat) ≠ 0 := by exact_mod_cast hb
  let U := fun i => (hU i).choose
  let V := fun i => (hV i).choose
  let F := fun i => (h i).choose
  have hU : ∀ i, co d i * (a : Rat) = (U i : Rat) := fun i => (hU i).choose_spec
  have hV : ∀ i, co k i * (b : Rat) = (V i : Rat) := fun i => (hV i).choose_spec
  have hF : ∀ i, (F i).natAbs ≤ M ∧ co p i * (D : Rat) = (F i : Rat) := fun i => (h i).choose_spec
  clear_value U V F
  have hab : a * b ≠ 0 := Int.mul_ne_zero ha hb
  have hcv : ∀ t, a * b * F t = D * icv V U t := by
    intro t
    have h1 : ((a * b * F t : Int) : Rat) = ((D * icv V U t : Int) : Rat) := by
      rw [Rat.intCast_mul, Rat.intCast_mul, Rat.intCast_mul, ← (hF t).2, e, co_mulp]
      unfold icv cnv
      rw [zsum_cast]
      have h2 : sumN (fun j => ((V j * U (t - j) : Int) : Rat)) (t + 1) = (b : Rat) * (a : Rat) * sumN (fun j => co k j * co d (t - j)) (t + 1) := by
        generalize t + 1 = n
        clear hF h e
        induction n with
        | zero => show (0 : Rat) = _ * 0; grind
        | succ n ih =>
          show sumN _ n + ((V n * U (t - n) : Int) : Rat) = _ * (sumN _ n + co k n * co d (t - n))
          rw [ih, Rat.intCast_mul, ← hU, ← hV]; grind
      rw [h2]; grind
    exact_mod_cast h1
  have hN : ((a * b).natAbs : Int) = a * b * (a * b).sign := by rw [Int.mul_sign_self]
  have hs : (a * b).sign ≠ 0 := fun e => hab (Int.sign_eq_zero_iff_zero.1 e)
  obtain ⟨s, t, u', v', s0, t0, hu', hv', hf⟩ := gauss_int (a * b).natAbs (by omega) (fun i => (a * b).sign * D * V i) U F (fun t => by
    have h1 : icv (fun i => (a * b).sign * D * V i) U t = (a * b).sign * D * icv V U t := by
      unfold icv
      rw [← zsum_mul]
      exact zsum_congr fun j _ => by rw [Int.mul_assoc]
    rw [h1, hN, Int.mul_assoc (a * b).sign, ← hcv]; grind)
  -- the divisor
  have hts : (t : Rat) ≠ 0 := by exact_mod_cast t0
  have htop : co d (d.length - 1) = 1 := hd.2
  have hat : a = t * v' (d.length - 1) := by
    have h1 := hU (d.length - 1)
    rw [htop, hv'] at h1
    have h2 : (a : Rat) = ((t * v' (d.length - 1) : Int) : Rat) := by rw [← h1]; grind
    exact_mod_cast h2
  have hE : v' (d.length - 1) ≠ 0 := by
    intro e
    rw [e] at hat
    exact ha (by rw [hat]; omega)
  have hdE : ∀ i, co d i * ((v' (d.length - 1) : Int) : Rat) = (v' i : Rat) := by
    intro i
    have h1 := hU i
    rw [hv', hat, Rat.intCast_mul, Rat.intCast_mul] at h1
    generalize ((v' (d.length - 1) : Int) : Rat) = y at *
    have h2 : (t : Rat) * (co d i * y) = (t : Rat) * (v' i : Rat) := by grind
    have h3 := congrArg (fun z => (t : Rat)⁻¹ * z) h2
    simp only [← Rat.mul_assoc, Rat.inv_mul_cancel _ hts, Rat.one_mul] at h3
    exact h3
  have v0 : ∀ i, d.length ≤ i → v' i = 0 := by
    intro i hi
    have h1 := hdE i
    rw [co_ge hi] at h1
    have h2 : ((v' i : Int) : Rat) = ((0 : Int) : Rat) := by rw [← h1]; show (0 : Rat) * _ = 0; grind
    exact_mod_cast h2
  have u0 : ∀ i, k.length ≤ i → u' i = 0 := by
    intro i hi
    have h1 := hV i
    rw [co_ge hi] at h1
    have h2 : ((V i : Int) : Rat) = ((0 : Int) : Rat) := by rw [← h1]; show (0 : Rat) * _ = 0; grind
    have h3 : V i = 0 := by exact_mod_cast h2
    have h4 := hu' i
    rw [h3] at h4
    rcases Int.mul_eq_zero.1 (show s * u' i = 0 by rw [← h4]; omega) with h5 | h5
    · exact absurd h5 s0
    · exact h5
  have F0 : ∀ i, p.length ≤ i → F i = 0 := by
    intro i hi
    have h1 := (hF i).2
    rw [co_ge hi] at h1
    have h2 : ((F i : Int) : Rat) = ((0 : Int) : Rat) := by rw [← h1]; show (0 : Rat) * _ = 0; grind
    exact_mod_cast h2
  have hmul : ∀ x : Int, zev (zlf p.length F) x = zev (zlf k.length u') x * zev (zlf d.length v') x := by
    intro x
    have h1 : pv (zq (zlf p.length F)) x = pv (mulr (zq (zlf k.length u')) (zq (zlf d.length v'))) x := by
      refine pv_congr (fun i => ?_) x
      rw [co_zq, zc_zlf F0, co_mulr, hf]
      unfold icv cnv
      rw [zsum_cast]
      refine sumN_congr fun j _ => ?_
      rw [co_zq, co_zq, zc_zlf u0, zc_zlf v0, Rat.intCast_mul]
    rw [pv_mulr, pv_zq, pv_zq, pv_zq, ← Rat.intCast_mul] at h1
    exact_mod_cast h1
  have hpF : ∀ x : Int, ((zev (zlf p.length F) x : Int) : Rat) = (D : Rat) * pv p x := by
    intro x
    rw [← pv_zq, ← pv_psc]
    exact pv_congr (fun i => by rw [co_zq, zc_zlf F0, co_psc, ← (hF i).2]; grind) x
  obtain ⟨pts, q1, q2, q3⟩ := pts_ex 8 p 9 (by omega) ⟨p.length - 1, trm_last hp h0⟩
  have hb := bnd 9 (zlf d.length v') pts (17 ^ 9 * M) (by rw [zlf_len]; omega) q1 q2 (fun x hx => by
    obtain ⟨r1, r2⟩ := q3 x hx
    refine ⟨by omega, ?_⟩
    have h1 := hmul x
    have h2 := zev_le (zlf p.length F) x M (by omega) (fun i => by rw [zc_zlf F0]; exact (hF i).1)
    rw [zlf_len] at h2
    have h3 : 17 ^ p.length * M ≤ 17 ^ 9 * M := Nat.mul_le_mul_right M (Nat.pow_le_pow_right (by decide) hl)
    have h4 : zev (zlf k.length u') x ≠ 0 := by
      intro e
      rw [e, Int.zero_mul] at h1
      have h5 := hpF x
      rw [h1] at h5
      have h6 : (D : Rat) * pv p ((x : Nat) : Rat) = 0 := h5.symm
      exact rat_mul_ne hDr r2 h6
    rw [h1, Int.natAbs_mul] at h2
    have h5 : 1 ≤ (zev (zlf k.length u') x).natAbs := by omega
    have h6 := Nat.mul_le_mul_right (zev (zlf d.length v') x).natAbs h5
    omega)
  refine ⟨v' (d.length - 1), hE, ?_, fun i => ⟨v' i, ?_, hdE i⟩⟩
  · have := hb (d.length - 1)
    rwa [zc_zlf v0] at this
  · have := hb i
    rwa [zc_zlf v0] at this
end Go.Proofs.Ytokojbgpboccnaa

/-
  SUBRESULTANTS: why the divisions of Knuth's algorithm C (4.6.1) leave nothing. Nothing of a program.
-/
namespace Go.Proofs.Ytokojbgpboccnaa
set_option linter.unusedVariables false
/-! ### Determinants, along the first column -/
abbrev SVec := Nat → Int
def slap {α : Type} (f : α → Int) : List α → (List α → Int) → Int
  | [], _ => 0
  | a :: t, F => f a * F t - slap f t (fun r => F (a :: r))
def sdt : List Nat → List SVec → Int
  | [], l => if l = [] then 1 else 0
  | c :: cs, l => slap (fun r => r c) l (sdt cs)
def scmb (c : Int) (a : SVec) (d : Int) (b : SVec) : SVec := fun k => c * a k + d * b k
/-- Linear in each row. -/
def SMl (F : List SVec → Int) : Prop := ∀ pre post a b c d, F (pre ++ scmb c a d b :: post) = c * F (pre ++ a :: post) + d * F (pre ++ b :: post)
/-- Nought, where a row stands beside itself. -/
def SAlt (F : List SVec → Int) : Prop := ∀ pre post a, F (pre ++ a :: a :: post) = 0
theorem slap_lin {α : Type} (f : α → Int) (c d : Int) : ∀ (l : List α) (G H : List α → Int), slap f l (fun r => c * G r + d * H r) = c * slap f l G + d * slap f l H
  | [], G, H => by simp [slap]
  | a :: t, G, H => by
    show f a * (c * G t + d * H t) - slap f t (fun r => c * G (a :: r) + d * H (a :: r)) = c * (f a * G t - slap f t _) + d * (f a * H t - slap f t _)
    rw [slap_lin f c d t (fun r => G (a :: r)) (fun r => H (a :: r))]
    grind
theorem slap_zeroF {α : Type} (f : α → Int) : ∀ (l : List α), slap f l (fun _ => 0) = 0
  | [] => rfl
  | a :: t => by show f a * 0 - slap f t (fun _ => 0) = 0; rw [slap_zeroF f t]; grind
theorem sml_tail {F : List SVec → Int} (h : SMl F) (a : SVec) : SMl (fun r => F (a :: r)) := fun pre post x y c d => h (a :: pre) post x y c d
theorem salt_tail {F : List SVec → Int} (h : SAlt F) (a : SVec) : SAlt (fun r => F (a :: r)) := fun pre post x => h (a :: pre) post x
theorem sml_lap (k : Nat) : ∀ (pre : List SVec) (F : List SVec → Int), SMl F → ∀ post a b c d, slap (fun r => r k) (pre ++ scmb c a d b :: post) F = c * slap (fun r => r k) (pre ++ a :: post) F + d * slap (fun r => r k) (pre ++ b :: post) F
  | [], F, h, post, a, b, c, d => by
    show (c * a k + d * b k) * F post - slap _ post (fun r => F (scmb c a d b :: r)) = c * (a k * F post - slap _ post _) + d * (b k * F post - slap _ post _)
    have e : (fun r => F (scmb c a d b :: r)) = fun r => c * F (a :: r) + d * F (b :: r) := by funext r; exact h [] r a b c d
    rw [e, slap_lin]
    grind
  | x :: pre, F, h, post, a, b, c, d => by
    show x k * F (pre ++ scmb c a d b :: post) - slap _ (pre ++ scmb c a d b :: post) _ = c * (x k * F (pre ++ a :: post) - slap _ (pre ++ a :: post) _) + d * (x k * F (pre ++ b :: post) - slap _ (pre ++ b :: post) _)
    rw [sml_lap k pre _ (sml_tail h x), h]
    grind
theorem salt_lap (k : Nat) : ∀ (pre : List SVec) (F : List SVec → Int), SAlt F → ∀ post a, slap (fun r => r k) (pre ++ a :: a :: post) F = 0
  | [], F, h, post, a => by
    show a k * F (a :: post) - (a k * F (a :: post) - slap _ post (fun r => F (a :: a :: r))) = 0
    have e : (fun r => F (a :: a :: r)) = fun _ => 0 := by funext r; exact h [] r a
    rw [e, slap_zeroF]
    grind
  | x :: pre, F, h, post, a => by
    show x k * F (pre ++ a :: a :: post) - slap _ (pre ++ a :: a :: post) _ = 0
    rw [salt_lap k pre _ (salt_tail h x), h]
    grind
theorem sml_dt : ∀ cs, SMl (sdt cs)
  | [] => fun pre post a b c d => by simp [sdt]
  | k :: cs => fun pre post a b c d => sml_lap k pre _ (sml_dt cs) post a b c d
theorem salt_dt : ∀ cs, SAlt (sdt cs)
  | [] => fun pre post a => by simp [sdt]
  | k :: cs => fun pre post a => salt_lap k pre _ (salt_dt cs) post a
theorem slap_zero {α : Type} (f : α → Int) : ∀ (l : List α) (F : List α → Int), (∀ a ∈ l, f a = 0) → slap f l F = 0
  | [], F, _ => rfl
  | a :: t, F, h => by
    show f a * F t - slap f t _ = 0
    rw [h a (by simp), slap_zero f t _ fun b hb => h b (by simp [hb])]
    grind
/-- A column that only the first row has. -/
theorem sdt_first {c : Nat} {cs : List Nat} {a : SVec} {t : List SVec} (h : ∀ r ∈ t, r c = 0) : sdt (c :: cs) (a :: t) = a c * sdt cs t := by
  show a c * sdt cs t - slap _ t _ = _
  rw [slap_zero _ t _ h]
  grind
theorem sswap {F : List SVec → Int} (hm : SMl F) (ha : SAlt F) (pre post : List SVec) (a b : SVec) : F (pre ++ a :: b :: post) = - F (pre ++ b :: a :: post) := by
  have h := ha pre post (scmb 1 a 1 b)
  rw [hm, show pre ++ a :: scmb 1 a 1 b :: post = (pre ++ [a]) ++ scmb 1 a 1 b :: post by simp, show pre ++ b :: scmb 1 a 1 b :: post = (pre ++ [b]) ++ scmb 1 a 1 b :: post by simp, hm, hm] at h
  simp only [List.append_assoc, List.cons_append, List.nil_append] at h
  rw [ha pre post a, ha pre post b] at h
  grind
theorem smove {F : List SVec → Int} (hm : SMl F) (ha : SAlt F) (a : SVec) : ∀ (v pre post : List SVec), (F (pre ++ a :: (v ++ post))).natAbs = (F (pre ++ (v ++ a :: post))).natAbs
  | [], pre, post => rfl
  | b :: v, pre, post => by
    rw [List.cons_append, sswap hm ha, Int.natAbs_neg]
    have h := smove hm ha a v (pre ++ [b]) post
    rw [show (pre ++ [b]) ++ a :: (v ++ post) = pre ++ b :: a :: (v ++ post) by simp, show (pre ++ [b]) ++ (v ++ a :: post) = pre ++ (b :: v ++ a :: post) by simp] at h
    rw [h]
theorem sblocks {F : List SVec → Int} (hm : SMl F) (ha : SAlt F) : ∀ (u v post : List SVec), (F (u ++ (v ++ post))).natAbs = (F (v ++ (u ++ post))).natAbs
  | [], v, post => rfl
  | a :: u, v, post => by
    have h : (F (a :: (u ++ (v ++ post)))).natAbs = (F (a :: (v ++ (u ++ post)))).natAbs := sblocks (F := fun r => F (a :: r)) (sml_tail hm a) (salt_tail ha a) u v post
    rw [List.cons_append, h]
    have h2 := smove hm ha a v [] (u ++ post)
    rw [List.nil_append, List.nil_append] at h2
    rw [h2, List.cons_append]
theorem stwice {F : List SVec → Int} (hm : SMl F) (ha : SAlt F) {pre : List SVec} {b : SVec} (hb : b ∈ pre) (post : List SVec) : F (pre ++ b :: post) = 0 := by
  obtain ⟨u, w, rfl⟩ := List.append_of_mem hb
  have h := smove hm ha b w u (b :: post)
  rw [show u ++ b :: (w ++ b :: post) = (u ++ b :: w) ++ b :: post by simp] at h
  have h2 := smove hm ha b (w ++ [b]) u post
  have h3 := sswap hm ha (u ++ w) post b b
  rw [show u ++ (w ++ b :: b :: post) = (u ++ w) ++ b :: b :: post by simp, ha] at h
  exact Int.natAbs_eq_zero.1 h
/-- A row, times a number, and with another one that stands before it. -/
theorem srowop {F : List SVec → Int} (hm : SMl F) (ha : SAlt F) {pre : List SVec} {b : SVec} (hb : b ∈ pre) (post : List SVec) (a : SVec) (c d : Int) : F (pre ++ scmb c a d b :: post) = c * F (pre ++ a :: post) := by
  rw [hm, stwice hm ha hb]; grind
/-! ### Shifted rows -/
def ssh (i : Nat) (p : SVec) : SVec := fun k => if k < i then 0 else p (k - i)
def ssr (p : SVec) : Nat → List SVec
  | 0 => []
  | n + 1 => ssh n p :: ssr p n
theorem smem_sr (p : SVec) : ∀ {n i : Nat}, i < n → ssh i p ∈ ssr p n
  | n + 1, i, h => by
    by_cases e : i = n
    · rw [e]; simp [ssr]
    · simp [ssr, smem_sr p (n := n) (i := i) (by omega)]
theorem sof_mem_sr (p : SVec) : ∀ {n : Nat} {r : SVec}, r ∈ ssr p n → ∃ i, i < n ∧ r = ssh i p
  | 0, r, h => by simp [ssr] at h
  | n + 1, r, h => by
    rcases List.mem_cons.1 h with h | h
    · exact ⟨n, by omega, h⟩
    · obtain ⟨i, h1, h2⟩ := sof_mem_sr p h
      exact ⟨i, by omega, h2⟩
/-- One step of a division without fractions. -/
theorem ssh_step (i s : Nat) (l t : Int) (p q : SVec) : ssh i (scmb l p t (ssh s q)) = scmb l (ssh i p) t (ssh (i + s) q) := by
  funext k
  simp only [ssh, scmb]
  by_cases h : k < i
  · rw [if_pos h, if_pos h, if_pos (by omega)]; grind
  · rw [if_neg h, if_neg h]
    by_cases h2 : k - i < s
    · rw [if_pos h2, if_pos (by omega)]
    · rw [if_neg h2, if_neg (by omega), show k - (i + s) = k - i - s by omega]
theorem srows_step {F : List SVec → Int} (hm : SMl F) (ha : SAlt F) (q p : SVec) (l t : Int) (s a : Nat) : ∀ (b : Nat) (u : List SVec), b + s ≤ a → F (ssr q a ++ (u ++ ssr (scmb l p t (ssh s q)) b)) = l ^ b * F (ssr q a ++ (u ++ ssr p b))
  | 0, u, _ => by rw [Int.pow_zero, Int.one_mul]; rfl
  | b + 1, u, h => by
    show F (ssr q a ++ (u ++ ssh b (scmb l p t (ssh s q)) :: ssr (scmb l p t (ssh s q)) b)) = _
    rw [ssh_step, ← List.append_assoc, srowop hm ha (by have := smem_sr q (n := a) (i := b + s) (by omega); simp [this])]
    have h2 := srows_step hm ha q p l t s a b (u ++ [ssh b p]) (by omega)
    simp only [List.append_assoc, List.cons_append, List.nil_append] at h2
    rw [List.append_assoc, h2, Int.pow_succ]
    show l * (l ^ b * F (ssr q a ++ (u ++ ssh b p :: ssr p b))) = l ^ b * l * F (ssr q a ++ (u ++ ssh b p :: ssr p b))
    grind
/-- Some steps of a division without fractions, none farther than s: what is left. -/
inductive SRed (q : SVec) (l : Int) (s : Nat) : Nat → SVec → SVec → Prop
  | nil (p : SVec) : SRed q l s 0 p p
  | step {e : Nat} {p r : SVec} (t : Int) (i : Nat) : i ≤ s → SRed q l s e (scmb l p t (ssh i q)) r → SRed q l s (e + 1) p r
theorem sred_rows {F : List SVec → Int} (hm : SMl F) (ha : SAlt F) {q : SVec} {l : Int} {s a b : Nat} (hb : b + s ≤ a) {e : Nat} {p r : SVec} (h : SRed q l s e p r) : F (ssr q a ++ ssr r b) = l ^ (e * b) * F (ssr q a ++ ssr p b) := by
  induction h with
  | nil p => rw [Nat.zero_mul, Int.pow_zero, Int.one_mul]
  | step t i hi h ih =>
    rename_i e p r
    have h1 := srows_step hm ha q p l t i a b [] (by omega)
    rw [List.nil_append, List.nil_append] at h1
    rw [ih, h1, Nat.succ_mul, Int.pow_add]
    grind
/-! ### The columns -/
def scd (s : Nat) : Nat → List Nat
  | 0 => []
  | n + 1 => (s + n) :: scd s n
/-- The first rows have their last coefficients, one after the other. -/
theorem speel {q r : SVec} {n j b : Nat} {k : Nat} (hq : ∀ i, n < i → q i = 0) (hb : j + b = n) : ∀ (d a : Nat), (∀ i, j + a < i → r i = 0) → sdt (scd (j + 1) (d + a + b - 1) ++ [k]) (ssr q (d + a) ++ ssr r b) = q n ^ d * sdt (scd (j + 1) (a + b - 1) ++ [k]) (ssr q a ++ ssr r b) ∨ a + b = 0
  | 0, a, h => .inl (by rw [Int.pow_zero, Int.one_mul, Nat.zero_add])
  | d + 1, a, h => by
    by_cases h0 : a + b = 0
    · exact .inr h0
    refine .inl ?_
    rcases speel (k := k) hq hb d a h with h1 | h1
    · have e1 : d + 1 + a + b - 1 = (d + a + b - 1) + 1 := by omega
      have e2 : d + 1 + a = (d + a) + 1 := by omega
      rw [e1, e2]
      show sdt ((j + 1 + (d + a + b - 1)) :: (scd (j + 1) (d + a + b - 1) ++ [k])) (ssh (d + a) q :: (ssr q (d + a) ++ ssr r b)) = _
      rw [sdt_first, h1, Int.pow_succ]
      · have e3 : ssh (d + a) q (j + 1 + (d + a + b - 1)) = q n := by
          unfold ssh
          rw [if_neg (by omega), show j + 1 + (d + a + b - 1) - (d + a) = n by omega]
        rw [e3]
        grind
      · intro x hx
        rcases List.mem_append.1 hx with hx | hx
        · obtain ⟨i, hi, rfl⟩ := sof_mem_sr q hx
          unfold ssh
          rw [if_neg (by omega)]
          exact hq _ (by omega)
        · obtain ⟨i, hi, rfl⟩ := sof_mem_sr r hx
          unfold ssh
          rw [if_neg (by omega)]
          exact h _ (by omega)
    · exact absurd h1 h0
/-- A subresultant's coefficient: of a and b rows. -/
def SRs (p q : SVec) (a b j k : Nat) : Int := sdt (scd (j + 1) (a + b - 1) ++ [k]) (ssr q a ++ ssr p b)
/-- One round: of the one that divides, and what is left. -/
theorem srs_next {p q r : SVec} {l : Int} {m n d j k e : Nat} (hq : ∀ i, n < i → q i = 0) (hl : q n = l) (hmn : n ≤ m) (hr : SRed q l (m - n) e p r) (hd : ∀ i, d < i → r i = 0) (hdn : d < n) (hj : j ≤ d) :
    (l ^ (e * (n - j)) * SRs p q (m - j) (n - j) j k).natAbs = (l ^ (m - d) * SRs q r (n - j) (d - j) j k).natAbs := by
  unfold SRs
  have h1 := sred_rows (F := sdt (scd (j + 1) (m - j + (n - j) - 1) ++ [k])) (sml_dt _) (salt_dt _) (q := q) (a := m - j) (b := n - j) (by omega) hr
  rw [← h1]
  have h2 := speel (q := q) (r := r) (n := n) (j := j) (b := n - j) (k := k) hq (by omega) (m - d) (d - j) (fun i hi => hd i (by omega))
  rcases h2 with h2 | h2
  · rw [show m - d + (d - j) = m - j by omega] at h2
    rw [h2, hl, Int.natAbs_mul, Int.natAbs_mul]
    have h3 := sblocks (F := sdt (scd (j + 1) (d - j + (n - j) - 1) ++ [k])) (sml_dt _) (salt_dt _) (ssr q (d - j)) (ssr r (n - j)) []
    rw [List.append_nil, List.append_nil] at h3
    rw [h3, show d - j + (n - j) = n - j + (d - j) by omega]
  · omega
theorem ssh_zero (p : SVec) : ssh 0 p = p := by funext k; rfl
/-- The first one of a round is what is left itself. -/
theorem srs_left {p q r : SVec} {l : Int} {m n k : Nat} (hq : ∀ i, n < i → q i = 0) (hl : q n = l) (h0 : l ≠ 0) (hn : 1 ≤ n) (hmn : n ≤ m) (hr : SRed q l (m - n) (m - n + 1) p r) (hd : ∀ i, n ≤ i → r i = 0) :
    (SRs p q (m - (n - 1)) (n - (n - 1)) (n - 1) k).natAbs = (r k).natAbs := by
  unfold SRs
  have e1 : n - (n - 1) = 1 := by omega
  have e2 : m - (n - 1) = m - n + 1 := by omega
  rw [e1, e2]
  have h1 := sred_rows (F := sdt (scd (n - 1 + 1) (m - n + 1 + 1 - 1) ++ [k])) (sml_dt _) (salt_dt _) (q := q) (a := m - n + 1) (b := 1) (by omega) hr
  have h2 := speel (q := q) (r := r) (n := n) (j := n - 1) (b := 1) (k := k) hq (by omega) (m - n + 1) 0 (fun i hi => hd i (by omega))
  rcases h2 with h2 | h2
  · rw [Nat.add_zero] at h2
    rw [h2, hl] at h1
    have e3 : sdt (scd (n - 1 + 1) (0 + 1 - 1) ++ [k]) (ssr q 0 ++ ssr r 1) = r k := by
      show sdt [k] [ssh 0 r] = r k
      rw [ssh_zero]
      show r k * 1 - 0 = r k
      omega
    rw [e3, Nat.mul_one] at h1
    have h3 : l ^ (m - n + 1) ≠ 0 := Int.pow_ne_zero h0
    have h4 := Int.eq_of_mul_eq_mul_left h3 h1
    rw [← h4]
  · omega
/-- Of the second one alone: its last coefficient, so often. -/
theorem srs_last {p q : SVec} {l : Int} {m n : Nat} (hq : ∀ i, n < i → q i = 0) (hl : q n = l) (hmn : n < m) : SRs p q (m - n) (n - n) n n = l ^ (m - n) := by
  unfold SRs
  rw [Nat.sub_self]
  have h2 := speel (q := q) (r := fun _ => 0) (n := n) (j := n) (b := 0) (k := n) hq (by omega) (m - n - 1) 1 (fun _ _ => rfl)
  have e : m - n - 1 + 1 = m - n := by omega
  rw [e] at h2
  rcases h2 with h2 | h2
  · have e3 : sdt (scd (n + 1) (1 + 0 - 1) ++ [n]) (ssr q 1 ++ ssr (fun _ => 0) 0) = q n := by
      show sdt [n] [ssh 0 q] = q n
      rw [ssh_zero]
      show q n * 1 - 0 = q n
      omega
    rw [e3, hl, ← Int.pow_succ, show (m - n - 1).succ = m - n from e] at h2
    exact h2
  · omega
theorem srs_scale {q c : SVec} {β : Int} (a b j k : Nat) : SRs q (fun i => β * c i) a b j k = β ^ a * SRs q c a b j k := by
  unfold SRs
  generalize scd (j + 1) (a + b - 1) ++ [k] = cs
  suffices h : ∀ (a : Nat) (pre post : List SVec), sdt cs (pre ++ (ssr (fun i => β * c i) a ++ post)) = β ^ a * sdt cs (pre ++ (ssr c a ++ post)) by exact h a [] _
  intro a
  induction a with
  | zero => intro pre post; rw [Int.pow_zero, Int.one_mul]; rfl
  | succ a ih =>
    intro pre post
    have e : ssh a (fun i => β * c i) = scmb β (ssh a c) 0 (ssh a c) := by
      funext k
      simp only [ssh, scmb]
      by_cases h : k < a
      · rw [if_pos h, if_pos h]; grind
      · rw [if_neg h, if_neg h]; grind
    show sdt cs (pre ++ ssh a (fun i => β * c i) :: (ssr (fun i => β * c i) a ++ post)) = _
    rw [e, sml_dt]
    have h1 := ih (pre ++ [ssh a c]) post
    simp only [List.append_assoc, List.cons_append, List.nil_append] at h1
    rw [h1, Int.pow_succ]
    show _ = β ^ a * β * sdt cs (pre ++ ssh a c :: (ssr c a ++ post))
    grind
/-! ### What goes into all of them -/
/-- Of a round: the number before, and the scale, so often, go into the subresultants. -/
def SInv (g h : Int) (p q : SVec) (m n : Nat) : Prop := ∀ j k, j ≤ n → j < m → g ^ (n - j) * h ^ (m - j - 1) ∣ SRs p q (m - j) (n - j) j k
theorem sone_pow (n : Nat) : (1 : Int) ^ n = 1 := by
  induction n with
  | zero => rfl
  | succ n ih => rw [Int.pow_succ, ih]; rfl
theorem SInv.start (p q : SVec) (m n : Nat) : SInv 1 1 p q m n := fun j k _ _ => by rw [sone_pow, sone_pow]; exact Int.one_dvd _
theorem SInv.rest {g h l : Int} {p q r : SVec} {m n : Nat} (hi : SInv g h p q m n) (hq : ∀ i, n < i → q i = 0) (hl : q n = l) (h0 : l ≠ 0) (hn : 1 ≤ n) (hmn : n ≤ m) (hr : SRed q l (m - n) (m - n + 1) p r) (hd : ∀ i, n ≤ i → r i = 0) (k : Nat) : g * h ^ (m - n) ∣ r k := by
  have h1 := hi (n - 1) k (by omega) (by omega)
  rw [show n - (n - 1) = 1 by omega, show m - (n - 1) - 1 = m - n by omega] at h1
  have h2 := srs_left (k := k) hq hl h0 hn hmn hr hd
  rw [show n - (n - 1) = 1 by omega] at h2
  rw [Int.pow_one] at h1
  exact Int.natAbs_dvd_natAbs.1 (h2 ▸ Int.natAbs_dvd_natAbs.2 h1)
theorem SInv.scale {g h l : Int} {p q : SVec} {m n : Nat} (hi : SInv g h p q m n) (hq : ∀ i, n < i → q i = 0) (hl : q n = l) (hmn : n < m) : h ^ (m - n - 1) ∣ l ^ (m - n) := by
  have h1 := hi n n (Nat.le_refl _) hmn
  rw [srs_last hq hl hmn, Nat.sub_self, Int.pow_zero, Int.one_mul] at h1
  exact h1
theorem sexps {g h l h' : Int} {m n d j : Nat} (hj : j ≤ d) (hd : d < n) (hmn : n ≤ m) (he : m = n → h' = h) (hs : n < m → h' * h ^ (m - n - 1) = l ^ (m - n)) :
    l ^ (m - d) * (g * h ^ (m - n)) ^ (n - j) * (l ^ (d - j) * h' ^ (n - j - 1)) = l ^ ((m - n + 1) * (n - j)) * (g ^ (n - j) * h ^ (m - j - 1)) := by
  obtain ⟨u, hu⟩ : ∃ u, n - j = u + 1 := ⟨n - j - 1, by omega⟩
  rw [hu, Nat.add_sub_cancel, Int.mul_pow, ← Int.pow_mul]
  have e0 : l ^ (m - d) * l ^ (d - j) = l ^ (m - j) := by rw [← Int.pow_add, show m - d + (d - j) = m - j by omega]
  rcases Nat.eq_or_lt_of_le hmn with hm | hm
  · have e1 : m - n = 0 := by omega
    rw [he hm.symm, e1, show m - j - 1 = u by omega, Nat.zero_mul, Nat.zero_add, Nat.one_mul, Int.pow_zero]
    rw [show m - j = u + 1 by omega] at e0
    rw [← e0]
    grind
  · obtain ⟨v, hv⟩ : ∃ v, m - n = v + 1 := ⟨m - n - 1, by omega⟩
    have h1 := hs hm
    rw [show m - n - 1 = v by omega, hv] at h1
    rw [hv, show m - j - 1 = u + v + 1 by omega]
    have e1 : h ^ ((v + 1) * (u + 1)) = h ^ (v * u) * h ^ (u + v + 1) := by rw [← Int.pow_add]; congr 1; rw [Nat.add_mul, Nat.mul_add]; omega
    have e2 : h' ^ u * h ^ (v * u) = l ^ ((v + 1) * u) := by rw [show h ^ (v * u) = (h ^ v) ^ u from Int.pow_mul, ← Int.mul_pow, h1, ← Int.pow_mul]
    have e3 : l ^ (m - j) * l ^ ((v + 1) * u) = l ^ ((v + 1 + 1) * (u + 1)) := by
      rw [← Int.pow_add]; congr 1; rw [Nat.add_mul (v + 1), Nat.mul_add (v + 1)]; omega
    rw [e1, ← e3, ← e2, ← e0]
    grind
theorem spow_ne {a : Int} (h : a ≠ 0) (n : Nat) : a ^ n ≠ 0 := Int.pow_ne_zero h
theorem SInv.next {g h l h' : Int} {p q r c : SVec} {m n d : Nat} (hi : SInv g h p q m n) (hg : g ≠ 0) (hh : h ≠ 0) (hq : ∀ i, n < i → q i = 0) (hl : q n = l) (h0 : l ≠ 0) (hmn : n ≤ m) (hr : SRed q l (m - n) (m - n + 1) p r)
    (hc : ∀ i, r i = g * h ^ (m - n) * c i) (hd : ∀ i, d < i → c i = 0) (hdn : d < n) (he : m = n → h' = h) (hs : n < m → h' * h ^ (m - n - 1) = l ^ (m - n)) : SInv l h' q c n d := by
  intro j k hj hjn
  obtain ⟨s, h1⟩ := hi j k (by omega) (by omega)
  have hr0 : ∀ i, d < i → r i = 0 := fun i h => by rw [hc, hd i h]; grind
  have h2 := srs_next (k := k) hq hl hmn hr hr0 hdn hj
  have e : r = fun i => g * h ^ (m - n) * c i := funext hc
  rw [h1, e, srs_scale] at h2
  have h3 := sexps (g := g) (h := h) (l := l) (h' := h') hj hdn hmn he hs
  have hK : l ^ (m - d) * (g * h ^ (m - n)) ^ (n - j) ≠ 0 := by
    intro e
    rcases Int.mul_eq_zero.1 e with e | e
    · exact spow_ne h0 _ e
    · refine spow_ne (fun e => ?_) _ e
      rcases Int.mul_eq_zero.1 e with e | e
      · exact hg e
      · exact spow_ne hh _ e
  have h4 : (l ^ (m - d) * (g * h ^ (m - n)) ^ (n - j)).natAbs * (l ^ (d - j) * h' ^ (n - j - 1) * s).natAbs = (l ^ (m - d) * (g * h ^ (m - n)) ^ (n - j)).natAbs * (SRs q c (n - j) (d - j) j k).natAbs := by
    rw [← Int.natAbs_mul, ← Int.natAbs_mul, ← Int.mul_assoc (l ^ (m - d) * (g * h ^ (m - n)) ^ (n - j)), h3, Int.mul_assoc (l ^ (m - d)), ← h2, Int.mul_assoc (l ^ _)]
  have h5 := Nat.eq_of_mul_eq_mul_left (by omega) h4
  rw [Int.natAbs_mul] at h5
  exact Int.natAbs_dvd_natAbs.1 ⟨_, h5.symm⟩
end Go.Proofs.Ytokojbgpboccnaa

/-
  POLYNOMIALS WITH WHOLE COEFFICIENTS: a round of Euclid's by subresultants. Nothing of a program.
-/
namespace Go.Proofs.Ytokojbgpboccnaa
set_option linter.unusedVariables false
theorem SRed.snoc {q : SVec} {l : Int} {s : Nat} {e : Nat} {p r : SVec} (h : SRed q l s e p r) (t : Int) (i : Nat) (hi : i ≤ s) : SRed q l s (e + 1) p (scmb l r t (ssh i q)) := by
  induction h with
  | nil p => exact .step t i hi (.nil _)
  | step t' i' hi' h ih => exact .step t' i' hi' ih
theorem zsum_add (f g : Nat → Int) : ∀ n, zsum (fun k => f k + g k) n = zsum f n + zsum g n
  | 0 => rfl
  | n + 1 => by show zsum _ n + (f n + g n) = (zsum f n + f n) + (zsum g n + g n); rw [zsum_add f g n]; omega
theorem zsum_nil {f : Nat → Int} : ∀ n, (∀ k, k < n → f k = 0) → zsum f n = 0
  | 0, _ => rfl
  | n + 1, h => by show zsum f n + f n = 0; rw [zsum_nil n fun k hk => h k (by omega), h n (by omega)]; rfl
theorem zsum_single {f : Nat → Int} {i : Nat} : ∀ n, i < n → (∀ k, k < n → k ≠ i → f k = 0) → zsum f n = f i
  | 0, h, _ => by omega
  | n + 1, h, hk => by
    show zsum f n + f n = f i
    by_cases e : i = n
    · subst e
      rw [zsum_nil i fun k h1 => hk k (by omega) (by omega)]; omega
    · rw [zsum_single n (by omega) fun k h1 h2 => hk k (by omega) h2, hk n (by omega) (by omega)]; omega
/-- What a division without fractions took away. -/
theorem SRed.quo {q : SVec} {l : Int} {s : Nat} {e : Nat} {p r : SVec} (h : SRed q l s e p r) : ∃ y : SVec, (∀ i, s < i → y i = 0) ∧ ∀ k, l ^ e * p k = icv y q k + r k := by
  induction h with
  | nil p => exact ⟨fun _ => 0, fun _ _ => rfl, fun k => by
      have : icv (fun _ => 0) q k = 0 := zsum_nil _ fun j _ => Int.zero_mul _
      rw [this, Int.pow_zero]; omega⟩
  | step t i hi h ih =>
    rename_i e p r
    obtain ⟨y, h1, h2⟩ := ih
    refine ⟨fun j => y j + (if j = i then - (l ^ e * t) else 0), fun j hj => by show y j + (if j = i then _ else _) = 0; rw [h1 j hj, if_neg (by omega)]; rfl, fun k => ?_⟩
    have h3 : icv (fun j => y j + (if j = i then - (l ^ e * t) else 0)) q k = icv y q k + - (l ^ e * t) * ssh i q k := by
      unfold icv
      have h4 : (fun a => (y a + if a = i then -(l ^ e * t) else 0) * q (k - a)) = fun a => y a * q (k - a) + (if a = i then -(l ^ e * t) else 0) * q (k - a) := by funext a; rw [Int.add_mul]
      rw [h4, zsum_add]
      congr 1
      by_cases hk : i ≤ k
      · rw [zsum_single (i := i) (k + 1) (by omega) fun j _ hj => by rw [if_neg hj]; omega, if_pos rfl]
        simp only [ssh]
        rw [if_neg (by omega)]
      · rw [zsum_nil (k + 1) fun j hj => by rw [if_neg (by omega)]; omega]
        simp only [ssh]
        rw [if_pos (by omega)]; omega
    have h5 := h2 k
    rw [h3, Int.pow_succ]
    simp only [scmb] at h5
    grind
def Ztr (l : List Int) : Prop := l = [] ∨ zc l (l.length - 1) ≠ 0
theorem zq_len (l : List Int) : (zq l).length = l.length := by simp [zq]
theorem Ztr.trm {l : List Int} (h : Ztr l) : Trm (zq l) := by
  refine trm_of_last ?_
  rcases h with rfl | h
  · exact .inl rfl
  · refine .inr ?_
    rw [zq_len, co_zq]
    exact_mod_cast h
theorem zq_ne {l : List Int} (h : l ≠ []) : zq l ≠ [] := fun e => h (List.length_eq_zero_iff.1 (by rw [← zq_len, e]; rfl))
theorem zc_ge {l : List Int} {i : Nat} (h : l.length ≤ i) : zc l i = 0 := by simp [zc, h]
theorem Ztr.top {l : List Int} (h : Ztr l) (h0 : l ≠ []) : zc l (l.length - 1) ≠ 0 := by
  rcases h with h | h
  · exact absurd h h0
  · exact h
/-- A round: what is left, with the scale out of it. -/
theorem ig_next {p q c : List Int} {r : SVec} {g h : Int} (hp : Ztr p) (hq : Ztr q) (h0 : q ≠ []) (hle : q.length ≤ p.length) (hg : g ≠ 0) (hh : h ≠ 0)
    (hr : SRed (zc q) (zc q (q.length - 1)) (p.length - q.length) (p.length - q.length + 1) (zc p) r) (hc : ∀ i, r i = g * h ^ (p.length - q.length) * zc c i) (ht : Ztr c) :
    gcdp (zq p) (zq q) = gcdp (zq q) (zq c) := by
  obtain ⟨y, hy, e⟩ := hr.quo
  generalize hl : zc q (q.length - 1) = l at *
  have hl0 : l ≠ 0 := by rw [← hl]; exact hq.top h0
  generalize p.length - q.length = d at *
  have hK : g * h ^ d ≠ 0 := Int.mul_ne_zero hg (spow_ne hh d)
  have hKr : ((g * h ^ d : Int) : Rat) ≠ 0 := by exact_mod_cast hK
  have hLr : ((l ^ (d + 1) : Int) : Rat) ≠ 0 := by exact_mod_cast spow_ne hl0 (d + 1)
  have hx : ∀ x, ((l ^ (d + 1) : Int) : Rat) * pv (zq p) x = pv (zq (zlf (d + 1) y)) x * pv (zq q) x + ((g * h ^ d : Int) : Rat) * pv (zq c) x := by
    intro x
    rw [← pv_psc _ (zq p), ← pv_psc _ (zq c), ← pv_mulr, ← pv_padd]
    refine pv_congr (fun i => ?_) x
    rw [co_psc, co_padd, co_psc, co_mulr, co_zq, co_zq, ← Rat.intCast_mul, e, hc, Rat.intCast_add, Rat.intCast_mul]
    congr 1
    unfold icv cnv
    rw [zsum_cast]
    refine sumN_congr fun j _ => ?_
    rw [co_zq, co_zq, zc_zlf fun i hi => hy i (by omega), Rat.intCast_mul]
  have hi := rat_inv hLr
  have hi2 := rat_inv hKr
  refine gcdp_next (y := psc (1 / ((l ^ (d + 1) : Int) : Rat)) (zq (zlf (d + 1) y))) (r := psc (1 / ((l ^ (d + 1) : Int) : Rat) * ((g * h ^ d : Int) : Rat)) (zq c)) (c := 1 / ((g * h ^ d : Int) : Rat) * ((l ^ (d + 1) : Int) : Rat)) hp.trm hq.trm (zq_ne h0) (fun x => ?_) ht.trm ?_ (fun x => ?_)
  · rw [pv_psc, pv_psc]
    have := hx x
    generalize ((l ^ (d + 1) : Int) : Rat) = L at *
    generalize ((g * h ^ d : Int) : Rat) = K at *
    generalize 1 / L = L' at *
    have h2 : L' * (L * pv (zq p) x) = L' * (pv (zq (zlf (d + 1) y)) x * pv (zq q) x + K * pv (zq c) x) := by rw [this]
    grind
  · intro e
    rcases Rat.mul_eq_zero.1 e with e | e
    · rw [e] at hi2
      exact absurd hi2 (by rw [Rat.zero_mul]; decide)
    · exact hLr e
  · rw [pv_psc]
    generalize ((l ^ (d + 1) : Int) : Rat) = L at *
    generalize ((g * h ^ d : Int) : Rat) = K at *
    generalize 1 / L = L' at *
    generalize 1 / K = K' at *
    have : K' * L * (L' * K * pv (zq c) x) = (K' * K) * (L' * L) * pv (zq c) x := by grind
    rw [this, hi, hi2]; grind
/-- What is left can be divided. -/
theorem ig_rest {p q : List Int} {r : SVec} {g h : Int} (hi : SInv g h (zc p) (zc q) (p.length - 1) (q.length - 1)) (hq : Ztr q) (h0 : q ≠ []) (hle : q.length ≤ p.length)
    (hr : SRed (zc q) (zc q (q.length - 1)) (p.length - q.length) (p.length - q.length + 1) (zc p) r) (hd : ∀ i, q.length - 1 ≤ i → r i = 0) (k : Nat) : g * h ^ (p.length - q.length) ∣ r k := by
  have hlen := List.length_pos_iff.2 h0
  by_cases h1 : q.length = 1
  · rw [hd k (by omega)]
    exact Int.dvd_zero _
  · have e : p.length - 1 - (q.length - 1) = p.length - q.length := by omega
    have h2 := hi.rest (r := r) (l := zc q (q.length - 1)) (fun i hi => zc_ge (by omega)) rfl (hq.top h0) (by omega) (by omega) (by rw [e]; exact hr) hd k
    rwa [e] at h2
theorem ig_scale {p q : List Int} {g h : Int} (hi : SInv g h (zc p) (zc q) (p.length - 1) (q.length - 1)) (h0 : q ≠ []) (hlt : q.length < p.length) : h ^ (p.length - q.length - 1) ∣ zc q (q.length - 1) ^ (p.length - q.length) := by
  have hlen := List.length_pos_iff.2 h0
  have e : p.length - 1 - (q.length - 1) = p.length - q.length := by omega
  have h2 := hi.scale (l := zc q (q.length - 1)) (fun i hi => zc_ge (by omega)) rfl (by omega)
  rwa [e] at h2
theorem ig_inv {p q c : List Int} {r : SVec} {g h h' : Int} (hi : SInv g h (zc p) (zc q) (p.length - 1) (q.length - 1)) (hq : Ztr q) (h0 : q ≠ []) (hle : q.length ≤ p.length) (hg : g ≠ 0) (hh : h ≠ 0)
    (hr : SRed (zc q) (zc q (q.length - 1)) (p.length - q.length) (p.length - q.length + 1) (zc p) r) (hc : ∀ i, r i = g * h ^ (p.length - q.length) * zc c i) (hcl : c.length < q.length) (hc0 : c ≠ [])
    (he : p.length = q.length → h' = h) (hs : q.length < p.length → h' * h ^ (p.length - q.length - 1) = zc q (q.length - 1) ^ (p.length - q.length)) :
    SInv (zc q (q.length - 1)) h' (zc q) (zc c) (q.length - 1) (c.length - 1) := by
  have hlen := List.length_pos_iff.2 hc0
  have e : p.length - 1 - (q.length - 1) = p.length - q.length := by omega
  refine hi.next (r := r) (l := zc q (q.length - 1)) hg hh (fun i hi => zc_ge (by omega)) rfl (hq.top h0) (by omega) (by rw [e]; exact hr) (fun i => by rw [e]; exact hc i) (fun i hi => zc_ge (by omega)) (by omega) (fun h => he (by omega)) (fun h => ?_)
  rw [e]
  exact hs (by omega)
/-- The next scale is not nought. -/
theorem scale_ne {h h' l : Int} {d : Nat} (hl : l ≠ 0) (hs : h' * h ^ (d - 1) = l ^ d) : h' ≠ 0 := fun e => by
  rw [e, Int.zero_mul] at hs
  exact spow_ne hl d hs.symm
end Go.Proofs.Ytokojbgpboccnaa

/-
  How long what is left may be, by how many rounds there were. Nothing of a program.
-/
namespace Go.Proofs.Ytokojbgpboccnaa
set_option linter.unusedVariables false
/-- How long what is left may be, by how many rounds there were. -/
def psA : Nat → Nat
  | 0 => 1
  | 1 => 1
  | n + 2 => psA n + 2 * psA (n + 1)
theorem psA_step : ∀ i s, 2 ≤ s → i + s ≤ 10 → psA i + s * psA (i + 1) ≤ psA (i + s) := by
  intro i s h1 h2
  have : ∀ i, i ≤ 10 → ∀ s, s ≤ 10 → 2 ≤ s → i + s ≤ 10 → psA i + s * psA (i + 1) ≤ psA (i + s) := by decide +kernel
  exact this i (by omega) s (by omega) h1 h2
theorem psA_mono {i j : Nat} (h : i ≤ j) (hj : j ≤ 10) : psA i ≤ psA j := by
  have : ∀ j, j ≤ 10 → ∀ i, i ≤ j → psA i ≤ psA j := by decide +kernel
  exact this j hj i h
theorem psA_self {n : Nat} (h1 : 1 ≤ n) (hn : n ≤ 10) : n ≤ psA n := by
  have : ∀ n, n ≤ 10 → 1 ≤ n → n ≤ psA n := by decide +kernel
  exact this n hn h1

end Go.Proofs.Ytokojbgpboccnaa

/-
  POLYNOMIALS: how often one without divisors is in another one. Nothing of a program.
-/
namespace Go.Proofs.Ytokojbgpboccnaa
set_option linter.unusedVariables false
/-- Powers. -/
def powp (p : List Rat) : Nat → List Rat
  | 0 => [1]
  | k + 1 => mulp (powp p k) p
theorem Mnc.pow {p : List Rat} (h : Mnc p) : ∀ k, Mnc (powp p k)
  | 0 => mnc_one
  | k + 1 => (h.pow k).mul h
end Go.Proofs.Ytokojbgpboccnaa

/-
  POLYNOMIALS: how often one goes into another one; each root once. Nothing of a program.
-/
namespace Go.Proofs.Ytokojbgpboccnaa
set_option linter.unusedVariables false
open Classical in
noncomputable def quop (p q : List Rat) : List Rat := if h : Trm p ∧ Trm q ∧ q ≠ [] then (div_ex h.2.1 h.2.2 p.length p h.1 (Nat.le_refl _)).choose else []
theorem quop_spec {p q : List Rat} (hp : Trm p) (hq : Trm q) (h0 : q ≠ []) : ∃ r, Trm (quop p q) ∧ Trm r ∧ r.length < q.length ∧ ∀ x, pv p x = pv (quop p q) x * pv q x + pv r x := by
  unfold quop
  rw [dif_pos ⟨hp, hq, h0⟩]
  exact (div_ex hq h0 p.length p hp (Nat.le_refl _)).choose_spec
theorem quop_of {p q y r : List Rat} (hp : Trm p) (hq : Trm q) (h0 : q ≠ []) (hy : Trm y) (hr : Trm r) (hl : r.length < q.length) (e : ∀ x, pv p x = pv y x * pv q x + pv r x) : y = quop p q := by
  obtain ⟨s, h1, h2, h3, h4⟩ := quop_spec hp hq h0
  exact (div_unique hq h0 hy hr h1 h2 hl h3 fun x => (e x).symm.trans (h4 x)).1
/-- Each root once. -/
noncomputable def freep (p : List Rat) : List Rat := quop (mnc p) (gcdp p (slope p))
end Go.Proofs.Ytokojbgpboccnaa

/-
  POLYNOMIALS: free parts by way of the monic one; roots by how often (Yun), as it is made. Nothing of a program.
-/
namespace Go.Proofs.Ytokojbgpboccnaa
set_option linter.unusedVariables false
theorem Mnc.ne {p : List Rat} (h : Mnc p) : p ≠ [] := h.1
/-! ### Yun's -/
/-- What is left, with each root once less, so often. -/
noncomputable def yp (p : List Rat) : Nat → List Rat
  | 0 => p
  | n + 1 => quop (yp p n) (freep (yp p n))
end Go.Proofs.Ytokojbgpboccnaa

/-
  STURM: changes of sign along a chain, and roots, over the rational numbers. Nothing of a program.
-/
namespace Go.Proofs.Ytokojbgpboccnaa
set_option linter.unusedVariables false

/-! ### Sizes -/
def ab (x : Rat) : Rat := if x < 0 then -x else x
theorem tri (x : Rat) : x < 0 ∨ x = 0 ∨ 0 < x := by grind
theorem mul_neg' {x y : Rat} (hx : x < 0) (hy : y < 0) : 0 < x * y := by have := Rat.mul_pos (show 0 < -x by grind) (show 0 < -y by grind); grind
theorem mul_pn {x y : Rat} (hx : 0 < x) (hy : y < 0) : x * y < 0 := by have := Rat.mul_pos hx (show 0 < -y by grind); grind
theorem mul_np {x y : Rat} (hx : x < 0) (hy : 0 < y) : x * y < 0 := by have := Rat.mul_pos (show 0 < -x by grind) hy; grind
/-! ### Changes of sign -/
/-- How often the sign changes, noughts left out; 'last' was the last one that was not nought. -/
def chq : Rat → List Rat → Nat
  | _, [] => 0
  | a, x :: l => if x = 0 then chq a l else (if a * x < 0 then 1 else 0) + chq x l
theorem chq_cons {a x : Rat} (h : x ≠ 0) (l : List Rat) : chq a (x :: l) = (if a * x < 0 then 1 else 0) + chq x l := by simp [chq, h]
theorem chq_nought (a : Rat) (l : List Rat) : chq a (0 :: l) = chq a l := by simp [chq]
theorem chq_first {x : Rat} (h : x ≠ 0) (l : List Rat) : chq 0 (x :: l) = chq x l := by rw [chq_cons h, if_neg (by grind)]; omega
theorem sgn_ne {x y : Rat} (h : 0 < x * y) : x ≠ 0 ∧ y ≠ 0 := ⟨fun e => by rw [e] at h; grind, fun e => by rw [e] at h; grind⟩
theorem sgn_pp {x y : Rat} (h : 0 < x * y) : (0 < x ∧ 0 < y) ∨ (x < 0 ∧ y < 0) := by
  rcases tri x with hx | hx | hx <;> rcases tri y with hy | hy | hy
  · exact .inr ⟨hx, hy⟩
  · subst hy; grind
  · have := mul_np hx hy; grind
  · subst hx; grind
  · subst hx; grind
  · subst hx; grind
  · have := mul_pn hx hy; grind
  · subst hy; grind
  · exact .inl ⟨hx, hy⟩
theorem sgn_pn {x y : Rat} (h : x * y < 0) : (0 < x ∧ y < 0) ∨ (x < 0 ∧ 0 < y) := by
  rcases tri x with hx | hx | hx <;> rcases tri y with hy | hy | hy
  · have := mul_neg' hx hy; grind
  · subst hy; grind
  · exact .inr ⟨hx, hy⟩
  · subst hx; grind
  · subst hx; grind
  · subst hx; grind
  · exact .inl ⟨hx, hy⟩
  · subst hy; grind
  · have := Rat.mul_pos hx hy; grind
theorem sgn_same {a a' x x' : Rat} (h : 0 < a * a') (h' : 0 < x * x') : a * x < 0 ↔ a' * x' < 0 := by
  rcases sgn_pp h with ⟨h1, h2⟩ | ⟨h1, h2⟩ <;> rcases sgn_pp h' with ⟨h3, h4⟩ | ⟨h3, h4⟩
  · have := Rat.mul_pos h1 h3; have := Rat.mul_pos h2 h4; grind
  · have := mul_pn h1 h3; have := mul_pn h2 h4; grind
  · have := mul_np h1 h3; have := mul_np h2 h4; grind
  · have := mul_neg' h1 h3; have := mul_neg' h2 h4; grind
/-- Of two with unlike signs: what lies between does not count. -/
theorem chq_skip {x z : Rat} (h : x * z < 0) (u : Rat) (l : List Rat) : chq x (u :: z :: l) = 1 + chq z l := by
  have hz : z ≠ 0 := fun e => by rw [e] at h; grind
  by_cases hu : u = 0
  · subst hu; rw [chq_nought, chq_cons hz, if_pos h]
  · rw [chq_cons hu, chq_cons hz]
    rcases sgn_pn h with ⟨h1, h2⟩ | ⟨h1, h2⟩ <;> rcases tri u with h3 | h3 | h3
    · rw [if_pos (mul_pn h1 h3), if_neg (by have := mul_neg' h3 h2; grind)]; omega
    · exact absurd h3 hu
    · rw [if_neg (by have := Rat.mul_pos h1 h3; grind), if_pos (mul_pn h3 h2)]; omega
    · rw [if_neg (by have := mul_neg' h1 h3; grind), if_pos (mul_np h3 h2)]; omega
    · exact absurd h3 hu
    · rw [if_pos (mul_np h1 h3), if_neg (by have := Rat.mul_pos h3 h2; grind)]; omega
inductive Alike : List Rat → List Rat → Prop
  | one {x y : Rat} : 0 < x * y → Alike [x] [y]
  | step {x y : Rat} {l m : List Rat} : 0 < x * y → Alike l m → Alike (x :: l) (y :: m)
  | skip {x y u v z t : Rat} {l m : List Rat} : 0 < x * y → x * z < 0 → 0 < z * t → Alike (z :: l) (t :: m) → Alike (x :: u :: z :: l) (y :: v :: t :: m)
theorem Alike.chq {l m : List Rat} (h : Alike l m) : ∀ a b : Rat, (0 < a * b ∨ (a = 0 ∧ b = 0)) → chq a l = chq b m := by
  have hif : ∀ {a b x y : Rat}, (0 < a * b ∨ (a = 0 ∧ b = 0)) → 0 < x * y → (if a * x < 0 then 1 else 0 : Nat) = if b * y < 0 then 1 else 0 := by
    intro a b x y hab hxy
    rcases hab with hab | ⟨rfl, rfl⟩
    · by_cases h : a * x < 0
      · rw [if_pos h, if_pos ((sgn_same hab hxy).1 h)]
      · rw [if_neg h, if_neg fun h2 => h ((sgn_same hab hxy).2 h2)]
    · rw [if_neg (by grind), if_neg (by grind)]
  induction h with
  | one hxy =>
    intro a b hab
    rw [chq_cons (sgn_ne hxy).1, chq_cons (sgn_ne hxy).2, hif hab hxy]
    rfl
  | step hxy _ ih =>
    intro a b hab
    rw [chq_cons (sgn_ne hxy).1, chq_cons (sgn_ne hxy).2, hif hab hxy, ih _ _ (.inl hxy)]
  | @skip x y u v z t l m hxy hxz hzt _ ih =>
    intro a b hab
    have h2 := ih 0 0 (.inr ⟨rfl, rfl⟩)
    rw [chq_first (sgn_ne hzt).1, chq_first (sgn_ne hzt).2] at h2
    rw [chq_cons (sgn_ne hxy).1, chq_cons (sgn_ne hxy).2, hif hab hxy, chq_skip hxz, chq_skip ((sgn_same hxy hzt).1 hxz), h2]

/-- Where one is near 0, both beside it are not, and of unlike signs; the last one is not near 0. -/
def Tst (e : Rat) : List Rat → Prop
  | [] => False
  | [x] => e ≤ ab x
  | [_, y] => e ≤ ab y
  | x :: y :: z :: l => (ab y < e → x * z < 0 ∧ e ≤ ab x ∧ e ≤ ab z) ∧ Tst e (y :: z :: l)
theorem Tst.mono {e e' : Rat} (h : e' ≤ e) : ∀ {l : List Rat}, Tst e l → Tst e' l := by
  intro l
  induction l using Tst.induct with
  | case1 => exact fun h => h
  | case2 x => intro h1; unfold Tst at h1 ⊢; grind
  | case3 x y => intro h1; unfold Tst at h1 ⊢; grind
  | case4 x y z l ih =>
    intro h1
    unfold Tst at h1 ⊢
    refine ⟨fun h2 => ?_, ih h1.2⟩
    have h3 := h1.1 (by grind)
    exact ⟨h3.1, by grind, by grind⟩
theorem chq_len : ∀ (l : List Rat) (a : Rat), chq a l ≤ l.length := by
  intro l
  induction l with
  | nil => exact fun a => Nat.le_refl _
  | cons x l ih =>
    intro a
    by_cases hx : x = 0
    · subst hx; rw [chq_nought]; have := ih a; simp; omega
    · rw [chq_cons hx]; have := ih x; simp only [List.length_cons]; split <;> omega
end Go.Proofs.Ytokojbgpboccnaa

/-
  STURM: the chain of a polynomial; its roots each once. Nothing of a program.
-/
namespace Go.Proofs.Ytokojbgpboccnaa
set_option linter.unusedVariables false

/-- What is left, turned. -/
noncomputable def nrem (f g : List Rat) : List Rat := trimQ (padd (mulr (quop f g) g) (psc (-1) f))
theorem trm_nrem (f g : List Rat) : Trm (nrem f g) := trm_trim _
theorem pv_nrem (f g : List Rat) (x : Rat) : pv f x = pv (quop f g) x * pv g x - pv (nrem f g) x := by
  rw [nrem, pv_trim, pv_padd, pv_mulr, pv_psc]; grind
theorem nrem_of {f g y s : List Rat} (hf : Trm f) (hg : Trm g) (h0 : g ≠ []) (hy : Trm y) (hs : Trm s) (hl : s.length < g.length) (e : ∀ x, pv f x = pv y x * pv g x - pv s x) : y = quop f g ∧ s = nrem f g := by
  have h1 : y = quop f g := quop_of (r := trimQ (psc (-1) s)) hf hg h0 hy (trm_trim _) (by have := trim_len (psc (-1) s); unfold psc at this; rw [List.length_map] at this; unfold psc; omega) fun x => by
    rw [e, pv_trim, pv_psc]; grind
  refine ⟨h1, trm_pv hs (trm_nrem f g) fun x => ?_⟩
  have h2 := pv_nrem f g x
  rw [e, h1] at h2
  grind
theorem nrem_len {f g : List Rat} (hf : Trm f) (hg : Trm g) (h0 : g ≠ []) : (nrem f g).length < g.length := by
  obtain ⟨r, h1, h2, h3, h4⟩ := quop_spec hf hg h0
  have h5 : trimQ (psc (-1) r) = nrem f g := trm_pv (trm_trim _) (trm_nrem f g) fun x => by
    have := pv_nrem f g x
    rw [h4] at this
    rw [pv_trim, pv_psc]; grind
  rw [← h5]
  have := trim_len (psc (-1) r)
  unfold psc at this ⊢
  rw [List.length_map] at this
  omega
/-- The chain from two on, with so many rounds at most. -/
noncomputable def chnx : Nat → List Rat → List Rat → List (List Rat)
  | 0, f, _ => [f]
  | n + 1, f, g => if g = [] then [f] else f :: chnx n g (nrem f g)
noncomputable def chainp (f : List Rat) : List (List Rat) := chnx f.length f (slope f)
theorem chnx_nil (n : Nat) (f : List Rat) : chnx n f [] = [f] := by cases n <;> simp [chnx]
theorem chnx_cons {n : Nat} {f g : List Rat} (h : g ≠ []) : chnx (n + 1) f g = f :: chnx n g (nrem f g) := by simp [chnx, h]
theorem chnx_head (n : Nat) (f g : List Rat) : ∃ l, chnx n f g = f :: l := by
  cases n with
  | zero => exact ⟨[], rfl⟩
  | succ n =>
    by_cases h : g = []
    · rw [h, chnx_nil]; exact ⟨[], rfl⟩
    · exact ⟨_, chnx_cons h⟩
end Go.Proofs.Ytokojbgpboccnaa

/-
  STURM: the polynomials of a chain end with no nought. Nothing of a program.
-/
namespace Go.Proofs.Ytokojbgpboccnaa
set_option linter.unusedVariables false
theorem chnx_trm : ∀ (n : Nat) (f g : List Rat), Trm f → Trm g → ∀ p ∈ chnx n f g, Trm p := by
  intro n
  induction n with
  | zero => intro f g hf _ p hp; simp [chnx] at hp; rw [hp]; exact hf
  | succ n ih =>
    intro f g hf hg p hp
    by_cases h : g = []
    · rw [h, chnx_nil] at hp; simp at hp; rw [hp]; exact hf
    · rw [chnx_cons h] at hp
      rcases List.mem_cons.1 hp with hp | hp
      · rw [hp]; exact hf
      · exact ih g (nrem f g) hg (trm_nrem f g) p hp
theorem chainp_trm {f : List Rat} (hf : Trm f) (h0 : f ≠ []) : ∀ p ∈ chainp f, Trm p := chnx_trm _ _ _ hf (trm_slope f)
end Go.Proofs.Ytokojbgpboccnaa
