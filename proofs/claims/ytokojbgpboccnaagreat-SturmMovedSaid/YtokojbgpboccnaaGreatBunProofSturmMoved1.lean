/-
  PLAIN NUMBERS: natural numbers as lists of limbs to the base 4294967296, the least one first: their value. Nothing of a program.
-/
namespace Go.Proofs.YtokojbgpboccnaaGreat
namespace Num

def B : Nat := 4294967296
theorem B_eq : B = 4294967296 := rfl
theorem B_pos : 0 < B := by decide

/-- Limb i; 0 beyond the end. -/
def dg (l : List Nat) (i : Nat) : Nat := (l[i]?).getD 0
theorem dg_lt {l : List Nat} {i : Nat} (h : i < l.length) : dg l i = l[i] := by simp [dg, h]
theorem dg_ge {l : List Nat} {i : Nat} (h : l.length ≤ i) : dg l i = 0 := by simp [dg, h]
theorem dg_zeros (n i : Nat) : dg (List.replicate n 0) i = 0 := by simp only [dg, List.getElem?_replicate]; split <;> simp
theorem dg_take {l : List Nat} {i k : Nat} (h : i < k) : dg (l.take k) i = dg l i := by simp [dg, h]
theorem dg_drop {l : List Nat} {i k : Nat} : dg (l.drop k) i = dg l (k + i) := by simp [dg, List.getElem?_drop]

/-- The value of limbs, the least one first. -/
def val : List Nat → Nat
  | [] => 0
  | x :: xs => x + B * val xs

theorem val_nil : val [] = 0 := rfl
theorem val_cons (x : Nat) (xs : List Nat) : val (x :: xs) = x + B * val xs := rfl

theorem val_append (a b : List Nat) : val (a ++ b) = val a + B ^ a.length * val b := by
  induction a with
  | nil => simp [val]
  | cons x xs ih => simp only [List.cons_append, val_cons, ih, List.length_cons, Nat.pow_succ]; rw [Nat.mul_add, Nat.mul_comm (B ^ xs.length) B, Nat.mul_assoc]; omega

theorem val_split' (l : List Nat) (k : Nat) : val l = val (l.take k) + B ^ (l.take k).length * val (l.drop k) := by
  have := val_append (l.take k) (l.drop k)
  rw [List.take_append_drop] at this
  exact this

theorem val_single (x : Nat) : val [x] = x := by simp [val]

/-- One place more is read: what lies beyond the end counts 0. -/
theorem val_take_succ (l : List Nat) (k : Nat) : val (l.take (k + 1)) = val (l.take k) + dg l k * B ^ k := by
  by_cases h : k < l.length
  · rw [List.take_succ_eq_append_getElem h, val_append, val_single, List.length_take, Nat.min_eq_left (by omega), dg_lt h, Nat.mul_comm]
  · rw [List.take_of_length_le (by omega), List.take_of_length_le (by omega), dg_ge (by omega)]; omega

theorem val_take_all (l : List Nat) (k : Nat) (h : l.length ≤ k) : val (l.take k) = val l := by rw [List.take_of_length_le h]

/-- A limb is written behind those that were read. -/
theorem val_take_set (l : List Nat) (k x : Nat) (h : k < l.length) : val ((l.set k x).take (k + 1)) = val (l.take k) + x * B ^ k := by
  rw [val_take_succ, List.take_set_of_le (Nat.le_refl k)]
  rw [dg_lt (by simpa using h), List.getElem_set_self]

theorem dg_set_self (l : List Nat) (k x : Nat) (h : k < l.length) : dg (l.set k x) k = x := by
  rw [dg_lt (by simpa using h), List.getElem_set_self]

theorem dg_set_ne (l : List Nat) (k j x : Nat) (h : j ≠ k) : dg (l.set k x) j = dg l j := by
  simp only [dg, List.getElem?_set]
  rw [if_neg (by omega)]

/-- One limb is written. -/
theorem val_set (l : List Nat) (k x : Nat) (h : k < l.length) : val (l.set k x) + dg l k * B ^ k = val l + x * B ^ k := by
  have e1 := val_split' (l.set k x) (k + 1)
  have e2 := val_split' l (k + 1)
  rw [List.drop_set_of_lt (by omega)] at e1
  rw [List.length_take, List.length_set] at e1
  rw [List.length_take] at e2
  have h1 := val_take_set l k x h
  have h2 := val_take_succ l k
  omega

/-- All limbs fit. -/
def Fits (l : List Nat) : Prop := ∀ i, dg l i < 4294967296

theorem Fits.nil : Fits [] := fun i => by simp [dg]
theorem Fits.take {l : List Nat} (h : Fits l) (k : Nat) : Fits (l.take k) := fun i => by
  have := h i
  simp only [dg, List.getElem?_take] at this ⊢
  split <;> simp_all
theorem Fits.drop {l : List Nat} (h : Fits l) (k : Nat) : Fits (l.drop k) := fun i => by
  have := h (k + i)
  simp only [dg, List.getElem?_drop] at this ⊢
  exact this
theorem Fits.set {l : List Nat} (h : Fits l) (k x : Nat) (hx : x < 4294967296) : Fits (l.set k x) := fun i => by
  by_cases e : i = k
  · subst e
    by_cases hl : i < l.length
    · rw [dg_set_self _ _ _ hl]; exact hx
    · rw [dg_ge (by simp; omega)]; omega
  · rw [dg_set_ne _ _ _ _ e]; exact h i
theorem Fits.append {a b : List Nat} (ha : Fits a) (hb : Fits b) : Fits (a ++ b) := fun i => by
  by_cases h : i < a.length
  · have := ha i
    simp only [dg] at this ⊢
    rw [List.getElem?_append_left h]; exact this
  · have := hb (i - a.length)
    simp only [dg] at this ⊢
    rw [List.getElem?_append_right (by omega)]; exact this
theorem Fits.single {x : Nat} (h : x < 4294967296) : Fits [x] := fun i => by
  match i with
  | 0 => simpa [dg] using h
  | i + 1 => simp [dg]
theorem Fits.zeros (n : Nat) : Fits (List.replicate n 0) := fun i => by
  simp only [dg, List.getElem?_replicate]; split <;> simp
theorem Fits.cons {x : Nat} {l : List Nat} (h : Fits (x :: l)) : x < 4294967296 ∧ Fits l := ⟨by simpa [dg] using h 0, fun i => by simpa [dg] using h (i + 1)⟩

theorem val_lt {l : List Nat} (h : Fits l) : val l < B ^ l.length := by
  induction l with
  | nil => simp [val]
  | cons x xs ih =>
    obtain ⟨h1, h2⟩ := h.cons
    have := ih h2
    rw [val_cons, List.length_cons, Nat.pow_succ, Nat.mul_comm (B ^ xs.length) B]
    have h3 : val xs + 1 ≤ B ^ xs.length := this
    have h4 := Nat.mul_le_mul_left B h3
    rw [Nat.mul_add] at h4
    simp only [B_eq] at h4 ⊢
    omega

theorem val_zeros (n : Nat) : val (List.replicate n 0) = 0 := by
  induction n with
  | zero => rfl
  | succ n ih => rw [List.replicate_succ, val_cons, ih]; rfl

/-- No leading nought. -/
def Trim (l : List Nat) : Prop := l = [] ∨ 0 < dg l (l.length - 1)

theorem Trim.low {l : List Nat} (h : Trim l) (hn : l ≠ []) : B ^ (l.length - 1) ≤ val l := by
  rcases h with h | h
  · exact absurd h hn
  · have hl : 0 < l.length := List.length_pos_iff.2 hn
    have e := val_take_succ l (l.length - 1)
    rw [Nat.sub_add_cancel hl, List.take_length] at e
    rw [e]
    have := Nat.mul_le_mul_right (B ^ (l.length - 1)) h
    omega

theorem Trim.zero_iff {l : List Nat} (h : Trim l) : val l = 0 ↔ l = [] := by
  constructor
  · intro e
    apply Classical.byContradiction
    intro hn
    have := h.low hn
    have hp : 0 < B ^ (l.length - 1) := Nat.pow_pos B_pos
    omega
  · rintro rfl; rfl

/-- The greater length, the greater number. -/
theorem lt_of_length {x y : List Nat} (hx : Fits x) (hy : Trim y) (h : x.length < y.length) : val x < val y := by
  have hn : y ≠ [] := by intro e; subst e; simp at h
  have h1 := val_lt hx
  have h2 := hy.low hn
  have h3 : B ^ x.length ≤ B ^ (y.length - 1) := Nat.pow_le_pow_right B_pos (by omega)
  omega

theorem length_le_of_val {x : List Nat} (hx : Trim x) (k : Nat) (h : val x < B ^ k) : x.length ≤ k := by
  apply Classical.byContradiction
  intro hn
  have hne : x ≠ [] := by intro e; subst e; simp at hn
  have h2 := hx.low hne
  have h3 : B ^ k ≤ B ^ (x.length - 1) := Nat.pow_le_pow_right B_pos (by omega)
  omega

/-- Two numbers of like limbs from place k on are compared by the limbs below. -/
theorem val_split (l : List Nat) (k : Nat) : val l = val (l.take k) + B ^ k * val (l.drop k) := by
  by_cases h : k ≤ l.length
  · have := val_append (l.take k) (l.drop k)
    rw [List.take_append_drop, List.length_take, Nat.min_eq_left h] at this
    exact this
  · rw [List.take_of_length_le (by omega), List.drop_eq_nil_of_le (by omega)]; simp [val]

/-- The part of a step: the low limb stays, the rest is carried. -/
theorem carry_split (s p : Nat) : (s % 4294967296) * p + (s / 4294967296) * (p * B) = s * p := by
  have h := Nat.div_add_mod s 4294967296
  have e : s * p = (4294967296 * (s / 4294967296) + s % 4294967296) * p := by rw [h]
  rw [e, Nat.add_mul, B_eq, Nat.mul_comm p 4294967296, ← Nat.mul_assoc, Nat.mul_comm (s / 4294967296) 4294967296]
  omega

/-- How many limbs are left without leading noughts, out of the first n. -/
def tl (l : List Nat) : Nat → Nat
  | 0 => 0
  | n + 1 => if dg l n = 0 then tl l n else n + 1
def tlen (l : List Nat) : Nat := tl l l.length
theorem tl_zero (l : List Nat) : tl l 0 = 0 := rfl
theorem tl_skip {l : List Nat} {n : Nat} (h : dg l n = 0) : tl l (n + 1) = tl l n := by simp [tl, h]
theorem tl_stop {l : List Nat} {n : Nat} (h : dg l n ≠ 0) : tl l (n + 1) = n + 1 := by simp [tl, h]
theorem tl_le (l : List Nat) (n : Nat) : tl l n ≤ n := by
  induction n with
  | zero => exact Nat.le_refl _
  | succ n ih => unfold tl; split <;> omega
theorem tlen_le (l : List Nat) : tlen l ≤ l.length := tl_le l _
def trimL (l : List Nat) : List Nat := l.take (tlen l)
theorem length_trimL (l : List Nat) : (trimL l).length = tlen l := by
  rw [trimL, List.length_take, Nat.min_eq_left (tlen_le l)]
theorem val_take_tl (l : List Nat) (n : Nat) : val (l.take (tl l n)) = val (l.take n) := by
  induction n with
  | zero => rfl
  | succ n ih =>
    by_cases h : dg l n = 0
    · rw [tl_skip h, ih, val_take_succ, h]; omega
    · rw [tl_stop h]
theorem val_trimL (l : List Nat) : val (trimL l) = val l := by
  rw [trimL, tlen, val_take_tl, List.take_length]
theorem tl_top (l : List Nat) (n : Nat) (h : 0 < tl l n) : dg l (tl l n - 1) ≠ 0 := by
  induction n with
  | zero => simp [tl] at h
  | succ n ih =>
    by_cases e : dg l n = 0
    · rw [tl_skip e] at h ⊢; exact ih h
    · rw [tl_stop e]; exact e
theorem trim_trimL (l : List Nat) : Trim (trimL l) := by
  by_cases h : tlen l = 0
  · left; rw [trimL, h, List.take_zero]
  · right
    rw [length_trimL, trimL, dg_take (by omega)]
    have := tl_top l l.length (by rw [← tlen]; omega)
    rw [← tlen] at this
    omega
theorem fits_trimL {l : List Nat} (h : Fits l) : Fits (trimL l) := h.take _
theorem drop_dg {l : List Nat} {k : Nat} (h : k < l.length) : l.drop k = dg l k :: l.drop (k + 1) := by
  rw [List.drop_eq_getElem_cons h, dg_lt h]

/-- Of two numbers that are alike above limb k this limb decides, if it is not alike. -/
theorem val_lt_of_top {x y : List Nat} {k : Nat} (hx : Fits x) (hy : Fits y) (hd : x.drop (k + 1) = y.drop (k + 1)) (h1 : k < x.length) (h2 : k < y.length) (hne : dg x k ≠ dg y k) :
    val x < val y ↔ dg x k < dg y k := by
  have e1 := val_split x (k + 1)
  have e2 := val_split y (k + 1)
  rw [val_take_succ] at e1 e2
  rw [hd] at e1
  have b1 := val_lt (hx.take k)
  have b2 := val_lt (hy.take k)
  rw [List.length_take, Nat.min_eq_left (by omega)] at b1 b2
  generalize hP : B ^ k = P at *
  generalize B ^ (k + 1) * val (y.drop (k + 1)) = T at *
  constructor
  · intro h
    apply Classical.byContradiction
    intro hn
    have h3 : dg y k + 1 ≤ dg x k := by omega
    have h4 := Nat.mul_le_mul_right P h3
    rw [Nat.add_mul] at h4
    omega
  · intro h
    have h3 : dg x k + 1 ≤ dg y k := by omega
    have h4 := Nat.mul_le_mul_right P h3
    rw [Nat.add_mul] at h4
    omega

end Num
end Go.Proofs.YtokojbgpboccnaaGreat

/-
  PLAIN TEXTS: decimal digits. Nothing of a program.
-/
namespace Go.Proofs.YtokojbgpboccnaaGreat
namespace Num

def isDig (b : UInt8) : Bool := decide (48 ≤ b.toNat ∧ b.toNat ≤ 57)
/-- A natural number's text: digits, without a leading 0. -/
def isNat (l : List UInt8) : Bool := !l.isEmpty && !(l.head? == some 48 && !(l == [48])) && l.all isDig
def dval (l : List UInt8) : Nat := l.foldl (fun n b => 10 * n + (b.toNat - 48)) 0

theorem isNat_nil : isNat [] = false := rfl
theorem isNat_lead {l : List UInt8} (h1 : l.head? = some 48) (h2 : (l == [48]) = false) : isNat l = false := by
  simp [isNat, h1, h2]
theorem isNat_rest {l : List UInt8} (h0 : l ≠ []) (h : l.head? ≠ some 48 ∨ (l == [48]) = true) : isNat l = l.all isDig := by
  rw [isNat]
  have e0 : l.isEmpty = false := by simpa using h0
  rw [e0]
  rcases h with h | h
  · have : (l.head? == some 48) = false := by simpa using h
    simp [this]
  · simp [h]

theorem dval_nil : dval [] = 0 := rfl
theorem dval_snoc (l : List UInt8) (b : UInt8) : dval (l ++ [b]) = 10 * dval l + (b.toNat - 48) := by
  simp [dval, List.foldl_append]
theorem foldl_dval (l : List UInt8) (n : Nat) : l.foldl (fun n b => 10 * n + (b.toNat - 48)) n = n * 10 ^ l.length + dval l := by
  induction l generalizing n with
  | nil => simp [dval]
  | cons b l ih =>
    have e : dval (b :: l) = (10 * 0 + (b.toNat - 48)) * 10 ^ l.length + dval l := by rw [dval, List.foldl_cons, ih]
    rw [List.foldl_cons, ih, e, List.length_cons, Nat.pow_succ]
    simp only [Nat.mul_zero, Nat.zero_add, Nat.add_mul]
    rw [Nat.mul_comm 10 n, Nat.mul_assoc, Nat.mul_comm 10 (10 ^ l.length)]
    omega
theorem dval_append (a b : List UInt8) : dval (a ++ b) = dval a * 10 ^ b.length + dval b := by
  rw [dval, List.foldl_append, foldl_dval]; rfl
theorem all_drop {l : List UInt8} (h : l.all isDig = true) (k : Nat) : (l.drop k).all isDig = true := by
  rw [List.all_eq_true] at h ⊢
  exact fun x hx => h x (List.mem_of_mem_drop hx)
theorem dval_lt {l : List UInt8} (h : l.all isDig = true) : dval l < 10 ^ l.length := by
  induction l with
  | nil => simp [dval]
  | cons b l ih =>
    rw [List.all_cons, Bool.and_eq_true] at h
    have h1 := ih h.2
    have h2 : b.toNat ≤ 57 := by have := h.1; simp [isDig] at this; exact this.2
    have e := dval_append [b] l
    rw [List.singleton_append] at e
    have e2 : dval [b] = b.toNat - 48 := by simp [dval]
    rw [e, e2, List.length_cons, Nat.pow_succ]
    have h3 := Nat.mul_le_mul_right (10 ^ l.length) (show b.toNat - 48 ≤ 9 by omega)
    omega

/-- The digit n. -/
def dch (n : Nat) : UInt8 := UInt8.ofNat (48 + n)

/-- The digits of a number. -/
def dtext (n : Nat) : List UInt8 := if _h : n < 10 then [dch n] else dtext (n / 10) ++ [dch (n % 10)]
  termination_by n
  decreasing_by omega

theorem dtext_small {n : Nat} (h : n < 10) : dtext n = [dch n] := by rw [dtext, dif_pos h]
theorem dtext_big {n : Nat} (h : ¬ n < 10) : dtext n = dtext (n / 10) ++ [dch (n % 10)] := by rw [dtext, dif_neg h]
theorem toNat_dig {n : Nat} (h : n < 10) : (dch n).toNat = 48 + n := by
  rw [dch, UInt8.toNat_ofNat']; omega
theorem isDig_dig {n : Nat} (h : n < 10) : isDig (dch n) = true := by
  simp only [isDig, toNat_dig h, decide_eq_true_eq]; omega
theorem dtext_all (n : Nat) : (dtext n).all isDig = true := by
  induction n using Nat.strongRecOn with
  | _ n ih =>
    by_cases h : n < 10
    · rw [dtext_small h]; simp [isDig_dig h]
    · rw [dtext_big h, List.all_append, ih (n / 10) (by omega)]
      simp [isDig_dig (Nat.mod_lt n (show 0 < 10 by omega))]
theorem dval_dtext (n : Nat) : dval (dtext n) = n := by
  induction n using Nat.strongRecOn with
  | _ n ih =>
    by_cases h : n < 10
    · rw [dtext_small h]
      have := dval_snoc [] (dch n)
      rw [List.nil_append, toNat_dig h, dval_nil] at this
      rw [this]; omega
    · rw [dtext_big h, dval_snoc, ih (n / 10) (by omega), toNat_dig (Nat.mod_lt n (by omega))]; omega
theorem dtext_zero : dtext 0 = [48] := by rw [dtext_small (by omega)]; rfl
/-- A list of digits whose value is not 0 and that begins with no 0 is the text of its value. -/
theorem dtext_dval {l : List UInt8} (h : isNat l = true) : dtext (dval l) = l := by
  obtain ⟨n, hn⟩ : ∃ n, l.length = n := ⟨_, rfl⟩
  induction n using Nat.strongRecOn generalizing l with
  | _ n ih =>
    have hne : l ≠ [] := by intro e; rw [e] at h; simp [isNat_nil] at h
    have hall : l.all isDig = true := by
      rw [isNat, Bool.and_eq_true] at h; exact h.2
    have hlead : l.head? ≠ some 48 ∨ (l == [48]) = true := by
      by_cases h1 : l.head? = some 48
      · right
        cases h2 : (l == [48]) with
        | true => rfl
        | false => rw [isNat_lead h1 h2] at h; simp at h
      · left; exact h1
    obtain ⟨a, b, rfl⟩ : ∃ a b, l = a ++ [b] := ⟨l.dropLast, l.getLast hne, (List.dropLast_concat_getLast hne).symm⟩
    have hb : isDig b = true := by rw [List.all_append, Bool.and_eq_true] at hall; simpa using hall.2
    have hb2 : 48 ≤ b.toNat ∧ b.toNat ≤ 57 := by simpa [isDig] using hb
    have hbe : dch (b.toNat - 48) = b := by
      apply UInt8.toNat_inj.1
      rw [toNat_dig (by omega)]; omega
    rw [dval_snoc]
    by_cases ha : a = []
    · subst ha
      rw [dval_nil, dtext_small (by omega)]
      simp only [Nat.mul_zero, Nat.zero_add, List.nil_append]
      rw [hbe]
    · have hlead2 : a.head? ≠ some 48 := by
        rcases hlead with h1 | h1
        · intro e
          apply h1
          cases a with
          | nil => exact absurd rfl ha
          | cons x t => simpa using e
        · have := congrArg List.length (eq_of_beq h1)
          simp at this
          exact absurd this ha
      have halla : a.all isDig = true := by rw [List.all_append, Bool.and_eq_true] at hall; exact hall.1
      have hna : isNat a = true := by rw [isNat_rest ha (.inl hlead2)]; exact halla
      have e := ih a.length (by rw [← hn]; simp) hna rfl
      have hpos : 0 < dval a := by
        apply Nat.pos_of_ne_zero
        intro e0
        rw [e0, dtext_zero] at e
        rw [← e] at hlead2
        simp at hlead2
      rw [dtext_big (by omega), show (10 * dval a + (b.toNat - 48)) / 10 = dval a by omega, show (10 * dval a + (b.toNat - 48)) % 10 = b.toNat - 48 by omega, e, hbe]

theorem isNat_all {l : List UInt8} (h : isNat l = true) : l.all isDig = true := by
  rw [isNat, Bool.and_eq_true] at h; exact h.2
theorem length_dtext_le {n k : Nat} (h : n < 10 ^ k) (hk : 0 < k) : (dtext n).length ≤ k := by
  induction k generalizing n with
  | zero => omega
  | succ k ih =>
    by_cases hs : n < 10
    · rw [dtext_small hs]; simp
    · rw [dtext_big hs, List.length_append]
      by_cases hk0 : k = 0
      · subst hk0; simp at h; omega
      · have := ih (n := n / 10) (by rw [Nat.pow_succ] at h; omega) (by omega)
        simp only [List.length_singleton]
        omega

/-! ### Digits, the least one first -/
def rval : List Nat → Nat
  | [] => 0
  | d :: ds => d + 10 * rval ds
theorem rval_append (a b : List Nat) : rval (a ++ b) = rval a + 10 ^ a.length * rval b := by
  induction a with
  | nil => simp [rval]
  | cons x xs ih => simp only [List.cons_append, rval, ih, List.length_cons, Nat.pow_succ]; rw [Nat.mul_add, Nat.mul_comm (10 ^ xs.length) 10, Nat.mul_assoc]; omega
theorem rval_snoc (a : List Nat) (d : Nat) : rval (a ++ [d]) = rval a + 10 ^ a.length * d := by rw [rval_append]; simp [rval]
theorem rval_take_succ (l : List Nat) (k : Nat) (h : k < l.length) : rval (l.take (k + 1)) = rval (l.take k) + 10 ^ k * dg l k := by
  rw [List.take_succ_eq_append_getElem h, rval_snoc, List.length_take, Nat.min_eq_left (by omega), dg_lt h]

/-- All digits are below 10. -/
def Low (ds : List Nat) : Prop := ∀ i, dg ds i < 10
theorem Low.nil : Low [] := fun i => by simp [dg]
theorem Low.snoc {ds : List Nat} {d : Nat} (h : Low ds) (hd : d < 10) : Low (ds ++ [d]) := fun i => by
  by_cases h1 : i < ds.length
  · have := h i; simp only [dg] at this ⊢; rw [List.getElem?_append_left h1]; exact this
  · simp only [dg]; rw [List.getElem?_append_right (by omega)]
    by_cases h2 : i - ds.length = 0
    · rw [h2]; simpa using hd
    · rw [List.getElem?_eq_none (by simp; omega)]; simp
theorem Low.take {ds : List Nat} (h : Low ds) (k : Nat) : Low (ds.take k) := fun i => by
  have := h i
  simp only [dg, List.getElem?_take] at this ⊢
  split <;> simp_all
theorem Low.mem {ds : List Nat} (h : Low ds) : ∀ d ∈ ds, d < 10 := by
  intro d hd
  obtain ⟨i, hi, rfl⟩ := List.mem_iff_getElem.1 hd
  have := h i
  rwa [dg_lt hi] at this

/-- The text of digits, the least one first. -/
def rtext (ds : List Nat) : List UInt8 := ds.reverse.map dch
theorem dval_rtext {ds : List Nat} (h : Low ds) : dval (rtext ds) = rval ds := by
  have hm := h.mem
  clear h
  induction ds with
  | nil => rfl
  | cons d ds ih =>
    have h1 : rtext (d :: ds) = rtext ds ++ [dch d] := by simp [rtext]
    rw [h1, dval_snoc, ih (fun x hx => hm x (List.mem_cons_of_mem _ hx)), toNat_dig (hm d List.mem_cons_self), rval]
    omega
theorem all_rtext {ds : List Nat} (h : Low ds) : (rtext ds).all isDig = true := by
  rw [List.all_eq_true]
  intro x hx
  simp only [rtext, List.mem_map, List.mem_reverse] at hx
  obtain ⟨d, hd, rfl⟩ := hx
  exact isDig_dig (h.mem d hd)
theorem rtext_eq {ds : List Nat} (h : Low ds) (hn : 0 < ds.length) (htop : dg ds (ds.length - 1) ≠ 0) : rtext ds = dtext (rval ds) := by
  have hne : rtext ds ≠ [] := by
    intro e
    have := congrArg List.length e
    simp [rtext] at this
    rw [this] at hn; simp at hn
  have hh : (rtext ds).head? ≠ some 48 := by
    rw [rtext, List.head?_map, List.head?_reverse, List.getLast?_eq_getElem?]
    rw [List.getElem?_eq_getElem (by omega), Option.map_some]
    intro e
    rw [dg_lt (by omega)] at htop
    have h9 := h.mem _ (List.getElem_mem (show ds.length - 1 < ds.length by omega))
    have h2 := congrArg UInt8.toNat (Option.some.inj e)
    rw [toNat_dig h9] at h2
    have h48 : (48 : UInt8).toNat = 48 := rfl
    omega
  have hN : isNat (rtext ds) = true := by rw [isNat_rest hne (.inl hh)]; exact all_rtext h
  have := dtext_dval hN
  rw [dval_rtext h] at this
  exact this.symm

theorem ext_dg {a b : List Nat} (hl : a.length = b.length) (h : ∀ t, t < a.length → dg a t = dg b t) : a = b := by
  apply List.ext_getElem hl
  intro i h1 h2
  have := h i h1
  rwa [dg_lt h1, dg_lt h2] at this
theorem dg_reverse {l : List Nat} {i : Nat} (h : i < l.length) : dg l.reverse i = dg l (l.length - 1 - i) := by
  rw [dg_lt (by simpa using h), dg_lt (by omega), List.getElem_reverse]

/-- So few digits. -/
theorem digits_few {N n k : Nat} (h1 : N < B ^ n) (h2 : 10 ^ k ≤ N) : k ≤ 10 * n := by
  apply Classical.byContradiction
  intro hh
  have h3 : B ^ n ≤ (10 ^ 10) ^ n := Nat.pow_le_pow_left (by rw [B_eq]; omega) n
  rw [← Nat.pow_mul] at h3
  have h4 : 10 ^ (10 * n) ≤ 10 ^ k := Nat.pow_le_pow_right (by omega) (by omega)
  omega

end Num
end Go.Proofs.YtokojbgpboccnaaGreat

/-
  LEHMER'S STEPS of the Euclidean algorithm: what leading words tell of two numbers (nothing of a program).
-/
namespace Go.Proofs.YtokojbgpboccnaaGreat
namespace Num
set_option linter.unusedVariables false

/-- How many times x and y make the two remainders at hand; A, C: the leading words of x and y; a, b: those of the remainders; e: 1 or -1 by turns. -/
structure Leh (x y A C a b xa ya xb yb : Nat) (e : Int) : Prop where
  sgn : e = 1 ∨ e = -1
  area : A = a * yb + b * ya
  less : xb ≤ yb
  one : 1 ≤ yb
  start : (xa = 1 ∧ ya = 0 ∧ xb = 0 ∧ yb = 1 ∧ e = 1) ∨ (xa ≤ ya ∧ 1 ≤ ya)
  fit : yb < 4294967296
  fita : ya < 4294967296
  low : b ≤ a
  wa : (a : Int) = e * (xa * A - ya * C)
  wb : (b : Int) = e * (yb * C - xb * A)
  real : ∃ r s : Nat, (r : Int) = e * (xa * x - ya * y) ∧ (s : Int) = e * (yb * y - xb * x) ∧ s ≤ r ∧ r ≤ x ∧ s ≤ y ∧ Nat.gcd r s = Nat.gcd x y ∧ (1 ≤ ya → s < y)

theorem Leh.fitxb {x y A C a b xa ya xb yb : Nat} {e : Int} (h : Leh x y A C a b xa ya xb yb e) : xb < 4294967296 := Nat.lt_of_le_of_lt h.less h.fit
theorem Leh.fitxa {x y A C a b xa ya xb yb : Nat} {e : Int} (h : Leh x y A C a b xa ya xb yb e) : xa < 4294967296 := by
  have := h.fita
  rcases h.start with h1 | h1 <;> omega

theorem Leh.first {x y A C : Nat} (hCA : C ≤ A) (hyx : y ≤ x) : Leh x y A C A C 1 0 0 1 1 :=
  ⟨.inl rfl, by omega, by omega, by omega, .inl ⟨rfl, rfl, rfl, rfl, rfl⟩, by omega, by omega, hCA, by omega, by omega, x, y, by omega, by omega, hyx, Nat.le_refl _, Nat.le_refl _, rfl, by omega⟩

theorem lin_lt {m n z D : Nat} (h1 : n ≤ m) (h2 : 1 ≤ m) (hz : z < D) : n * z < m * D := by
  rcases Nat.eq_zero_or_pos n with h | h
  · subst h; rw [Nat.zero_mul]; exact Nat.mul_pos (by omega) (by omega)
  · have e1 : n * z < n * D := Nat.mul_lt_mul_of_pos_left hz h
    have e2 : n * D ≤ m * D := Nat.mul_le_mul_right _ h1
    omega

theorem Leh.top {x y A C a b xa ya xb yb : Nat} {e : Int} (h : Leh x y A C a b xa ya xb yb e) : a ≤ A := by
  have h1 := h.area
  have := Nat.mul_le_mul_left a h.one
  omega

/-- No share of the next remainder leaves a word. -/
theorem Leh.room {x y A C a b xa ya xb yb : Nat} {e : Int} (h : Leh x y A C a b xa ya xb yb e) (hb : 0 < b) :
    (ya + a / b * yb) * b ≤ A ∧ ya + a / b * yb ≤ A ∧ xa + a / b * xb ≤ ya + a / b * yb ∧ 1 ≤ a / b := by
  have h1 := h.area
  have h2 := Nat.div_mul_le_self a b
  have h4 : (ya + a / b * yb) * b ≤ A := by
    have : a / b * yb * b ≤ a * yb := by
      rw [Nat.mul_right_comm]; exact Nat.mul_le_mul_right _ h2
    rw [Nat.add_mul, h1, Nat.mul_comm ya b]; omega
  have h5 : ya + a / b * yb ≤ A := by
    have : (ya + a / b * yb) * 1 ≤ (ya + a / b * yb) * b := Nat.mul_le_mul_left _ hb
    omega
  have hq : 1 ≤ a / b := (Nat.le_div_iff_mul_le hb).2 (by have := h.low; omega)
  refine ⟨h4, h5, ?_, hq⟩
  have e1 : a / b * xb ≤ a / b * yb := Nat.mul_le_mul_left _ h.less
  rcases h.start with ⟨s1, s2, s3, s4, _⟩ | ⟨s1, _⟩
  · subst s1; subst s2; subst s3; subst s4; omega
  · omega

theorem leh_id {r s q t D e xa ya xb yb x y A C x0 y0 a b X Y : Int} (hr : r = e * (xa * x - ya * y)) (hs : s = e * (yb * y - xb * x)) (wa : a = e * (xa * A - ya * C)) (wb : b = e * (yb * C - xb * A))
    (ht : t = a - b * q) (hX : X = xa + q * xb) (hY : Y = ya + q * yb) (hx : x = A * D + x0) (hy : y = C * D + y0) :
    r - q * s = t * D + e * (X * x0 - Y * y0) ∧ s = b * D + e * (yb * y0 - xb * x0) ∧ t = -e * (Y * C - X * A) ∧ r - q * s = -e * (Y * y - X * x) := by
  subst ht hX hY
  subst hr hs wa wb
  subst hx hy
  refine ⟨?_, ?_, ?_, ?_⟩ <;> grind

theorem Leh.step {x y A C a b xa ya xb yb D x0 y0 : Nat} {e : Int} (h : Leh x y A C a b xa ya xb yb e) (hx : x = A * D + x0) (hy : y = C * D + y0) (hx0 : x0 < D) (hy0 : y0 < D) (hb : 0 < b)
    (hA : A < 18446744073709551616) (t1 : ya + a / b * yb ≤ a % b) (t2 : yb + (ya + a / b * yb) ≤ b - a % b) :
    Leh x y A C b (a % b) xb yb (xa + a / b * xb) (ya + a / b * yb) (-e) := by
  obtain ⟨m1, m2, m3, hq⟩ := h.room hb
  have hd := Nat.div_add_mod a b
  have hlt : a % b < b := Nat.mod_lt _ hb
  have h1 := h.area
  have h2 := h.one
  have w1 := h.wa
  have w2 := h.wb
  obtain ⟨r, s, hr, hs, hsr, hrx, hsy, hg, hst⟩ := h.real
  generalize a / b = q at *
  generalize a % b = t at *
  obtain ⟨X, hX⟩ : ∃ X, X = xa + q * xb := ⟨_, rfl⟩
  obtain ⟨Y, hY⟩ : ∃ Y, Y = ya + q * yb := ⟨_, rfl⟩
  rw [← hX, ← hY]
  rw [← hY] at m1 m2 m3 t1 t2
  rw [← hX] at m3
  have hY1 : 1 ≤ Y := by
    have := Nat.mul_le_mul hq h2; omega
  have fitY : Y < 4294967296 := by
    apply Classical.byContradiction
    intro hh
    have : 4294967296 * (4294967296 + 4294967296) ≤ Y * b := Nat.mul_le_mul (by omega) (by omega)
    omega
  have n1 : X * x0 < t * D := lin_lt (by omega) (by omega) hx0
  have n2 : Y * y0 < t * D := lin_lt t1 (by omega) hy0
  have n3 : (xb + X) * x0 < (b - t) * D := lin_lt (by have := h.less; omega) (by omega) hx0
  have n4 : (yb + Y) * y0 < (b - t) * D := lin_lt t2 (by omega) hy0
  rw [Nat.add_mul] at n3 n4
  rw [Nat.sub_mul] at n3 n4
  have hadI : (b : Int) * q + t = a := by exact_mod_cast hd
  have hXI : (X : Int) = xa + q * xb := by exact_mod_cast hX
  have hYI : (Y : Int) = ya + q * yb := by exact_mod_cast hY
  have hxI : (x : Int) = A * D + x0 := by exact_mod_cast hx
  have hyI : (y : Int) = C * D + y0 := by exact_mod_cast hy
  have key := leh_id hr hs w1 w2 (t := (t : Int)) (by omega) hXI hYI hxI hyI
  obtain ⟨k1, k2, k3, k4⟩ := key
  have kk : (q : Int) * s = ((q * s : Nat) : Int) := by push_cast; rfl
  have kt : (t : Int) * D = ((t * D : Nat) : Int) := by push_cast; rfl
  have kb : (b : Int) * D = ((b * D : Nat) : Int) := by push_cast; rfl
  have kX : (X : Int) * x0 = ((X * x0 : Nat) : Int) := by push_cast; rfl
  have kY : (Y : Int) * y0 = ((Y * y0 : Nat) : Int) := by push_cast; rfl
  have ky : (yb : Int) * y0 = ((yb * y0 : Nat) : Int) := by push_cast; rfl
  have kx : (xb : Int) * x0 = ((xb * x0 : Nat) : Int) := by push_cast; rfl
  rw [kk, kt, kX, kY] at k1
  rw [kb, ky, kx] at k2
  have hle : q * s ≤ r ∧ r - q * s < s := by
    rcases h.sgn with rfl | rfl <;> omega
  refine ⟨?_, ?_, m3, hY1, .inr ⟨h.less, h2⟩, fitY, h.fit, Nat.le_of_lt hlt, ?_, k3, s, r - q * s, ?_, ?_, Nat.le_of_lt hle.2, ?_, ?_, ?_, ?_⟩
  · rcases h.sgn with rfl | rfl
    · exact .inr rfl
    · exact .inl rfl
  · rw [h1, ← hd, hY, Nat.add_mul, Nat.mul_add, Nat.mul_comm q yb, Nat.mul_assoc, Nat.mul_comm q yb]; omega
  · rw [w2, Int.neg_mul, ← Int.mul_neg, Int.neg_sub]
  · rw [hs, Int.neg_mul, ← Int.mul_neg, Int.neg_sub]
  · have : ((r - q * s : Nat) : Int) = r - ((q * s : Nat) : Int) := by omega
    rw [this, ← kk]; exact k4
  · omega
  · omega
  · rw [← hg, Nat.gcd_comm r s]
    have e1 : r = (r - q * s) + q * s := by omega
    conv => rhs; rw [e1]
    simp
  · intro _; omega

theorem Leh.even {x y A C a b xa ya xb yb : Nat} (h : Leh x y A C a b xa ya xb yb 1) : ∃ r s : Nat, r + ya * y = xa * x ∧ s + xb * x = yb * y ∧ s ≤ r ∧ r ≤ x ∧ s ≤ y ∧ Nat.gcd r s = Nat.gcd x y ∧ (1 ≤ ya → s < y) := by
  obtain ⟨r, s, h1, h2, h3⟩ := h.real
  refine ⟨r, s, ?_, ?_, h3⟩
  · have : ((r + ya * y : Nat) : Int) = ((xa * x : Nat) : Int) := by rw [Int.natCast_add, Int.natCast_mul, Int.natCast_mul, h1]; omega
    exact_mod_cast this
  · have : ((s + xb * x : Nat) : Int) = ((yb * y : Nat) : Int) := by rw [Int.natCast_add, Int.natCast_mul, Int.natCast_mul, h2]; omega
    exact_mod_cast this
theorem Leh.odd {x y A C a b xa ya xb yb : Nat} (h : Leh x y A C a b xa ya xb yb (-1)) : ∃ r s : Nat, r + xa * x = ya * y ∧ s + yb * y = xb * x ∧ s ≤ r ∧ r ≤ x ∧ s ≤ y ∧ Nat.gcd r s = Nat.gcd x y ∧ (1 ≤ ya → s < y) := by
  obtain ⟨r, s, h1, h2, h3⟩ := h.real
  refine ⟨r, s, ?_, ?_, h3⟩
  · have : ((r + xa * x : Nat) : Int) = ((ya * y : Nat) : Int) := by rw [Int.natCast_add, Int.natCast_mul, Int.natCast_mul, h1]; omega
    exact_mod_cast this
  · have : ((s + yb * y : Nat) : Int) = ((xb * x : Nat) : Int) := by rw [Int.natCast_add, Int.natCast_mul, Int.natCast_mul, h2]; omega
    exact_mod_cast this

/-- The word at a place, and as many bits of the limb below it. -/
def lead (xs : List Nat) (P s : Nat) : Nat := (dg xs (P + 1) + 4294967296 * dg xs (P + 2)) * 2 ^ s + dg xs P / 2 ^ (32 - s)
theorem shift_parts {s : Nat} (hs : s ≤ 31) : 2 ^ s * 2 ^ (32 - s) = B ∧ 0 < 2 ^ s ∧ 0 < 2 ^ (32 - s) := ⟨by rw [← Nat.pow_add, show s + (32 - s) = 32 by omega]; rfl, Nat.pow_pos (by omega), Nat.pow_pos (by omega)⟩
theorem lead_lt {xs : List Nat} {P s : Nat} (hf : Fits xs) (hs : s ≤ 31) (hov : dg xs (P + 2) * 2 ^ s < 4294967296) : lead xs P s < 18446744073709551616 := by
  obtain ⟨e, hp, hq⟩ := shift_parts hs
  have h0 := hf P
  have h1 := hf (P + 1)
  unfold lead
  generalize dg xs P = c at *
  generalize dg xs (P + 1) = a at *
  generalize dg xs (P + 2) = b at *
  generalize 2 ^ s = S at *
  generalize 2 ^ (32 - s) = T at *
  rw [B_eq] at e
  have hb : b + 1 ≤ T := by
    have : b * S < T * S := by rw [Nat.mul_comm T]; omega
    exact Nat.lt_of_mul_lt_mul_right this
  have h3 := Nat.mul_le_mul_right S (show a + 4294967296 * b + 1 ≤ 4294967296 * T by omega)
  rw [Nat.mul_assoc, Nat.mul_comm T, e, Nat.add_mul _ 1] at h3
  have h4 : c / T < S := by rw [Nat.div_lt_iff_lt_mul hq, e]; exact h0
  omega
/-- The leading word is what is left without the lower bits. -/
theorem lead_val {xs : List Nat} {P s : Nat} (hf : Fits xs) (hs : s ≤ 31) (hl : xs.length ≤ P + 3) : ∃ x0, x0 < B ^ P * 2 ^ (32 - s) ∧ val xs = lead xs P s * (B ^ P * 2 ^ (32 - s)) + x0 := by
  obtain ⟨e, hp, hq⟩ := shift_parts hs
  have e1 := val_take_succ xs (P + 2)
  rw [List.take_of_length_le (by omega), val_take_succ xs (P + 1), val_take_succ xs P] at e1
  have h0 : val (xs.take P) < B ^ P := by
    have h1 := val_lt (hf.take P)
    have h2 : B ^ (xs.take P).length ≤ B ^ P := Nat.pow_le_pow_right B_pos (by rw [List.length_take]; omega)
    omega
  refine ⟨val (xs.take P) + dg xs P % 2 ^ (32 - s) * B ^ P, ?_, ?_⟩
  · have h1 : dg xs P % 2 ^ (32 - s) + 1 ≤ 2 ^ (32 - s) := Nat.mod_lt _ hq
    have h2 := Nat.mul_le_mul_left (B ^ P) h1
    rw [Nat.mul_add, Nat.mul_one, Nat.mul_comm] at h2
    omega
  · unfold lead
    have h1 := Nat.div_add_mod (dg xs P) (2 ^ (32 - s))
    rw [e1, ← B_eq]
    generalize dg xs P / 2 ^ (32 - s) = y at *
    generalize dg xs P % 2 ^ (32 - s) = z at *
    generalize dg xs (P + 1) = a at *
    generalize dg xs (P + 2) = b at *
    generalize val (xs.take P) = v at *
    rw [← h1, Nat.pow_succ, show P + 2 = P + 1 + 1 from rfl, Nat.pow_succ, Nat.pow_succ]
    generalize B ^ P = Q at *
    generalize 2 ^ s = S at *
    generalize 2 ^ (32 - s) = T at *
    rw [← e]
    clear e1 h0 h1 e hp hq
    grind
theorem lead_le {xs ys : List Nat} {P s : Nat} (hx : Fits xs) (hy : Fits ys) (hs : s ≤ 31) (hl : xs.length ≤ P + 3) (hl' : ys.length ≤ P + 3) (h : val ys ≤ val xs) : lead ys P s ≤ lead xs P s ∧ dg ys (P + 2) ≤ dg xs (P + 2) := by
  obtain ⟨x0, a1, a2⟩ := lead_val hx hs hl
  obtain ⟨y0, b1, b2⟩ := lead_val hy hs hl'
  constructor
  · apply Classical.byContradiction
    intro hh
    have h3 := Nat.mul_le_mul_right (B ^ P * 2 ^ (32 - s)) (show lead xs P s + 1 ≤ lead ys P s by omega)
    rw [Nat.add_mul] at h3
    omega
  · apply Classical.byContradiction
    intro hh
    have e1 := val_take_succ xs (P + 2)
    have e2 := val_take_succ ys (P + 2)
    rw [List.take_of_length_le (by omega)] at e1 e2
    have h1 := val_lt (hx.take (P + 2))
    have h2 : B ^ (xs.take (P + 2)).length ≤ B ^ (P + 2) := Nat.pow_le_pow_right B_pos (by rw [List.length_take]; omega)
    have h3 := Nat.mul_le_mul_right (B ^ (P + 2)) (show dg xs (P + 2) + 1 ≤ dg ys (P + 2) by omega)
    rw [Nat.add_mul] at h3
    omega

end Num
end Go.Proofs.YtokojbgpboccnaaGreat

/-
  THE EXTENDED EUCLIDEAN ALGORITHM, on integers (nothing of a program).
-/
namespace Go.Proofs.YtokojbgpboccnaaGreat
namespace Num
set_option linter.unusedVariables false

/-- The greatest divisor of both and how it is made of them, by the document's recursion. -/
def zg (a b : Int) : Int × Int × Int :=
  if h : b = 0 then ((a.natAbs : Int), a.sign, 0)
  else
    let t := zg b (a % b)
    (t.1, t.2.2, t.2.1 - a / b * t.2.2)
termination_by b.natAbs
decreasing_by
  have h1 := Int.emod_nonneg a h
  have h2 := Int.emod_lt a h
  omega

end Num
end Go.Proofs.YtokojbgpboccnaaGreat

/-
  PLAIN NUMBERS to the base 10000, four digits a place, the least one first: their value. Nothing of a program.
-/
namespace Go.Proofs.YtokojbgpboccnaaGreat
namespace Num4
open Num (dg dg_lt dg_ge dg_zeros dg_take dg_drop dg_set_self dg_set_ne tl tlen tl_zero tl_skip tl_stop tl_le tlen_le trimL length_trimL tl_top drop_dg)

def B : Nat := 10000
theorem B_eq : B = 10000 := rfl
theorem B_pos : 0 < B := by decide
/-- The value of limbs, the least one first. -/
def val : List Nat → Nat
  | [] => 0
  | x :: xs => x + B * val xs
theorem val_nil : val [] = 0 := rfl
theorem val_cons (x : Nat) (xs : List Nat) : val (x :: xs) = x + B * val xs := rfl
theorem val_append (a b : List Nat) : val (a ++ b) = val a + B ^ a.length * val b := by
  induction a with
  | nil => simp [val]
  | cons x xs ih => simp only [List.cons_append, val_cons, ih, List.length_cons, Nat.pow_succ]; rw [Nat.mul_add, Nat.mul_comm (B ^ xs.length) B, Nat.mul_assoc]; omega
theorem val_split' (l : List Nat) (k : Nat) : val l = val (l.take k) + B ^ (l.take k).length * val (l.drop k) := by
  have := val_append (l.take k) (l.drop k)
  rw [List.take_append_drop] at this
  exact this
theorem val_single (x : Nat) : val [x] = x := by simp [val]
/-- One place more is read: what lies beyond the end counts 0. -/
theorem val_take_succ (l : List Nat) (k : Nat) : val (l.take (k + 1)) = val (l.take k) + dg l k * B ^ k := by
  by_cases h : k < l.length
  · rw [List.take_succ_eq_append_getElem h, val_append, val_single, List.length_take, Nat.min_eq_left (by omega), dg_lt h, Nat.mul_comm]
  · rw [List.take_of_length_le (by omega), List.take_of_length_le (by omega), dg_ge (by omega)]; omega
theorem val_take_all (l : List Nat) (k : Nat) (h : l.length ≤ k) : val (l.take k) = val l := by rw [List.take_of_length_le h]
/-- A limb is written behind those that were read. -/
theorem val_take_set (l : List Nat) (k x : Nat) (h : k < l.length) : val ((l.set k x).take (k + 1)) = val (l.take k) + x * B ^ k := by
  rw [val_take_succ, List.take_set_of_le (Nat.le_refl k)]
  rw [dg_lt (by simpa using h), List.getElem_set_self]
/-- One limb is written. -/
theorem val_set (l : List Nat) (k x : Nat) (h : k < l.length) : val (l.set k x) + dg l k * B ^ k = val l + x * B ^ k := by
  have e1 := val_split' (l.set k x) (k + 1)
  have e2 := val_split' l (k + 1)
  rw [List.drop_set_of_lt (by omega)] at e1
  rw [List.length_take, List.length_set] at e1
  rw [List.length_take] at e2
  have h1 := val_take_set l k x h
  have h2 := val_take_succ l k
  omega
/-- All limbs fit. -/
def Fits (l : List Nat) : Prop := ∀ i, dg l i < 10000
theorem Fits.nil : Fits [] := fun i => by simp [dg]
theorem Fits.take {l : List Nat} (h : Fits l) (k : Nat) : Fits (l.take k) := fun i => by
  have := h i
  simp only [dg, List.getElem?_take] at this ⊢
  split <;> simp_all
theorem Fits.drop {l : List Nat} (h : Fits l) (k : Nat) : Fits (l.drop k) := fun i => by
  have := h (k + i)
  simp only [dg, List.getElem?_drop] at this ⊢
  exact this
theorem Fits.set {l : List Nat} (h : Fits l) (k x : Nat) (hx : x < 10000) : Fits (l.set k x) := fun i => by
  by_cases e : i = k
  · subst e
    by_cases hl : i < l.length
    · rw [dg_set_self _ _ _ hl]; exact hx
    · rw [dg_ge (by simp; omega)]; omega
  · rw [dg_set_ne _ _ _ _ e]; exact h i
theorem Fits.append {a b : List Nat} (ha : Fits a) (hb : Fits b) : Fits (a ++ b) := fun i => by
  by_cases h : i < a.length
  · have := ha i
    simp only [dg] at this ⊢
    rw [List.getElem?_append_left h]; exact this
  · have := hb (i - a.length)
    simp only [dg] at this ⊢
    rw [List.getElem?_append_right (by omega)]; exact this
theorem Fits.single {x : Nat} (h : x < 10000) : Fits [x] := fun i => by
  match i with
  | 0 => simpa [dg] using h
  | i + 1 => simp [dg]
theorem Fits.zeros (n : Nat) : Fits (List.replicate n 0) := fun i => by
  simp only [dg, List.getElem?_replicate]; split <;> simp
theorem Fits.cons {x : Nat} {l : List Nat} (h : Fits (x :: l)) : x < 10000 ∧ Fits l := ⟨by simpa [dg] using h 0, fun i => by simpa [dg] using h (i + 1)⟩
theorem val_lt {l : List Nat} (h : Fits l) : val l < B ^ l.length := by
  induction l with
  | nil => simp [val]
  | cons x xs ih =>
    obtain ⟨h1, h2⟩ := h.cons
    have := ih h2
    rw [val_cons, List.length_cons, Nat.pow_succ, Nat.mul_comm (B ^ xs.length) B]
    have h3 : val xs + 1 ≤ B ^ xs.length := this
    have h4 := Nat.mul_le_mul_left B h3
    rw [Nat.mul_add] at h4
    simp only [B_eq] at h4 ⊢
    omega
theorem val_zeros (n : Nat) : val (List.replicate n 0) = 0 := by
  induction n with
  | zero => rfl
  | succ n ih => rw [List.replicate_succ, val_cons, ih]; rfl
/-- No leading nought. -/
def Trim (l : List Nat) : Prop := l = [] ∨ 0 < dg l (l.length - 1)
theorem Trim.low {l : List Nat} (h : Trim l) (hn : l ≠ []) : B ^ (l.length - 1) ≤ val l := by
  rcases h with h | h
  · exact absurd h hn
  · have hl : 0 < l.length := List.length_pos_iff.2 hn
    have e := val_take_succ l (l.length - 1)
    rw [Nat.sub_add_cancel hl, List.take_length] at e
    rw [e]
    have := Nat.mul_le_mul_right (B ^ (l.length - 1)) h
    omega
theorem Trim.zero_iff {l : List Nat} (h : Trim l) : val l = 0 ↔ l = [] := by
  constructor
  · intro e
    apply Classical.byContradiction
    intro hn
    have := h.low hn
    have hp : 0 < B ^ (l.length - 1) := Nat.pow_pos B_pos
    omega
  · rintro rfl; rfl
/-- The greater length, the greater number. -/
theorem lt_of_length {x y : List Nat} (hx : Fits x) (hy : Trim y) (h : x.length < y.length) : val x < val y := by
  have hn : y ≠ [] := by intro e; subst e; simp at h
  have h1 := val_lt hx
  have h2 := hy.low hn
  have h3 : B ^ x.length ≤ B ^ (y.length - 1) := Nat.pow_le_pow_right B_pos (by omega)
  omega
theorem length_le_of_val {x : List Nat} (hx : Trim x) (k : Nat) (h : val x < B ^ k) : x.length ≤ k := by
  apply Classical.byContradiction
  intro hn
  have hne : x ≠ [] := by intro e; subst e; simp at hn
  have h2 := hx.low hne
  have h3 : B ^ k ≤ B ^ (x.length - 1) := Nat.pow_le_pow_right B_pos (by omega)
  omega
/-- Two numbers of like limbs from place k on are compared by the limbs below. -/
theorem val_split (l : List Nat) (k : Nat) : val l = val (l.take k) + B ^ k * val (l.drop k) := by
  by_cases h : k ≤ l.length
  · have := val_append (l.take k) (l.drop k)
    rw [List.take_append_drop, List.length_take, Nat.min_eq_left h] at this
    exact this
  · rw [List.take_of_length_le (by omega), List.drop_eq_nil_of_le (by omega)]; simp [val]
/-- The part of a step: the low limb stays, the rest is carried. -/
theorem carry_split (s p : Nat) : (s % 10000) * p + (s / 10000) * (p * B) = s * p := by
  have h := Nat.div_add_mod s 10000
  have e : s * p = (10000 * (s / 10000) + s % 10000) * p := by rw [h]
  rw [e, Nat.add_mul, B_eq, Nat.mul_comm p 10000, ← Nat.mul_assoc, Nat.mul_comm (s / 10000) 10000]
  omega
theorem val_take_tl (l : List Nat) (n : Nat) : val (l.take (tl l n)) = val (l.take n) := by
  induction n with
  | zero => rfl
  | succ n ih =>
    by_cases h : dg l n = 0
    · rw [tl_skip h, ih, val_take_succ, h]; omega
    · rw [tl_stop h]
theorem val_trimL (l : List Nat) : val (trimL l) = val l := by
  rw [trimL, tlen, val_take_tl, List.take_length]
theorem trim_trimL (l : List Nat) : Trim (trimL l) := by
  by_cases h : tlen l = 0
  · left; rw [trimL, h, List.take_zero]
  · right
    rw [length_trimL, trimL, dg_take (by omega)]
    have := tl_top l l.length (by rw [← tlen]; omega)
    rw [← tlen] at this
    omega
theorem fits_trimL {l : List Nat} (h : Fits l) : Fits (trimL l) := h.take _
/-- Of two numbers that are alike above limb k this limb decides, if it is not alike. -/
theorem val_lt_of_top {x y : List Nat} {k : Nat} (hx : Fits x) (hy : Fits y) (hd : x.drop (k + 1) = y.drop (k + 1)) (h1 : k < x.length) (h2 : k < y.length) (hne : dg x k ≠ dg y k) :
    val x < val y ↔ dg x k < dg y k := by
  have e1 := val_split x (k + 1)
  have e2 := val_split y (k + 1)
  rw [val_take_succ] at e1 e2
  rw [hd] at e1
  have b1 := val_lt (hx.take k)
  have b2 := val_lt (hy.take k)
  rw [List.length_take, Nat.min_eq_left (by omega)] at b1 b2
  generalize hP : B ^ k = P at *
  generalize B ^ (k + 1) * val (y.drop (k + 1)) = T at *
  constructor
  · intro h
    apply Classical.byContradiction
    intro hn
    have h3 : dg y k + 1 ≤ dg x k := by omega
    have h4 := Nat.mul_le_mul_right P h3
    rw [Nat.add_mul] at h4
    omega
  · intro h
    have h3 : dg x k + 1 ≤ dg y k := by omega
    have h4 := Nat.mul_le_mul_right P h3
    rw [Nat.add_mul] at h4
    omega

end Num4
end Go.Proofs.YtokojbgpboccnaaGreat

/-
  POLYNOMIALS as lists of coefficients: values, sums, products, derivatives, what is moved, what is left. Nothing of a program.
-/
namespace Go.Proofs.YtokojbgpboccnaaGreat
set_option linter.unusedVariables false
/-- A coefficient. -/
def co (l : List Rat) (i : Nat) : Rat := l[i]?.getD 0
theorem co_nil (i : Nat) : co [] i = 0 := by simp [co]
theorem co_zero (a : Rat) (l : List Rat) : co (a :: l) 0 = a := by simp [co]
theorem co_succ (a : Rat) (l : List Rat) (i : Nat) : co (a :: l) (i + 1) = co l i := by simp [co]
theorem co_ge {l : List Rat} {i : Nat} (h : l.length ≤ i) : co l i = 0 := by simp [co, h]
/-- The value. -/
def pv : List Rat → Rat → Rat
  | [], _ => 0
  | a :: l, x => a + x * pv l x
theorem pv_nil (x : Rat) : pv [] x = 0 := rfl
theorem pv_cons (a : Rat) (l : List Rat) (x : Rat) : pv (a :: l) x = a + x * pv l x := rfl
theorem pv_zero {l : List Rat} (h : ∀ i, co l i = 0) (x : Rat) : pv l x = 0 := by
  induction l with
  | nil => rfl
  | cons a l ih =>
    have h0 := h 0
    rw [co_zero] at h0
    rw [pv_cons, ih (fun i => by rw [← co_succ a]; exact h (i + 1)), h0]
    grind
theorem pv_congr : ∀ {l m : List Rat}, (∀ i, co l i = co m i) → ∀ x, pv l x = pv m x := by
  intro l
  induction l with
  | nil => intro m h x; rw [pv_nil, pv_zero (fun i => by rw [← h i, co_nil])]
  | cons a l ih =>
    intro m h x
    cases m with
    | nil => rw [pv_nil, pv_zero (fun i => by rw [h i, co_nil])]
    | cons b m =>
      have h0 := h 0
      rw [co_zero, co_zero] at h0
      rw [pv_cons, pv_cons, ih (m := m) (fun i => by have := h (i + 1); rwa [co_succ, co_succ] at this) x, h0]
/-- Divided by x less r. -/
def syn : List Rat → Rat → List Rat
  | [], _ => []
  | _ :: l, r => match l with
    | [] => []
    | _ :: _ => pv l r :: syn l r
theorem syn_len (l : List Rat) (r : Rat) : (syn l r).length = l.length - 1 := by
  induction l with
  | nil => rfl
  | cons a l ih =>
    cases l with
    | nil => rfl
    | cons b l => show (pv (b :: l) r :: syn (b :: l) r).length = _; rw [List.length_cons, ih]; simp
theorem syn_pv (l : List Rat) (r x : Rat) : pv l x = pv l r + (x - r) * pv (syn l r) x := by
  induction l with
  | nil => simp [pv, syn]; grind
  | cons a l ih =>
    cases l with
    | nil => simp [pv, syn]; grind
    | cons b l =>
      show a + x * pv (b :: l) x = a + r * pv (b :: l) r + (x - r) * (pv (b :: l) r + x * pv (syn (b :: l) r) x)
      rw [ih]
      generalize pv (b :: l) r = v
      generalize pv (syn (b :: l) r) x = y
      grind
/-- What is nought from some natural on has no coefficient but nought. -/
theorem co_of_zero : ∀ (n : Nat) (l : List Rat), l.length ≤ n → ∀ N : Nat, (∀ k : Nat, N ≤ k → pv l (k : Rat) = 0) → ∀ i, co l i = 0 := by
  intro n
  induction n with
  | zero =>
    intro l hl N h i
    have : l = [] := List.length_eq_zero_iff.1 (by omega)
    rw [this, co_nil]
  | succ n ih =>
    intro l hl N h
    have hN := h N (Nat.le_refl _)
    have hs : ∀ i, co (syn l N) i = 0 := by
      refine ih _ (by rw [syn_len]; omega) (N + 1) fun k hk => ?_
      have h1 := syn_pv l N k
      rw [h k (by omega), hN] at h1
      have hne : (k : Rat) - (N : Rat) ≠ 0 := by
        have : (N : Rat) < (k : Rat) := by exact_mod_cast hk
        grind
      have h2 : ((k : Rat) - N) * pv (syn l N) k = 0 := by grind
      rcases Rat.mul_eq_zero.1 h2 with h3 | h3
      · exact absurd h3 hne
      · exact h3
    -- the value is the same everywhere: nought
    have hv : ∀ x, pv l x = 0 := by
      intro x
      rw [syn_pv l N x, hN, pv_zero hs]
      grind
    clear hs hN h
    -- so each coefficient in turn
    cases l with
    | nil => intro i; exact co_nil i
    | cons a l =>
      have h0 := hv 0
      rw [pv_cons] at h0
      have ha : a = 0 := by grind
      have hl2 : ∀ i, co l i = 0 := by
        refine ih l (by simpa using hl) 1 fun k hk => ?_
        have h1 := hv k
        rw [pv_cons, ha] at h1
        have hk0 : (k : Rat) ≠ 0 := by
          have : (0 : Rat) < (k : Rat) := by exact_mod_cast hk
          grind
        have h2 : (k : Rat) * pv l k = 0 := by grind
        rcases Rat.mul_eq_zero.1 h2 with h3 | h3
        · exact absurd h3 hk0
        · exact h3
      intro i
      cases i with
      | zero => rw [co_zero, ha]
      | succ i => rw [co_succ]; exact hl2 i
/-- Sums, place by place. -/
def padd : List Rat → List Rat → List Rat
  | [], m => m
  | a :: l, [] => a :: l
  | a :: l, b :: m => (a + b) :: padd l m
theorem padd_nil (l : List Rat) : padd l [] = l := by cases l <;> rfl
theorem co_padd : ∀ (l m : List Rat) (i : Nat), co (padd l m) i = co l i + co m i := by
  intro l
  induction l with
  | nil => intro m i; rw [co_nil]; show co m i = 0 + co m i; grind
  | cons a l ih =>
    intro m i
    cases m with
    | nil => rw [padd_nil, co_nil]; grind
    | cons b m =>
      show co ((a + b) :: padd l m) i = _
      cases i with
      | zero => rw [co_zero, co_zero, co_zero]
      | succ i => rw [co_succ, co_succ, co_succ, ih]
theorem pv_padd : ∀ (l m : List Rat) (x : Rat), pv (padd l m) x = pv l x + pv m x := by
  intro l
  induction l with
  | nil => intro m x; show pv m x = 0 + pv m x; grind
  | cons a l ih =>
    intro m x
    cases m with
    | nil => rw [padd_nil, pv_nil]; grind
    | cons b m =>
      show (a + b) + x * pv (padd l m) x = (a + x * pv l x) + (b + x * pv m x)
      rw [ih]; grind
def psc (c : Rat) (l : List Rat) : List Rat := l.map (c * ·)
theorem co_psc (c : Rat) : ∀ (l : List Rat) (i : Nat), co (psc c l) i = c * co l i := by
  intro l
  induction l with
  | nil => intro i; show co [] i = _; rw [co_nil]; grind
  | cons a l ih =>
    intro i
    show co (c * a :: psc c l) i = _
    cases i with
    | zero => rw [co_zero, co_zero]
    | succ i => rw [co_succ, co_succ, ih]
theorem pv_psc (c : Rat) : ∀ (l : List Rat) (x : Rat), pv (psc c l) x = c * pv l x := by
  intro l
  induction l with
  | nil => intro x; show (0 : Rat) = c * 0; grind
  | cons a l ih => intro x; show c * a + x * pv (psc c l) x = c * (a + x * pv l x); rw [ih]; grind
/-- **Two polynomials with the same value everywhere have the same coefficients.** -/
theorem co_of_pv {l m : List Rat} (h : ∀ x, pv l x = pv m x) (i : Nat) : co l i = co m i := by
  have h1 : ∀ x, pv (padd l (psc (-1) m)) x = 0 := by
    intro x
    rw [pv_padd, pv_psc, h]
    grind
  have h2 := co_of_zero _ _ (Nat.le_refl _) 0 (fun k _ => h1 k) i
  rw [co_padd, co_psc] at h2
  grind
/-- Products. -/
def mulr : List Rat → List Rat → List Rat
  | [], _ => []
  | a :: l, m => padd (psc a m) (0 :: mulr l m)
theorem pv_mulr : ∀ (l m : List Rat) (x : Rat), pv (mulr l m) x = pv l x * pv m x := by
  intro l
  induction l with
  | nil => intro m x; show (0 : Rat) = 0 * _; grind
  | cons a l ih =>
    intro m x
    show pv (padd (psc a m) (0 :: mulr l m)) x = (a + x * pv l x) * pv m x
    rw [pv_padd, pv_psc, pv_cons, ih]
    grind
/-- Sums of so many. -/
def sumN (f : Nat → Rat) : Nat → Rat
  | 0 => 0
  | n + 1 => sumN f n + f n
theorem sumN_congr {f g : Nat → Rat} {n : Nat} (h : ∀ k, k < n → f k = g k) : sumN f n = sumN g n := by
  induction n with
  | zero => rfl
  | succ n ih => show sumN f n + f n = sumN g n + g n; rw [ih (fun k hk => h k (by omega)), h n (by omega)]
theorem sumN_zero {f : Nat → Rat} {n : Nat} (h : ∀ k, k < n → f k = 0) : sumN f n = 0 := by
  induction n with
  | zero => rfl
  | succ n ih => show sumN f n + f n = 0; rw [ih (fun k hk => h k (by omega)), h n (by omega)]; grind
theorem sumN_head (f : Nat → Rat) : ∀ n, sumN f (n + 1) = f 0 + sumN (fun k => f (k + 1)) n := by
  intro n
  induction n with
  | zero => show (0 : Rat) + f 0 = f 0 + 0; grind
  | succ n ih => show sumN f (n + 1) + f (n + 1) = f 0 + (sumN (fun k => f (k + 1)) n + f (n + 1)); rw [ih]; grind
theorem sumN_more (f : Nat → Rat) {n m : Nat} (h : n ≤ m) (h0 : ∀ k, n ≤ k → k < m → f k = 0) : sumN f m = sumN f n := by
  induction m with
  | zero => have : n = 0 := by omega
            rw [this]
  | succ m ih =>
    by_cases hm : n = m + 1
    · rw [hm]
    · show sumN f m + f m = _
      rw [ih (by omega) (fun k h1 h2 => h0 k h1 (by omega)), h0 m (by omega) (by omega)]
      grind
def cnv (l m : List Rat) (i : Nat) : Rat := sumN (fun k => co l k * co m (i - k)) (i + 1)
theorem co_mulr : ∀ (l m : List Rat) (i : Nat), co (mulr l m) i = cnv l m i := by
  intro l
  induction l with
  | nil =>
    intro m i
    show co [] i = _
    rw [co_nil, cnv, sumN_zero]
    intro k _
    rw [co_nil]
    grind
  | cons a l ih =>
    intro m i
    show co (padd (psc a m) (0 :: mulr l m)) i = _
    rw [co_padd, co_psc, cnv, sumN_head]
    cases i with
    | zero =>
      rw [co_zero, co_zero]
      show a * co m 0 + 0 = a * co m 0 + 0
      rfl
    | succ i =>
      rw [co_succ, ih, cnv, co_zero]
      congr 1
      refine sumN_congr fun k hk => ?_
      rw [co_succ, show i + 1 - (k + 1) = i - k by omega]
theorem cnv_big {l m : List Rat} {i : Nat} (h : l.length + m.length ≤ i + 1) : cnv l m i = 0 := by
  refine sumN_zero fun k hk => ?_
  by_cases h1 : l.length ≤ k
  · rw [co_ge h1]; grind
  · rw [co_ge (l := m) (by omega)]; grind
theorem cnv_top {l m : List Rat} {a b : Nat} (ha : l.length = a + 1) (hb : m.length = b + 1) : cnv l m (a + b) = co l a * co m b := by
  have e : a + b + 1 = a + (b + 1) := by omega
  rw [cnv]
  have h1 : sumN (fun k => co l k * co m (a + b - k)) (a + b + 1) = sumN (fun k => co l k * co m (a + b - k)) (a + 1) := by
    refine sumN_more _ (by omega) fun k h1 h2 => ?_
    show co l k * _ = 0
    rw [co_ge (by omega)]; grind
  rw [h1]
  show sumN (fun k => co l k * co m (a + b - k)) a + co l a * co m (a + b - a) = _
  rw [sumN_zero, show a + b - a = b by omega]
  · grind
  · intro k hk
    rw [co_ge (l := m) (by omega)]; grind
/-- Without noughts at the end. -/
def trimQ : List Rat → List Rat
  | [] => []
  | a :: l => if trimQ l = [] ∧ a = 0 then [] else a :: trimQ l
theorem co_trim : ∀ (l : List Rat) (i : Nat), co (trimQ l) i = co l i := by
  intro l
  induction l with
  | nil => intro i; rfl
  | cons a l ih =>
    intro i
    rw [trimQ]
    split
    · rename_i h
      cases i with
      | zero => rw [co_nil, co_zero, h.2]
      | succ i => rw [co_nil, co_succ, ← ih, h.1, co_nil]
    · cases i with
      | zero => rw [co_zero, co_zero]
      | succ i => rw [co_succ, co_succ, ih]
theorem trim_zero {l : List Rat} (h : ∀ i, co l i = 0) : trimQ l = [] := by
  induction l with
  | nil => rfl
  | cons a l ih =>
    have h0 := h 0
    rw [co_zero] at h0
    rw [trimQ, if_pos ⟨ih (fun i => by rw [← co_succ a]; exact h (i + 1)), h0⟩]
/-- **What has the same coefficients is, trimmed, the same.** -/
theorem trim_ext : ∀ {l m : List Rat}, (∀ i, co l i = co m i) → trimQ l = trimQ m := by
  intro l
  induction l with
  | nil => intro m h; exact (trim_zero (fun i => by rw [← h i, co_nil])).symm
  | cons a l ih =>
    intro m h
    cases m with
    | nil => exact trim_zero (fun i => by rw [h i, co_nil])
    | cons b m =>
      have h0 := h 0
      rw [co_zero, co_zero] at h0
      have h1 := ih (m := m) (fun i => by have := h (i + 1); rwa [co_succ, co_succ] at this)
      rw [trimQ, trimQ, h0, h1]
def Trm (l : List Rat) : Prop := trimQ l = l
theorem trm_trim (l : List Rat) : Trm (trimQ l) := trim_ext (co_trim l)
theorem trm_ext {l m : List Rat} (hl : Trm l) (hm : Trm m) (h : ∀ i, co l i = co m i) : l = m := by
  rw [← hl, ← hm]; exact trim_ext h
theorem trim_len (l : List Rat) : (trimQ l).length ≤ l.length := by
  induction l with
  | nil => exact Nat.le_refl _
  | cons a l ih =>
    rw [trimQ]
    split
    · exact Nat.zero_le _
    · simp; exact ih
theorem trm_last {l : List Rat} (h : Trm l) (hn : l ≠ []) : co l (l.length - 1) ≠ 0 := by
  induction l with
  | nil => exact absurd rfl hn
  | cons a l ih =>
    have h' : trimQ (a :: l) = a :: l := h
    rw [trimQ] at h'
    split at h'
    · cases h'
    · rename_i hc
      have hl : trimQ l = l := (List.cons.inj h').2
      cases l with
      | nil =>
        intro e
        exact hc ⟨hl, by simpa [co] using e⟩
      | cons b l =>
        have h1 := ih hl (by simp)
        simp only [List.length_cons, Nat.add_sub_cancel] at h1 ⊢
        rw [co_succ]
        exact h1
theorem trm_of_last {l : List Rat} (h : l = [] ∨ co l (l.length - 1) ≠ 0) : Trm l := by
  induction l with
  | nil => rfl
  | cons a l ih =>
    have h1 := h.resolve_left (by simp)
    show trimQ (a :: l) = a :: l
    cases l with
    | nil =>
      rw [trimQ, if_neg]
      · rfl
      · rintro ⟨_, e⟩
        exact h1 (by simp [co, e])
    | cons b l =>
      simp only [List.length_cons, Nat.add_sub_cancel] at h1
      rw [co_succ] at h1
      have h2 : trimQ (b :: l) = b :: l := ih (.inr (by simpa using h1))
      rw [trimQ, h2, if_neg]
      rintro ⟨e, _⟩
      cases e
/-- As many coefficients as a bound says, off a function. -/
def lof (n : Nat) (f : Nat → Rat) : List Rat := (List.range n).map f
theorem co_lof (n : Nat) (f : Nat → Rat) (i : Nat) : co (lof n f) i = if i < n then f i else 0 := by
  unfold co lof
  rw [List.getElem?_map]
  by_cases h : i < n
  · rw [List.getElem?_range h, if_pos h]; rfl
  · rw [if_neg h, List.getElem?_eq_none (by simp; omega)]; rfl
/-- What the reference tells. -/
def addp (l m : List Rat) : List Rat := trimQ (lof (max l.length m.length) fun i => co l i + co m i)
def mulp (l m : List Rat) : List Rat := trimQ (lof (l.length + m.length - 1) (cnv l m))
theorem co_addp (l m : List Rat) (i : Nat) : co (addp l m) i = co l i + co m i := by
  rw [addp, co_trim, co_lof]
  split
  · rfl
  · rw [co_ge (by omega), co_ge (by omega)]; grind
theorem co_mulp (l m : List Rat) (i : Nat) : co (mulp l m) i = cnv l m i := by
  rw [mulp, co_trim, co_lof]
  split
  · rfl
  · exact (cnv_big (by omega)).symm
theorem pv_addp (l m : List Rat) (x : Rat) : pv (addp l m) x = pv l x + pv m x := by
  rw [← pv_padd]; exact pv_congr (fun i => by rw [co_addp, co_padd]) x
theorem pv_mulp (l m : List Rat) (x : Rat) : pv (mulp l m) x = pv l x * pv m x := by
  rw [← pv_mulr]; exact pv_congr (fun i => by rw [co_mulp, co_mulr]) x
theorem trm_addp (l m : List Rat) : Trm (addp l m) := trm_trim _
theorem trm_mulp (l m : List Rat) : Trm (mulp l m) := trm_trim _
/-- **Trimmed, and with the same value everywhere: the same.** -/
theorem trm_pv {l m : List Rat} (hl : Trm l) (hm : Trm m) (h : ∀ x, pv l x = pv m x) : l = m := trm_ext hl hm (co_of_pv h)
/-- The derivative, from the first coefficient on. -/
def pder : List Rat → List Rat
  | [] => []
  | _ :: l => padd l (0 :: pder l)
theorem pv_pder_cons (a : Rat) (l : List Rat) (x : Rat) : pv (pder (a :: l)) x = pv l x + x * pv (pder l) x := by
  show pv (padd l (0 :: pder l)) x = _
  rw [pv_padd, pv_cons]; grind
theorem co_pder : ∀ (l : List Rat) (i : Nat), co (pder l) i = co l (i + 1) * ((i : Rat) + 1) := by
  intro l
  induction l with
  | nil => intro i; show co [] i = _; rw [co_nil, co_nil]; grind
  | cons a l ih =>
    intro i
    show co (padd l (0 :: pder l)) i = _
    rw [co_padd, co_succ]
    cases i with
    | zero => rw [co_zero]; simp; grind
    | succ i =>
      rw [co_succ, ih]
      push_cast
      grind
theorem pv_pder_padd : ∀ (l m : List Rat) (x : Rat), pv (pder (padd l m)) x = pv (pder l) x + pv (pder m) x := by
  intro l m x
  rw [← pv_padd]
  refine pv_congr (fun i => ?_) x
  rw [co_pder, co_padd, co_padd, co_pder, co_pder]; grind
theorem pv_pder_psc (c : Rat) (l : List Rat) (x : Rat) : pv (pder (psc c l)) x = c * pv (pder l) x := by
  rw [← pv_psc]
  refine pv_congr (fun i => ?_) x
  rw [co_pder, co_psc, co_psc, co_pder]; grind
/-- **LEIBNIZ.** -/
theorem pv_leibniz : ∀ (l m : List Rat) (x : Rat), pv (pder (mulr l m)) x = pv (pder l) x * pv m x + pv l x * pv (pder m) x := by
  intro l
  induction l with
  | nil => intro m x; show (0 : Rat) = 0 * _ + 0 * _; grind
  | cons a l ih =>
    intro m x
    show pv (pder (padd (psc a m) (0 :: mulr l m))) x = _
    rw [pv_pder_padd, pv_pder_psc, pv_pder_cons, pv_pder_cons, pv_mulr, ih, pv_cons]
    grind
theorem pv_pder_congr {l m : List Rat} (h : ∀ i, co l i = co m i) (x : Rat) : pv (pder l) x = pv (pder m) x := by
  refine pv_congr (fun i => ?_) x
  rw [co_pder, co_pder, h]
/-- What the reference tells. -/
def slope (l : List Rat) : List Rat := trimQ (lof (l.length - 1) fun i => co l (i + 1) * ((i : Rat) + 1))
theorem co_slope (l : List Rat) (i : Nat) : co (slope l) i = co (pder l) i := by
  rw [slope, co_trim, co_lof, co_pder]
  split
  · rfl
  · rw [co_ge (by omega)]; grind
theorem pv_slope (l : List Rat) (x : Rat) : pv (slope l) x = pv (pder l) x := pv_congr (co_slope l) x
theorem trm_slope (l : List Rat) : Trm (slope l) := trm_trim _
theorem slope_mulp (l m : List Rat) : slope (mulp l m) = addp (mulp (slope l) m) (mulp l (slope m)) := by
  refine trm_pv (trm_slope _) (trm_addp _ _) fun x => ?_
  rw [pv_slope, pv_addp, pv_mulp, pv_mulp, pv_slope, pv_slope, ← pv_leibniz]
  exact pv_pder_congr (fun i => by rw [co_mulp, co_mulr]) x
/-- Moved: with x and a together in place of x (by Horner). -/
def pmov : List Rat → Rat → List Rat
  | [], _ => []
  | c :: l, a => padd [c] (mulr [a, 1] (pmov l a))
theorem pv_pmov : ∀ (l : List Rat) (a x : Rat), pv (pmov l a) x = pv l (x + a) := by
  intro l
  induction l with
  | nil => intro a x; rfl
  | cons c l ih =>
    intro a x
    show pv (padd [c] (mulr [a, 1] (pmov l a))) x = c + (x + a) * pv l (x + a)
    rw [pv_padd, pv_mulr, ih]
    show (c + x * 0) + (a + x * (1 + x * 0)) * _ = _
    grind
def moved (l : List Rat) (a : Rat) : List Rat := trimQ (pmov l a)
theorem pv_trim (l : List Rat) (x : Rat) : pv (trimQ l) x = pv l x := pv_congr (co_trim l) x
theorem pv_moved (l : List Rat) (a x : Rat) : pv (moved l a) x = pv l (x + a) := by rw [moved, pv_trim, pv_pmov]
theorem trm_moved (l : List Rat) (a : Rat) : Trm (moved l a) := trm_trim _
/-- The derivative of what was moved is the derivative, moved. -/
theorem pv_pder_pmov : ∀ (l : List Rat) (a x : Rat), pv (pder (pmov l a)) x = pv (pder l) (x + a) := by
  intro l
  induction l with
  | nil => intro a x; rfl
  | cons c l ih =>
    intro a x
    show pv (pder (padd [c] (mulr [a, 1] (pmov l a)))) x = _
    have e1 : pv (pder [c]) x = 0 := by show (0 : Rat) + x * 0 = 0; grind
    have e2 : pv (pder [a, 1]) x = 1 := by show ((1 : Rat) + 0) + x * (0 + x * 0) = 1; grind
    have e3 : pv [a, 1] x = a + x := by show a + x * (1 + x * 0) = _; grind
    rw [pv_pder_padd, pv_leibniz, ih, pv_pmov, e1, e2, e3, pv_pder_cons]
    grind
theorem co_mul_lin (a : Rat) (m : List Rat) : co (mulr [a, 1] m) 0 = a * co m 0 ∧ ∀ i, co (mulr [a, 1] m) (i + 1) = a * co m (i + 1) + co m i := by
  have e : mulr [a, 1] m = padd (psc a m) (0 :: padd (psc 1 m) (0 :: [])) := rfl
  constructor
  · rw [e, co_padd, co_psc, co_zero]; grind
  · intro i
    rw [e, co_padd, co_psc, co_succ, co_padd, co_psc]
    cases i with
    | zero => rw [co_zero]; grind
    | succ i => rw [co_succ, co_nil]; grind
theorem co_pmov_top : ∀ (l : List Rat) (a : Rat), (∀ i, l.length ≤ i → co (pmov l a) i = 0) ∧ co (pmov l a) (l.length - 1) = co l (l.length - 1) := by
  intro l
  induction l with
  | nil => intro a; exact ⟨fun i _ => co_nil i, rfl⟩
  | cons c l ih =>
    intro a
    obtain ⟨h1, h2⟩ := ih a
    have e : pmov (c :: l) a = padd [c] (mulr [a, 1] (pmov l a)) := rfl
    obtain ⟨m0, m1⟩ := co_mul_lin a (pmov l a)
    constructor
    · intro i hi
      rw [List.length_cons] at hi
      obtain ⟨j, rfl⟩ : ∃ j, i = j + 1 := ⟨i - 1, by omega⟩
      rw [e, co_padd, co_succ, co_nil, m1, h1 _ (by omega), h1 _ (by omega)]
      grind
    · rw [List.length_cons, Nat.add_sub_cancel]
      cases l with
      | nil =>
        rw [e, co_padd]
        show co [c] 0 + co (mulr [a, 1] (pmov [] a)) 0 = co [c] 0
        rw [m0]
        show co [c] 0 + a * co [] 0 = _
        rw [co_nil]; grind
      | cons d l =>
        rw [e, co_padd, List.length_cons, co_succ, co_succ, co_nil, m1, h1 _ (by simp)]
        have h3 : co (pmov (d :: l) a) l.length = co (d :: l) l.length := by simpa using h2
        rw [h3]
        grind
theorem len_of {l : List Rat} {n : Nat} (hl : Trm l) (hn : 1 ≤ n) (h1 : co l (n - 1) ≠ 0) (h0 : ∀ i, n ≤ i → co l i = 0) : l.length = n := by
  have hne : l ≠ [] := by rintro rfl; exact h1 (co_nil _)
  have ht := trm_last hl hne
  have hp : 0 < l.length := List.length_pos_iff.2 hne
  rcases Nat.lt_trichotomy l.length n with h | h | h
  · exact absurd (co_ge (by omega)) h1
  · exact h
  · exact absurd (h0 _ (by omega)) ht
theorem moved_len {l : List Rat} (hl : Trm l) (a : Rat) : (moved l a).length = l.length := by
  cases l with
  | nil => rfl
  | cons c l =>
    obtain ⟨h1, h2⟩ := co_pmov_top (c :: l) a
    refine len_of (trm_moved _ _) (by simp) ?_ ?_
    · rw [moved, co_trim, h2]
      exact trm_last hl (by simp)
    · intro i hi
      rw [moved, co_trim]
      exact h1 i hi
/-- **EUCLID: what is left is just that.** -/
theorem div_unique {q k1 r1 k2 r2 : List Rat} (hq : Trm q) (h0 : q ≠ []) (hk1 : Trm k1) (hr1 : Trm r1) (hk2 : Trm k2) (hr2 : Trm r2) (l1 : r1.length < q.length) (l2 : r2.length < q.length)
    (h : ∀ x, pv k1 x * pv q x + pv r1 x = pv k2 x * pv q x + pv r2 x) : k1 = k2 ∧ r1 = r2 := by
  have key : ∀ d : List Rat, Trm d → (∀ x, pv d x * pv q x = pv (padd r2 (psc (-1) r1)) x) → d = [] := by
    intro d hd hx
    apply Classical.byContradiction
    intro hne
    have hc := co_of_pv (l := mulr d q) (m := padd r2 (psc (-1) r1)) (fun x => by rw [pv_mulr, hx])
    obtain ⟨a, ha⟩ : ∃ a, d.length = a + 1 := ⟨d.length - 1, by have := List.length_pos_iff.2 hne; omega⟩
    obtain ⟨b, hb⟩ : ∃ b, q.length = b + 1 := ⟨q.length - 1, by have := List.length_pos_iff.2 h0; omega⟩
    have h1 := hc (a + b)
    rw [co_mulr, cnv_top ha hb, co_padd, co_psc, co_ge (l := r2) (by omega), co_ge (l := r1) (by omega)] at h1
    have h2 := trm_last hd hne
    have h3 := trm_last hq h0
    rw [ha, Nat.add_sub_cancel] at h2
    rw [hb, Nat.add_sub_cancel] at h3
    have h4 : co d a * co q b = 0 := by rw [h1]; grind
    rcases Rat.mul_eq_zero.1 h4 with h5 | h5
    · exact h2 h5
    · exact h3 h5
  have hd := key (trimQ (padd k1 (psc (-1) k2))) (trm_trim _) (fun x => by
    have := h x
    rw [pv_trim, pv_padd, pv_psc, pv_padd, pv_psc]
    grind)
  have hk : k1 = k2 := by
    refine trm_ext hk1 hk2 fun i => ?_
    have h1 := co_trim (padd k1 (psc (-1) k2)) i
    rw [hd, co_nil, co_padd, co_psc] at h1
    grind
  subst hk
  refine ⟨rfl, trm_pv hr1 hr2 fun x => ?_⟩
  have := h x
  grind
end Go.Proofs.YtokojbgpboccnaaGreat

/-
  POLYNOMIALS: one division by steps; the value power by power. Nothing of a program.
-/
namespace Go.Proofs.YtokojbgpboccnaaGreat
set_option linter.unusedVariables false
/-- The last coefficient. -/
def top (l : List Rat) : Rat := co l (l.length - 1)
theorem top_ne {l : List Rat} (h : Trm l) (hn : l ≠ []) : top l ≠ 0 := trm_last h hn
/-- A power times a number. -/
def mon (d : Nat) (c : Rat) : List Rat := List.replicate d 0 ++ [c]
theorem co_mon (d : Nat) (c : Rat) (i : Nat) : co (mon d c) i = if i = d then c else 0 := by
  unfold co mon
  by_cases h : i < d
  · rw [List.getElem?_append_left (by simpa using h), if_neg (by omega)]
    simp [h]
  · rw [List.getElem?_append_right (by simpa using h)]
    by_cases h2 : i = d
    · subst h2; simp
    · rw [if_neg h2, List.getElem?_eq_none (by simp; omega)]; rfl
theorem pow_nat_succ (x : Rat) (n : Nat) : x ^ (n + 1) = x ^ n * x := Rat.pow_succ x n
theorem pv_mon (d : Nat) (c x : Rat) : pv (mon d c) x = c * x ^ d := by
  induction d with
  | zero => show c + x * 0 = c * x ^ 0; rw [Rat.pow_zero]; grind
  | succ d ih =>
    show (0 : Rat) + x * pv (mon d c) x = _
    rw [ih, pow_nat_succ]; grind
theorem cnv_mon (d : Nat) (c : Rat) (q : List Rat) (i : Nat) : cnv (mon d c) q i = if d ≤ i then c * co q (i - d) else 0 := by
  unfold cnv
  split
  · rename_i h
    have h1 : sumN (fun k => co (mon d c) k * co q (i - k)) (i + 1) = sumN (fun k => co (mon d c) k * co q (i - k)) (d + 1) := by
      refine sumN_more _ (by omega) fun k h1 h2 => ?_
      show co (mon d c) k * _ = 0
      rw [co_mon, if_neg (by omega)]; grind
    rw [h1]
    show sumN _ d + co (mon d c) d * co q (i - d) = _
    rw [sumN_zero, co_mon, if_pos rfl]
    · grind
    · intro k hk
      rw [co_mon, if_neg (by omega)]; grind
  · rename_i h
    refine sumN_zero fun k hk => ?_
    rw [co_mon, if_neg (by omega)]; grind
/-- One step of a division: what is left. -/
def stepp (p q : List Rat) : List Rat := addp p (mulp (mulp (mon (p.length - q.length) (top p / top q)) q) (trimQ [-1]))
theorem trm_stepp (p q : List Rat) : Trm (stepp p q) := trm_addp _ _
theorem pv_minus (x : Rat) : pv (trimQ [-1]) x = -1 := by rw [pv_trim]; show (-1 : Rat) + x * 0 = _; grind
theorem pv_stepp (p q : List Rat) (x : Rat) : pv (stepp p q) x = pv p x - top p / top q * x ^ (p.length - q.length) * pv q x := by
  rw [stepp, pv_addp, pv_mulp, pv_mulp, pv_mon, pv_minus]; grind
theorem co_stepp (p q : List Rat) (i : Nat) : co (stepp p q) i = co p i - (if p.length - q.length ≤ i then top p / top q * co q (i - (p.length - q.length)) else 0) := by
  have h : ∀ x, pv (stepp p q) x = pv (padd p (psc (-1) (mulr (mon (p.length - q.length) (top p / top q)) q))) x := by
    intro x
    rw [pv_stepp, pv_padd, pv_psc, pv_mulr, pv_mon]; grind
  rw [co_of_pv h i, co_padd, co_psc, co_mulr, cnv_mon]
  split <;> grind
theorem stepp_less {p q : List Rat} (hp : Trm p) (hq : Trm q) (h0 : q ≠ []) (hl : q.length ≤ p.length) : (stepp p q).length < p.length := by
  have hq1 : 0 < q.length := List.length_pos_iff.2 h0
  apply Classical.byContradiction
  intro h
  have hne : stepp p q ≠ [] := by intro e; rw [e, List.length_nil] at h; omega
  have ht := trm_last (trm_stepp p q) hne
  apply ht
  rw [co_stepp]
  by_cases hg : p.length ≤ (stepp p q).length - 1
  · have hz : co q ((stepp p q).length - 1 - (p.length - q.length)) = 0 := co_ge (by omega)
    rw [co_ge hg, if_pos (by omega), hz]; grind
  · have e : (stepp p q).length - 1 = p.length - 1 := by omega
    rw [e, if_pos (by omega), show p.length - 1 - (p.length - q.length) = q.length - 1 by omega]
    have hz : top q ≠ 0 := top_ne hq h0
    show top p - top p / top q * top q = 0
    rw [Rat.div_mul_cancel hz]; grind
end Go.Proofs.YtokojbgpboccnaaGreat

/-
  POLYNOMIALS: what goes into both; those with no divisors; how often one of them is in another one. Nothing of a program.
-/
namespace Go.Proofs.YtokojbgpboccnaaGreat
set_option linter.unusedVariables false
/-! ### Lengths -/
theorem cnv_pos {l m : List Rat} {a b : Nat} (ha : l.length = a + 1) (hb : m.length = b + 1) (hl : Trm l) (hm : Trm m) : co (mulp l m) (a + b) ≠ 0 := by
  rw [co_mulp, cnv_top ha hb]
  have h1 := trm_last hl (by intro e; rw [e] at ha; simp at ha)
  have h2 := trm_last hm (by intro e; rw [e] at hb; simp at hb)
  rw [ha, Nat.add_sub_cancel] at h1
  rw [hb, Nat.add_sub_cancel] at h2
  intro h
  rcases Rat.mul_eq_zero.1 h with h | h
  · exact h1 h
  · exact h2 h
theorem len_mulp {l m : List Rat} (hl : Trm l) (hm : Trm m) (h1 : l ≠ []) (h2 : m ≠ []) : (mulp l m).length = l.length + m.length - 1 := by
  have e1 : l.length = (l.length - 1) + 1 := by have := List.length_pos_iff.2 h1; omega
  have e2 : m.length = (m.length - 1) + 1 := by have := List.length_pos_iff.2 h2; omega
  refine len_of (trm_mulp l m) (by omega) ?_ fun i hi => ?_
  · rw [show l.length + m.length - 1 - 1 = (l.length - 1) + (m.length - 1) by omega]
    exact cnv_pos e1 e2 hl hm
  · rw [co_mulp, cnv_big (by omega)]
theorem mulp_ne {l m : List Rat} (hl : Trm l) (hm : Trm m) (h1 : l ≠ []) (h2 : m ≠ []) : mulp l m ≠ [] := by
  intro e
  have h := len_mulp hl hm h1 h2
  have := List.length_pos_iff.2 h1
  have := List.length_pos_iff.2 h2
  rw [e, List.length_nil] at h
  omega
theorem top_mulp {l m : List Rat} (hl : Trm l) (hm : Trm m) (h1 : l ≠ []) (h2 : m ≠ []) : top (mulp l m) = top l * top m := by
  unfold top
  have e1 : l.length = (l.length - 1) + 1 := by have := List.length_pos_iff.2 h1; omega
  have e2 : m.length = (m.length - 1) + 1 := by have := List.length_pos_iff.2 h2; omega
  rw [len_mulp hl hm h1 h2, show l.length + m.length - 1 - 1 = (l.length - 1) + (m.length - 1) by omega, co_mulp, cnv_top e1 e2]
theorem nil_of_pv {l : List Rat} (hl : Trm l) (h : ∀ x, pv l x = 0) : l = [] := trm_pv hl rfl fun x => by rw [h x]; rfl
theorem pv_one (c x : Rat) : pv [c] x = c := by show c + x * 0 = c; grind
/-- With as few coefficients as one. -/
theorem one_of_len {l : List Rat} (h : l.length = 1) : ∃ c, l = [c] := by
  match l, h with
  | [c], _ => exact ⟨c, rfl⟩
/-! ### What goes into another one -/
def Dv (d p : List Rat) : Prop := ∃ k, Trm k ∧ ∀ x, pv p x = pv k x * pv d x
theorem Dv.of {d p k : List Rat} (h : ∀ x, pv p x = pv k x * pv d x) : Dv d p := ⟨trimQ k, trm_trim k, fun x => by rw [pv_trim, h x]⟩
theorem Dv.refl (p : List Rat) : Dv p p := Dv.of (k := [1]) fun x => by rw [pv_one]; grind
theorem Dv.nil (d : List Rat) : Dv d [] := Dv.of (k := []) fun x => by show (0 : Rat) = 0 * _; grind
theorem Dv.one (p : List Rat) : Dv [1] p := Dv.of (k := p) fun x => by rw [pv_one]; grind
theorem Dv.trans {a b c : List Rat} (h : Dv a b) (h' : Dv b c) : Dv a c := by
  obtain ⟨k, _, hk⟩ := h
  obtain ⟨m, _, hm⟩ := h'
  exact Dv.of (k := mulp m k) fun x => by rw [hm, hk, pv_mulp]; grind
theorem Dv.mul {d p : List Rat} (h : Dv d p) (q : List Rat) : Dv d (mulp q p) := by
  obtain ⟨k, _, hk⟩ := h
  exact Dv.of (k := mulp q k) fun x => by rw [pv_mulp, hk, pv_mulp]; grind
theorem Dv.mul' {d p : List Rat} (h : Dv d p) (q : List Rat) : Dv d (mulp p q) := by
  obtain ⟨k, _, hk⟩ := h
  exact Dv.of (k := mulp q k) fun x => by rw [pv_mulp, hk, pv_mulp]; grind
theorem Dv.cast {d p q : List Rat} (h : Dv d p) (e : ∀ x, pv q x = pv p x) : Dv d q := by
  obtain ⟨k, _, hk⟩ := h
  exact Dv.of (k := k) fun x => by rw [e, hk]
theorem Dv.comb {d p q r u v : List Rat} (h : Dv d p) (h' : Dv d q) (e : ∀ x, pv r x = pv u x * pv p x + pv v x * pv q x) : Dv d r := by
  obtain ⟨k, _, hk⟩ := h
  obtain ⟨m, _, hm⟩ := h'
  exact Dv.of (k := addp (mulp u k) (mulp v m)) fun x => by rw [e, hk, hm, pv_addp, pv_mulp, pv_mulp]; grind
theorem Dv.ne {d p : List Rat} (h : Dv d p) (hp : Trm p) (h0 : p ≠ []) : d ≠ [] := by
  rintro rfl
  obtain ⟨k, _, hk⟩ := h
  exact h0 (nil_of_pv hp fun x => by rw [hk]; show _ * (0 : Rat) = 0; grind)
/-- So often just, of those with a last coefficient that is not nought. -/
theorem Dv.eq {d p : List Rat} (h : Dv d p) (hp : Trm p) : ∃ k, Trm k ∧ p = mulp k d := by
  obtain ⟨k, hk, e⟩ := h
  exact ⟨k, hk, trm_pv hp (trm_mulp _ _) fun x => by rw [e, pv_mulp]⟩
theorem Dv.len {d p : List Rat} (h : Dv d p) (hd : Trm d) (hp : Trm p) (h0 : p ≠ []) : d.length ≤ p.length := by
  have h1 := h.ne hp h0
  obtain ⟨k, hk, e⟩ := h.eq hp
  have hk0 : k ≠ [] := by
    rintro rfl
    exact h0 (nil_of_pv hp fun x => by rw [e, pv_mulp]; show (0 : Rat) * _ = 0; grind)
  rw [e, len_mulp hk hd hk0 h1]
  have := List.length_pos_iff.2 hk0
  omega
/-- As long as what it goes into: a number of times. -/
theorem Dv.same {d p : List Rat} (h : Dv d p) (hd : Trm d) (hp : Trm p) (h0 : p ≠ []) (hl : d.length = p.length) : ∃ c, c ≠ 0 ∧ ∀ x, pv p x = c * pv d x := by
  have h1 := h.ne hp h0
  obtain ⟨k, hk, e⟩ := h.eq hp
  have hk0 : k ≠ [] := by
    rintro rfl
    exact h0 (nil_of_pv hp fun x => by rw [e, pv_mulp]; show (0 : Rat) * _ = 0; grind)
  have h2 := len_mulp hk hd hk0 h1
  rw [← e] at h2
  have := List.length_pos_iff.2 h1
  have := List.length_pos_iff.2 hk0
  obtain ⟨c, rfl⟩ := one_of_len (l := k) (by omega)
  refine ⟨c, fun hc => ?_, fun x => by rw [e, pv_mulp, pv_one]⟩
  subst hc
  exact h0 (nil_of_pv hp fun x => by rw [e, pv_mulp, pv_one]; grind)
/-! ### With 1 at its end -/
def Mnc (p : List Rat) : Prop := p ≠ [] ∧ top p = 1
theorem Mnc.trm {p : List Rat} (h : Mnc p) : Trm p := trm_of_last (.inr (by have := h.2; unfold top at this; rw [this]; decide))
theorem Mnc.eq {p q : List Rat} (hp : Mnc p) (hq : Mnc q) (h : Dv p q) (h' : Dv q p) : p = q := by
  have l1 := h.len hp.trm hq.trm hq.1
  have l2 := h'.len hq.trm hp.trm hp.1
  have hl : p.length = q.length := by omega
  obtain ⟨c, _, e⟩ := h.same hp.trm hq.trm hq.1 hl
  have h1 : co q (q.length - 1) = co (psc c p) (q.length - 1) := co_of_pv (fun x => by rw [e, pv_psc]) _
  rw [co_psc, ← hl] at h1
  have h2 : co q (p.length - 1) = 1 := by rw [hl]; exact hq.2
  have h3 : co p (p.length - 1) = 1 := hp.2
  rw [h2, h3] at h1
  have hc : c = 1 := by grind
  exact trm_pv hp.trm hq.trm fun x => by rw [e, hc]; grind
def mnc (p : List Rat) : List Rat := trimQ (psc (1 / top p) p)
theorem pv_mnc (p : List Rat) (x : Rat) : pv (mnc p) x = 1 / top p * pv p x := by rw [mnc, pv_trim, pv_psc]
theorem trm_mnc (p : List Rat) : Trm (mnc p) := trm_trim _
theorem co_mnc (p : List Rat) (i : Nat) : co (mnc p) i = 1 / top p * co p i := by rw [mnc, co_trim, co_psc]
theorem rat_inv {a : Rat} (h : a ≠ 0) : 1 / a * a = 1 := Rat.div_mul_cancel h
theorem mnc_len {p : List Rat} (hp : Trm p) (h0 : p ≠ []) : (mnc p).length = p.length := by
  have := List.length_pos_iff.2 h0
  refine len_of (trm_mnc p) this ?_ fun i hi => by rw [co_mnc, co_ge hi]; grind
  rw [co_mnc]
  show 1 / top p * top p ≠ 0
  rw [rat_inv (top_ne hp h0)]
  decide
theorem mnc_mnc {p : List Rat} (hp : Trm p) (h0 : p ≠ []) : Mnc (mnc p) := by
  have h1 := mnc_len hp h0
  refine ⟨fun e => ?_, ?_⟩
  · have := List.length_pos_iff.2 h0
    rw [e, List.length_nil] at h1
    omega
  · unfold top
    rw [h1, co_mnc]
    exact rat_inv (top_ne hp h0)
theorem mnc_nil : mnc [] = [] := rfl
theorem Mnc.self {p : List Rat} (h : Mnc p) : mnc p = p := trm_pv (trm_mnc p) h.trm fun x => by
  rw [pv_mnc, h.2]
  have : (1 : Rat) / 1 = 1 := by decide +kernel
  rw [this]; grind
theorem dv_mnc (p : List Rat) : Dv p (mnc p) := Dv.of (k := [1 / top p]) fun x => by rw [pv_mnc, pv_one]
theorem mnc_dv {p : List Rat} (hp : Trm p) : Dv (mnc p) p := by
  by_cases h0 : p = []
  · rw [h0]; exact Dv.nil _
  · refine Dv.of (k := [top p]) fun x => ?_
    have := rat_inv (top_ne hp h0)
    rw [pv_one, pv_mnc]
    grind
theorem Mnc.mul {p q : List Rat} (hp : Mnc p) (hq : Mnc q) : Mnc (mulp p q) :=
  ⟨mulp_ne hp.trm hq.trm hp.1 hq.1, by rw [top_mulp hp.trm hq.trm hp.1 hq.1, hp.2, hq.2]; decide +kernel⟩
theorem mnc_one : Mnc [1] := ⟨by simp, rfl⟩
theorem Mnc.len1 {p : List Rat} (h : Mnc p) (hl : p.length = 1) : p = [1] := by
  obtain ⟨c, rfl⟩ := one_of_len hl
  have : c = 1 := h.2
  rw [this]
/-! ### Division, the greatest that goes into both -/
theorem div_ex {q : List Rat} (hq : Trm q) (h0 : q ≠ []) : ∀ (n : Nat) (p : List Rat), Trm p → p.length ≤ n → ∃ y r, Trm y ∧ Trm r ∧ r.length < q.length ∧ ∀ x, pv p x = pv y x * pv q x + pv r x := by
  intro n
  induction n with
  | zero =>
    intro p hp hl
    have := List.length_pos_iff.2 h0
    exact ⟨[], p, rfl, hp, by omega, fun x => by show _ = (0 : Rat) * _ + _; grind⟩
  | succ n ih =>
    intro p hp hl
    by_cases h : p.length < q.length
    · exact ⟨[], p, rfl, hp, h, fun x => by show _ = (0 : Rat) * _ + _; grind⟩
    · have h1 := stepp_less hp hq h0 (by omega)
      obtain ⟨y, r, hy, hr, hrl, e⟩ := ih (stepp p q) (trm_stepp p q) (by omega)
      refine ⟨addp y (mon (p.length - q.length) (top p / top q)), r, trm_addp _ _, hr, hrl, fun x => ?_⟩
      have h2 := pv_stepp p q x
      rw [e] at h2
      rw [pv_addp, pv_mon]
      grind
/-- What is left of one that goes in is nothing. -/
theorem rem_nil {p q y r : List Rat} (hq : Trm q) (h0 : q ≠ []) (hr : Trm r) (hl : r.length < q.length) (e : ∀ x, pv p x = pv y x * pv q x + pv r x) (h : Dv q p) : r = [] := by
  apply Classical.byContradiction
  intro hn
  have h1 : Dv q r := (h.comb (Dv.refl q) (r := r) (u := [1]) (v := psc (-1) y) fun x => by rw [pv_one, pv_psc, e]; grind)
  have := h1.len hq hr hn
  omega
theorem bez : ∀ (n : Nat) (p q : List Rat), Trm p → Trm q → q.length ≤ n → (p ≠ [] ∨ q ≠ []) → ∃ g u v, Mnc g ∧ Dv g p ∧ Dv g q ∧ ∀ x, pv g x = pv u x * pv p x + pv v x * pv q x := by
  intro n
  induction n with
  | zero =>
    intro p q hp hq hl h
    obtain rfl : q = [] := List.length_eq_zero_iff.1 (by omega)
    have h0 : p ≠ [] := by rcases h with h | h; exact h; exact absurd rfl h
    exact ⟨mnc p, [1 / top p], [], mnc_mnc hp h0, mnc_dv hp, Dv.nil _, fun x => by rw [pv_mnc, pv_one]; show _ = _ + (0 : Rat) * _; grind⟩
  | succ n ih =>
    intro p q hp hq hl h
    by_cases h0 : q = []
    · subst h0
      have h0 : p ≠ [] := by rcases h with h | h; exact h; exact absurd rfl h
      exact ⟨mnc p, [1 / top p], [], mnc_mnc hp h0, mnc_dv hp, Dv.nil _, fun x => by rw [pv_mnc, pv_one]; show _ = _ + (0 : Rat) * _; grind⟩
    · obtain ⟨y, r, hy, hr, hrl, e⟩ := div_ex hq h0 p.length p hp (Nat.le_refl _)
      obtain ⟨g, u, v, hg, h1, h2, h3⟩ := ih q r hq hr (by omega) (.inl h0)
      refine ⟨g, v, addp u (psc (-1) (mulp v y)), hg, h1.comb h2 (u := y) (v := [1]) (fun x => by rw [e, pv_one]; grind), h1, fun x => ?_⟩
      rw [h3, pv_addp, pv_psc, pv_mulp, e]; grind
open Classical in
noncomputable def gcdp (p q : List Rat) : List Rat := if h : Trm p ∧ Trm q ∧ (p ≠ [] ∨ q ≠ []) then (bez q.length p q h.1 h.2.1 (Nat.le_refl _) h.2.2).choose else []
theorem gcdp_spec {p q : List Rat} (hp : Trm p) (hq : Trm q) (h : p ≠ [] ∨ q ≠ []) : ∃ u v, Mnc (gcdp p q) ∧ Dv (gcdp p q) p ∧ Dv (gcdp p q) q ∧ ∀ x, pv (gcdp p q) x = pv u x * pv p x + pv v x * pv q x := by
  unfold gcdp
  rw [dif_pos ⟨hp, hq, h⟩]
  exact (bez q.length p q hp hq (Nat.le_refl _) h).choose_spec
theorem gcdp_nil : gcdp [] [] = [] := by
  unfold gcdp
  rw [dif_neg (by rintro ⟨_, _, h | h⟩ <;> exact h rfl)]
theorem gcdp_great {p q d : List Rat} (hp : Trm p) (hq : Trm q) (h : p ≠ [] ∨ q ≠ []) (h1 : Dv d p) (h2 : Dv d q) : Dv d (gcdp p q) := by
  obtain ⟨u, v, _, _, _, e⟩ := gcdp_spec hp hq h
  exact h1.comb h2 e
theorem gcdp_of {p q g : List Rat} (hp : Trm p) (hq : Trm q) (h : p ≠ [] ∨ q ≠ []) (hg : Mnc g) (h1 : Dv g p) (h2 : Dv g q) (h3 : ∀ d, Dv d p → Dv d q → Dv d g) : g = gcdp p q := by
  obtain ⟨u, v, k1, k2, k3, e⟩ := gcdp_spec hp hq h
  exact hg.eq k1 (h1.comb h2 e) (h3 _ k2 k3)
theorem trm_gcdp {p q : List Rat} (hp : Trm p) (hq : Trm q) : Trm (gcdp p q) := by
  by_cases h : p ≠ [] ∨ q ≠ []
  · obtain ⟨u, v, k1, _⟩ := gcdp_spec hp hq h
    exact k1.trm
  · have h1 : p = [] := Classical.byContradiction fun e => h (.inl e)
    have h2 : q = [] := Classical.byContradiction fun e => h (.inr e)
    rw [h1, h2, gcdp_nil]; rfl
theorem gcdp_comm {p q : List Rat} (hp : Trm p) (hq : Trm q) : gcdp p q = gcdp q p := by
  by_cases h : p ≠ [] ∨ q ≠ []
  · obtain ⟨u, v, k1, k2, k3, e⟩ := gcdp_spec hp hq h
    exact gcdp_of hq hp h.symm k1 k3 k2 fun d h1 h2 => h2.comb h1 e
  · have h1 : p = [] := Classical.byContradiction fun e => h (.inl e)
    have h2 : q = [] := Classical.byContradiction fun e => h (.inr e)
    rw [h1, h2]
theorem gcdp_end {p : List Rat} (hp : Trm p) : gcdp p [] = mnc p := by
  by_cases h : p = []
  · rw [h, gcdp_nil, mnc_nil]
  · exact (gcdp_of hp (show Trm [] from rfl) (.inl h) (mnc_mnc hp h) (mnc_dv hp) (Dv.nil _) fun d h1 _ => h1.trans (dv_mnc p)).symm
/-- One round of Euclid's: with what is left, times any number that is not nought. -/
theorem gcdp_next {p q y r s : List Rat} {c : Rat} (hp : Trm p) (hq : Trm q) (h0 : q ≠ []) (e : ∀ x, pv p x = pv y x * pv q x + pv r x) (hs : Trm s) (hc : c ≠ 0) (es : ∀ x, pv s x = c * pv r x) : gcdp p q = gcdp q s := by
  obtain ⟨u, v, k1, k2, k3, _⟩ := gcdp_spec hp hq (.inr h0)
  have hi := rat_inv hc
  refine gcdp_of hq hs (.inl h0) k1 k3 ?_ fun d h1 h2 => ?_
  · exact k2.comb k3 (u := [c]) (v := psc (-c) y) fun x => by rw [es, pv_one, pv_psc, e]; grind
  · refine gcdp_great hp hq (.inr h0) ?_ h1
    exact h1.comb h2 (u := y) (v := [1 / c]) fun x => by rw [e, pv_one, es]; grind
end Go.Proofs.YtokojbgpboccnaaGreat

/-
  POLYNOMIALS: how often one without divisors is in another one. Nothing of a program.
-/
namespace Go.Proofs.YtokojbgpboccnaaGreat
set_option linter.unusedVariables false
/-! ### With no divisors -/
def Irr (π : List Rat) : Prop := Mnc π ∧ 2 ≤ π.length ∧ ∀ d, Mnc d → Dv d π → d = [1] ∨ d = π
theorem Irr.prime {π a b : List Rat} (h : Irr π) (ha : Trm a) (hd : Dv π (mulp a b)) : Dv π a ∨ Dv π b := by
  obtain ⟨u, v, k1, k2, k3, e⟩ := gcdp_spec h.1.trm ha (.inl h.1.1)
  rcases h.2.2 _ k1 k2 with h1 | h1
  · refine .inr ?_
    rw [h1] at e
    exact (Dv.refl π).comb hd (u := mulp u b) (v := v) fun x => by
      have := e x
      rw [pv_one] at this
      rw [pv_mulp, pv_mulp]; grind
  · exact .inl (by rw [h1] at k3; exact k3)
theorem irr_ex : ∀ (n : Nat) (p : List Rat), Trm p → p.length ≤ n → 2 ≤ p.length → ∃ π, Irr π ∧ Dv π p := by
  intro n
  induction n with
  | zero => intro p _ h1 h2; omega
  | succ n ih =>
    intro p hp hl h2
    have h0 : p ≠ [] := by intro e; rw [e, List.length_nil] at h2; omega
    by_cases h : ∃ d, Mnc d ∧ Dv d p ∧ 2 ≤ d.length ∧ d.length < p.length
    · obtain ⟨d, h3, h4, h5, h6⟩ := h
      obtain ⟨π, h7, h8⟩ := ih d h3.trm (by omega) h5
      exact ⟨π, h7, h8.trans h4⟩
    · refine ⟨mnc p, ⟨mnc_mnc hp h0, by rw [mnc_len hp h0]; exact h2, fun d h3 h4 => ?_⟩, mnc_dv hp⟩
      have h5 := h4.trans (mnc_dv hp)
      have h6 := h5.len h3.trm hp h0
      have h7 := List.length_pos_iff.2 h3.1
      by_cases h8 : d.length = 1
      · exact .inl (h3.len1 h8)
      · refine .inr (h3.eq (mnc_mnc hp h0) h4 ?_)
        have h9 : d.length = p.length := Classical.byContradiction fun e => h ⟨d, h3, h5, by omega, by omega⟩
        obtain ⟨c, hc, e⟩ := h5.same h3.trm hp h0 h9
        have hi := rat_inv hc
        exact Dv.of (k := [1 / c * (1 / top p) * c * c]) fun x => by
          have hm : pv d x = 1 / c * pv p x := by rw [e]; grind
          have ht := rat_inv (top_ne hp h0)
          have htop : top p = c := by
            have h1 : co p (p.length - 1) = co (psc c d) (p.length - 1) := co_of_pv (fun x => by rw [e, pv_psc]) _
            rw [co_psc, ← h9] at h1
            have h2 : co d (d.length - 1) = 1 := h3.2
            rw [h2] at h1
            show co p (p.length - 1) = c
            rw [← h9, h1]; grind
          rw [pv_one, pv_mnc, hm, htop]; grind
/-! ### So often -/
def Vl (π p : List Rat) (k : Nat) : Prop := ∃ q, Trm q ∧ ¬ Dv π q ∧ ∀ x, pv p x = pv π x ^ k * pv q x
theorem Irr.not_one {π : List Rat} (h : Irr π) : ¬ Dv π [1] := fun e => by
  have := e.len h.1.trm mnc_one.trm (by simp)
  have := h.2.1
  simp at *
  omega
theorem vl_ex {π : List Rat} (h : Irr π) : ∀ (n : Nat) (p : List Rat), Trm p → p ≠ [] → p.length ≤ n → ∃ k, Vl π p k := by
  intro n
  induction n with
  | zero => intro p _ h0 hl; exact absurd (List.length_eq_zero_iff.1 (by omega)) h0
  | succ n ih =>
    intro p hp h0 hl
    by_cases hd : Dv π p
    · obtain ⟨k, hk, e⟩ := hd.eq hp
      have hk0 : k ≠ [] := by
        rintro rfl
        exact h0 (nil_of_pv hp fun x => by rw [e, pv_mulp]; show (0 : Rat) * _ = 0; grind)
      have h2 := len_mulp hk h.1.trm hk0 h.1.1
      rw [← e] at h2
      have := h.2.1
      obtain ⟨m, q, h3, h4, h5⟩ := ih k hk hk0 (by omega)
      exact ⟨m + 1, q, h3, h4, fun x => by rw [e, pv_mulp, h5, pow_nat_succ]; grind⟩
    · exact ⟨0, p, hp, hd, fun x => by rw [Rat.pow_zero]; grind⟩
theorem pv_cancel {π a b : List Rat} (h : π ≠ []) (hp : Trm π) (hab : ∀ x, pv π x * pv a x = pv π x * pv b x) : ∀ x, pv a x = pv b x := by
  have h1 : trimQ (padd a (psc (-1) b)) = [] := by
    apply Classical.byContradiction
    intro hn
    refine mulp_ne hp (trm_trim _) h hn (nil_of_pv (trm_mulp _ _) fun x => ?_)
    rw [pv_mulp, pv_trim, pv_padd, pv_psc]
    have := hab x
    grind
  intro x
  have h2 : pv (trimQ (padd a (psc (-1) b))) x = 0 := by rw [h1]; rfl
  rw [pv_trim, pv_padd, pv_psc] at h2
  grind
theorem pv_pow_cancel {π a b : List Rat} (h : π ≠ []) (hp : Trm π) : ∀ k : Nat, (∀ x, pv π x ^ k * pv a x = pv π x ^ k * pv b x) → ∀ x, pv a x = pv b x := by
  intro k
  induction k generalizing a b with
  | zero => intro h x; have := h x; rw [Rat.pow_zero] at this; grind
  | succ k ih =>
    intro h1
    have h2 : ∀ x, pv π x ^ k * pv (mulp π a) x = pv π x ^ k * pv (mulp π b) x := fun x => by
      have := h1 x
      rw [pow_nat_succ] at this
      rw [pv_mulp, pv_mulp]; grind
    have h3 := ih h2
    exact pv_cancel h hp fun x => by have := h3 x; rw [pv_mulp, pv_mulp] at this; exact this
theorem pow_more (a : Rat) (k : Nat) : ∀ m : Nat, a ^ (k + m) = a ^ k * a ^ m := by
  intro m
  induction m with
  | zero => rw [Nat.add_zero, Rat.pow_zero]; grind
  | succ m ih => rw [← Nat.add_assoc, pow_nat_succ, pow_nat_succ, ih]; grind
theorem Vl.unique {π p : List Rat} {k m : Nat} (hp : Irr π) (h : Vl π p k) (h' : Vl π p m) : k = m := by
  have key : ∀ {k m : Nat}, Vl π p k → Vl π p m → k < m → False := by
    intro k m h h' hl
    obtain ⟨q, _, hn, e⟩ := h
    obtain ⟨r, _, _, e'⟩ := h'
    obtain ⟨j, rfl⟩ : ∃ j, m = k + (j + 1) := ⟨m - k - 1, by omega⟩
    have hpw : ∀ j : Nat, ∃ w, ∀ x, pv w x = pv π x ^ j := by
      intro j
      induction j with
      | zero => exact ⟨[1], fun x => by rw [pv_one, Rat.pow_zero]⟩
      | succ j ih => obtain ⟨w, hw⟩ := ih; exact ⟨mulp w π, fun x => by rw [pv_mulp, hw, pow_nat_succ]⟩
    obtain ⟨w, hw⟩ := hpw j
    have h3 : ∀ x, pv q x = pv (mulp (mulp w π) r) x := pv_pow_cancel hp.1.1 hp.1.trm k fun x => by
      have h1 := e x
      rw [e', pow_more, pow_nat_succ] at h1
      rw [pv_mulp, pv_mulp, hw]; grind
    exact hn (Dv.of (k := mulp w r) fun x => by rw [h3, pv_mulp, pv_mulp, pv_mulp]; grind)
  rcases Nat.lt_trichotomy k m with h1 | h1 | h1
  · exact (key h h' h1).elim
  · exact h1
  · exact (key h' h h1).elim
open Classical in
noncomputable def vl (π p : List Rat) : Nat := if h : ∃ k, Vl π p k then h.choose else 0
theorem vl_spec {π p : List Rat} (h : Irr π) (hp : Trm p) (h0 : p ≠ []) : Vl π p (vl π p) := by
  have h1 := vl_ex h p.length p hp h0 (Nat.le_refl _)
  unfold vl
  rw [dif_pos h1]
  exact h1.choose_spec
theorem vl_eq {π p : List Rat} {k : Nat} (h : Irr π) (hp : Trm p) (h0 : p ≠ []) (hk : Vl π p k) : vl π p = k := (vl_spec h hp h0).unique h hk
theorem vl_mulp {π p q : List Rat} (h : Irr π) (hp : Trm p) (hq : Trm q) (h1 : p ≠ []) (h2 : q ≠ []) : vl π (mulp p q) = vl π p + vl π q := by
  obtain ⟨a, ha, hna, ea⟩ := vl_spec h hp h1
  obtain ⟨b, hb, hnb, eb⟩ := vl_spec h hq h2
  refine vl_eq h (trm_mulp p q) (mulp_ne hp hq h1 h2) ⟨mulp a b, trm_mulp _ _, fun hd => ?_, fun x => ?_⟩
  · rcases h.prime ha hd with h3 | h3
    · exact hna h3
    · exact hnb h3
  · rw [pv_mulp, ea, eb, pv_mulp, pow_more]; grind
theorem vl_zero {π p : List Rat} (h : Irr π) (hp : Trm p) (h0 : p ≠ []) (hn : ¬ Dv π p) : vl π p = 0 := vl_eq h hp h0 ⟨p, hp, hn, fun x => by rw [Rat.pow_zero]; grind⟩
theorem vl_pos {π p : List Rat} (h : Irr π) (hp : Trm p) (h0 : p ≠ []) (hd : Dv π p) : 1 ≤ vl π p := by
  apply Classical.byContradiction
  intro hn
  obtain ⟨q, h1, h2, e⟩ := vl_spec h hp h0
  rw [show vl π p = 0 by omega] at e
  exact h2 (hd.cast fun x => by rw [e, Rat.pow_zero]; grind)
theorem dv_vl_pos {π p : List Rat} (h : Irr π) (hp : Trm p) (h0 : p ≠ []) (hv : 1 ≤ vl π p) : Dv π p := Classical.byContradiction fun hn => by
  have := vl_zero h hp h0 hn
  omega
theorem vl_one {π : List Rat} (h : Irr π) : vl π [1] = 0 := vl_zero h mnc_one.trm (by simp) h.not_one
theorem vl_self {π : List Rat} (h : Irr π) : vl π π = 1 := vl_eq h h.1.trm h.1.1 ⟨[1], mnc_one.trm, h.not_one, fun x => by rw [pv_one, show (1 : Nat) = 0 + 1 from rfl, pow_nat_succ, Rat.pow_zero]; grind⟩
theorem vl_dv {π p q : List Rat} (h : Irr π) (hp : Trm p) (hq : Trm q) (h0 : q ≠ []) (hd : Dv p q) : vl π p ≤ vl π q := by
  have h1 := hd.ne hq h0
  obtain ⟨k, hk, e⟩ := hd.eq hq
  have hk0 : k ≠ [] := by
    rintro rfl
    exact h0 (nil_of_pv hq fun x => by rw [e, pv_mulp]; show (0 : Rat) * _ = 0; grind)
  rw [e, vl_mulp h hk hp hk0 h1]
  omega
/-- What is in it no less often goes in. -/
theorem dv_of_vl : ∀ (n : Nat) (p q : List Rat), Trm p → Trm q → p ≠ [] → q ≠ [] → p.length ≤ n → (∀ π, Irr π → vl π p ≤ vl π q) → Dv p q := by
  intro n
  induction n with
  | zero => intro p q _ _ h0 _ hl; exact absurd (List.length_eq_zero_iff.1 (by omega)) h0
  | succ n ih =>
    intro p q hp hq h0 h1 hl hv
    by_cases h2 : 2 ≤ p.length
    · obtain ⟨π, hi, hd⟩ := irr_ex p.length p hp (Nat.le_refl _) h2
      have hdq := dv_vl_pos hi hq h1 (Nat.le_trans (vl_pos hi hp h0 hd) (hv π hi))
      obtain ⟨a, ha, ea⟩ := hd.eq hp
      obtain ⟨b, hb, eb⟩ := hdq.eq hq
      have ha0 : a ≠ [] := by
        rintro rfl
        exact h0 (nil_of_pv hp fun x => by rw [ea, pv_mulp]; show (0 : Rat) * _ = 0; grind)
      have hb0 : b ≠ [] := by
        rintro rfl
        exact h1 (nil_of_pv hq fun x => by rw [eb, pv_mulp]; show (0 : Rat) * _ = 0; grind)
      have hla := len_mulp ha hi.1.trm ha0 hi.1.1
      rw [← ea] at hla
      have := hi.2.1
      obtain ⟨k, hk, e⟩ := ih a b ha hb ha0 hb0 (by omega) fun ρ hρ => by
        have h3 := hv ρ hρ
        rw [ea, eb, vl_mulp hρ ha hi.1.trm ha0 hi.1.1, vl_mulp hρ hb hi.1.trm hb0 hi.1.1] at h3
        omega
      exact Dv.of (k := k) fun x => by rw [ea, eb, pv_mulp, pv_mulp, e]; grind
    · obtain ⟨c, rfl⟩ := one_of_len (l := p) (by have := List.length_pos_iff.2 h0; omega)
      have hc : c ≠ 0 := fun e => by have := top_ne hp h0; exact this (by rw [e]; rfl)
      have := rat_inv hc
      exact Dv.of (k := psc (1 / c) q) fun x => by rw [pv_psc, pv_one]; grind
theorem eq_of_vl {p q : List Rat} (hp : Mnc p) (hq : Mnc q) (hv : ∀ π, Irr π → vl π p = vl π q) : p = q :=
  hp.eq hq (dv_of_vl p.length p q hp.trm hq.trm hp.1 hq.1 (Nat.le_refl _) fun π h => by rw [hv π h]; exact Nat.le_refl _) (dv_of_vl q.length q p hq.trm hp.trm hq.1 hp.1 (Nat.le_refl _) fun π h => by rw [hv π h]; exact Nat.le_refl _)
/-- Powers. -/
def powp (p : List Rat) : Nat → List Rat
  | 0 => [1]
  | k + 1 => mulp (powp p k) p
theorem Mnc.pow {p : List Rat} (h : Mnc p) : ∀ k, Mnc (powp p k)
  | 0 => mnc_one
  | k + 1 => (h.pow k).mul h
theorem vl_powp {π p : List Rat} (h : Irr π) (hp : Mnc p) : ∀ k, vl π (powp p k) = k * vl π p
  | 0 => by rw [Nat.zero_mul]; exact vl_one h
  | k + 1 => by rw [powp, vl_mulp h (hp.pow k).trm hp.trm (hp.pow k).1 hp.1, vl_powp h hp k, Nat.add_mul, Nat.one_mul]
theorem pv_powp (p : List Rat) (x : Rat) : ∀ k, pv (powp p k) x = pv p x ^ k
  | 0 => by rw [powp, pv_one, Rat.pow_zero]
  | k + 1 => by rw [powp, pv_mulp, pv_powp p x k, pow_nat_succ]
theorem vl_pow_dv {π p : List Rat} {k : Nat} (h : Irr π) (hp : Trm p) (h0 : p ≠ []) (hk : k ≤ vl π p) : Dv (powp π k) p := by
  obtain ⟨q, h1, h2, e⟩ := vl_spec h hp h0
  obtain ⟨j, hj⟩ : ∃ j, vl π p = k + j := ⟨vl π p - k, by omega⟩
  exact Dv.of (k := mulp (powp π j) q) fun x => by rw [e, hj, pow_more, pv_mulp, pv_powp, pv_powp]; grind
theorem vl_mnc {π p : List Rat} (h : Irr π) (hp : Trm p) (h0 : p ≠ []) : vl π (mnc p) = vl π p := by
  have h1 := mnc_mnc hp h0
  have := vl_dv h h1.trm hp h0 (mnc_dv hp)
  have := vl_dv h hp h1.trm h1.1 (dv_mnc p)
  omega
theorem vl_gcdp {π p q : List Rat} (h : Irr π) (hp : Trm p) (hq : Trm q) (h1 : p ≠ []) (h2 : q ≠ []) : vl π (gcdp p q) = min (vl π p) (vl π q) := by
  obtain ⟨u, v, k1, k2, k3, e⟩ := gcdp_spec hp hq (.inl h1)
  have l1 := vl_dv h k1.trm hp h1 k2
  have l2 := vl_dv h k1.trm hq h2 k3
  have l3 := gcdp_great hp hq (.inl h1) (vl_pow_dv h hp h1 (Nat.min_le_left (vl π p) (vl π q))) (vl_pow_dv h hq h2 (Nat.min_le_right (vl π p) (vl π q)))
  have l4 := vl_dv h (h.1.pow _).trm k1.trm k1.1 l3
  rw [vl_powp h h.1, vl_self h] at l4
  omega
/-! ### Of the derivative -/
theorem slope_ne {p : List Rat} (hp : Trm p) (h2 : 2 ≤ p.length) : slope p ≠ [] ∧ (slope p).length = p.length - 1 := by
  have hl : (slope p).length = p.length - 1 := by
    refine len_of (trm_slope p) (by omega) ?_ fun i hi => ?_
    · rw [co_slope, co_pder, show p.length - 1 - 1 + 1 = p.length - 1 by omega]
      have h0 : p ≠ [] := by intro e; rw [e, List.length_nil] at h2; omega
      have h3 := trm_last hp h0
      have h4 : ((p.length - 1 - 1 : Nat) : Rat) + 1 ≠ 0 := by
        have : (0 : Rat) ≤ ((p.length - 1 - 1 : Nat) : Rat) := by exact_mod_cast Nat.zero_le _
        grind
      intro e
      rcases Rat.mul_eq_zero.1 e with h | h
      · exact h3 h
      · exact h4 h
    · rw [co_slope, co_pder, co_ge (by omega)]; grind
  exact ⟨fun e => by rw [e, List.length_nil] at hl; omega, hl⟩
theorem vl_slope {π p : List Rat} (h : Irr π) (hp : Trm p) (h0 : p ≠ []) (hv : 1 ≤ vl π p) : slope p ≠ [] ∧ vl π (slope p) = vl π p - 1 := by
  have hd := dv_vl_pos h hp h0 hv
  have hl := hd.len h.1.trm hp h0
  have hs := slope_ne hp (Nat.le_trans h.2.1 hl)
  refine ⟨hs.1, ?_⟩
  obtain ⟨q, h1, h2, e⟩ := vl_spec h hp h0
  obtain ⟨k, hk⟩ : ∃ k, vl π p = k + 1 := ⟨vl π p - 1, by omega⟩
  rw [hk, Nat.add_sub_cancel]
  rw [hk] at e
  have hq0 : q ≠ [] := by rintro rfl; exact h2 (Dv.nil π)
  have hs2 := slope_ne h.1.trm h.2.1
  have ep : p = mulp (powp π (k + 1)) q := trm_pv hp (trm_mulp _ _) fun x => by rw [e, pv_mulp, pv_powp]
  have hpow : ∀ j : Nat, ∀ x, pv (slope (powp π (j + 1))) x = ((j : Rat) + 1) * (pv π x ^ j * pv (slope π) x) := by
    intro j
    induction j with
    | zero =>
      intro x
      have e1 : powp π 1 = π := trm_pv (h.1.pow 1).trm h.1.trm fun x => by rw [pv_powp, show (1 : Nat) = 0 + 1 from rfl, pow_nat_succ, Rat.pow_zero]; grind
      rw [show (0 : Nat) + 1 = 1 from rfl, e1, Rat.pow_zero]
      have : ((0 : Nat) : Rat) = 0 := rfl
      rw [this]; grind
    | succ j ih =>
      intro x
      have e1 : slope (powp π (j + 1 + 1)) = addp (mulp (slope (powp π (j + 1))) π) (mulp (powp π (j + 1)) (slope π)) := slope_mulp _ _
      rw [e1, pv_addp, pv_mulp, pv_mulp, ih, pv_powp, pow_nat_succ]
      have : ((j + 1 : Nat) : Rat) = (j : Rat) + 1 := by push_cast; rfl
      rw [this]; grind
  have hj : ((k : Rat) + 1) ≠ 0 := by
    have : (0 : Rat) ≤ (k : Rat) := by exact_mod_cast Nat.zero_le k
    grind
  refine vl_eq h (trm_slope p) hs.1 ⟨addp (mulp (psc ((k : Rat) + 1) (slope π)) q) (mulp π (slope q)), trm_addp _ _, fun hd2 => ?_, fun x => ?_⟩
  · have h3 : Dv π (mulp (slope π) q) := by
      have h4 : Dv π (mulp π (slope q)) := (Dv.refl π).mul' _
      have hi := rat_inv hj
      exact hd2.comb h4 (u := [1 / ((k : Rat) + 1)]) (v := [-(1 / ((k : Rat) + 1))]) fun x => by rw [pv_mulp, pv_one, pv_one, pv_addp, pv_mulp, pv_mulp, pv_psc]; grind
    rcases h.prime (trm_slope π) h3 with h5 | h5
    · have := h5.len h.1.trm (trm_slope π) hs2.1
      have := h.2.1
      omega
    · exact h2 h5
  · have e2 : slope p = addp (mulp (slope (powp π (k + 1))) q) (mulp (powp π (k + 1)) (slope q)) := by rw [ep]; exact slope_mulp _ _
    rw [e2, pv_addp, pv_mulp, pv_mulp, hpow, pv_powp, pow_nat_succ, pv_addp, pv_mulp, pv_psc, pv_mulp]; grind
end Go.Proofs.YtokojbgpboccnaaGreat

/-
  POLYNOMIALS: how often one goes into another one; each root once. Nothing of a program.
-/
namespace Go.Proofs.YtokojbgpboccnaaGreat
set_option linter.unusedVariables false
open Classical in
noncomputable def quop (p q : List Rat) : List Rat := if h : Trm p ∧ Trm q ∧ q ≠ [] then (div_ex h.2.1 h.2.2 p.length p h.1 (Nat.le_refl _)).choose else []
theorem quop_spec {p q : List Rat} (hp : Trm p) (hq : Trm q) (h0 : q ≠ []) : ∃ r, Trm (quop p q) ∧ Trm r ∧ r.length < q.length ∧ ∀ x, pv p x = pv (quop p q) x * pv q x + pv r x := by
  unfold quop
  rw [dif_pos ⟨hp, hq, h0⟩]
  exact (div_ex hq h0 p.length p hp (Nat.le_refl _)).choose_spec
theorem quop_of {p q y r : List Rat} (hp : Trm p) (hq : Trm q) (h0 : q ≠ []) (hy : Trm y) (hr : Trm r) (hl : r.length < q.length) (e : ∀ x, pv p x = pv y x * pv q x + pv r x) : y = quop p q := by
  obtain ⟨s, h1, h2, h3, h4⟩ := quop_spec hp hq h0
  exact (div_unique hq h0 hy hr h1 h2 hl h3 fun x => (e x).symm.trans (h4 x)).1
theorem quop_dv {p q : List Rat} (hp : Trm p) (hq : Trm q) (h0 : q ≠ []) (h : Dv q p) : mulp (quop p q) q = p := by
  obtain ⟨s, h1, h2, h3, h4⟩ := quop_spec hp hq h0
  have h5 := rem_nil hq h0 h2 h3 h4 h
  exact trm_pv (trm_mulp _ _) hp fun x => by rw [pv_mulp, h4, h5]; show _ = _ + (0 : Rat); grind
theorem quop_ne {p q : List Rat} (hp : Trm p) (hq : Trm q) (h0 : q ≠ []) (h : Dv q p) (hp0 : p ≠ []) : quop p q ≠ [] := fun e => by
  have h1 := quop_dv hp hq h0 h
  rw [e] at h1
  exact hp0 (nil_of_pv hp fun x => by rw [← h1, pv_mulp]; show (0 : Rat) * _ = 0; grind)
theorem vl_quop {π p q : List Rat} (hi : Irr π) (hp : Trm p) (hq : Trm q) (h0 : q ≠ []) (h : Dv q p) (hp0 : p ≠ []) : vl π (quop p q) + vl π q = vl π p := by
  obtain ⟨s, h1, _⟩ := quop_spec hp hq h0
  rw [← vl_mulp hi h1 hq (quop_ne hp hq h0 h hp0) h0, quop_dv hp hq h0 h]
theorem mnc_quop {p q : List Rat} (hp : Mnc p) (hq : Mnc q) (h : Dv q p) : Mnc (quop p q) := by
  obtain ⟨s, h1, _⟩ := quop_spec hp.trm hq.trm hq.1
  have h2 := quop_ne hp.trm hq.trm hq.1 h hp.1
  refine ⟨h2, ?_⟩
  have h3 := top_mulp h1 hq.trm h2 hq.1
  rw [quop_dv hp.trm hq.trm hq.1 h, hp.2, hq.2] at h3
  grind
/-- Each root once. -/
noncomputable def freep (p : List Rat) : List Rat := quop (mnc p) (gcdp p (slope p))
theorem freep_nil : freep [] = [] := by
  have h1 : gcdp [] (slope []) = [] := gcdp_nil
  unfold freep quop
  rw [h1, dif_neg (by rintro ⟨_, _, h⟩; exact h rfl)]
theorem gs_spec {p : List Rat} (hp : Trm p) (h0 : p ≠ []) : Mnc (gcdp p (slope p)) ∧ Dv (gcdp p (slope p)) p ∧ Dv (gcdp p (slope p)) (mnc p) := by
  obtain ⟨u, v, h1, h2, h3, _⟩ := gcdp_spec hp (trm_slope p) (.inl h0)
  exact ⟨h1, h2, h2.trans (dv_mnc p)⟩
theorem mnc_freep {p : List Rat} (hp : Trm p) (h0 : p ≠ []) : Mnc (freep p) := by
  obtain ⟨h1, h2, h3⟩ := gs_spec hp h0
  exact mnc_quop (mnc_mnc hp h0) h1 h3
theorem vl_gs {π p : List Rat} (hi : Irr π) (hp : Trm p) (h0 : p ≠ []) : vl π (gcdp p (slope p)) = vl π p - 1 := by
  obtain ⟨h1, h2, h3⟩ := gs_spec hp h0
  by_cases hv : 1 ≤ vl π p
  · obtain ⟨h4, h5⟩ := vl_slope hi hp h0 hv
    rw [vl_gcdp hi hp (trm_slope p) h0 h4, h5]
    omega
  · have := vl_dv hi h1.trm hp h0 h2
    omega
theorem vl_freep {π p : List Rat} (hi : Irr π) (hp : Trm p) (h0 : p ≠ []) : vl π (freep p) = min 1 (vl π p) := by
  obtain ⟨h1, h2, h3⟩ := gs_spec hp h0
  have h4 := mnc_mnc hp h0
  have h5 := vl_quop hi h4.trm h1.trm h1.1 h3 h4.1
  rw [vl_gs hi hp h0, vl_mnc hi hp h0] at h5
  show vl π (quop (mnc p) (gcdp p (slope p))) = _
  omega
/-- With no root twice. -/
theorem gcdp_slope_one {p : List Rat} (hp : Trm p) (h0 : p ≠ []) (h : ∀ π, Irr π → vl π p ≤ 1) : gcdp p (slope p) = [1] := by
  obtain ⟨h1, h2, h3⟩ := gs_spec hp h0
  refine eq_of_vl h1 mnc_one fun π hi => ?_
  rw [vl_gs hi hp h0, vl_one hi]
  have := h π hi
  omega
end Go.Proofs.YtokojbgpboccnaaGreat

/-
  POLYNOMIALS: free parts by way of the monic one; roots by how often (Yun), as it is made. Nothing of a program.
-/
namespace Go.Proofs.YtokojbgpboccnaaGreat
set_option linter.unusedVariables false
theorem slope_mnc (p : List Rat) (x : Rat) : pv (slope (mnc p)) x = 1 / top p * pv (slope p) x := by
  rw [pv_slope, pv_slope, ← pv_pder_psc]
  exact pv_pder_congr (fun i => by rw [co_mnc, co_psc]) x
theorem gcdp_mnc_slope {p : List Rat} (hp : Trm p) : gcdp (mnc p) (slope (mnc p)) = gcdp p (slope p) := by
  by_cases h0 : p = []
  · subst h0; rfl
  · obtain ⟨u, v, k1, k2, k3, _⟩ := gcdp_spec hp (trm_slope p) (.inl h0)
    have hi := rat_inv (top_ne hp h0)
    refine (gcdp_of (trm_mnc p) (trm_slope _) (.inl (mnc_mnc hp h0).1) k1 (k2.trans (dv_mnc p)) ?_ fun d h1 h2 => ?_).symm
    · exact k3.comb k3 (u := [1 / top p]) (v := []) fun x => by rw [slope_mnc, pv_one, pv_nil]; grind
    · refine gcdp_great hp (trm_slope p) (.inl h0) (h1.trans (mnc_dv hp)) ?_
      refine h2.comb h2 (u := [top p]) (v := []) fun x => ?_
      rw [slope_mnc, pv_one, pv_nil]
      generalize 1 / top p = a at *
      grind
/-- As the program makes it. -/
theorem freep_eq {p : List Rat} (hp : Trm p) : freep p = quop (mnc p) (gcdp (mnc p) (slope (mnc p))) := by rw [gcdp_mnc_slope hp]; rfl
theorem Mnc.ne {p : List Rat} (h : Mnc p) : p ≠ [] := h.1
theorem freep_dv {p : List Rat} (hp : Trm p) (h0 : p ≠ []) : Dv (freep p) p := by
  obtain ⟨h1, h2, h3⟩ := gs_spec hp h0
  have e := quop_dv (trm_mnc p) h1.trm h1.1 h3
  refine Dv.trans ?_ (mnc_dv hp)
  refine Dv.of (k := gcdp p (slope p)) fun x => ?_
  rw [← e, pv_mulp]
  show _ = _ * pv (quop (mnc p) (gcdp p (slope p))) x
  grind
end Go.Proofs.YtokojbgpboccnaaGreat

/-
  STURM: changes of sign along a chain, and roots, over the rational numbers. Nothing of a program.
-/
namespace Go.Proofs.YtokojbgpboccnaaGreat
set_option linter.unusedVariables false

/-! ### Sizes -/
def ab (x : Rat) : Rat := if x < 0 then -x else x
theorem ab_nonneg (x : Rat) : 0 ≤ ab x := by unfold ab; split <;> grind
theorem ab_le {x e : Rat} : ab x ≤ e ↔ -e ≤ x ∧ x ≤ e := by unfold ab; split <;> grind
theorem ab_lt {x e : Rat} : ab x < e ↔ -e < x ∧ x < e := by unfold ab; split <;> grind
theorem ab_ge {x e : Rat} (he : 0 < e) : e ≤ ab x ↔ e ≤ x ∨ x ≤ -e := by unfold ab; split <;> grind
theorem ab_add (x y : Rat) : ab (x + y) ≤ ab x + ab y := by unfold ab; split <;> split <;> split <;> grind
theorem tri (x : Rat) : x < 0 ∨ x = 0 ∨ 0 < x := by grind
theorem mul_neg' {x y : Rat} (hx : x < 0) (hy : y < 0) : 0 < x * y := by have := Rat.mul_pos (show 0 < -x by grind) (show 0 < -y by grind); grind
theorem mul_pn {x y : Rat} (hx : 0 < x) (hy : y < 0) : x * y < 0 := by have := Rat.mul_pos hx (show 0 < -y by grind); grind
theorem mul_np {x y : Rat} (hx : x < 0) (hy : 0 < y) : x * y < 0 := by have := Rat.mul_pos (show 0 < -x by grind) hy; grind
theorem ab_mul (x y : Rat) : ab (x * y) = ab x * ab y := by
  rcases tri x with hx | hx | hx <;> rcases tri y with hy | hy | hy
  · have h := mul_neg' hx hy
    unfold ab; rw [if_neg (by grind), if_pos hx, if_pos hy]; grind
  · subst hy; unfold ab; grind
  · have h := mul_np hx hy
    unfold ab; rw [if_pos h, if_pos hx, if_neg (by grind)]; grind
  · subst hx; unfold ab; grind
  · subst hx; unfold ab; grind
  · subst hx; unfold ab; grind
  · have h := mul_pn hx hy
    unfold ab; rw [if_pos h, if_pos hy, if_neg (by grind)]; grind
  · subst hy; unfold ab; grind
  · have h : 0 < x * y := Rat.mul_pos hx hy
    unfold ab; rw [if_neg (by grind), if_neg (by grind), if_neg (by grind)]
theorem ab_mul_le {x y a b : Rat} (hx : ab x ≤ a) (hy : ab y ≤ b) : ab (x * y) ≤ a * b := by
  rw [ab_mul]
  have h1 := ab_nonneg x
  have h2 := ab_nonneg y
  have h3 : ab x * ab y ≤ a * ab y := Rat.mul_le_mul_of_nonneg_right hx h2
  have h4 : a * ab y ≤ a * b := Rat.mul_le_mul_of_nonneg_left hy (by grind)
  grind
theorem pv_bnd (M : Rat) (hM : 0 ≤ M) : ∀ l : List Rat, ∃ K : Rat, 0 ≤ K ∧ ∀ x, ab x ≤ M → ab (pv l x) ≤ K := by
  intro l
  induction l with
  | nil => exact ⟨0, by grind, fun x _ => by rw [pv_nil]; unfold ab; grind⟩
  | cons a l ih =>
    obtain ⟨K, hK, h⟩ := ih
    have h0 := ab_nonneg a
    have h1 := Rat.mul_nonneg hM hK
    refine ⟨ab a + M * K, by grind, fun x hx => ?_⟩
    rw [pv_cons]
    have h2 := ab_add a (x * pv l x)
    have h3 := ab_mul_le hx (h x hx)
    grind
theorem pv_lip (M : Rat) (hM : 0 ≤ M) : ∀ l : List Rat, ∃ K : Rat, 0 ≤ K ∧ ∀ x y, ab x ≤ M → ab y ≤ M → ab (pv l y - pv l x) ≤ K * ab (y - x) := by
  intro l
  induction l with
  | nil => exact ⟨0, by grind, fun x y _ _ => by rw [pv_nil, pv_nil]; unfold ab; grind⟩
  | cons a l ih =>
    obtain ⟨K, hK, h⟩ := ih
    obtain ⟨L, hL, h'⟩ := pv_bnd M hM l
    have h1 := Rat.mul_nonneg hM hK
    refine ⟨M * K + L, by grind, fun x y hx hy => ?_⟩
    rw [pv_cons, pv_cons]
    have e : a + y * pv l y - (a + x * pv l x) = y * (pv l y - pv l x) + pv l x * (y - x) := by grind
    rw [e]
    have h2 := ab_add (y * (pv l y - pv l x)) (pv l x * (y - x))
    have h3 := ab_mul_le hy (h x y hx hy)
    have h4 := ab_mul_le (h' x hx) (show ab (y - x) ≤ ab (y - x) by grind)
    grind
theorem pv_tay (M : Rat) (hM : 0 ≤ M) : ∀ l : List Rat, ∃ K : Rat, 0 ≤ K ∧ ∀ x y, ab x ≤ M → ab y ≤ M → ab (pv l y - pv l x - (y - x) * pv (pder l) x) ≤ K * (ab (y - x) * ab (y - x)) := by
  intro l
  induction l with
  | nil => exact ⟨0, by grind, fun x y _ _ => by show ab (0 - 0 - (y - x) * 0) ≤ _; unfold ab; grind⟩
  | cons a l ih =>
    obtain ⟨K, hK, h⟩ := ih
    obtain ⟨L, hL, h'⟩ := pv_bnd M hM (pder l)
    have h1 := Rat.mul_nonneg hM hK
    refine ⟨M * K + L, by grind, fun x y hx hy => ?_⟩
    rw [pv_cons, pv_cons, pv_pder_cons]
    have e : a + y * pv l y - (a + x * pv l x) - (y - x) * (pv l x + x * pv (pder l) x) = y * (pv l y - pv l x - (y - x) * pv (pder l) x) + pv (pder l) x * ((y - x) * (y - x)) := by grind
    rw [e]
    have h2 := ab_add (y * (pv l y - pv l x - (y - x) * pv (pder l) x)) (pv (pder l) x * ((y - x) * (y - x)))
    have h3 := ab_mul_le hy (h x y hx hy)
    have h4 := ab_mul_le (h' x hx) (ab_mul_le (show ab (y - x) ≤ ab (y - x) by grind) (show ab (y - x) ≤ ab (y - x) by grind))
    grind

/-! ### Changes of sign -/
/-- How often the sign changes, noughts left out; 'last' was the last one that was not nought. -/
def chq : Rat → List Rat → Nat
  | _, [] => 0
  | a, x :: l => if x = 0 then chq a l else (if a * x < 0 then 1 else 0) + chq x l
theorem chq_cons {a x : Rat} (h : x ≠ 0) (l : List Rat) : chq a (x :: l) = (if a * x < 0 then 1 else 0) + chq x l := by simp [chq, h]
theorem chq_nought (a : Rat) (l : List Rat) : chq a (0 :: l) = chq a l := by simp [chq]
theorem chq_first {x : Rat} (h : x ≠ 0) (l : List Rat) : chq 0 (x :: l) = chq x l := by rw [chq_cons h, if_neg (by grind)]; omega
theorem chq_first2 {y : Rat} (h : y ≠ 0) (x : Rat) (l : List Rat) : chq 0 (x :: y :: l) = (if x * y < 0 then 1 else 0) + chq 0 (y :: l) := by
  rw [chq_first h]
  by_cases hx : x = 0
  · subst hx; rw [chq_nought, chq_first h, if_neg (by grind)]; omega
  · rw [chq_first hx, chq_cons h]
theorem sgn_ne {x y : Rat} (h : 0 < x * y) : x ≠ 0 ∧ y ≠ 0 := ⟨fun e => by rw [e] at h; grind, fun e => by rw [e] at h; grind⟩
theorem sgn_pp {x y : Rat} (h : 0 < x * y) : (0 < x ∧ 0 < y) ∨ (x < 0 ∧ y < 0) := by
  rcases tri x with hx | hx | hx <;> rcases tri y with hy | hy | hy
  · exact .inr ⟨hx, hy⟩
  · subst hy; grind
  · have := mul_np hx hy; grind
  · subst hx; grind
  · subst hx; grind
  · subst hx; grind
  · have := mul_pn hx hy; grind
  · subst hy; grind
  · exact .inl ⟨hx, hy⟩
theorem sgn_pn {x y : Rat} (h : x * y < 0) : (0 < x ∧ y < 0) ∨ (x < 0 ∧ 0 < y) := by
  rcases tri x with hx | hx | hx <;> rcases tri y with hy | hy | hy
  · have := mul_neg' hx hy; grind
  · subst hy; grind
  · exact .inr ⟨hx, hy⟩
  · subst hx; grind
  · subst hx; grind
  · subst hx; grind
  · exact .inl ⟨hx, hy⟩
  · subst hy; grind
  · have := Rat.mul_pos hx hy; grind
theorem sgn_same {a a' x x' : Rat} (h : 0 < a * a') (h' : 0 < x * x') : a * x < 0 ↔ a' * x' < 0 := by
  rcases sgn_pp h with ⟨h1, h2⟩ | ⟨h1, h2⟩ <;> rcases sgn_pp h' with ⟨h3, h4⟩ | ⟨h3, h4⟩
  · have := Rat.mul_pos h1 h3; have := Rat.mul_pos h2 h4; grind
  · have := mul_pn h1 h3; have := mul_pn h2 h4; grind
  · have := mul_np h1 h3; have := mul_np h2 h4; grind
  · have := mul_neg' h1 h3; have := mul_neg' h2 h4; grind
/-- Of two with unlike signs: what lies between does not count. -/
theorem chq_skip {x z : Rat} (h : x * z < 0) (u : Rat) (l : List Rat) : chq x (u :: z :: l) = 1 + chq z l := by
  have hz : z ≠ 0 := fun e => by rw [e] at h; grind
  by_cases hu : u = 0
  · subst hu; rw [chq_nought, chq_cons hz, if_pos h]
  · rw [chq_cons hu, chq_cons hz]
    rcases sgn_pn h with ⟨h1, h2⟩ | ⟨h1, h2⟩ <;> rcases tri u with h3 | h3 | h3
    · rw [if_pos (mul_pn h1 h3), if_neg (by have := mul_neg' h3 h2; grind)]; omega
    · exact absurd h3 hu
    · rw [if_neg (by have := Rat.mul_pos h1 h3; grind), if_pos (mul_pn h3 h2)]; omega
    · rw [if_neg (by have := mul_neg' h1 h3; grind), if_pos (mul_np h3 h2)]; omega
    · exact absurd h3 hu
    · rw [if_pos (mul_np h1 h3), if_neg (by have := Rat.mul_pos h3 h2; grind)]; omega
inductive Alike : List Rat → List Rat → Prop
  | one {x y : Rat} : 0 < x * y → Alike [x] [y]
  | step {x y : Rat} {l m : List Rat} : 0 < x * y → Alike l m → Alike (x :: l) (y :: m)
  | skip {x y u v z t : Rat} {l m : List Rat} : 0 < x * y → x * z < 0 → 0 < z * t → Alike (z :: l) (t :: m) → Alike (x :: u :: z :: l) (y :: v :: t :: m)
theorem Alike.chq {l m : List Rat} (h : Alike l m) : ∀ a b : Rat, (0 < a * b ∨ (a = 0 ∧ b = 0)) → chq a l = chq b m := by
  have hif : ∀ {a b x y : Rat}, (0 < a * b ∨ (a = 0 ∧ b = 0)) → 0 < x * y → (if a * x < 0 then 1 else 0 : Nat) = if b * y < 0 then 1 else 0 := by
    intro a b x y hab hxy
    rcases hab with hab | ⟨rfl, rfl⟩
    · by_cases h : a * x < 0
      · rw [if_pos h, if_pos ((sgn_same hab hxy).1 h)]
      · rw [if_neg h, if_neg fun h2 => h ((sgn_same hab hxy).2 h2)]
    · rw [if_neg (by grind), if_neg (by grind)]
  induction h with
  | one hxy =>
    intro a b hab
    rw [chq_cons (sgn_ne hxy).1, chq_cons (sgn_ne hxy).2, hif hab hxy]
    rfl
  | step hxy _ ih =>
    intro a b hab
    rw [chq_cons (sgn_ne hxy).1, chq_cons (sgn_ne hxy).2, hif hab hxy, ih _ _ (.inl hxy)]
  | @skip x y u v z t l m hxy hxz hzt _ ih =>
    intro a b hab
    have h2 := ih 0 0 (.inr ⟨rfl, rfl⟩)
    rw [chq_first (sgn_ne hzt).1, chq_first (sgn_ne hzt).2] at h2
    rw [chq_cons (sgn_ne hxy).1, chq_cons (sgn_ne hxy).2, hif hab hxy, chq_skip hxz, chq_skip ((sgn_same hxy hzt).1 hxz), h2]

theorem div_pos {a b : Rat} (ha : 0 < a) (hb : 0 < b) : 0 < a / b := by
  rw [Rat.div_def]
  exact Rat.mul_pos ha (Rat.inv_pos.2 hb)
/-! ### Chains -/
/-- A chain: each but the first two is what is left of the two before it, turned; the last one is a number that is not 0. -/
def Chn : List (List Rat) → Prop
  | [] => False
  | [f] => ∃ c : Rat, c ≠ 0 ∧ ∀ x, pv f x = c
  | [_, g] => ∃ c : Rat, c ≠ 0 ∧ ∀ x, pv g x = c
  | f :: g :: h :: l => (∃ q : List Rat, ∀ x, pv f x = pv q x * pv g x - pv h x) ∧ Chn (g :: h :: l)
/-- Where one is near 0, both beside it are not, and of unlike signs; the last one is not near 0. -/
def Tst (e : Rat) : List Rat → Prop
  | [] => False
  | [x] => e ≤ ab x
  | [_, y] => e ≤ ab y
  | x :: y :: z :: l => (ab y < e → x * z < 0 ∧ e ≤ ab x ∧ e ≤ ab z) ∧ Tst e (y :: z :: l)
theorem Tst.mono {e e' : Rat} (h : e' ≤ e) : ∀ {l : List Rat}, Tst e l → Tst e' l := by
  intro l
  induction l using Tst.induct with
  | case1 => exact fun h => h
  | case2 x => intro h1; unfold Tst at h1 ⊢; grind
  | case3 x y => intro h1; unfold Tst at h1 ⊢; grind
  | case4 x y z l ih =>
    intro h1
    unfold Tst at h1 ⊢
    refine ⟨fun h2 => ?_, ih h1.2⟩
    have h3 := h1.1 (by grind)
    exact ⟨h3.1, by grind, by grind⟩
/-- The first one or the second one is not near 0. -/
def Hd2 (e : Rat) : List Rat → Prop
  | [] => False
  | [x] => e ≤ ab x
  | x :: y :: _ => e ≤ ab x ∨ e ≤ ab y
theorem chn_tst (M : Rat) (hM : 0 ≤ M) : ∀ c : List (List Rat), Chn c → ∃ e : Rat, 0 < e ∧ ∀ x, ab x ≤ M → Tst e (c.map (pv · x)) ∧ Hd2 e (c.map (pv · x)) := by
  intro c
  induction c using Chn.induct with
  | case1 => exact fun h => h.elim
  | case2 f =>
    rintro ⟨c, hc, h⟩
    refine ⟨ab c, by unfold ab; grind, fun x _ => ?_⟩
    simp only [List.map_cons, List.map_nil, Tst, Hd2, h x]
    grind
  | case3 f g =>
    rintro ⟨c, hc, h⟩
    refine ⟨ab c, by unfold ab; grind, fun x _ => ?_⟩
    simp only [List.map_cons, List.map_nil, Tst, Hd2, h x]
    grind
  | case4 f g h l ih =>
    rintro ⟨⟨q, hq⟩, hc⟩
    obtain ⟨e, he, H⟩ := ih hc
    obtain ⟨K, hK, hb⟩ := pv_bnd M hM q
    have hd : e / (2 * (K + 1)) * (2 * (K + 1)) = e := Rat.div_mul_cancel (by grind)
    have hp : 0 < e / (2 * (K + 1)) := div_pos he (by grind)
    refine ⟨e / (2 * (K + 1)), hp, fun x hx => ?_⟩
    obtain ⟨h1, h2⟩ := H x hx
    generalize e / (2 * (K + 1)) = d at hd hp
    have hle : d ≤ e := by have := Rat.mul_nonneg hK (show 0 ≤ d by grind); grind
    have key : ab (pv g x) < d → pv f x * pv h x < 0 ∧ d ≤ ab (pv f x) ∧ d ≤ ab (pv h x) := by
      intro hg
      have h3 : e ≤ ab (pv h x) := by
        have h4 : e ≤ ab (pv g x) ∨ e ≤ ab (pv h x) := h2
        rcases h4 with h4 | h4
        · grind
        · exact h4
      have h5 : ab (pv q x * pv g x) ≤ K * d := ab_mul_le (hb x hx) (by grind)
      have h6 : 2 * (K * d) < e := by grind
      rw [ab_le] at h5
      rw [ab_ge he] at h3
      have e1 := hq x
      rcases h3 with h3 | h3
      · refine ⟨mul_np (by grind) (by grind), ?_, ?_⟩
        · rw [ab_ge hp]; grind
        · rw [ab_ge hp]; grind
      · refine ⟨mul_pn (by grind) (by grind), ?_, ?_⟩
        · rw [ab_ge hp]; grind
        · rw [ab_ge hp]; grind
    refine ⟨⟨key, Tst.mono hle h1⟩, ?_⟩
    by_cases hg : ab (pv g x) < d
    · exact .inl (key hg).2.1
    · exact .inr (by show d ≤ ab (pv g x); grind)
theorem near_same {e x y : Rat} (he : 0 < e) (h : e ≤ ab x) (h' : ab (y - x) < e) : 0 < x * y := by
  rw [ab_ge he] at h
  rw [ab_lt] at h'
  rcases h with h | h
  · exact Rat.mul_pos (by grind) (by grind)
  · exact mul_neg' (by grind) (by grind)
/-- Two lists that are near each other, place by place. -/
inductive Nrs (e : Rat) : List Rat → List Rat → Prop
  | nil : Nrs e [] []
  | cons {x y : Rat} {l m : List Rat} : ab (y - x) < e → Nrs e l m → Nrs e (x :: l) (y :: m)
theorem tst_alike {e : Rat} (he : 0 < e) : ∀ (n : Nat) (l m : List Rat), l.length ≤ n → Tst e l → (∀ x, l.head? = some x → e ≤ ab x) → Nrs e l m → Alike l m := by
  intro n
  induction n with
  | zero =>
    intro l m hl ht
    obtain rfl : l = [] := List.length_eq_zero_iff.1 (by omega)
    exact ht.elim
  | succ n ih =>
    intro l m hl ht hh hn
    cases hn with
    | nil => exact ht.elim
    | @cons x y l m h1 hn =>
      have hx := hh x rfl
      have hxy := near_same he hx h1
      cases hn with
      | nil => exact .one hxy
      | @cons u v l m h2 hn =>
        by_cases hu : e ≤ ab u
        · refine .step hxy (ih _ _ (by simpa using hl) ?_ (fun z hz => by cases hz; exact hu) (.cons h2 hn))
          cases l with
          | nil => exact hu
          | cons z l => exact ht.2
        · cases hn with
          | nil => exact absurd ht hu
          | @cons z t l m h3 hn =>
            obtain ⟨h4, h5, h6⟩ := ht.1 (by grind)
            refine .skip hxy h4 (near_same he h6 h3) (ih _ _ (by simp at hl ⊢; omega) ?_ (fun z' hz => by cases hz; exact h6) (.cons h3 hn))
            cases l with
            | nil => exact h6
            | cons a l => exact ht.2.2
theorem nrs_chain (M : Rat) (hM : 0 ≤ M) (e : Rat) (he : 0 < e) : ∀ c : List (List Rat), ∃ d : Rat, 0 < d ∧ ∀ s t, ab s ≤ M → ab t ≤ M → ab (t - s) ≤ d → Nrs e (c.map (pv · s)) (c.map (pv · t)) := by
  intro c
  induction c with
  | nil => exact ⟨1, by decide, fun _ _ _ _ _ => .nil⟩
  | cons f c ih =>
    obtain ⟨d, hd, h⟩ := ih
    obtain ⟨K, hK, h'⟩ := pv_lip M hM f
    have h1 : e / (K + 1) * (K + 1) = e := Rat.div_mul_cancel (by grind)
    have h2 : 0 < e / (K + 1) := div_pos he (by grind)
    generalize e / (K + 1) = k at h1 h2
    have key : ∀ s t, ab s ≤ M → ab t ≤ M → ab (t - s) ≤ k → ab (pv f t - pv f s) < e := by
      intro s t hs ht hst
      have h3 := h' s t hs ht
      have h4 := Rat.mul_le_mul_of_nonneg_left hst hK
      grind
    by_cases hkd : k ≤ d
    · exact ⟨k, h2, fun s t hs ht hst => .cons (key s t hs ht hst) (h s t hs ht (by grind))⟩
    · exact ⟨d, hd, fun s t hs ht hst => .cons (key s t hs ht (by grind)) (h s t hs ht hst)⟩

/-- The polynomial is 0 at the end, or of unlike signs at both: one root more. -/
def flp (f : List Rat) (s t : Rat) : Nat := if pv f t = 0 ∨ pv f s * pv f t < 0 then 1 else 0
/-- How often the signs of a chain change at a number. -/
def vch (c : List (List Rat)) (x : Rat) : Nat := chq 0 (c.map (pv · x))
/-- STURM, in the small. -/
theorem sturm_near {f g : List Rat} {l : List (List Rat)} (hc : Chn (f :: g :: l)) (hg : ∀ x, pv g x = pv (pder f) x) (M : Rat) (hM : 0 ≤ M) :
    ∃ d : Rat, 0 < d ∧ ∀ s t, ab s ≤ M → ab t ≤ M → s < t → t - s ≤ d → vch (f :: g :: l) s = vch (f :: g :: l) t + flp f s t := by
  obtain ⟨e, he, H⟩ := chn_tst M hM _ hc
  obtain ⟨d, hd, N⟩ := nrs_chain M hM e he (f :: g :: l)
  obtain ⟨K, hK, T⟩ := pv_tay M hM f
  have h1 : e / (K + 1) * (K + 1) = e := Rat.div_mul_cancel (by grind)
  have h2 : 0 < e / (K + 1) := div_pos he (by grind)
  generalize e / (K + 1) = k at h1 h2
  obtain ⟨m, hm, hmd, hmk⟩ : ∃ m : Rat, 0 < m ∧ m ≤ d ∧ m ≤ k := by
    by_cases h : d ≤ k
    · exact ⟨d, hd, by grind, h⟩
    · exact ⟨k, h2, by grind, by grind⟩
  refine ⟨m, hm, fun s t hs ht hst hle => ?_⟩
  obtain ⟨t1, t2⟩ := H s hs
  have eab : ab (t - s) = t - s := by unfold ab; rw [if_neg (by grind)]
  have n1 := N s t hs ht (by rw [eab]; grind)
  simp only [List.map_cons] at t1 t2 n1
  unfold vch flp
  simp only [List.map_cons]
  cases n1 with
  | cons n1 n2 =>
  by_cases hf : e ≤ ab (pv f s)
  · have hp := near_same he hf n1
    have ha := tst_alike he _ _ _ (Nat.le_refl _) t1 (fun z hz => by cases hz; exact hf) (.cons n1 n2)
    rw [ha.chq 0 0 (.inr ⟨rfl, rfl⟩), if_neg]
    · rfl
    · rintro (h | h)
      · exact (sgn_ne hp).2 h
      · grind
  · have hgs : e ≤ ab (pv g s) := by
      rcases t2 with h | h
      · exact absurd h hf
      · exact h
    have n2' := n2
    cases n2' with
    | cons n3 n4 =>
    have hgp := near_same he hgs n3
    have ha : Alike (pv g s :: l.map (pv · s)) (pv g t :: l.map (pv · t)) := tst_alike he _ _ _ (Nat.le_refl _) (by
      cases l with
      | nil => exact t1
      | cons h l => exact t1.2) (fun z hz => by cases hz; exact hgs) (.cons n3 n4)
    rw [chq_first2 (sgn_ne hgp).1, chq_first2 (sgn_ne hgp).2, ha.chq 0 0 (.inr ⟨rfl, rfl⟩)]
    have hT := T s t hs ht
    rw [← hg s, eab, ab_le] at hT
    have hpos : 0 < t - s := by grind
    have hkk : K * (t - s) < e := by
      have := Rat.mul_le_mul_of_nonneg_left (show t - s ≤ k by grind) hK
      grind
    have hK2 : K * ((t - s) * (t - s)) < (t - s) * e := by
      have := Rat.mul_pos hpos (show 0 < e - K * (t - s) by grind)
      grind
    rw [ab_ge he] at hgs
    rcases sgn_pp hgp with ⟨g1, g2⟩ | ⟨g1, g2⟩
    · have hup : pv f s < pv f t := by
        have h3 := Rat.mul_le_mul_of_nonneg_left (show e ≤ pv g s by grind) (show 0 ≤ t - s by grind)
        grind
      by_cases ha : pv f s < 0
      · rw [if_pos (mul_np ha g1)]
        by_cases hb : pv f t < 0
        · rw [if_pos (mul_np hb g2), if_neg (by have := mul_neg' ha hb; grind)]; omega
        · rw [if_neg (by rcases tri (pv f t) with h | h | h; · grind
                         · rw [h]; grind
                         · have := Rat.mul_pos h g2; grind), if_pos (by rcases tri (pv f t) with h | h | h; · grind
                                                                        · exact .inl h
                                                                        · exact .inr (mul_np ha h))]; omega
      · rw [if_neg (by rcases tri (pv f s) with h | h | h; · grind
                       · rw [h]; grind
                       · have := Rat.mul_pos h g1; grind), if_neg (by have := Rat.mul_pos (show 0 < pv f t by grind) g2; grind), if_neg (by
          rintro (h | h)
          · grind
          · rcases sgn_pn h with h | h <;> grind)]; omega
    · have hup : pv f t < pv f s := by
        have h3 := Rat.mul_le_mul_of_nonneg_left (show e ≤ -pv g s by grind) (show 0 ≤ t - s by grind)
        grind
      by_cases ha : 0 < pv f s
      · rw [if_pos (mul_pn ha g1)]
        by_cases hb : 0 < pv f t
        · rw [if_pos (mul_pn hb g2), if_neg (by have := Rat.mul_pos ha hb; grind)]; omega
        · rw [if_neg (by rcases tri (pv f t) with h | h | h; · have := mul_neg' h g2; grind
                         · rw [h]; grind
                         · grind), if_pos (by rcases tri (pv f t) with h | h | h; · exact .inr (mul_pn ha h)
                                              · exact .inl h
                                              · grind)]; omega
      · rw [if_neg (by rcases tri (pv f s) with h | h | h; · have := mul_neg' h g1; grind
                       · rw [h]; grind
                       · grind), if_neg (by have := mul_neg' (show pv f t < 0 by grind) g2; grind), if_neg (by
          rintro (h | h)
          · grind
          · rcases sgn_pn h with h | h <;> grind)]; omega
/-- What holds of all short ways and goes on, holds of all ways. -/
theorem in_steps {P : Rat → Rat → Prop} {a b d : Rat} (hd : 0 < d) (hab : a < b) (h : ∀ s t, a ≤ s → t ≤ b → s < t → t - s ≤ d → P s t) (ht : ∀ s t u, a ≤ s → s < t → t < u → u ≤ b → P s t → P t u → P s u) : P a b := by
  obtain ⟨N, hN⟩ : ∃ N : Nat, b - a ≤ N * d := by
    refine ⟨((b - a) / d).ceil.toNat, ?_⟩
    have h1 : (b - a) / d * d = b - a := Rat.div_mul_cancel (by grind)
    have h2 : (b - a) / d ≤ (((b - a) / d).ceil : Rat) := Rat.le_ceil
    have h3 : (((b - a) / d).ceil : Rat) ≤ (((b - a) / d).ceil.toNat : Rat) := by
      have : ((b - a) / d).ceil ≤ (((b - a) / d).ceil.toNat : Int) := Int.self_le_toNat _
      exact_mod_cast this
    have h4 := Rat.mul_le_mul_of_nonneg_right (show (b - a) / d ≤ (((b - a) / d).ceil.toNat : Rat) by grind) (show 0 ≤ d by grind)
    grind
  have key : ∀ (n : Nat) (s : Rat), a ≤ s → s < b → b - s ≤ n * d → P s b := by
    intro n
    induction n with
    | zero => intro s _ h1 h2; simp at h2; grind
    | succ n ih =>
      intro s hs h1 h2
      by_cases hle : b - s ≤ d
      · exact h s b hs (by grind) h1 hle
      · refine ht s (s + d) b hs (by grind) (by grind) (by grind) (h s (s + d) hs (by grind) (by grind) (by grind)) (ih (s + d) (by grind) (by grind) ?_)
        push_cast at h2
        grind
  exact key N a (by grind) hab hN

/-- A chain of a polynomial: it, its slope, and what is left, turned; or it alone, a number. -/
def ChnOf (c : List (List Rat)) (f : List Rat) : Prop := Chn c ∧ ((∃ k : Rat, k ≠ 0 ∧ c = [f] ∧ ∀ x, pv f x = k) ∨ ∃ g l, c = f :: g :: l ∧ ∀ x, pv g x = pv (pder f) x)
theorem big_ex (a b : Rat) : ∃ M : Rat, 0 ≤ M ∧ ∀ x, a ≤ x → x ≤ b → ab x ≤ M := by
  refine ⟨ab a + ab b, by have := ab_nonneg a; have := ab_nonneg b; grind, fun x h1 h2 => ?_⟩
  rw [ab_le]
  unfold ab
  split <;> split <;> grind
theorem sturm_step {c : List (List Rat)} {f : List Rat} (h : ChnOf c f) (a b : Rat) : ∃ d : Rat, 0 < d ∧ ∀ s t, a ≤ s → t ≤ b → s < t → t - s ≤ d → vch c s = vch c t + flp f s t := by
  obtain ⟨hc, ⟨k, hk, rfl, hf⟩ | ⟨g, l, rfl, hg⟩⟩ := h
  · refine ⟨1, by decide, fun s t _ _ _ _ => ?_⟩
    unfold vch flp
    simp only [List.map_cons, List.map_nil, hf]
    rw [if_neg (by rintro (h | h); · exact hk h
                   · rcases tri k with h2 | h2 | h2
                     · have := mul_neg' h2 h2; grind
                     · exact hk h2
                     · have := Rat.mul_pos h2 h2; grind)]
    rfl
  · obtain ⟨M, hM, hx⟩ := big_ex a b
    obtain ⟨d, hd, H⟩ := sturm_near hc hg M hM
    exact ⟨d, hd, fun s t hs ht hst hle => H s t (hx s hs (by grind)) (hx t (by grind) ht) hst hle⟩
/-- It never grows. -/
theorem vch_le {c : List (List Rat)} {f : List Rat} (h : ChnOf c f) {a b : Rat} (hab : a ≤ b) : vch c b ≤ vch c a := by
  by_cases he : a = b
  · rw [he]; exact Nat.le_refl _
  · obtain ⟨d, hd, H⟩ := sturm_step h a b
    exact in_steps (P := fun s t => vch c t ≤ vch c s) hd (by grind) (fun s t hs ht hst hle => by have := H s t hs ht hst hle; show vch c t ≤ vch c s; omega) (fun s t u _ _ _ _ h1 h2 => Nat.le_trans h2 h1)
theorem chq_len : ∀ (l : List Rat) (a : Rat), chq a l ≤ l.length := by
  intro l
  induction l with
  | nil => exact fun a => Nat.le_refl _
  | cons x l ih =>
    intro a
    by_cases hx : x = 0
    · subst hx; rw [chq_nought]; have := ih a; simp; omega
    · rw [chq_cons hx]; have := ih x; simp only [List.length_cons]; split <;> omega
theorem chq_len0 : ∀ l : List Rat, chq 0 l ≤ l.length - 1 := by
  intro l
  induction l with
  | nil => exact Nat.le_refl _
  | cons x l ih =>
    by_cases hx : x = 0
    · subst hx; rw [chq_nought]; simp; omega
    · rw [chq_first hx]; have := chq_len l x; simpa using this
theorem vch_len (c : List (List Rat)) (x : Rat) : vch c x ≤ c.length - 1 := by have := chq_len0 (c.map (pv · x)); rwa [List.length_map] at this

end Go.Proofs.YtokojbgpboccnaaGreat

/-
  STURM: the chain of a polynomial; its roots each once. Nothing of a program.
-/
namespace Go.Proofs.YtokojbgpboccnaaGreat
set_option linter.unusedVariables false

/-- What is left, turned. -/
noncomputable def nrem (f g : List Rat) : List Rat := trimQ (padd (mulr (quop f g) g) (psc (-1) f))
theorem trm_nrem (f g : List Rat) : Trm (nrem f g) := trm_trim _
theorem pv_nrem (f g : List Rat) (x : Rat) : pv f x = pv (quop f g) x * pv g x - pv (nrem f g) x := by
  rw [nrem, pv_trim, pv_padd, pv_mulr, pv_psc]; grind
theorem nrem_of {f g y s : List Rat} (hf : Trm f) (hg : Trm g) (h0 : g ≠ []) (hy : Trm y) (hs : Trm s) (hl : s.length < g.length) (e : ∀ x, pv f x = pv y x * pv g x - pv s x) : y = quop f g ∧ s = nrem f g := by
  have h1 : y = quop f g := quop_of (r := trimQ (psc (-1) s)) hf hg h0 hy (trm_trim _) (by have := trim_len (psc (-1) s); unfold psc at this; rw [List.length_map] at this; unfold psc; omega) fun x => by
    rw [e, pv_trim, pv_psc]; grind
  refine ⟨h1, trm_pv hs (trm_nrem f g) fun x => ?_⟩
  have h2 := pv_nrem f g x
  rw [e, h1] at h2
  grind
theorem nrem_len {f g : List Rat} (hf : Trm f) (hg : Trm g) (h0 : g ≠ []) : (nrem f g).length < g.length := by
  obtain ⟨r, h1, h2, h3, h4⟩ := quop_spec hf hg h0
  have h5 : trimQ (psc (-1) r) = nrem f g := trm_pv (trm_trim _) (trm_nrem f g) fun x => by
    have := pv_nrem f g x
    rw [h4] at this
    rw [pv_trim, pv_psc]; grind
  rw [← h5]
  have := trim_len (psc (-1) r)
  unfold psc at this ⊢
  rw [List.length_map] at this
  omega
/-- The chain from two on, with so many rounds at most. -/
noncomputable def chnx : Nat → List Rat → List Rat → List (List Rat)
  | 0, f, _ => [f]
  | n + 1, f, g => if g = [] then [f] else f :: chnx n g (nrem f g)
noncomputable def chainp (f : List Rat) : List (List Rat) := chnx f.length f (slope f)
theorem chnx_nil (n : Nat) (f : List Rat) : chnx n f [] = [f] := by cases n <;> simp [chnx]
theorem chnx_cons {n : Nat} {f g : List Rat} (h : g ≠ []) : chnx (n + 1) f g = f :: chnx n g (nrem f g) := by simp [chnx, h]
theorem chnx_head (n : Nat) (f g : List Rat) : ∃ l, chnx n f g = f :: l := by
  cases n with
  | zero => exact ⟨[], rfl⟩
  | succ n =>
    by_cases h : g = []
    · rw [h, chnx_nil]; exact ⟨[], rfl⟩
    · exact ⟨_, chnx_cons h⟩
theorem chnx_len : ∀ (n : Nat) (f g : List Rat), Trm f → Trm g → (chnx n f g).length ≤ g.length + 1 := by
  intro n
  induction n with
  | zero => intro f g _ _; simp [chnx]
  | succ n ih =>
    intro f g hf hg
    by_cases h : g = []
    · rw [h, chnx_nil]; simp
    · rw [chnx_cons h, List.length_cons]
      have h1 := ih g (nrem f g) hg (trm_nrem f g)
      have h2 := nrem_len hf hg h
      omega
theorem const_of_mnc {f : List Rat} (hf : Trm f) (h0 : f ≠ []) (h : mnc f = [1]) : ∃ c : Rat, c ≠ 0 ∧ ∀ x, pv f x = c := by
  have h1 := mnc_len hf h0
  rw [h] at h1
  obtain ⟨c, rfl⟩ := one_of_len (show f.length = 1 by rw [← h1]; rfl)
  refine ⟨c, ?_, fun x => pv_one c x⟩
  have := top_ne hf h0
  simpa [top, co] using this
theorem chnx_chn : ∀ (n : Nat) (f g : List Rat), Trm f → Trm g → f ≠ [] → g.length ≤ n → gcdp f g = [1] → Chn (chnx n f g) := by
  intro n
  induction n with
  | zero =>
    intro f g hf hg h0 hl hgc
    obtain rfl : g = [] := List.length_eq_zero_iff.1 (by omega)
    rw [gcdp_end hf] at hgc
    exact const_of_mnc hf h0 hgc
  | succ n ih =>
    intro f g hf hg h0 hl hgc
    by_cases h : g = []
    · subst h
      rw [chnx_nil]
      rw [gcdp_end hf] at hgc
      exact const_of_mnc hf h0 hgc
    · rw [chnx_cons h]
      have h1 := nrem_len hf hg h
      have h2 : gcdp g (nrem f g) = [1] := by
        rw [← hgc]
        refine (gcdp_next (y := quop f g) (r := psc (-1) (nrem f g)) (c := -1) hf hg h (fun x => ?_) (trm_nrem f g) (by grind) fun x => ?_).symm
        · rw [pv_psc]; have := pv_nrem f g x; grind
        · rw [pv_psc]; grind
      have h3 := ih g (nrem f g) hg (trm_nrem f g) h (by omega) h2
      cases n with
      | zero => exact h3
      | succ n =>
        by_cases hr : nrem f g = []
        · rw [hr, chnx_nil] at h3 ⊢
          exact h3
        · rw [chnx_cons hr] at h3 ⊢
          obtain ⟨l, e⟩ := chnx_head n (nrem f g) (nrem g (nrem f g))
          rw [e] at h3 ⊢
          exact ⟨⟨quop f g, fun x => pv_nrem f g x⟩, h3⟩
theorem chainp_of {f : List Rat} (hf : Trm f) (h0 : f ≠ []) (h : gcdp f (slope f) = [1]) : ChnOf (chainp f) f := by
  have hl : (slope f).length ≤ f.length := by
    have := trim_len (lof (f.length - 1) fun i => co f (i + 1) * ((i : Rat) + 1))
    unfold slope
    unfold lof at this ⊢
    rw [List.length_map, List.length_range] at this
    omega
  refine ⟨chnx_chn f.length f (slope f) hf (trm_slope f) h0 hl h, ?_⟩
  unfold chainp
  by_cases hs : slope f = []
  · rw [hs, chnx_nil]
    rw [hs, gcdp_end hf] at h
    obtain ⟨c, hc, e⟩ := const_of_mnc hf h0 h
    exact .inl ⟨c, hc, rfl, e⟩
  · obtain ⟨n, hn⟩ : ∃ n, f.length = n + 1 := ⟨f.length - 1, by have := List.length_pos_iff.2 h0; omega⟩
    rw [hn, chnx_cons hs]
    obtain ⟨l, e⟩ := chnx_head n (slope f) (nrem f (slope f))
    rw [e]
    exact .inr ⟨_, _, rfl, fun x => pv_slope f x⟩
theorem freep_one {p : List Rat} (hp : Trm p) (h0 : p ≠ []) : gcdp (freep p) (slope (freep p)) = [1] :=
  gcdp_slope_one (mnc_freep hp h0).trm (mnc_freep hp h0).1 fun π hi => by rw [vl_freep hi hp h0]; omega
theorem chain_free {p : List Rat} (hp : Trm p) (h0 : p ≠ []) : ChnOf (chainp (freep p)) (freep p) := chainp_of (mnc_freep hp h0).trm (mnc_freep hp h0).1 (freep_one hp h0)
theorem chainp_len {p : List Rat} (hp : Trm p) (h0 : p ≠ []) : (chainp (freep p)).length ≤ p.length := by
  have h1 := (mnc_freep hp h0)
  have h2 := (freep_dv hp h0).len h1.trm hp h0
  have h3 := chnx_len (freep p).length (freep p) (slope (freep p)) h1.trm (trm_slope _)
  have h4 : (slope (freep p)).length ≤ (freep p).length - 1 := by
    have := trim_len (lof ((freep p).length - 1) fun i => co (freep p) (i + 1) * ((i : Rat) + 1))
    unfold slope
    unfold lof at this ⊢
    rw [List.length_map, List.length_range] at this
    omega
  have h5 := List.length_pos_iff.2 h1.1
  unfold chainp
  omega
/-- How many roots are above one number and not above another one, by signs. -/
noncomputable def rts (p : List Rat) (a b : Rat) : Int := (vch (chainp (freep p)) a : Int) - (vch (chainp (freep p)) b : Int)
theorem rts_nonneg {p : List Rat} (hp : Trm p) (h0 : p ≠ []) {a b : Rat} (hab : a ≤ b) : 0 ≤ rts p a b := by
  have := vch_le (chain_free hp h0) hab
  unfold rts; omega
theorem rts_less {p : List Rat} (hp : Trm p) (h0 : p ≠ []) (a b : Rat) : rts p a b < p.length := by
  have h1 := vch_len (chainp (freep p)) a
  have h2 := chainp_len hp h0
  have h3 := List.length_pos_iff.2 h0
  unfold rts; omega
/-! ### Farther on, and times a number -/
theorem dv_moved {d p : List Rat} (h : Dv d p) (a : Rat) : Dv (moved d a) (moved p a) := by
  obtain ⟨k, _, e⟩ := h
  exact Dv.of (k := moved k a) fun x => by rw [pv_moved, pv_moved, pv_moved, e]
theorem mnc_moved {p : List Rat} (h : Mnc p) (a : Rat) : Mnc (moved p a) := by
  have hl := moved_len h.trm a
  have h1 := List.length_pos_iff.2 h.1
  refine ⟨fun e => by rw [e] at hl; simp at hl; omega, ?_⟩
  unfold top
  rw [hl, moved, co_trim, (co_pmov_top p a).2]
  exact h.2
theorem moved_ne {p : List Rat} (hp : Trm p) (h0 : p ≠ []) (a : Rat) : moved p a ≠ [] := fun e => by
  have hl := moved_len hp a
  rw [e] at hl
  exact h0 (List.length_eq_zero_iff.1 hl.symm)
theorem slope_moved (p : List Rat) (a : Rat) : slope (moved p a) = moved (slope p) a := trm_pv (trm_slope _) (trm_moved _ _) fun x => by
  rw [pv_slope, pv_moved, pv_slope, ← pv_pder_pmov]
  exact pv_pder_congr (fun i => by rw [moved, co_trim]) x
theorem gcdp_moved {p q : List Rat} (hp : Trm p) (hq : Trm q) (h0 : p ≠ []) (a : Rat) : gcdp (moved p a) (moved q a) = moved (gcdp p q) a := by
  obtain ⟨u, v, h1, h2, h3, h4⟩ := gcdp_spec hp hq (.inl h0)
  refine (gcdp_of (trm_moved _ _) (trm_moved _ _) (.inl (moved_ne hp h0 a)) (mnc_moved h1 a) (dv_moved h2 a) (dv_moved h3 a) fun d hd hd' => ?_).symm
  exact hd.comb hd' (u := moved u a) (v := moved v a) fun x => by rw [pv_moved, pv_moved, pv_moved, pv_moved, pv_moved, h4]
theorem top_moved {p : List Rat} (hp : Trm p) (a : Rat) : top (moved p a) = top p := by
  unfold top
  rw [moved_len hp a, moved, co_trim, (co_pmov_top p a).2]
theorem freep_moved {p : List Rat} (hp : Trm p) (h0 : p ≠ []) (a : Rat) : freep (moved p a) = moved (freep p) a := by
  obtain ⟨h1, h2, h3⟩ := gs_spec hp h0
  have h4 := quop_dv (trm_mnc p) h1.trm h1.1 h3
  have e1 : mnc (moved p a) = moved (mnc p) a := trm_pv (trm_mnc _) (trm_moved _ _) fun x => by rw [pv_mnc, pv_moved, pv_moved, pv_mnc, top_moved hp]
  have h5 := mnc_moved h1 a
  unfold freep
  rw [slope_moved, gcdp_moved hp (trm_slope p) h0, e1]
  refine (quop_of (r := []) (trm_moved _ _) h5.trm h5.1 (trm_moved _ _) (show Trm [] from rfl) (List.length_pos_iff.2 h5.1) fun x => ?_).symm
  have h6 : pv (mnc p) (x + a) = pv (mulp (quop (mnc p) (gcdp p (slope p))) (gcdp p (slope p))) (x + a) := by rw [h4]
  rw [pv_mulp] at h6
  rw [pv_moved, pv_moved, pv_moved, h6]
  show _ = _ + (0 : Rat)
  grind
/-- By signs alone: two chains of polynomials with the same signs, one of them farther on. -/
theorem vch_same {c d : List (List Rat)} {f g : List Rat} (hc : ChnOf c f) (hd : ChnOf d g) {a : Rat} (h : ∀ x, pv f x = pv g (x + a)) {s t : Rat} (hst : s ≤ t) : (vch c s : Int) - vch c t = (vch d (s + a) : Int) - vch d (t + a) := by
  by_cases he : s = t
  · rw [he]; omega
  · obtain ⟨k, hk, H⟩ := sturm_step hc s t
    obtain ⟨m, hm, H'⟩ := sturm_step hd (s + a) (t + a)
    obtain ⟨n, hn, h1, h2⟩ : ∃ n : Rat, 0 < n ∧ n ≤ k ∧ n ≤ m := by
      by_cases h : k ≤ m
      · exact ⟨k, hk, by grind, h⟩
      · exact ⟨m, hm, by grind, by grind⟩
    refine in_steps (P := fun s t => (vch c s : Int) - vch c t = (vch d (s + a) : Int) - vch d (t + a)) hn (by grind) (fun x y hx hy hxy hle => ?_) (fun x y z _ _ _ _ h3 h4 => ?_)
    · have h3 := H x y hx hy hxy (by grind)
      have h4 := H' (x + a) (y + a) (by grind) (by grind) (by grind) (by grind)
      have h5 : flp f x y = flp g (x + a) (y + a) := by unfold flp; rw [h, h]
      show (vch c x : Int) - vch c y = (vch d (x + a) : Int) - vch d (y + a)
      omega
    · have h3' : (vch c x : Int) - vch c y = (vch d (x + a) : Int) - vch d (y + a) := h3
      have h4' : (vch c y : Int) - vch c z = (vch d (y + a) : Int) - vch d (z + a) := h4
      show (vch c x : Int) - vch c z = (vch d (x + a) : Int) - vch d (z + a)
      omega
theorem rts_moved {p : List Rat} (hp : Trm p) (h0 : p ≠ []) (a : Rat) {s t : Rat} (hst : s ≤ t) : rts (moved p a) s t = rts p (s + a) (t + a) :=
  vch_same (chain_free (trm_moved p a) (moved_ne hp h0 a)) (chain_free hp h0) (fun x => by rw [freep_moved hp h0, pv_moved]) hst
theorem freep_times {p q : List Rat} {c : Rat} (hp : Trm p) (h0 : p ≠ []) (hc : c ≠ 0) (hq : Trm q) (e : ∀ x, pv q x = c * pv p x) : q ≠ [] ∧ freep q = freep p := by
  have hci := rat_inv hc
  have hq0 : q ≠ [] := fun e0 => h0 (nil_of_pv hp fun x => by
    have := e x
    rw [e0] at this
    have h2 : (0 : Rat) = c * pv p x := this
    rcases Rat.mul_eq_zero.1 h2.symm with h | h
    · exact absurd h hc
    · exact h)
  refine ⟨hq0, ?_⟩
  have hd1 : Dv p q := Dv.of (k := [c]) fun x => by rw [pv_one, e]
  have hd2 : Dv q p := Dv.of (k := [1 / c]) fun x => by rw [pv_one, e]; grind
  refine eq_of_vl (mnc_freep hq hq0) (mnc_freep hp h0) fun π hi => ?_
  rw [vl_freep hi hq hq0, vl_freep hi hp h0]
  have h1 := vl_dv hi hp hq hq0 hd1
  have h2 := vl_dv hi hq hp h0 hd2
  omega
theorem rts_times {p q : List Rat} {c : Rat} (hp : Trm p) (h0 : p ≠ []) (hc : c ≠ 0) (hq : Trm q) (e : ∀ x, pv q x = c * pv p x) (a b : Rat) : rts q a b = rts p a b := by
  unfold rts
  rw [(freep_times hp h0 hc hq e).2]

end Go.Proofs.YtokojbgpboccnaaGreat

/-
  How long what is left may be, by how many rounds there were. Nothing of a program.
-/
namespace Go.Proofs.YtokojbgpboccnaaGreat
set_option linter.unusedVariables false
/-- How long what is left may be, by how many rounds there were. -/
def psA : Nat → Nat
  | 0 => 1
  | 1 => 1
  | n + 2 => psA n + 2 * psA (n + 1)
theorem psA_step : ∀ i s, 2 ≤ s → i + s ≤ 10 → psA i + s * psA (i + 1) ≤ psA (i + s) := by
  intro i s h1 h2
  have : ∀ i, i ≤ 10 → ∀ s, s ≤ 10 → 2 ≤ s → i + s ≤ 10 → psA i + s * psA (i + 1) ≤ psA (i + s) := by decide +kernel
  exact this i (by omega) s (by omega) h1 h2
theorem psA_mono {i j : Nat} (h : i ≤ j) (hj : j ≤ 10) : psA i ≤ psA j := by
  have : ∀ j, j ≤ 10 → ∀ i, i ≤ j → psA i ≤ psA j := by decide +kernel
  exact this j hj i h
theorem psA_self {n : Nat} (h1 : 1 ≤ n) (hn : n ≤ 10) : n ≤ psA n := by
  have : ∀ n, n ≤ 10 → 1 ≤ n → n ≤ psA n := by decide +kernel
  exact this n hn h1

end Go.Proofs.YtokojbgpboccnaaGreat

/-
  STURM: the polynomials of a chain end with no nought. Nothing of a program.
-/
namespace Go.Proofs.YtokojbgpboccnaaGreat
set_option linter.unusedVariables false
end Go.Proofs.YtokojbgpboccnaaGreat

/-
  STURM: one polynomial's roots, x times x less 2: one between 0 and 2. Nothing of a program.
-/
namespace Go.Proofs.YtokojbgpboccnaaGreat
set_option linter.unusedVariables false
end Go.Proofs.YtokojbgpboccnaaGreat
