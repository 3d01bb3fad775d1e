/-
  PLAIN NUMBERS: natural numbers as lists of limbs to the base 4294967296, the least one first: their value. Nothing of a program.
-/
namespace Go.Proofs.YtjeeepcnaaadmaaGreatDoor
namespace Num

def B : Nat := 4294967296
theorem B_eq : B = 4294967296 := rfl
theorem B_pos : 0 < B := by decide

/-- Limb i; 0 beyond the end. -/
def dg (l : List Nat) (i : Nat) : Nat := (l[i]?).getD 0
theorem dg_lt {l : List Nat} {i : Nat} (h : i < l.length) : dg l i = l[i] := by simp [dg, h]
theorem dg_ge {l : List Nat} {i : Nat} (h : l.length ≤ i) : dg l i = 0 := by simp [dg, h]
theorem dg_zeros (n i : Nat) : dg (List.replicate n 0) i = 0 := by simp only [dg, List.getElem?_replicate]; split <;> simp
theorem dg_take {l : List Nat} {i k : Nat} (h : i < k) : dg (l.take k) i = dg l i := by simp [dg, h]
theorem dg_drop {l : List Nat} {i k : Nat} : dg (l.drop k) i = dg l (k + i) := by simp [dg, List.getElem?_drop]

/-- The value of limbs, the least one first. -/
def val : List Nat → Nat
  | [] => 0
  | x :: xs => x + B * val xs

theorem val_nil : val [] = 0 := rfl
theorem val_cons (x : Nat) (xs : List Nat) : val (x :: xs) = x + B * val xs := rfl

theorem val_append (a b : List Nat) : val (a ++ b) = val a + B ^ a.length * val b := by
  induction a with
  | nil => simp [val]
  | cons x xs ih => simp only [List.cons_append, val_cons, ih, List.length_cons, Nat.pow_succ]; rw [Nat.mul_add, Nat.mul_comm (B ^ xs.length) B, Nat.mul_assoc]; omega

theorem val_split' (l : List Nat) (k : Nat) : val l = val (l.take k) + B ^ (l.take k).length * val (l.drop k) := by
  have := val_append (l.take k) (l.drop k)
  rw [List.take_append_drop] at this
  exact this

theorem val_single (x : Nat) : val [x] = x := by simp [val]

/-- One place more is read: what lies beyond the end counts 0. -/
theorem val_take_succ (l : List Nat) (k : Nat) : val (l.take (k + 1)) = val (l.take k) + dg l k * B ^ k := by
  by_cases h : k < l.length
  · rw [List.take_succ_eq_append_getElem h, val_append, val_single, List.length_take, Nat.min_eq_left (by omega), dg_lt h, Nat.mul_comm]
  · rw [List.take_of_length_le (by omega), List.take_of_length_le (by omega), dg_ge (by omega)]; omega

theorem val_take_all (l : List Nat) (k : Nat) (h : l.length ≤ k) : val (l.take k) = val l := by rw [List.take_of_length_le h]

/-- A limb is written behind those that were read. -/
theorem val_take_set (l : List Nat) (k x : Nat) (h : k < l.length) : val ((l.set k x).take (k + 1)) = val (l.take k) + x * B ^ k := by
  rw [val_take_succ, List.take_set_of_le (Nat.le_refl k)]
  rw [dg_lt (by simpa using h), List.getElem_set_self]

theorem val_take_set_le (l : List Nat) (k j x : Nat) (h : k ≤ j) : val ((l.set j x).take k) = val (l.take k) := by
  rw [List.take_set_of_le h]

theorem dg_set_self (l : List Nat) (k x : Nat) (h : k < l.length) : dg (l.set k x) k = x := by
  rw [dg_lt (by simpa using h), List.getElem_set_self]

theorem dg_set_ne (l : List Nat) (k j x : Nat) (h : j ≠ k) : dg (l.set k x) j = dg l j := by
  simp only [dg, List.getElem?_set]
  rw [if_neg (by omega)]

/-- One limb is written. -/
theorem val_set (l : List Nat) (k x : Nat) (h : k < l.length) : val (l.set k x) + dg l k * B ^ k = val l + x * B ^ k := by
  have e1 := val_split' (l.set k x) (k + 1)
  have e2 := val_split' l (k + 1)
  rw [List.drop_set_of_lt (by omega)] at e1
  rw [List.length_take, List.length_set] at e1
  rw [List.length_take] at e2
  have h1 := val_take_set l k x h
  have h2 := val_take_succ l k
  omega

/-- All limbs fit. -/
def Fits (l : List Nat) : Prop := ∀ i, dg l i < 4294967296

theorem Fits.nil : Fits [] := fun i => by simp [dg]
theorem Fits.take {l : List Nat} (h : Fits l) (k : Nat) : Fits (l.take k) := fun i => by
  have := h i
  simp only [dg, List.getElem?_take] at this ⊢
  split <;> simp_all
theorem Fits.drop {l : List Nat} (h : Fits l) (k : Nat) : Fits (l.drop k) := fun i => by
  have := h (k + i)
  simp only [dg, List.getElem?_drop] at this ⊢
  exact this
theorem Fits.set {l : List Nat} (h : Fits l) (k x : Nat) (hx : x < 4294967296) : Fits (l.set k x) := fun i => by
  by_cases e : i = k
  · subst e
    by_cases hl : i < l.length
    · rw [dg_set_self _ _ _ hl]; exact hx
    · rw [dg_ge (by simp; omega)]; omega
  · rw [dg_set_ne _ _ _ _ e]; exact h i
theorem Fits.append {a b : List Nat} (ha : Fits a) (hb : Fits b) : Fits (a ++ b) := fun i => by
  by_cases h : i < a.length
  · have := ha i
    simp only [dg] at this ⊢
    rw [List.getElem?_append_left h]; exact this
  · have := hb (i - a.length)
    simp only [dg] at this ⊢
    rw [List.getElem?_append_right (by omega)]; exact this
theorem Fits.single {x : Nat} (h : x < 4294967296) : Fits [x] := fun i => by
  match i with
  | 0 => simpa [dg] using h
  | i + 1 => simp [dg]
theorem Fits.zeros (n : Nat) : Fits (List.replicate n 0) := fun i => by
  simp only [dg, List.getElem?_replicate]; split <;> simp
theorem Fits.cons {x : Nat} {l : List Nat} (h : Fits (x :: l)) : x < 4294967296 ∧ Fits l := ⟨by simpa [dg] using h 0, fun i => by simpa [dg] using h (i + 1)⟩

theorem val_lt {l : List Nat} (h : Fits l) : val l < B ^ l.length := by
  induction l with
  | nil => simp [val]
  | cons x xs ih =>
    obtain ⟨h1, h2⟩ := h.cons
    have := ih h2
    rw [val_cons, List.length_cons, Nat.pow_succ, Nat.mul_comm (B ^ xs.length) B]
    have h3 : val xs + 1 ≤ B ^ xs.length := this
    have h4 := Nat.mul_le_mul_left B h3
    rw [Nat.mul_add] at h4
    simp only [B_eq] at h4 ⊢
    omega

theorem val_zeros (n : Nat) : val (List.replicate n 0) = 0 := by
  induction n with
  | zero => rfl
  | succ n ih => rw [List.replicate_succ, val_cons, ih]; rfl

theorem val_take_zeros (n k : Nat) : val ((List.replicate n 0).take k) = 0 := by
  rw [List.take_replicate]; exact val_zeros _

/-- No leading nought. -/
def Trim (l : List Nat) : Prop := l = [] ∨ 0 < dg l (l.length - 1)

theorem Trim.low {l : List Nat} (h : Trim l) (hn : l ≠ []) : B ^ (l.length - 1) ≤ val l := by
  rcases h with h | h
  · exact absurd h hn
  · have hl : 0 < l.length := List.length_pos_iff.2 hn
    have e := val_take_succ l (l.length - 1)
    rw [Nat.sub_add_cancel hl, List.take_length] at e
    rw [e]
    have := Nat.mul_le_mul_right (B ^ (l.length - 1)) h
    omega

theorem Trim.zero_iff {l : List Nat} (h : Trim l) : val l = 0 ↔ l = [] := by
  constructor
  · intro e
    apply Classical.byContradiction
    intro hn
    have := h.low hn
    have hp : 0 < B ^ (l.length - 1) := Nat.pow_pos B_pos
    omega
  · rintro rfl; rfl

/-- The greater length, the greater number. -/
theorem lt_of_length {x y : List Nat} (hx : Fits x) (hy : Trim y) (h : x.length < y.length) : val x < val y := by
  have hn : y ≠ [] := by intro e; subst e; simp at h
  have h1 := val_lt hx
  have h2 := hy.low hn
  have h3 : B ^ x.length ≤ B ^ (y.length - 1) := Nat.pow_le_pow_right B_pos (by omega)
  omega

theorem length_le_of_val {x : List Nat} (hx : Trim x) (k : Nat) (h : val x < B ^ k) : x.length ≤ k := by
  apply Classical.byContradiction
  intro hn
  have hne : x ≠ [] := by intro e; subst e; simp at hn
  have h2 := hx.low hne
  have h3 : B ^ k ≤ B ^ (x.length - 1) := Nat.pow_le_pow_right B_pos (by omega)
  omega

/-- Two numbers of like limbs from place k on are compared by the limbs below. -/
theorem val_split (l : List Nat) (k : Nat) : val l = val (l.take k) + B ^ k * val (l.drop k) := by
  by_cases h : k ≤ l.length
  · have := val_append (l.take k) (l.drop k)
    rw [List.take_append_drop, List.length_take, Nat.min_eq_left h] at this
    exact this
  · rw [List.take_of_length_le (by omega), List.drop_eq_nil_of_le (by omega)]; simp [val]

/-- The part of a step: the low limb stays, the rest is carried. -/
theorem carry_split (s p : Nat) : (s % 4294967296) * p + (s / 4294967296) * (p * B) = s * p := by
  have h := Nat.div_add_mod s 4294967296
  have e : s * p = (4294967296 * (s / 4294967296) + s % 4294967296) * p := by rw [h]
  rw [e, Nat.add_mul, B_eq, Nat.mul_comm p 4294967296, ← Nat.mul_assoc, Nat.mul_comm (s / 4294967296) 4294967296]
  omega

/-- How many limbs are left without leading noughts, out of the first n. -/
def tl (l : List Nat) : Nat → Nat
  | 0 => 0
  | n + 1 => if dg l n = 0 then tl l n else n + 1
def tlen (l : List Nat) : Nat := tl l l.length
theorem tl_zero (l : List Nat) : tl l 0 = 0 := rfl
theorem tl_skip {l : List Nat} {n : Nat} (h : dg l n = 0) : tl l (n + 1) = tl l n := by simp [tl, h]
theorem tl_stop {l : List Nat} {n : Nat} (h : dg l n ≠ 0) : tl l (n + 1) = n + 1 := by simp [tl, h]
theorem tl_le (l : List Nat) (n : Nat) : tl l n ≤ n := by
  induction n with
  | zero => exact Nat.le_refl _
  | succ n ih => unfold tl; split <;> omega
theorem tlen_le (l : List Nat) : tlen l ≤ l.length := tl_le l _
def trimL (l : List Nat) : List Nat := l.take (tlen l)
theorem length_trimL (l : List Nat) : (trimL l).length = tlen l := by
  rw [trimL, List.length_take, Nat.min_eq_left (tlen_le l)]
theorem val_take_tl (l : List Nat) (n : Nat) : val (l.take (tl l n)) = val (l.take n) := by
  induction n with
  | zero => rfl
  | succ n ih =>
    by_cases h : dg l n = 0
    · rw [tl_skip h, ih, val_take_succ, h]; omega
    · rw [tl_stop h]
theorem val_trimL (l : List Nat) : val (trimL l) = val l := by
  rw [trimL, tlen, val_take_tl, List.take_length]
theorem tl_top (l : List Nat) (n : Nat) (h : 0 < tl l n) : dg l (tl l n - 1) ≠ 0 := by
  induction n with
  | zero => simp [tl] at h
  | succ n ih =>
    by_cases e : dg l n = 0
    · rw [tl_skip e] at h ⊢; exact ih h
    · rw [tl_stop e]; exact e
theorem trim_trimL (l : List Nat) : Trim (trimL l) := by
  by_cases h : tlen l = 0
  · left; rw [trimL, h, List.take_zero]
  · right
    rw [length_trimL, trimL, dg_take (by omega)]
    have := tl_top l l.length (by rw [← tlen]; omega)
    rw [← tlen] at this
    omega
theorem fits_trimL {l : List Nat} (h : Fits l) : Fits (trimL l) := h.take _
theorem tlen_of_trim {l : List Nat} (h : Trim l) : tlen l = l.length := by
  rcases h with rfl | h
  · rfl
  · by_cases e : l.length = 0
    · rw [List.length_eq_zero_iff] at e; subst e; rfl
    · obtain ⟨n, hn⟩ : ∃ n, l.length = n + 1 := ⟨l.length - 1, by omega⟩
      unfold tlen
      rw [hn] at h ⊢
      exact tl_stop (by rw [Nat.add_sub_cancel] at h; omega)

theorem drop_dg {l : List Nat} {k : Nat} (h : k < l.length) : l.drop k = dg l k :: l.drop (k + 1) := by
  rw [List.drop_eq_getElem_cons h, dg_lt h]

/-- Of two numbers that are alike above limb k this limb decides, if it is not alike. -/
theorem val_lt_of_top {x y : List Nat} {k : Nat} (hx : Fits x) (hy : Fits y) (hd : x.drop (k + 1) = y.drop (k + 1)) (h1 : k < x.length) (h2 : k < y.length) (hne : dg x k ≠ dg y k) :
    val x < val y ↔ dg x k < dg y k := by
  have e1 := val_split x (k + 1)
  have e2 := val_split y (k + 1)
  rw [val_take_succ] at e1 e2
  rw [hd] at e1
  have b1 := val_lt (hx.take k)
  have b2 := val_lt (hy.take k)
  rw [List.length_take, Nat.min_eq_left (by omega)] at b1 b2
  generalize hP : B ^ k = P at *
  generalize B ^ (k + 1) * val (y.drop (k + 1)) = T at *
  constructor
  · intro h
    apply Classical.byContradiction
    intro hn
    have h3 : dg y k + 1 ≤ dg x k := by omega
    have h4 := Nat.mul_le_mul_right P h3
    rw [Nat.add_mul] at h4
    omega
  · intro h
    have h3 : dg x k + 1 ≤ dg y k := by omega
    have h4 := Nat.mul_le_mul_right P h3
    rw [Nat.add_mul] at h4
    omega

end Num
end Go.Proofs.YtjeeepcnaaadmaaGreatDoor

/-
  PLAIN TEXTS: decimal digits. Nothing of a program.
-/
namespace Go.Proofs.YtjeeepcnaaadmaaGreatDoor
namespace Num

def isDig (b : UInt8) : Bool := decide (48 ≤ b.toNat ∧ b.toNat ≤ 57)
/-- A natural number's text: digits, without a leading 0. -/
def isNat (l : List UInt8) : Bool := !l.isEmpty && !(l.head? == some 48 && !(l == [48])) && l.all isDig
def dval (l : List UInt8) : Nat := l.foldl (fun n b => 10 * n + (b.toNat - 48)) 0

theorem isNat_nil : isNat [] = false := rfl
theorem isNat_lead {l : List UInt8} (h1 : l.head? = some 48) (h2 : (l == [48]) = false) : isNat l = false := by
  simp [isNat, h1, h2]
theorem isNat_rest {l : List UInt8} (h0 : l ≠ []) (h : l.head? ≠ some 48 ∨ (l == [48]) = true) : isNat l = l.all isDig := by
  rw [isNat]
  have e0 : l.isEmpty = false := by simpa using h0
  rw [e0]
  rcases h with h | h
  · have : (l.head? == some 48) = false := by simpa using h
    simp [this]
  · simp [h]

theorem dval_nil : dval [] = 0 := rfl
theorem dval_snoc (l : List UInt8) (b : UInt8) : dval (l ++ [b]) = 10 * dval l + (b.toNat - 48) := by
  simp [dval, List.foldl_append]
theorem foldl_dval (l : List UInt8) (n : Nat) : l.foldl (fun n b => 10 * n + (b.toNat - 48)) n = n * 10 ^ l.length + dval l := by
  induction l generalizing n with
  | nil => simp [dval]
  | cons b l ih =>
    have e : dval (b :: l) = (10 * 0 + (b.toNat - 48)) * 10 ^ l.length + dval l := by rw [dval, List.foldl_cons, ih]
    rw [List.foldl_cons, ih, e, List.length_cons, Nat.pow_succ]
    simp only [Nat.mul_zero, Nat.zero_add, Nat.add_mul]
    rw [Nat.mul_comm 10 n, Nat.mul_assoc, Nat.mul_comm 10 (10 ^ l.length)]
    omega
theorem dval_append (a b : List UInt8) : dval (a ++ b) = dval a * 10 ^ b.length + dval b := by
  rw [dval, List.foldl_append, foldl_dval]; rfl
theorem all_take {l : List UInt8} (h : l.all isDig = true) (k : Nat) : (l.take k).all isDig = true := by
  rw [List.all_eq_true] at h ⊢
  exact fun x hx => h x (List.mem_of_mem_take hx)
theorem all_drop {l : List UInt8} (h : l.all isDig = true) (k : Nat) : (l.drop k).all isDig = true := by
  rw [List.all_eq_true] at h ⊢
  exact fun x hx => h x (List.mem_of_mem_drop hx)
theorem dval_lt {l : List UInt8} (h : l.all isDig = true) : dval l < 10 ^ l.length := by
  induction l with
  | nil => simp [dval]
  | cons b l ih =>
    rw [List.all_cons, Bool.and_eq_true] at h
    have h1 := ih h.2
    have h2 : b.toNat ≤ 57 := by have := h.1; simp [isDig] at this; exact this.2
    have e := dval_append [b] l
    rw [List.singleton_append] at e
    have e2 : dval [b] = b.toNat - 48 := by simp [dval]
    rw [e, e2, List.length_cons, Nat.pow_succ]
    have h3 := Nat.mul_le_mul_right (10 ^ l.length) (show b.toNat - 48 ≤ 9 by omega)
    omega

/-- The digit n. -/
def dch (n : Nat) : UInt8 := UInt8.ofNat (48 + n)

/-- The digits of a number. -/
def dtext (n : Nat) : List UInt8 := if _h : n < 10 then [dch n] else dtext (n / 10) ++ [dch (n % 10)]
  termination_by n
  decreasing_by omega

theorem dtext_small {n : Nat} (h : n < 10) : dtext n = [dch n] := by rw [dtext, dif_pos h]
theorem dtext_big {n : Nat} (h : ¬ n < 10) : dtext n = dtext (n / 10) ++ [dch (n % 10)] := by rw [dtext, dif_neg h]
theorem toNat_dig {n : Nat} (h : n < 10) : (dch n).toNat = 48 + n := by
  rw [dch, UInt8.toNat_ofNat']; omega
theorem isDig_dig {n : Nat} (h : n < 10) : isDig (dch n) = true := by
  simp only [isDig, toNat_dig h, decide_eq_true_eq]; omega
theorem dtext_ne (n : Nat) : dtext n ≠ [] := by
  by_cases h : n < 10
  · rw [dtext_small h]; simp
  · rw [dtext_big h]; simp
theorem dtext_all (n : Nat) : (dtext n).all isDig = true := by
  induction n using Nat.strongRecOn with
  | _ n ih =>
    by_cases h : n < 10
    · rw [dtext_small h]; simp [isDig_dig h]
    · rw [dtext_big h, List.all_append, ih (n / 10) (by omega)]
      simp [isDig_dig (Nat.mod_lt n (show 0 < 10 by omega))]
theorem dval_dtext (n : Nat) : dval (dtext n) = n := by
  induction n using Nat.strongRecOn with
  | _ n ih =>
    by_cases h : n < 10
    · rw [dtext_small h]
      have := dval_snoc [] (dch n)
      rw [List.nil_append, toNat_dig h, dval_nil] at this
      rw [this]; omega
    · rw [dtext_big h, dval_snoc, ih (n / 10) (by omega), toNat_dig (Nat.mod_lt n (by omega))]; omega
theorem head_dtext (n : Nat) (h : n ≠ 0) : (dtext n).head? ≠ some 48 := by
  induction n using Nat.strongRecOn with
  | _ n ih =>
    by_cases hs : n < 10
    · rw [dtext_small hs]
      intro e
      simp only [List.head?_cons, Option.some.injEq] at e
      have := congrArg UInt8.toNat e
      rw [toNat_dig hs] at this
      have h48 : (48 : UInt8).toNat = 48 := rfl
      omega
    · rw [dtext_big hs]
      have hne := dtext_ne (n / 10)
      have h1 := ih (n / 10) (by omega) (by omega)
      cases hd : dtext (n / 10) with
      | nil => exact absurd hd hne
      | cons a t => rw [hd] at h1; simpa using h1
theorem dtext_zero : dtext 0 = [48] := by rw [dtext_small (by omega)]; rfl
theorem isNat_dtext (n : Nat) : isNat (dtext n) = true := by
  rw [isNat_rest (dtext_ne n) ?_, dtext_all]
  by_cases h : n = 0
  · right; rw [h, dtext_zero]; rfl
  · left; exact head_dtext n h

/-- A list of digits whose value is not 0 and that begins with no 0 is the text of its value. -/
theorem dtext_dval {l : List UInt8} (h : isNat l = true) : dtext (dval l) = l := by
  obtain ⟨n, hn⟩ : ∃ n, l.length = n := ⟨_, rfl⟩
  induction n using Nat.strongRecOn generalizing l with
  | _ n ih =>
    have hne : l ≠ [] := by intro e; rw [e] at h; simp [isNat_nil] at h
    have hall : l.all isDig = true := by
      rw [isNat, Bool.and_eq_true] at h; exact h.2
    have hlead : l.head? ≠ some 48 ∨ (l == [48]) = true := by
      by_cases h1 : l.head? = some 48
      · right
        cases h2 : (l == [48]) with
        | true => rfl
        | false => rw [isNat_lead h1 h2] at h; simp at h
      · left; exact h1
    obtain ⟨a, b, rfl⟩ : ∃ a b, l = a ++ [b] := ⟨l.dropLast, l.getLast hne, (List.dropLast_concat_getLast hne).symm⟩
    have hb : isDig b = true := by rw [List.all_append, Bool.and_eq_true] at hall; simpa using hall.2
    have hb2 : 48 ≤ b.toNat ∧ b.toNat ≤ 57 := by simpa [isDig] using hb
    have hbe : dch (b.toNat - 48) = b := by
      apply UInt8.toNat_inj.1
      rw [toNat_dig (by omega)]; omega
    rw [dval_snoc]
    by_cases ha : a = []
    · subst ha
      rw [dval_nil, dtext_small (by omega)]
      simp only [Nat.mul_zero, Nat.zero_add, List.nil_append]
      rw [hbe]
    · have hlead2 : a.head? ≠ some 48 := by
        rcases hlead with h1 | h1
        · intro e
          apply h1
          cases a with
          | nil => exact absurd rfl ha
          | cons x t => simpa using e
        · have := congrArg List.length (eq_of_beq h1)
          simp at this
          exact absurd this ha
      have halla : a.all isDig = true := by rw [List.all_append, Bool.and_eq_true] at hall; exact hall.1
      have hna : isNat a = true := by rw [isNat_rest ha (.inl hlead2)]; exact halla
      have e := ih a.length (by rw [← hn]; simp) hna rfl
      have hpos : 0 < dval a := by
        apply Nat.pos_of_ne_zero
        intro e0
        rw [e0, dtext_zero] at e
        rw [← e] at hlead2
        simp at hlead2
      rw [dtext_big (by omega), show (10 * dval a + (b.toNat - 48)) / 10 = dval a by omega, show (10 * dval a + (b.toNat - 48)) % 10 = b.toNat - 48 by omega, e, hbe]

theorem dtext_inj {a b : Nat} (h : dtext a = dtext b) : a = b := by
  have := congrArg dval h
  rwa [dval_dtext, dval_dtext] at this

theorem isNat_all {l : List UInt8} (h : isNat l = true) : l.all isDig = true := by
  rw [isNat, Bool.and_eq_true] at h; exact h.2
theorem isNat_ne {l : List UInt8} (h : isNat l = true) : l ≠ [] := by
  intro e; rw [e, isNat_nil] at h; simp at h

theorem length_dtext_le {n k : Nat} (h : n < 10 ^ k) (hk : 0 < k) : (dtext n).length ≤ k := by
  induction k generalizing n with
  | zero => omega
  | succ k ih =>
    by_cases hs : n < 10
    · rw [dtext_small hs]; simp
    · rw [dtext_big hs, List.length_append]
      by_cases hk0 : k = 0
      · subst hk0; simp at h; omega
      · have := ih (n := n / 10) (by rw [Nat.pow_succ] at h; omega) (by omega)
        simp only [List.length_singleton]
        omega

/-! ### Digits, the least one first -/
def rval : List Nat → Nat
  | [] => 0
  | d :: ds => d + 10 * rval ds
theorem rval_append (a b : List Nat) : rval (a ++ b) = rval a + 10 ^ a.length * rval b := by
  induction a with
  | nil => simp [rval]
  | cons x xs ih => simp only [List.cons_append, rval, ih, List.length_cons, Nat.pow_succ]; rw [Nat.mul_add, Nat.mul_comm (10 ^ xs.length) 10, Nat.mul_assoc]; omega
theorem rval_snoc (a : List Nat) (d : Nat) : rval (a ++ [d]) = rval a + 10 ^ a.length * d := by rw [rval_append]; simp [rval]
theorem rval_take_succ (l : List Nat) (k : Nat) (h : k < l.length) : rval (l.take (k + 1)) = rval (l.take k) + 10 ^ k * dg l k := by
  rw [List.take_succ_eq_append_getElem h, rval_snoc, List.length_take, Nat.min_eq_left (by omega), dg_lt h]

/-- All digits are below 10. -/
def Low (ds : List Nat) : Prop := ∀ i, dg ds i < 10
theorem Low.nil : Low [] := fun i => by simp [dg]
theorem Low.snoc {ds : List Nat} {d : Nat} (h : Low ds) (hd : d < 10) : Low (ds ++ [d]) := fun i => by
  by_cases h1 : i < ds.length
  · have := h i; simp only [dg] at this ⊢; rw [List.getElem?_append_left h1]; exact this
  · simp only [dg]; rw [List.getElem?_append_right (by omega)]
    by_cases h2 : i - ds.length = 0
    · rw [h2]; simpa using hd
    · rw [List.getElem?_eq_none (by simp; omega)]; simp
theorem Low.take {ds : List Nat} (h : Low ds) (k : Nat) : Low (ds.take k) := fun i => by
  have := h i
  simp only [dg, List.getElem?_take] at this ⊢
  split <;> simp_all
theorem Low.mem {ds : List Nat} (h : Low ds) : ∀ d ∈ ds, d < 10 := by
  intro d hd
  obtain ⟨i, hi, rfl⟩ := List.mem_iff_getElem.1 hd
  have := h i
  rwa [dg_lt hi] at this

/-- The text of digits, the least one first. -/
def rtext (ds : List Nat) : List UInt8 := ds.reverse.map dch
theorem dval_rtext {ds : List Nat} (h : Low ds) : dval (rtext ds) = rval ds := by
  have hm := h.mem
  clear h
  induction ds with
  | nil => rfl
  | cons d ds ih =>
    have h1 : rtext (d :: ds) = rtext ds ++ [dch d] := by simp [rtext]
    rw [h1, dval_snoc, ih (fun x hx => hm x (List.mem_cons_of_mem _ hx)), toNat_dig (hm d List.mem_cons_self), rval]
    omega
theorem all_rtext {ds : List Nat} (h : Low ds) : (rtext ds).all isDig = true := by
  rw [List.all_eq_true]
  intro x hx
  simp only [rtext, List.mem_map, List.mem_reverse] at hx
  obtain ⟨d, hd, rfl⟩ := hx
  exact isDig_dig (h.mem d hd)
theorem rtext_eq {ds : List Nat} (h : Low ds) (hn : 0 < ds.length) (htop : dg ds (ds.length - 1) ≠ 0) : rtext ds = dtext (rval ds) := by
  have hne : rtext ds ≠ [] := by
    intro e
    have := congrArg List.length e
    simp [rtext] at this
    rw [this] at hn; simp at hn
  have hh : (rtext ds).head? ≠ some 48 := by
    rw [rtext, List.head?_map, List.head?_reverse, List.getLast?_eq_getElem?]
    rw [List.getElem?_eq_getElem (by omega), Option.map_some]
    intro e
    rw [dg_lt (by omega)] at htop
    have h9 := h.mem _ (List.getElem_mem (show ds.length - 1 < ds.length by omega))
    have h2 := congrArg UInt8.toNat (Option.some.inj e)
    rw [toNat_dig h9] at h2
    have h48 : (48 : UInt8).toNat = 48 := rfl
    omega
  have hN : isNat (rtext ds) = true := by rw [isNat_rest hne (.inl hh)]; exact all_rtext h
  have := dtext_dval hN
  rw [dval_rtext h] at this
  exact this.symm

theorem ext_dg {a b : List Nat} (hl : a.length = b.length) (h : ∀ t, t < a.length → dg a t = dg b t) : a = b := by
  apply List.ext_getElem hl
  intro i h1 h2
  have := h i h1
  rwa [dg_lt h1, dg_lt h2] at this
theorem dg_reverse {l : List Nat} {i : Nat} (h : i < l.length) : dg l.reverse i = dg l (l.length - 1 - i) := by
  rw [dg_lt (by simpa using h), dg_lt (by omega), List.getElem_reverse]

/-- So few digits. -/
theorem digits_few {N n k : Nat} (h1 : N < B ^ n) (h2 : 10 ^ k ≤ N) : k ≤ 10 * n := by
  apply Classical.byContradiction
  intro hh
  have h3 : B ^ n ≤ (10 ^ 10) ^ n := Nat.pow_le_pow_left (by rw [B_eq]; omega) n
  rw [← Nat.pow_mul] at h3
  have h4 : 10 ^ (10 * n) ≤ 10 ^ k := Nat.pow_le_pow_right (by omega) (by omega)
  omega

end Num
end Go.Proofs.YtjeeepcnaaadmaaGreatDoor

/-
  PLAIN NUMBERS to the base 10000, four digits a place, the least one first: their value. Nothing of a program.
-/
namespace Go.Proofs.YtjeeepcnaaadmaaGreatDoor
namespace Num4
open Num (dg dg_lt dg_ge dg_zeros dg_take dg_drop dg_set_self dg_set_ne tl tlen tl_zero tl_skip tl_stop tl_le tlen_le trimL length_trimL tl_top drop_dg)

def B : Nat := 10000
theorem B_eq : B = 10000 := rfl
theorem B_pos : 0 < B := by decide
/-- The value of limbs, the least one first. -/
def val : List Nat → Nat
  | [] => 0
  | x :: xs => x + B * val xs
theorem val_nil : val [] = 0 := rfl
theorem val_cons (x : Nat) (xs : List Nat) : val (x :: xs) = x + B * val xs := rfl
theorem val_append (a b : List Nat) : val (a ++ b) = val a + B ^ a.length * val b := by
  induction a with
  | nil => simp [val]
  | cons x xs ih => simp only [List.cons_append, val_cons, ih, List.length_cons, Nat.pow_succ]; rw [Nat.mul_add, Nat.mul_comm (B ^ xs.length) B, Nat.mul_assoc]; omega
theorem val_split' (l : List Nat) (k : Nat) : val l = val (l.take k) + B ^ (l.take k).length * val (l.drop k) := by
  have := val_append (l.take k) (l.drop k)
  rw [List.take_append_drop] at this
  exact this
theorem val_single (x : Nat) : val [x] = x := by simp [val]
/-- One place more is read: what lies beyond the end counts 0. -/
theorem val_take_succ (l : List Nat) (k : Nat) : val (l.take (k + 1)) = val (l.take k) + dg l k * B ^ k := by
  by_cases h : k < l.length
  · rw [List.take_succ_eq_append_getElem h, val_append, val_single, List.length_take, Nat.min_eq_left (by omega), dg_lt h, Nat.mul_comm]
  · rw [List.take_of_length_le (by omega), List.take_of_length_le (by omega), dg_ge (by omega)]; omega
theorem val_take_all (l : List Nat) (k : Nat) (h : l.length ≤ k) : val (l.take k) = val l := by rw [List.take_of_length_le h]
/-- A limb is written behind those that were read. -/
theorem val_take_set (l : List Nat) (k x : Nat) (h : k < l.length) : val ((l.set k x).take (k + 1)) = val (l.take k) + x * B ^ k := by
  rw [val_take_succ, List.take_set_of_le (Nat.le_refl k)]
  rw [dg_lt (by simpa using h), List.getElem_set_self]
theorem val_take_set_le (l : List Nat) (k j x : Nat) (h : k ≤ j) : val ((l.set j x).take k) = val (l.take k) := by
  rw [List.take_set_of_le h]
/-- One limb is written. -/
theorem val_set (l : List Nat) (k x : Nat) (h : k < l.length) : val (l.set k x) + dg l k * B ^ k = val l + x * B ^ k := by
  have e1 := val_split' (l.set k x) (k + 1)
  have e2 := val_split' l (k + 1)
  rw [List.drop_set_of_lt (by omega)] at e1
  rw [List.length_take, List.length_set] at e1
  rw [List.length_take] at e2
  have h1 := val_take_set l k x h
  have h2 := val_take_succ l k
  omega
/-- All limbs fit. -/
def Fits (l : List Nat) : Prop := ∀ i, dg l i < 10000
theorem Fits.nil : Fits [] := fun i => by simp [dg]
theorem Fits.take {l : List Nat} (h : Fits l) (k : Nat) : Fits (l.take k) := fun i => by
  have := h i
  simp only [dg, List.getElem?_take] at this ⊢
  split <;> simp_all
theorem Fits.drop {l : List Nat} (h : Fits l) (k : Nat) : Fits (l.drop k) := fun i => by
  have := h (k + i)
  simp only [dg, List.getElem?_drop] at this ⊢
  exact this
theorem Fits.set {l : List Nat} (h : Fits l) (k x : Nat) (hx : x < 10000) : Fits (l.set k x) := fun i => by
  by_cases e : i = k
  · subst e
    by_cases hl : i < l.length
    · rw [dg_set_self _ _ _ hl]; exact hx
    · rw [dg_ge (by simp; omega)]; omega
  · rw [dg_set_ne _ _ _ _ e]; exact h i
theorem Fits.append {a b : List Nat} (ha : Fits a) (hb : Fits b) : Fits (a ++ b) := fun i => by
  by_cases h : i < a.length
  · have := ha i
    simp only [dg] at this ⊢
    rw [List.getElem?_append_left h]; exact this
  · have := hb (i - a.length)
    simp only [dg] at this ⊢
    rw [List.getElem?_append_right (by omega)]; exact this
theorem Fits.single {x : Nat} (h : x < 10000) : Fits [x] := fun i => by
  match i with
  | 0 => simpa [dg] using h
  | i + 1 => simp [dg]
theorem Fits.zeros (n : Nat) : Fits (List.replicate n 0) := fun i => by
  simp only [dg, List.getElem?_replicate]; split <;> simp
theorem Fits.cons {x : Nat} {l : List Nat} (h : Fits (x :: l)) : x < 10000 ∧ Fits l := ⟨by simpa [dg] using h 0, fun i => by simpa [dg] using h (i + 1)⟩
theorem val_lt {l : List Nat} (h : Fits l) : val l < B ^ l.length := by
  induction l with
  | nil => simp [val]
  | cons x xs ih =>
    obtain ⟨h1, h2⟩ := h.cons
    have := ih h2
    rw [val_cons, List.length_cons, Nat.pow_succ, Nat.mul_comm (B ^ xs.length) B]
    have h3 : val xs + 1 ≤ B ^ xs.length := this
    have h4 := Nat.mul_le_mul_left B h3
    rw [Nat.mul_add] at h4
    simp only [B_eq] at h4 ⊢
    omega
theorem val_zeros (n : Nat) : val (List.replicate n 0) = 0 := by
  induction n with
  | zero => rfl
  | succ n ih => rw [List.replicate_succ, val_cons, ih]; rfl
theorem val_take_zeros (n k : Nat) : val ((List.replicate n 0).take k) = 0 := by
  rw [List.take_replicate]; exact val_zeros _
/-- No leading nought. -/
def Trim (l : List Nat) : Prop := l = [] ∨ 0 < dg l (l.length - 1)
theorem Trim.low {l : List Nat} (h : Trim l) (hn : l ≠ []) : B ^ (l.length - 1) ≤ val l := by
  rcases h with h | h
  · exact absurd h hn
  · have hl : 0 < l.length := List.length_pos_iff.2 hn
    have e := val_take_succ l (l.length - 1)
    rw [Nat.sub_add_cancel hl, List.take_length] at e
    rw [e]
    have := Nat.mul_le_mul_right (B ^ (l.length - 1)) h
    omega
theorem Trim.zero_iff {l : List Nat} (h : Trim l) : val l = 0 ↔ l = [] := by
  constructor
  · intro e
    apply Classical.byContradiction
    intro hn
    have := h.low hn
    have hp : 0 < B ^ (l.length - 1) := Nat.pow_pos B_pos
    omega
  · rintro rfl; rfl
/-- The greater length, the greater number. -/
theorem lt_of_length {x y : List Nat} (hx : Fits x) (hy : Trim y) (h : x.length < y.length) : val x < val y := by
  have hn : y ≠ [] := by intro e; subst e; simp at h
  have h1 := val_lt hx
  have h2 := hy.low hn
  have h3 : B ^ x.length ≤ B ^ (y.length - 1) := Nat.pow_le_pow_right B_pos (by omega)
  omega
theorem length_le_of_val {x : List Nat} (hx : Trim x) (k : Nat) (h : val x < B ^ k) : x.length ≤ k := by
  apply Classical.byContradiction
  intro hn
  have hne : x ≠ [] := by intro e; subst e; simp at hn
  have h2 := hx.low hne
  have h3 : B ^ k ≤ B ^ (x.length - 1) := Nat.pow_le_pow_right B_pos (by omega)
  omega
/-- Two numbers of like limbs from place k on are compared by the limbs below. -/
theorem val_split (l : List Nat) (k : Nat) : val l = val (l.take k) + B ^ k * val (l.drop k) := by
  by_cases h : k ≤ l.length
  · have := val_append (l.take k) (l.drop k)
    rw [List.take_append_drop, List.length_take, Nat.min_eq_left h] at this
    exact this
  · rw [List.take_of_length_le (by omega), List.drop_eq_nil_of_le (by omega)]; simp [val]
/-- The part of a step: the low limb stays, the rest is carried. -/
theorem carry_split (s p : Nat) : (s % 10000) * p + (s / 10000) * (p * B) = s * p := by
  have h := Nat.div_add_mod s 10000
  have e : s * p = (10000 * (s / 10000) + s % 10000) * p := by rw [h]
  rw [e, Nat.add_mul, B_eq, Nat.mul_comm p 10000, ← Nat.mul_assoc, Nat.mul_comm (s / 10000) 10000]
  omega
theorem val_take_tl (l : List Nat) (n : Nat) : val (l.take (tl l n)) = val (l.take n) := by
  induction n with
  | zero => rfl
  | succ n ih =>
    by_cases h : dg l n = 0
    · rw [tl_skip h, ih, val_take_succ, h]; omega
    · rw [tl_stop h]
theorem val_trimL (l : List Nat) : val (trimL l) = val l := by
  rw [trimL, tlen, val_take_tl, List.take_length]
theorem trim_trimL (l : List Nat) : Trim (trimL l) := by
  by_cases h : tlen l = 0
  · left; rw [trimL, h, List.take_zero]
  · right
    rw [length_trimL, trimL, dg_take (by omega)]
    have := tl_top l l.length (by rw [← tlen]; omega)
    rw [← tlen] at this
    omega
theorem fits_trimL {l : List Nat} (h : Fits l) : Fits (trimL l) := h.take _
theorem tlen_of_trim {l : List Nat} (h : Trim l) : tlen l = l.length := by
  rcases h with rfl | h
  · rfl
  · by_cases e : l.length = 0
    · rw [List.length_eq_zero_iff] at e; subst e; rfl
    · obtain ⟨n, hn⟩ : ∃ n, l.length = n + 1 := ⟨l.length - 1, by omega⟩
      unfold tlen
      rw [hn] at h ⊢
      exact tl_stop (by rw [Nat.add_sub_cancel] at h; omega)
/-- Of two numbers that are alike above limb k this limb decides, if it is not alike. -/
theorem val_lt_of_top {x y : List Nat} {k : Nat} (hx : Fits x) (hy : Fits y) (hd : x.drop (k + 1) = y.drop (k + 1)) (h1 : k < x.length) (h2 : k < y.length) (hne : dg x k ≠ dg y k) :
    val x < val y ↔ dg x k < dg y k := by
  have e1 := val_split x (k + 1)
  have e2 := val_split y (k + 1)
  rw [val_take_succ] at e1 e2
  rw [hd] at e1
  have b1 := val_lt (hx.take k)
  have b2 := val_lt (hy.take k)
  rw [List.length_take, Nat.min_eq_left (by omega)] at b1 b2
  generalize hP : B ^ k = P at *
  generalize B ^ (k + 1) * val (y.drop (k + 1)) = T at *
  constructor
  · intro h
    apply Classical.byContradiction
    intro hn
    have h3 : dg y k + 1 ≤ dg x k := by omega
    have h4 := Nat.mul_le_mul_right P h3
    rw [Nat.add_mul] at h4
    omega
  · intro h
    have h3 : dg x k + 1 ≤ dg y k := by omega
    have h4 := Nat.mul_le_mul_right P h3
    rw [Nat.add_mul] at h4
    omega

end Num4
end Go.Proofs.YtjeeepcnaaadmaaGreatDoor

/-
  THE EXTENDED EUCLIDEAN ALGORITHM, on integers (nothing of a program).
-/
namespace Go.Proofs.YtjeeepcnaaadmaaGreatDoor
namespace Num
set_option linter.unusedVariables false

/-- The greatest divisor of both and how it is made of them, by the document's recursion. -/
def zg (a b : Int) : Int × Int × Int :=
  if h : b = 0 then ((a.natAbs : Int), a.sign, 0)
  else
    let t := zg b (a % b)
    (t.1, t.2.2, t.2.1 - a / b * t.2.2)
termination_by b.natAbs
decreasing_by
  have h1 := Int.emod_nonneg a h
  have h2 := Int.emod_lt a h
  omega

theorem zg_zero (a : Int) : zg a 0 = ((a.natAbs : Int), a.sign, 0) := by rw [zg]; simp
theorem zg_step (a b : Int) (h : b ≠ 0) : zg a b = ((zg b (a % b)).1, (zg b (a % b)).2.2, (zg b (a % b)).2.1 - a / b * (zg b (a % b)).2.2) := by
  rw [zg]; simp [h]

theorem zg_ind {P : Int → Int → Prop} (h0 : ∀ a, P a 0) (h1 : ∀ a b, b ≠ 0 → P b (a % b) → P a b) (a b : Int) : P a b := by
  have : ∀ n : Nat, ∀ a b : Int, b.natAbs ≤ n → P a b := by
    intro n
    induction n with
    | zero => intro a b h; rw [show b = 0 by omega]; exact h0 a
    | succ n ih =>
      intro a b h
      by_cases hb : b = 0
      · subst hb; exact h0 a
      · refine h1 a b hb (ih _ _ ?_)
        have e1 := Int.emod_nonneg a hb
        have e2 := Int.emod_lt a hb
        omega
  exact this _ a b (Nat.le_refl _)

theorem gcd_emod (a b : Int) : Int.gcd (a % b) b = Int.gcd a b := by
  have h := Int.gcd_add_mul_left_left b (a % b) (a / b)
  rw [Int.emod_add_mul_ediv] at h
  exact h.symm

theorem zg_gcd (a b : Int) : (zg a b).1 = (Int.gcd a b : Int) := by
  refine zg_ind (P := fun a b => (zg a b).1 = (Int.gcd a b : Int)) ?_ ?_ a b
  · intro a; rw [zg_zero]; simp
  · intro a b hb ih
    rw [zg_step a b hb]
    show (zg b (a % b)).1 = _
    rw [ih, Int.gcd_comm b (a % b), gcd_emod]

theorem zg_made (a b : Int) : (zg a b).2.1 * a + (zg a b).2.2 * b = (zg a b).1 := by
  refine zg_ind (P := fun a b => (zg a b).2.1 * a + (zg a b).2.2 * b = (zg a b).1) ?_ ?_ a b
  · intro a; rw [zg_zero]; simp [Int.sign_mul_self]
  · intro a b hb ih
    rw [zg_step a b hb]
    show (zg b (a % b)).2.2 * a + ((zg b (a % b)).2.1 - a / b * (zg b (a % b)).2.2) * b = (zg b (a % b)).1
    rw [← ih]
    have h := Int.mul_ediv_add_emod a b
    generalize (zg b (a % b)).2.2 = v at *
    generalize (zg b (a % b)).2.1 = u at *
    generalize a % b = r at *
    generalize a / b = q at *
    rw [← h]
    simp only [Int.sub_mul, Int.mul_add]
    rw [show v * (b * q) = q * v * b by rw [Int.mul_comm b q, ← Int.mul_assoc, Int.mul_comm v q]]
    omega

theorem zg_small (a b : Int) (hb : b ≠ 0) : (zg a b).2.1.natAbs ≤ b.natAbs ∧ (zg a b).2.2.natAbs ≤ max a.natAbs 1 := by
  revert hb
  refine zg_ind (P := fun a b => b ≠ 0 → (zg a b).2.1.natAbs ≤ b.natAbs ∧ (zg a b).2.2.natAbs ≤ max a.natAbs 1) ?_ ?_ a b
  · intro a h; exact absurd rfl h
  · intro a b hb ih _
    have hm := zg_made a b
    rw [zg_gcd] at hm
    by_cases hr : a % b = 0
    · rw [zg_step a b hb, hr, zg_zero]
      show (0 : Int).natAbs ≤ _ ∧ (b.sign - a / b * 0).natAbs ≤ _
      rw [Int.mul_zero, Int.sub_zero]
      refine ⟨by simp, ?_⟩
      have : b.sign.natAbs ≤ 1 := by rw [Int.natAbs_sign]; split <;> omega
      omega
    · have h1 := ih hr
      have h2 : (zg a b).2.1.natAbs ≤ b.natAbs := by
        rw [zg_step a b hb]
        show (zg b (a % b)).2.2.natAbs ≤ _
        have := h1.2
        omega
      refine ⟨h2, ?_⟩
      have e1 := Int.emod_nonneg a hb
      have e2 := Int.emod_lt a hb
      have hg : Int.gcd a b < b.natAbs := by
        have h3 : Int.gcd a b = Int.gcd b (a % b) := by
          rw [Int.gcd_comm b (a % b), gcd_emod]
        have h4 : Int.gcd b (a % b) ≤ (a % b).natAbs := Nat.le_of_dvd (by omega) (Int.natAbs_dvd_natAbs.2 (Int.gcd_dvd_right b (a % b)) |> fun h => by simpa using h)
        omega
      have h5 : ((zg a b).2.2 * b).natAbs ≤ Int.gcd a b + (zg a b).2.1.natAbs * a.natAbs := by
        have h6 : (zg a b).2.2 * b = (Int.gcd a b : Int) - (zg a b).2.1 * a := by omega
        rw [h6]
        refine Nat.le_trans (Int.natAbs_sub_le _ _) ?_
        rw [Int.natAbs_mul]
        simp
      rw [Int.natAbs_mul] at h5
      have h7 : (zg a b).2.1.natAbs * a.natAbs ≤ b.natAbs * a.natAbs := Nat.mul_le_mul_right _ h2
      have h8 : (zg a b).2.2.natAbs * b.natAbs < (a.natAbs + 1) * b.natAbs := by
        rw [Nat.add_mul, Nat.one_mul, Nat.mul_comm a.natAbs]
        omega
      have := Nat.lt_of_mul_lt_mul_right h8
      omega

end Num
end Go.Proofs.YtjeeepcnaaadmaaGreatDoor

/-
  THE STERN-BROCOT TREE: bounds, ways, numbers at their ends.
-/
namespace Go.Proofs.YtjeeepcnaaadmaaGreatDoor
set_option linter.unusedVariables false
/-- The two bounds: low a/b, high c/d. -/
structure Bnd where
  a : Nat
  b : Nat
  c : Nat
  d : Nat
def bnd0 : Bnd := ⟨0, 1, 1, 0⟩
def stp (s : Bnd) (x : UInt8) : Bnd := if x = 76 then ⟨s.a, s.b, s.a + s.c, s.b + s.d⟩ else ⟨s.a + s.c, s.b + s.d, s.c, s.d⟩
def Bnd.m (s : Bnd) : Nat := s.a + s.c
def Bnd.n (s : Bnd) : Nat := s.b + s.d
def Uni (s : Bnd) : Prop := s.c * s.b = s.a * s.d + 1
def wlk (s : Bnd) (l : List UInt8) : Bnd := l.foldl stp s
theorem wlk_nil (s : Bnd) : wlk s [] = s := rfl
theorem wlk_cons (s : Bnd) (x : UInt8) (l : List UInt8) : wlk s (x :: l) = wlk (stp s x) l := rfl
theorem wlk_snoc (s : Bnd) (x : UInt8) (l : List UInt8) : wlk s (l ++ [x]) = stp (wlk s l) x := by simp [wlk]
theorem stp_L (s : Bnd) : stp s 76 = ⟨s.a, s.b, s.a + s.c, s.b + s.d⟩ := rfl
theorem stp_R {s : Bnd} {x : UInt8} (h : x ≠ 76) : stp s x = ⟨s.a + s.c, s.b + s.d, s.c, s.d⟩ := by rw [stp, if_neg h]
theorem uni0 : Uni bnd0 := rfl
theorem Uni.stp {s : Bnd} (h : Uni s) (x : UInt8) : Uni (stp s x) := by
  unfold Uni at *
  by_cases hx : x = 76
  · subst hx; rw [stp_L]; simp only [Nat.add_mul, Nat.mul_add]; omega
  · rw [stp_R hx]; simp only [Nat.add_mul, Nat.mul_add]; omega
theorem Uni.wlk {s : Bnd} (h : Uni s) (l : List UInt8) : Uni (wlk s l) := by
  induction l generalizing s with
  | nil => exact h
  | cons x l ih => exact ih (h.stp x)
theorem Uni.pos {s : Bnd} (h : Uni s) : 0 < s.b ∧ 0 < s.c := by
  unfold Uni at h
  constructor
  · rcases Nat.eq_zero_or_pos s.b with e | e
    · rw [e] at h; omega
    · exact e
  · rcases Nat.eq_zero_or_pos s.c with e | e
    · rw [e] at h; omega
    · exact e
theorem Uni.mpos {s : Bnd} (h : Uni s) : 0 < s.m ∧ 0 < s.n := by
  have := h.pos; unfold Bnd.m Bnd.n; omega
theorem Uni.gcd {s : Bnd} (h : Uni s) : Nat.gcd s.m s.n = 1 := by
  have h1 : Nat.gcd s.m s.n ∣ s.c * s.n := Nat.dvd_trans (Nat.gcd_dvd_right _ _) (Nat.dvd_mul_left _ _)
  have h2 : Nat.gcd s.m s.n ∣ s.m * s.d := Nat.dvd_trans (Nat.gcd_dvd_left _ _) (Nat.dvd_mul_right _ _)
  have h3 : s.c * s.n = s.m * s.d + 1 := by
    unfold Uni at h; unfold Bnd.m Bnd.n; simp only [Nat.add_mul, Nat.mul_add]; omega
  have h4 : Nat.gcd s.m s.n ∣ 1 := by
    have := Nat.dvd_sub h1 h2
    rwa [h3, Nat.add_sub_cancel_left] at this
  exact Nat.dvd_one.1 h4
/-- Less, and less again, as fractions. -/
theorem frac_trans {x y z w u v : Nat} (hw : 0 < w) (h1 : x * w < z * y) (h2 : z * v < u * w) (hp : 0 < y ∨ 0 < v) : x * v < u * y := by
  have e1 : x * v * w ≤ z * v * y := by
    have := Nat.mul_le_mul_right v (Nat.le_of_lt h1)
    calc x * v * w = x * w * v := by grind
      _ ≤ z * y * v := this
      _ = z * v * y := by grind
  have e2 : z * v * y ≤ u * y * w := by
    have := Nat.mul_le_mul_right y (Nat.le_of_lt h2)
    calc z * v * y ≤ u * w * y := this
      _ = u * y * w := by grind
  have e3 : x * v * w < u * y * w := by
    rcases hp with hp | hp
    · have := Nat.mul_lt_mul_of_pos_right h2 hp
      calc x * v * w ≤ z * v * y := e1
        _ < u * w * y := this
        _ = u * y * w := by grind
    · have := Nat.mul_lt_mul_of_pos_right h1 hp
      calc x * v * w = x * w * v := by grind
        _ < z * y * v := this
        _ = z * v * y := by grind
        _ ≤ u * y * w := e2
  exact Nat.lt_of_mul_lt_mul_right e3
theorem Uni.low {s : Bnd} (h : Uni s) : s.a * s.n < s.m * s.b := by
  unfold Uni at h; unfold Bnd.m Bnd.n; simp only [Nat.add_mul, Nat.mul_add]; omega
theorem Uni.high {s : Bnd} (h : Uni s) : s.m * s.d < s.c * s.n := by
  unfold Uni at h; unfold Bnd.m Bnd.n; simp only [Nat.add_mul, Nat.mul_add]; omega
/-- What comes below lies between the bounds. -/
theorem Uni.between {s : Bnd} (h : Uni s) (l : List UInt8) : s.a * (YtjeeepcnaaadmaaGreatDoor.wlk s l).n < (YtjeeepcnaaadmaaGreatDoor.wlk s l).m * s.b ∧ (YtjeeepcnaaadmaaGreatDoor.wlk s l).m * s.d < s.c * (YtjeeepcnaaadmaaGreatDoor.wlk s l).n := by
  induction l generalizing s with
  | nil => exact ⟨h.low, h.high⟩
  | cons x l ih =>
    have h2 := ih (h.stp x)
    have hn := ((h.stp x).wlk l).mpos.2
    rw [wlk_cons]
    by_cases hx : x = 76
    · subst hx
      rw [stp_L] at h2 hn ⊢
      refine ⟨h2.1, ?_⟩
      exact frac_trans (x := (YtjeeepcnaaadmaaGreatDoor.wlk _ l).m) (y := (YtjeeepcnaaadmaaGreatDoor.wlk _ l).n) (z := s.m) (w := s.n) (u := s.c) (v := s.d) h.mpos.2 h2.2 h.high (.inl hn)
    · rw [stp_R hx] at h2 hn ⊢
      refine ⟨?_, h2.2⟩
      exact frac_trans (x := s.a) (y := s.b) (z := s.m) (w := s.n) h.mpos.2 h.low h2.1 (.inr hn)
/-- How a fraction lies to the middle. -/
def cmpw (p : Int) (q : Nat) (s : Bnd) : Int := (p * s.n - s.m * q).sign
/-- The way to p/q, of n steps or fewer. -/
def wayn : Nat → Int → Nat → Bnd → Option (List UInt8)
  | 0, p, q, s => if cmpw p q s = 0 then some [] else none
  | n + 1, p, q, s => if cmpw p q s = 0 then some [] else if cmpw p q s < 0 then (wayn n p q (stp s 76)).map (76 :: ·) else (wayn n p q (stp s 82)).map (82 :: ·)
def LR (l : List UInt8) : Prop := ∀ x ∈ l, x = 76 ∨ x = 82
theorem cmpw_zero {p : Int} {q : Nat} {s : Bnd} : cmpw p q s = 0 ↔ p * s.n = s.m * q := by
  unfold cmpw
  rw [Int.sign_eq_zero_iff_zero]; omega
theorem cmpw_neg {p : Int} {q : Nat} {s : Bnd} : cmpw p q s < 0 ↔ p * s.n < s.m * q := by
  unfold cmpw
  rw [← Int.not_le, Int.sign_nonneg_iff, Int.not_le]; omega
theorem wayn_some {n : Nat} {p : Int} {q : Nat} {s : Bnd} {l : List UInt8} (h : wayn n p q s = some l) : l.length ≤ n ∧ LR l ∧ p * (wlk s l).n = (wlk s l).m * q := by
  induction n generalizing s l with
  | zero =>
    rw [wayn] at h
    split at h
    · rename_i hc
      obtain rfl := Option.some.inj h
      exact ⟨Nat.le_refl _, fun x hx => by simp at hx, cmpw_zero.1 hc⟩
    · cases h
  | succ n ih =>
    rw [wayn] at h
    split at h
    · rename_i hc
      obtain rfl := Option.some.inj h
      exact ⟨Nat.zero_le _, fun x hx => by simp at hx, cmpw_zero.1 hc⟩
    · split at h
      · obtain ⟨t, ht, rfl⟩ := Option.map_eq_some_iff.1 h
        obtain ⟨h1, h2, h3⟩ := ih ht
        refine ⟨by simpa using h1, ?_, h3⟩
        intro x hx
        rcases List.mem_cons.1 hx with rfl | hx
        · exact .inl rfl
        · exact h2 x hx
      · obtain ⟨t, ht, rfl⟩ := Option.map_eq_some_iff.1 h
        obtain ⟨h1, h2, h3⟩ := ih ht
        refine ⟨by simpa using h1, ?_, h3⟩
        intro x hx
        rcases List.mem_cons.1 hx with rfl | hx
        · exact .inr rfl
        · exact h2 x hx
theorem wayn_wlk {n : Nat} {s : Bnd} (hs : Uni s) {l : List UInt8} (hl : LR l) (hn : l.length ≤ n) : wayn n (wlk s l).m (wlk s l).n s = some l := by
  induction l generalizing s n with
  | nil =>
    have hc : cmpw (wlk s []).m (wlk s []).n s = 0 := cmpw_zero.2 rfl
    cases n with
    | zero => rw [wayn, if_pos hc]
    | succ n => rw [wayn, if_pos hc]
  | cons x l ih =>
    cases n with
    | zero => simp at hn
    | succ n =>
      have hn' : l.length ≤ n := by simpa using hn
      have hr := ih (hs.stp x) (fun y hy => hl y (List.mem_cons_of_mem _ hy)) hn'
      have hb := (hs.stp x).between l
      rw [wlk_cons]
      rcases hl x (List.mem_cons_self ..) with hx | hx
      · subst hx
        have h2 : (wlk (stp s 76) l).m * s.n < s.m * (wlk (stp s 76) l).n := hb.2
        have hc : cmpw (wlk (stp s 76) l).m (wlk (stp s 76) l).n s < 0 := cmpw_neg.2 (by exact_mod_cast h2)
        rw [wayn, if_neg (by omega), if_pos hc, hr]; rfl
      · subst hx
        have h1 : s.m * (wlk (stp s 82) l).n < (wlk (stp s 82) l).m * s.n := hb.1
        have hc : ¬ cmpw (wlk (stp s 82) l).m (wlk (stp s 82) l).n s < 0 := by
          rw [cmpw_neg]
          have : ((s.m * (wlk (stp s 82) l).n : Nat) : Int) < ((wlk (stp s 82) l).m * s.n : Nat) := by exact_mod_cast h1
          push_cast at this
          omega
        have hc0 : ¬ cmpw (wlk (stp s 82) l).m (wlk (stp s 82) l).n s = 0 := by
          rw [cmpw_zero]
          have : ((s.m * (wlk (stp s 82) l).n : Nat) : Int) < ((wlk (stp s 82) l).m * s.n : Nat) := by exact_mod_cast h1
          push_cast at this
          omega
        rw [wayn, if_neg hc0, if_neg hc, hr]; rfl
/-- Steps to the left are less, to the right more. -/
theorem left_less {s : Bnd} (h : Uni s) : (stp s 76).m * s.n < s.m * (stp s 76).n := (h.stp 76).high
theorem right_more {s : Bnd} (h : Uni s) : s.m * (stp s 82).n < (stp s 82).m * s.n := (h.stp 82).low
/-- The mirror. -/
def Bnd.mir (s : Bnd) : Bnd := ⟨s.d, s.c, s.b, s.a⟩
def turn (x : UInt8) : UInt8 := if x = 76 then 82 else 76
theorem stp_mir {s : Bnd} {x : UInt8} : stp s.mir (turn x) = (stp s x).mir := by
  unfold turn
  by_cases hx : x = 76
  · rw [if_pos hx, stp_R (by decide), hx, stp_L]; simp [Bnd.mir, Nat.add_comm]
  · rw [if_neg hx, stp_R hx, stp_L]; simp [Bnd.mir, Nat.add_comm]
theorem wlk_mir (s : Bnd) (l : List UInt8) : wlk s.mir (l.map turn) = (wlk s l).mir := by
  induction l generalizing s with
  | nil => rfl
  | cons x l ih => rw [List.map_cons, wlk_cons, stp_mir, ih, wlk_cons]
theorem mir_m (s : Bnd) : s.mir.m = s.n := by simp [Bnd.mir, Bnd.m, Bnd.n, Nat.add_comm]
theorem mir_n (s : Bnd) : s.mir.n = s.m := by simp [Bnd.mir, Bnd.m, Bnd.n, Nat.add_comm]
theorem wlk_turn (l : List UInt8) : (wlk bnd0 (l.map turn)).m = (wlk bnd0 l).n ∧ (wlk bnd0 (l.map turn)).n = (wlk bnd0 l).m := by
  have : wlk bnd0 (l.map turn) = (wlk bnd0 l).mir := wlk_mir bnd0 l
  rw [this, mir_m, mir_n]; exact ⟨rfl, rfl⟩
theorem turn_LR (l : List UInt8) : LR (l.map turn) := by
  intro x hx
  obtain ⟨y, _, rfl⟩ := List.mem_map.1 hx
  unfold turn
  split
  · exact .inr rfl
  · exact .inl rfl
/-- How great the bounds may be. -/
def Bnd.le (s : Bnd) (k : Nat) : Prop := s.a ≤ k ∧ s.b ≤ k ∧ s.c ≤ k ∧ s.d ≤ k
theorem Bnd.le.stp {s : Bnd} {k : Nat} (h : s.le k) (x : UInt8) : (stp s x).le (k + k) := by
  obtain ⟨h1, h2, h3, h4⟩ := h
  by_cases hx : x = 76
  · subst hx; rw [stp_L]; refine ⟨?_, ?_, ?_, ?_⟩ <;> dsimp only <;> omega
  · rw [stp_R hx]; refine ⟨?_, ?_, ?_, ?_⟩ <;> dsimp only <;> omega
theorem wlk_le {s : Bnd} {k : Nat} (h : s.le k) (l : List UInt8) : (wlk s l).le (k * 2 ^ l.length) := by
  induction l generalizing s k with
  | nil => simpa [wlk] using h
  | cons x l ih =>
    have := ih (h.stp x)
    rw [wlk_cons, List.length_cons, Nat.pow_succ, show k * (2 ^ l.length * 2) = (k + k) * 2 ^ l.length by grind]
    exact this
theorem bnd0_le : bnd0.le 1 := ⟨by decide, by decide, by decide, by decide⟩
theorem wlk_small {l : List UInt8} (h : l.length ≤ 30) : (wlk bnd0 l).le 1073741824 := by
  have h1 := wlk_le bnd0_le l
  have h2 : 2 ^ l.length ≤ 2 ^ 30 := Nat.pow_le_pow_right (by decide) h
  have h3 : (2 : Nat) ^ 30 = 1073741824 := by decide
  rw [h3] at h2
  rw [Nat.one_mul] at h1
  obtain ⟨a, b, c, d⟩ := h1
  exact ⟨by omega, by omega, by omega, by omega⟩
/-- The number at the end of a way. -/
def endq (l : List UInt8) : Rat := Rat.divInt (wlk bnd0 l).m (wlk bnd0 l).n
theorem endq_parts (l : List UInt8) : (endq l).num = (wlk bnd0 l).m ∧ (endq l).den = (wlk bnd0 l).n := by
  have hu := uni0.wlk l
  have hg := hu.gcd
  have hp := hu.mpos
  unfold endq
  have hn : ((wlk bnd0 l).n : Int) ≠ 0 := by omega
  have hgi : Int.gcd ((wlk bnd0 l).n : Int) ((wlk bnd0 l).m : Int) = 1 := by rw [Int.gcd_comm]; exact hg
  constructor
  · rw [Rat.num_divInt]
    rw [hgi]
    have : ((wlk bnd0 l).n : Int).sign = 1 := Int.sign_eq_one_of_pos (by omega)
    rw [this]
    simp
  · rw [Rat.den_divInt, if_neg hn, hgi]
    simp
theorem endq_of {x : Rat} {l : List UInt8} (h : x.num * (wlk bnd0 l).n = (wlk bnd0 l).m * x.den) : endq l = x := by
  have hp := (uni0.wlk l).mpos
  have hx : x = Rat.divInt x.num x.den := (Rat.num_divInt_den x).symm
  conv => rhs; rw [hx]
  unfold endq
  rw [Rat.divInt_eq_divInt_iff (by omega) (by have := x.den_pos; omega)]
  exact h.symm
/-- The way to a number above nought. -/
def wayq (x : Rat) : Option (List UInt8) := wayn 30 x.num x.den bnd0
theorem wayq_endq {l : List UInt8} (hl : LR l) (hn : l.length ≤ 30) : wayq (endq l) = some l := by
  unfold wayq
  rw [(endq_parts l).1, (endq_parts l).2]
  exact wayn_wlk uni0 hl hn
theorem endq_wayq {x : Rat} {l : List UInt8} (h : wayq x = some l) : l.length ≤ 30 ∧ LR l ∧ endq l = x := by
  obtain ⟨h1, h2, h3⟩ := wayn_some h
  exact ⟨h1, h2, endq_of h3⟩
theorem endq_pos (l : List UInt8) : 0 < (endq l).num := by
  rw [(endq_parts l).1]; have := (uni0.wlk l).mpos; omega
theorem endq_lt {l t : List UInt8} (h : (wlk bnd0 l).m * (wlk bnd0 t).n < (wlk bnd0 t).m * (wlk bnd0 l).n) : endq l < endq t := by
  rw [Rat.lt_iff, (endq_parts l).1, (endq_parts l).2, (endq_parts t).1, (endq_parts t).2]
  exact_mod_cast h
theorem endq_left (l : List UInt8) : endq (l ++ [76]) < endq l := by
  apply endq_lt
  rw [wlk_snoc]
  exact left_less (uni0.wlk l)
theorem endq_right (l : List UInt8) : endq l < endq (l ++ [82]) := by
  apply endq_lt
  rw [wlk_snoc]
  exact right_more (uni0.wlk l)
theorem endq_turn (l : List UInt8) : endq (l.map turn) = 1 / endq l := by
  have h1 := endq_parts l
  have h2 := endq_parts (l.map turn)
  have h3 := wlk_turn l
  have hp := (uni0.wlk l).mpos
  have hx : endq l ≠ 0 := by
    intro e
    have := h1.1
    rw [e] at this
    simp at this
    omega
  have h4 : endq (l.map turn) * endq l = 1 := by
    unfold endq
    rw [h3.1, h3.2, Rat.divInt_mul_divInt, Int.mul_comm, ← Int.mul_one (_ * _)]
    exact Rat.divInt_self' (by have : (0 : Int) < (wlk bnd0 l).m * (wlk bnd0 l).n := Int.mul_pos (by omega) (by omega); omega)
  rw [← h4]
  rw [Rat.mul_div_cancel hx]
/-- The mediant of two fractions in lowest terms. -/
def medq (x y : Rat) : Rat := Rat.divInt (x.num + y.num) ((x.den + y.den : Nat) : Int)
theorem frac_between {x y a b c d : Rat} (hb : 0 < b) (hd : 0 < d) (h1 : x * b = a) (h2 : y * d = c) (h : x < y) : x < (a + c) / (b + d) ∧ (a + c) / (b + d) < y := by
  have hs : 0 < b + d := by grind
  rw [Rat.lt_div_iff hs, Rat.div_lt_iff hs]
  have h3 : x * d < y * d := (Rat.mul_lt_mul_right hd).2 h
  have h4 : x * b < y * b := (Rat.mul_lt_mul_right hb).2 h
  constructor <;> grind
theorem parts_mul (x : Rat) : x * (x.den : Rat) = (x.num : Rat) := by
  have hd : (0 : Rat) < (x.den : Rat) := by exact_mod_cast x.den_pos
  have ex : x = (x.num : Rat) / ((x.den : Int) : Rat) := by rw [← Rat.divInt_eq_div]; exact (Rat.num_divInt_den x).symm
  conv => lhs; lhs; rw [ex]
  rw [Rat.intCast_natCast]
  exact Rat.div_mul_cancel (by grind)
theorem medq_between {x y : Rat} (h : x < y) : x < medq x y ∧ medq x y < y := by
  have hx : (0 : Rat) < (x.den : Rat) := by exact_mod_cast x.den_pos
  have hy : (0 : Rat) < (y.den : Rat) := by exact_mod_cast y.den_pos
  have := frac_between hx hy (parts_mul x) (parts_mul y) h
  unfold medq
  rw [Rat.divInt_eq_div, Rat.intCast_natCast]
  push_cast
  exact this
end Go.Proofs.YtjeeepcnaaadmaaGreatDoor

/-
  CONTINUED FRACTIONS; THE NEAREST FRACTION OF A SMALL DENOMINATOR: the mathematics.
-/
namespace Go.Proofs.YtjeeepcnaaadmaaGreatDoor
set_option linter.unusedVariables false
set_option linter.unusedSimpArgs false


/-- The numbers of t divided by b, by Euclid's steps. -/
def cfl (t : Int) (b : Nat) : List Int :=
  if _h : b = 0 then [] else t / b :: cfl b (t % b).toNat
termination_by b
decreasing_by
  have h1 := Int.emod_lt_of_pos t (show (0 : Int) < b by omega)
  have h2 := Int.emod_nonneg t (show (b : Int) ≠ 0 by omega)
  omega
theorem cfl_zero (t : Int) : cfl t 0 = [] := by rw [cfl]; simp
theorem cfl_pos (t : Int) {b : Nat} (h : b ≠ 0) : cfl t b = t / b :: cfl b (t % b).toNat := by
  rw [cfl, dif_neg h]
/-- Numbers, folded from the last one on. -/
def cfb (l : List Int) : Int × Int := l.foldr (fun q p => (q * p.1 + p.2, p.1)) (1, 0)
theorem cfb_cons (q : Int) (l : List Int) : cfb (q :: l) = (q * (cfb l).1 + (cfb l).2, (cfb l).1) := rfl
theorem rest_lt (t : Int) {b : Nat} (h : b ≠ 0) : (t % b).toNat < b ∧ (((t % b).toNat : Nat) : Int) = t % b := by
  have h1 := Int.emod_lt_of_pos t (show (0 : Int) < b by omega)
  have h2 := Int.emod_nonneg t (show (b : Int) ≠ 0 by omega)
  omega
theorem cfb_cfl : ∀ (n b : Nat) (t : Int), b ≤ n → (0 < b ∨ 0 < t) → (cfb (cfl t b)).1 * (Int.gcd t b : Int) = t ∧ (cfb (cfl t b)).2 * (Int.gcd t b : Int) = b := by
  intro n
  induction n with
  | zero =>
    intro b t hn h
    obtain rfl : b = 0 := by omega
    rw [cfl_zero]
    simp [cfb]
    omega
  | succ n ih =>
    intro b t hn h
    by_cases hb : b = 0
    · subst hb
      rw [cfl_zero]
      simp [cfb]
      omega
    · obtain ⟨h1, h2⟩ := rest_lt t hb
      obtain ⟨e1, e2⟩ := ih (t % b).toNat b (by omega) (.inr (by omega))
      have hg : Int.gcd (b : Int) ((t % b).toNat : Nat) = Int.gcd t b := by
        rw [h2, Int.gcd_comm t b]
        apply Nat.dvd_antisymm <;> rw [← Int.natCast_dvd_natCast]
        · refine Int.dvd_coe_gcd (Int.gcd_dvd_left _ _) ?_
          conv => rhs; rw [← Int.ediv_mul_add_emod t b]
          exact Int.dvd_add (Int.dvd_trans (Int.gcd_dvd_left _ _) ⟨t / b, Int.mul_comm _ _⟩) (Int.gcd_dvd_right _ _)
        · refine Int.dvd_coe_gcd (Int.gcd_dvd_left _ _) ?_
          rw [Int.emod_def]
          exact Int.dvd_sub (Int.gcd_dvd_right _ _) (Int.dvd_trans (Int.gcd_dvd_left _ _) ⟨t / b, rfl⟩)
      rw [hg] at e1 e2
      rw [cfl_pos t hb, cfb_cons]
      refine ⟨?_, e1⟩
      show (t / b * _ + _) * _ = t
      rw [Int.add_mul, Int.mul_assoc, e1, e2, h2]
      exact Int.ediv_mul_add_emod t b
theorem cfl_less : ∀ (n r b : Nat), r ≤ n → r < b → (∀ y ∈ cfl b r, 1 ≤ y ∧ y ≤ b) ∧ ∀ y, (cfl b r).getLast? = some y → y ≠ 1 := by
  intro n
  induction n with
  | zero =>
    intro r b hn h
    obtain rfl : r = 0 := by omega
    rw [cfl_zero]; simp
  | succ n ih =>
    intro r b hn h
    by_cases hr : r = 0
    · subst hr; rw [cfl_zero]; simp
    · obtain ⟨h1, h2⟩ := rest_lt b hr
      obtain ⟨i1, i2⟩ := ih ((b : Int) % r).toNat r (by omega) h1
      rw [cfl_pos _ hr]
      have hq : 1 ≤ (b : Int) / r := (Int.le_ediv_iff_mul_le (by omega)).2 (by omega)
      have hq2 : (b : Int) / r ≤ b := Int.ediv_le_self _ (by omega)
      refine ⟨fun y hy => ?_, fun y hy => ?_⟩
      · rcases List.mem_cons.1 hy with rfl | hy
        · exact ⟨hq, hq2⟩
        · have := i1 y hy; omega
      · by_cases h0 : ((b : Int) % r).toNat = 0
        · rw [h0, cfl_zero] at hy
          simp at hy
          have h3 := Int.ediv_mul_add_emod (b : Int) r
          rw [hy] at h3
          intro e
          subst e
          omega
        · obtain ⟨q', l', hl⟩ : ∃ q' l', cfl r ((b : Int) % r).toNat = q' :: l' := ⟨_, _, cfl_pos _ h0⟩
          rw [hl, List.getLast?_cons_cons] at hy
          rw [hl] at i2
          exact i2 y hy

theorem cfl_len : ∀ (m b : Nat) (t : Int), b < 2 ^ m → (cfl t b).length ≤ 2 * m + 1 := by
  intro m
  induction m with
  | zero =>
    intro b t h
    obtain rfl : b = 0 := by simp at h; exact h
    rw [cfl_zero]; simp
  | succ m ih =>
    intro b t h
    by_cases hb : b = 0
    · subst hb; rw [cfl_zero]; simp
    · obtain ⟨h1, h2⟩ := rest_lt t hb
      rw [cfl_pos t hb]
      by_cases hr : (t % b).toNat = 0
      · rw [hr, cfl_zero]; simp
      · rw [cfl_pos _ hr]
        generalize (t % b).toNat = r at *
        obtain ⟨k1, k2⟩ := rest_lt (b : Int) hr
        have h3 := Int.ediv_mul_add_emod (b : Int) r
        have hq : 1 ≤ (b : Int) / r := (Int.le_ediv_iff_mul_le (by omega)).2 (by omega)
        have hm := Int.mul_le_mul_of_nonneg_right hq (show (0 : Int) ≤ r by omega)
        have := ih ((b : Int) % r).toNat r (by rw [Nat.pow_succ] at h; omega)
        simp only [List.length_cons]
        omega
/-- The numbers of a fraction. -/
def cfq (q : Rat) : List Int := cfl q.num q.den

/-! ### The nearest one -/
def siz (q : Rat) : Rat := if q < 0 then -q else q
/-- p is the one to tell: of all with a denominator of m or less the nearest to x; of two the one of the smaller denominator, or the smaller one. -/
def Bst (x : Rat) (m : Nat) (p : Rat) : Prop := p.den ≤ m ∧ ∀ r : Rat, r.den ≤ m → siz (x - p) < siz (x - r) ∨ (siz (x - p) = siz (x - r) ∧ (p.den < r.den ∨ (p.den = r.den ∧ p ≤ r)))
theorem Bst.unique {x p q : Rat} {m : Nat} (h : Bst x m p) (h' : Bst x m q) : p = q := by
  rcases h.2 q h'.1 with h1 | ⟨h1, h2⟩ <;> rcases h'.2 p h.1 with k1 | ⟨k1, k2⟩
  · grind
  · grind
  · grind
  · rcases h2 with h2 | ⟨h2, h3⟩ <;> rcases k2 with k2 | ⟨k2, k3⟩
    · omega
    · omega
    · omega
    · exact Rat.le_antisymm h3 k3
theorem Bst.least {x p r : Rat} {m : Nat} (h : Bst x m p) (hr : r.den ≤ m) : siz (x - p) ≤ siz (x - r) := by
  rcases h.2 r hr with h | ⟨h, _⟩
  · exact Rat.le_of_lt h
  · rw [h]; exact Rat.le_refl
theorem Bst.self {x p : Rat} {m : Nat} (h : Bst x m p) (hr : x.den ≤ m) : p = x := by
  have := h.least hr
  unfold siz at this
  grind
/-- Side by side: nothing lies between but what has a denominator as great as both together. -/
def Adj (l h : Rat) : Prop := h.num * l.den - l.num * h.den = 1
theorem Adj.far {l h r : Rat} {m : Nat} (ha : Adj l h) (hm : m < l.den + h.den) (hr : r.den ≤ m) : r ≤ l ∨ h ≤ r := by
  by_cases h1 : r ≤ l
  · exact .inl h1
  by_cases h2 : h ≤ r
  · exact .inr h2
  exfalso
  have h1 := (Rat.lt_iff _ _).1 (Rat.not_le.1 h1)
  have h2 := (Rat.lt_iff _ _).1 (Rat.not_le.1 h2)
  unfold Adj at ha
  have e : (r.den : Int) = l.den * (h.num * r.den - r.num * h.den) + h.den * (r.num * l.den - l.num * r.den) := by
    have : l.den * (h.num * r.den - r.num * h.den) + h.den * (r.num * l.den - l.num * r.den) = (r.den : Int) * (h.num * l.den - l.num * h.den) := by grind
    rw [this, ha]; omega
  have p1 : (l.den : Int) * 1 ≤ l.den * (h.num * r.den - r.num * h.den) := Int.mul_le_mul_of_nonneg_left (by omega) (by omega)
  have p2 : (h.den : Int) * 1 ≤ h.den * (r.num * l.den - l.num * r.den) := Int.mul_le_mul_of_nonneg_left (by omega) (by omega)
  omega
/-- The nearer one of two. -/
def nrq (x l h : Rat) : Rat := if x + x < l + h then l else if l + h < x + x then h else if h.den < l.den then h else l
theorem nrq_best {x l h : Rat} {m : Nat} (ha : Adj l h) (hm : m < l.den + h.den) (hl : l.den ≤ m) (hh : h.den ≤ m) (h1 : l ≤ x) (h2 : x < h) : Bst x m (nrq x l h) := by
  unfold nrq
  split
  · refine ⟨hl, fun r hr => ?_⟩
    have := ha.far hm hr
    by_cases hrl : r = l
    · subst hrl; exact .inr ⟨rfl, .inr ⟨rfl, Rat.le_refl⟩⟩
    · left; unfold siz; grind
  · split
    · refine ⟨hh, fun r hr => ?_⟩
      have := ha.far hm hr
      by_cases hrl : r = h
      · subst hrl; exact .inr ⟨rfl, .inr ⟨rfl, Rat.le_refl⟩⟩
      · left; unfold siz; grind
    · split
      · refine ⟨hh, fun r hr => ?_⟩
        have := ha.far hm hr
        by_cases hrl : r = h
        · subst hrl; exact .inr ⟨rfl, .inr ⟨rfl, Rat.le_refl⟩⟩
        by_cases hrl : r = l
        · subst hrl; right; exact ⟨by unfold siz; grind, .inl (by omega)⟩
        · left; unfold siz; grind
      · refine ⟨hl, fun r hr => ?_⟩
        have := ha.far hm hr
        by_cases hrl : r = l
        · subst hrl; exact .inr ⟨rfl, .inr ⟨rfl, Rat.le_refl⟩⟩
        by_cases hrl : r = h
        · subst hrl; right; exact ⟨by unfold siz; grind, by
            by_cases e : l.den = r.den
            · exact .inr ⟨e, by grind⟩
            · exact .inl (by omega)⟩
        · left; unfold siz; grind

theorem divInt_cop {n d : Int} (hd : 0 < d) (hg : Int.gcd n d = 1) : (Rat.divInt n d).num = n ∧ ((Rat.divInt n d).den : Int) = d := by
  have hg' : Int.gcd d n = 1 := by rw [Int.gcd_comm]; exact hg
  rw [Rat.num_divInt, Rat.den_divInt, hg', if_neg (by omega), Int.sign_eq_one_of_pos hd]
  constructor
  · simp
  · rw [Nat.div_one]; omega
def med (l h : Rat) : Rat := Rat.divInt (l.num + h.num) (l.den + h.den)
theorem Adj.med {l h : Rat} (ha : Adj l h) : (med l h).num = l.num + h.num ∧ (med l h).den = l.den + h.den ∧ Adj l (med l h) ∧ Adj (med l h) h := by
  unfold Adj at *
  have hl := l.den_pos
  have hg : Int.gcd (l.num + h.num) (l.den + h.den) = 1 := by
    have k1 := Int.gcd_dvd_left (l.num + h.num) (l.den + h.den)
    have k2 := Int.gcd_dvd_right (l.num + h.num) (l.den + h.den)
    have k3 : (Int.gcd (l.num + h.num) (l.den + h.den) : Int) ∣ 1 := by
      have e : (1 : Int) = (l.num + h.num) * l.den - l.num * (l.den + h.den) := by grind
      rw [e]
      exact Int.dvd_sub (Int.dvd_trans k1 ⟨_, rfl⟩) (Int.dvd_trans k2 ⟨_, Int.mul_comm _ _⟩)
    have := Int.le_of_dvd (by omega) k3
    have := Int.gcd_pos_of_ne_zero_right (l.num + h.num) (show (l.den + h.den : Int) ≠ 0 by omega)
    omega
  obtain ⟨e1, e2⟩ := divInt_cop (show (0 : Int) < l.den + h.den by omega) hg
  have e3 : (Go.Proofs.YtjeeepcnaaadmaaGreatDoor.med l h).den = l.den + h.den := by
    have : ((Go.Proofs.YtjeeepcnaaadmaaGreatDoor.med l h).den : Int) = l.den + h.den := e2
    omega
  have e1' : (Go.Proofs.YtjeeepcnaaadmaaGreatDoor.med l h).num = l.num + h.num := e1
  refine ⟨e1', e3, ?_, ?_⟩ <;> rw [e1', e3] <;> grind
theorem Adj.start (z : Int) : Adj (z : Rat) ((z : Rat) + 1) ∧ ((z : Rat)).den = 1 ∧ ((z : Rat) + 1).den = 1 := by
  have e : (z : Rat) + 1 = ((z + 1 : Int) : Rat) := by simp
  rw [e]
  refine ⟨?_, rfl, rfl⟩
  show (z + 1) * 1 - z * 1 = 1
  omega
theorem Adj.lt {l h : Rat} (ha : Adj l h) : l < h := by
  unfold Adj at ha
  exact (Rat.lt_iff _ _).2 (by omega)
theorem num_between {r : Rat} {f : Int} (h1 : (f : Rat) ≤ r) (h2 : r ≤ (f : Rat) + 1) : r.num.natAbs ≤ (f.natAbs + 1) * r.den := by
  have e : (f : Rat) + 1 = ((f + 1 : Int) : Rat) := by simp
  rw [e] at h2
  have k1 := (Rat.le_iff _ _).1 h1
  have k2 := (Rat.le_iff _ _).1 h2
  simp only [Rat.num_intCast, Rat.den_intCast, Int.natCast_one, Int.mul_one] at k1 k2
  have hd := r.den_pos
  have b1 : r.num ≤ ((f.natAbs + 1 : Nat) : Int) * r.den := Int.le_trans k2 (Int.mul_le_mul_of_nonneg_right (by omega) (by omega))
  have b2 : -(((f.natAbs + 1 : Nat) : Int) * r.den) ≤ r.num := by
    refine Int.le_trans ?_ k1
    rw [← Int.neg_mul]
    exact Int.mul_le_mul_of_nonneg_right (by omega) (by omega)
  rw [← Int.natCast_mul] at b1 b2
  omega

/-- One look at a fraction beside d times x. -/
def nst (x : Rat) (d : Nat) (k : Int) (best : Rat) : Rat := let c := Rat.divInt ((x * (d : Rat)).floor + k) d; if siz (x - c) < siz (x - best) then c else best
theorem around (x : Rat) {d : Nat} (hd : 0 < d) : Rat.divInt ((x * (d : Rat)).floor + 0) d ≤ x ∧ x < Rat.divInt ((x * (d : Rat)).floor + 1) d ∧ (Rat.divInt ((x * (d : Rat)).floor + 0) d).den ≤ d ∧ (Rat.divInt ((x * (d : Rat)).floor + 1) d).den ≤ d ∧
    ∀ r : Rat, r.den = d → r ≤ Rat.divInt ((x * (d : Rat)).floor + 0) d ∨ Rat.divInt ((x * (d : Rat)).floor + 1) d ≤ r := by
  have hd' : (0 : Rat) < (d : Rat) := by exact_mod_cast hd
  have h1 := Rat.floor_le (a := x * (d : Rat))
  have h2 := Rat.lt_floor_add_one (a := x * (d : Rat))
  have hle : ∀ z : Int, (Rat.divInt z d) * (d : Rat) = z := by
    intro z
    rw [Rat.divInt_eq_div]
    have : ((d : Int) : Rat) = (d : Rat) := Rat.intCast_natCast d
    rw [this]
    exact Rat.div_mul_cancel (by grind)
  have hden : ∀ z : Int, (Rat.divInt z d).den ≤ d := by
    intro z
    have := Rat.den_divInt z d
    rw [if_neg (by omega)] at this
    rw [this]
    simp
    exact Nat.div_le_self _ _
  generalize hL : (x * (d : Rat)).floor = L at *
  have e0 := hle (L + 0)
  have e1 := hle (L + 1)
  refine ⟨?_, ?_, hden _, hden _, fun r hr => ?_⟩
  · refine Rat.not_lt.1 fun h => ?_
    have := Rat.mul_lt_mul_of_pos_right h hd'
    rw [e0] at this
    grind
  · refine Rat.not_le.1 fun h => ?_
    have := Rat.mul_le_mul_of_nonneg_right h (Rat.le_of_lt hd')
    rw [e1] at this
    grind
  · have er : r * (d : Rat) = r.num := by
      have h3 := hle r.num
      rw [← hr, Rat.num_divInt_den, hr] at h3
      exact h3
    by_cases h : r.num ≤ L
    · left
      refine Rat.not_lt.1 fun h' => ?_
      have := Rat.mul_lt_mul_of_pos_right h' hd'
      rw [e0, er] at this
      have h3 : L + 0 < r.num := by exact_mod_cast this
      omega
    · right
      refine Rat.not_lt.1 fun h' => ?_
      have := Rat.mul_lt_mul_of_pos_right h' hd'
      rw [e1, er] at this
      have h3 : r.num < L + 1 := by exact_mod_cast this
      omega
theorem nst_first (x : Rat) : Bst x 1 (nst x 1 1 (nst x 1 0 (x.floor : Rat))) := by
  obtain ⟨a1, a2, a3, a4, a5⟩ := around x (show 0 < 1 by omega)
  have e : x * ((1 : Nat) : Rat) = x := by grind
  rw [e] at a1 a2 a3 a4 a5
  have ef : Rat.divInt (x.floor + 0) (1 : Nat) = (x.floor : Rat) := by rw [Int.add_zero, Rat.divInt_eq_div]; grind
  unfold nst
  simp only [e]
  rw [ef] at a1 a3 a5 ⊢
  generalize (x.floor : Rat) = c0 at *
  generalize Rat.divInt (x.floor + 1) (1 : Nat) = c1 at *
  rw [if_neg (show ¬ siz (x - c0) < siz (x - c0) from Rat.lt_irrefl)]
  have hone : ∀ r : Rat, r.den ≤ 1 → r.den = 1 := fun r hr => by have := r.den_pos; omega
  split
  · refine ⟨a4, fun r hr => ?_⟩
    have := a5 r (hone r hr)
    by_cases hrl : r = c1
    · subst hrl; exact .inr ⟨rfl, .inr ⟨rfl, Rat.le_refl⟩⟩
    · left; unfold siz at *; grind
  · refine ⟨a3, fun r hr => ?_⟩
    have h1 := a5 r (hone r hr)
    have h2 := hone r hr
    have h3 := hone c0 a3
    by_cases hrl : r = c0
    · subst hrl; exact .inr ⟨rfl, .inr ⟨rfl, Rat.le_refl⟩⟩
    by_cases hrl : r = c1
    · subst hrl
      by_cases he : siz (x - c0) = siz (x - r)
      · exact .inr ⟨he, .inr ⟨by omega, by grind⟩⟩
      · left; grind
    · left; unfold siz at *; grind
theorem nst_next {x best : Rat} {d : Nat} (h : Bst x d best) : Bst x (d + 1) (nst x (d + 1) 1 (nst x (d + 1) 0 best)) := by
  obtain ⟨a1, a2, a3, a4, a5⟩ := around x (show 0 < d + 1 by omega)
  obtain ⟨b1, b2⟩ := h
  unfold nst
  simp only []
  generalize Rat.divInt ((x * ((d + 1 : Nat) : Rat)).floor + 0) (d + 1 : Nat) = c0 at *
  generalize Rat.divInt ((x * ((d + 1 : Nat) : Rat)).floor + 1) (d + 1 : Nat) = c1 at *
  have g0 : ∀ r : Rat, r ≤ c0 → siz (x - c0) ≤ siz (x - r) := fun r hr => by unfold siz; grind
  have g1 : ∀ r : Rat, c1 ≤ r → siz (x - c1) ≤ siz (x - r) := fun r hr => by unfold siz; grind
  have g0' : ∀ r : Rat, r ≤ c0 → r ≠ c0 → siz (x - c0) < siz (x - r) := fun r hr => by unfold siz; grind
  have g1' : ∀ r : Rat, c1 ≤ r → r ≠ c1 → siz (x - c1) < siz (x - r) := fun r hr => by unfold siz; grind
  have gb : ∀ r : Rat, r.den ≤ d → siz (x - best) ≤ siz (x - r) := fun r hr => by
    rcases b2 r hr with h | ⟨h, _⟩
    · exact Rat.le_of_lt h
    · rw [h]; exact Rat.le_refl
  have hden : ∀ r : Rat, r.den ≤ d + 1 → r.den ≤ d ∨ r.den = d + 1 := fun r hr => by omega
  by_cases h0 : siz (x - c0) < siz (x - best)
  · rw [if_pos h0]
    by_cases h1 : siz (x - c1) < siz (x - c0)
    · rw [if_pos h1]
      refine ⟨a4, fun r hr => ?_⟩
      rcases hden r hr with hr' | hr'
      · left; have := gb r hr'; grind
      · rcases a5 r hr' with h3 | h3
        · left; have := g0 r h3; grind
        · by_cases hrl : r = c1
          · subst hrl; exact .inr ⟨rfl, .inr ⟨rfl, Rat.le_refl⟩⟩
          · exact .inl (g1' r h3 hrl)
    · rw [if_neg h1]
      refine ⟨a3, fun r hr => ?_⟩
      rcases hden r hr with hr' | hr'
      · left; have := gb r hr'; grind
      · rcases a5 r hr' with h3 | h3
        · by_cases hrl : r = c0
          · subst hrl; exact .inr ⟨rfl, .inr ⟨rfl, Rat.le_refl⟩⟩
          · exact .inl (g0' r h3 hrl)
        · have h4 := g1 r h3
          by_cases he : siz (x - c0) = siz (x - r)
          · refine .inr ⟨he, ?_⟩
            by_cases e : c0.den = r.den
            · exact .inr ⟨e, by grind⟩
            · exact .inl (by omega)
          · left; grind
  · rw [if_neg h0]
    by_cases h1 : siz (x - c1) < siz (x - best)
    · rw [if_pos h1]
      refine ⟨a4, fun r hr => ?_⟩
      rcases hden r hr with hr' | hr'
      · left; have := gb r hr'; grind
      · rcases a5 r hr' with h3 | h3
        · left; have := g0 r h3; grind
        · by_cases hrl : r = c1
          · subst hrl; exact .inr ⟨rfl, .inr ⟨rfl, Rat.le_refl⟩⟩
          · exact .inl (g1' r h3 hrl)
    · rw [if_neg h1]
      refine ⟨by omega, fun r hr => ?_⟩
      rcases hden r hr with hr' | hr'
      · exact b2 r hr'
      · have h5 : siz (x - best) ≤ siz (x - r) := by
          rcases a5 r hr' with h3 | h3
          · have := g0 r h3; grind
          · have := g1 r h3; grind
        by_cases he : siz (x - best) = siz (x - r)
        · exact .inr ⟨he, .inl (by omega)⟩
        · left; grind
/-- All denominators, one after the other. -/
def nfold (x : Rat) : Nat → Rat
  | 0 => (x.floor : Rat)
  | d + 1 => nst x (d + 1) 1 (nst x (d + 1) 0 (nfold x d))
theorem nfold_best (x : Rat) : ∀ m, 0 < m → Bst x m (nfold x m) := by
  intro m
  induction m with
  | zero => intro h; omega
  | succ m ih =>
    intro _
    by_cases h0 : m = 0
    · subst h0; exact nst_first x
    · exact nst_next (ih (by omega))
end Go.Proofs.YtjeeepcnaaadmaaGreatDoor
