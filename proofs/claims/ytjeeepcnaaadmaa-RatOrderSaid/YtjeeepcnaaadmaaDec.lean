/-
  PLAIN TEXTS: decimal digits. Nothing of a program.
-/
import Derived.Test.YtjeeepcnaaadmaaNum
namespace Go.Proofs.Ytjeeepcnaaadmaa
namespace Num

def isDig (b : UInt8) : Bool := decide (48 ≤ b.toNat ∧ b.toNat ≤ 57)
/-- A natural number's text: digits, without a leading 0. -/
def isNat (l : List UInt8) : Bool := !l.isEmpty && !(l.head? == some 48 && !(l == [48])) && l.all isDig
def dval (l : List UInt8) : Nat := l.foldl (fun n b => 10 * n + (b.toNat - 48)) 0

theorem isNat_nil : isNat [] = false := rfl
theorem isNat_lead {l : List UInt8} (h1 : l.head? = some 48) (h2 : (l == [48]) = false) : isNat l = false := by
  simp [isNat, h1, h2]
theorem isNat_rest {l : List UInt8} (h0 : l ≠ []) (h : l.head? ≠ some 48 ∨ (l == [48]) = true) : isNat l = l.all isDig := by
  rw [isNat]
  have e0 : l.isEmpty = false := by simpa using h0
  rw [e0]
  rcases h with h | h
  · have : (l.head? == some 48) = false := by simpa using h
    simp [this]
  · simp [h]

theorem dval_nil : dval [] = 0 := rfl
theorem dval_snoc (l : List UInt8) (b : UInt8) : dval (l ++ [b]) = 10 * dval l + (b.toNat - 48) := by
  simp [dval, List.foldl_append]
theorem foldl_dval (l : List UInt8) (n : Nat) : l.foldl (fun n b => 10 * n + (b.toNat - 48)) n = n * 10 ^ l.length + dval l := by
  induction l generalizing n with
  | nil => simp [dval]
  | cons b l ih =>
    have e : dval (b :: l) = (10 * 0 + (b.toNat - 48)) * 10 ^ l.length + dval l := by rw [dval, List.foldl_cons, ih]
    rw [List.foldl_cons, ih, e, List.length_cons, Nat.pow_succ]
    simp only [Nat.mul_zero, Nat.zero_add, Nat.add_mul]
    rw [Nat.mul_comm 10 n, Nat.mul_assoc, Nat.mul_comm 10 (10 ^ l.length)]
    omega
theorem dval_append (a b : List UInt8) : dval (a ++ b) = dval a * 10 ^ b.length + dval b := by
  rw [dval, List.foldl_append, foldl_dval]; rfl
theorem all_take {l : List UInt8} (h : l.all isDig = true) (k : Nat) : (l.take k).all isDig = true := by
  rw [List.all_eq_true] at h ⊢
  exact fun x hx => h x (List.mem_of_mem_take hx)
theorem all_drop {l : List UInt8} (h : l.all isDig = true) (k : Nat) : (l.drop k).all isDig = true := by
  rw [List.all_eq_true] at h ⊢
  exact fun x hx => h x (List.mem_of_mem_drop hx)
theorem dval_lt {l : List UInt8} (h : l.all isDig = true) : dval l < 10 ^ l.length := by
  induction l with
  | nil => simp [dval]
  | cons b l ih =>
    rw [List.all_cons, Bool.and_eq_true] at h
    have h1 := ih h.2
    have h2 : b.toNat ≤ 57 := by have := h.1; simp [isDig] at this; exact this.2
    have e := dval_append [b] l
    rw [List.singleton_append] at e
    have e2 : dval [b] = b.toNat - 48 := by simp [dval]
    rw [e, e2, List.length_cons, Nat.pow_succ]
    have h3 := Nat.mul_le_mul_right (10 ^ l.length) (show b.toNat - 48 ≤ 9 by omega)
    omega

/-- The digit n. -/
def dch (n : Nat) : UInt8 := UInt8.ofNat (48 + n)

/-- The digits of a number. -/
def dtext (n : Nat) : List UInt8 := if _h : n < 10 then [dch n] else dtext (n / 10) ++ [dch (n % 10)]
  termination_by n
  decreasing_by omega

theorem dtext_small {n : Nat} (h : n < 10) : dtext n = [dch n] := by rw [dtext, dif_pos h]
theorem dtext_big {n : Nat} (h : ¬ n < 10) : dtext n = dtext (n / 10) ++ [dch (n % 10)] := by rw [dtext, dif_neg h]
theorem toNat_dig {n : Nat} (h : n < 10) : (dch n).toNat = 48 + n := by
  rw [dch, UInt8.toNat_ofNat']; omega
theorem isDig_dig {n : Nat} (h : n < 10) : isDig (dch n) = true := by
  simp only [isDig, toNat_dig h, decide_eq_true_eq]; omega
theorem dtext_ne (n : Nat) : dtext n ≠ [] := by
  by_cases h : n < 10
  · rw [dtext_small h]; simp
  · rw [dtext_big h]; simp
theorem dtext_all (n : Nat) : (dtext n).all isDig = true := by
  induction n using Nat.strongRecOn with
  | _ n ih =>
    by_cases h : n < 10
    · rw [dtext_small h]; simp [isDig_dig h]
    · rw [dtext_big h, List.all_append, ih (n / 10) (by omega)]
      simp [isDig_dig (Nat.mod_lt n (show 0 < 10 by omega))]
theorem dval_dtext (n : Nat) : dval (dtext n) = n := by
  induction n using Nat.strongRecOn with
  | _ n ih =>
    by_cases h : n < 10
    · rw [dtext_small h]
      have := dval_snoc [] (dch n)
      rw [List.nil_append, toNat_dig h, dval_nil] at this
      rw [this]; omega
    · rw [dtext_big h, dval_snoc, ih (n / 10) (by omega), toNat_dig (Nat.mod_lt n (by omega))]; omega
theorem head_dtext (n : Nat) (h : n ≠ 0) : (dtext n).head? ≠ some 48 := by
  induction n using Nat.strongRecOn with
  | _ n ih =>
    by_cases hs : n < 10
    · rw [dtext_small hs]
      intro e
      simp only [List.head?_cons, Option.some.injEq] at e
      have := congrArg UInt8.toNat e
      rw [toNat_dig hs] at this
      have h48 : (48 : UInt8).toNat = 48 := rfl
      omega
    · rw [dtext_big hs]
      have hne := dtext_ne (n / 10)
      have h1 := ih (n / 10) (by omega) (by omega)
      cases hd : dtext (n / 10) with
      | nil => exact absurd hd hne
      | cons a t => rw [hd] at h1; simpa using h1
theorem dtext_zero : dtext 0 = [48] := by rw [dtext_small (by omega)]; rfl
theorem isNat_dtext (n : Nat) : isNat (dtext n) = true := by
  rw [isNat_rest (dtext_ne n) ?_, dtext_all]
  by_cases h : n = 0
  · right; rw [h, dtext_zero]; rfl
  · left; exact head_dtext n h

/-- A list of digits whose value is not 0 and that begins with no 0 is the text of its value. -/
theorem dtext_dval {l : List UInt8} (h : isNat l = true) : dtext (dval l) = l := by
  obtain ⟨n, hn⟩ : ∃ n, l.length = n := ⟨_, rfl⟩
  induction n using Nat.strongRecOn generalizing l with
  | _ n ih =>
    have hne : l ≠ [] := by intro e; rw [e] at h; simp [isNat_nil] at h
    have hall : l.all isDig = true := by
      rw [isNat, Bool.and_eq_true] at h; exact h.2
    have hlead : l.head? ≠ some 48 ∨ (l == [48]) = true := by
      by_cases h1 : l.head? = some 48
      · right
        cases h2 : (l == [48]) with
        | true => rfl
        | false => rw [isNat_lead h1 h2] at h; simp at h
      · left; exact h1
    obtain ⟨a, b, rfl⟩ : ∃ a b, l = a ++ [b] := ⟨l.dropLast, l.getLast hne, (List.dropLast_concat_getLast hne).symm⟩
    have hb : isDig b = true := by rw [List.all_append, Bool.and_eq_true] at hall; simpa using hall.2
    have hb2 : 48 ≤ b.toNat ∧ b.toNat ≤ 57 := by simpa [isDig] using hb
    have hbe : dch (b.toNat - 48) = b := by
      apply UInt8.toNat_inj.1
      rw [toNat_dig (by omega)]; omega
    rw [dval_snoc]
    by_cases ha : a = []
    · subst ha
      rw [dval_nil, dtext_small (by omega)]
      simp only [Nat.mul_zero, Nat.zero_add, List.nil_append]
      rw [hbe]
    · have hlead2 : a.head? ≠ some 48 := by
        rcases hlead with h1 | h1
        · intro e
          apply h1
          cases a with
          | nil => exact absurd rfl ha
          | cons x t => simpa using e
        · have := congrArg List.length (eq_of_beq h1)
          simp at this
          exact absurd this ha
      have halla : a.all isDig = true := by rw [List.all_append, Bool.and_eq_true] at hall; exact hall.1
      have hna : isNat a = true := by rw [isNat_rest ha (.inl hlead2)]; exact halla
      have e := ih a.length (by rw [← hn]; simp) hna rfl
      have hpos : 0 < dval a := by
        apply Nat.pos_of_ne_zero
        intro e0
        rw [e0, dtext_zero] at e
        rw [← e] at hlead2
        simp at hlead2
      rw [dtext_big (by omega), show (10 * dval a + (b.toNat - 48)) / 10 = dval a by omega, show (10 * dval a + (b.toNat - 48)) % 10 = b.toNat - 48 by omega, e, hbe]

theorem dtext_inj {a b : Nat} (h : dtext a = dtext b) : a = b := by
  have := congrArg dval h
  rwa [dval_dtext, dval_dtext] at this

theorem isNat_all {l : List UInt8} (h : isNat l = true) : l.all isDig = true := by
  rw [isNat, Bool.and_eq_true] at h; exact h.2
theorem isNat_ne {l : List UInt8} (h : isNat l = true) : l ≠ [] := by
  intro e; rw [e, isNat_nil] at h; simp at h

theorem length_dtext_le {n k : Nat} (h : n < 10 ^ k) (hk : 0 < k) : (dtext n).length ≤ k := by
  induction k generalizing n with
  | zero => omega
  | succ k ih =>
    by_cases hs : n < 10
    · rw [dtext_small hs]; simp
    · rw [dtext_big hs, List.length_append]
      by_cases hk0 : k = 0
      · subst hk0; simp at h; omega
      · have := ih (n := n / 10) (by rw [Nat.pow_succ] at h; omega) (by omega)
        simp only [List.length_singleton]
        omega

/-! ### Digits, the least one first -/
def rval : List Nat → Nat
  | [] => 0
  | d :: ds => d + 10 * rval ds
theorem rval_append (a b : List Nat) : rval (a ++ b) = rval a + 10 ^ a.length * rval b := by
  induction a with
  | nil => simp [rval]
  | cons x xs ih => simp only [List.cons_append, rval, ih, List.length_cons, Nat.pow_succ]; rw [Nat.mul_add, Nat.mul_comm (10 ^ xs.length) 10, Nat.mul_assoc]; omega
theorem rval_snoc (a : List Nat) (d : Nat) : rval (a ++ [d]) = rval a + 10 ^ a.length * d := by rw [rval_append]; simp [rval]
theorem rval_take_succ (l : List Nat) (k : Nat) (h : k < l.length) : rval (l.take (k + 1)) = rval (l.take k) + 10 ^ k * dg l k := by
  rw [List.take_succ_eq_append_getElem h, rval_snoc, List.length_take, Nat.min_eq_left (by omega), dg_lt h]

/-- All digits are below 10. -/
def Low (ds : List Nat) : Prop := ∀ i, dg ds i < 10
theorem Low.nil : Low [] := fun i => by simp [dg]
theorem Low.snoc {ds : List Nat} {d : Nat} (h : Low ds) (hd : d < 10) : Low (ds ++ [d]) := fun i => by
  by_cases h1 : i < ds.length
  · have := h i; simp only [dg] at this ⊢; rw [List.getElem?_append_left h1]; exact this
  · simp only [dg]; rw [List.getElem?_append_right (by omega)]
    by_cases h2 : i - ds.length = 0
    · rw [h2]; simpa using hd
    · rw [List.getElem?_eq_none (by simp; omega)]; simp
theorem Low.take {ds : List Nat} (h : Low ds) (k : Nat) : Low (ds.take k) := fun i => by
  have := h i
  simp only [dg, List.getElem?_take] at this ⊢
  split <;> simp_all
theorem Low.mem {ds : List Nat} (h : Low ds) : ∀ d ∈ ds, d < 10 := by
  intro d hd
  obtain ⟨i, hi, rfl⟩ := List.mem_iff_getElem.1 hd
  have := h i
  rwa [dg_lt hi] at this

/-- The text of digits, the least one first. -/
def rtext (ds : List Nat) : List UInt8 := ds.reverse.map dch
theorem dval_rtext {ds : List Nat} (h : Low ds) : dval (rtext ds) = rval ds := by
  have hm := h.mem
  clear h
  induction ds with
  | nil => rfl
  | cons d ds ih =>
    have h1 : rtext (d :: ds) = rtext ds ++ [dch d] := by simp [rtext]
    rw [h1, dval_snoc, ih (fun x hx => hm x (List.mem_cons_of_mem _ hx)), toNat_dig (hm d List.mem_cons_self), rval]
    omega
theorem all_rtext {ds : List Nat} (h : Low ds) : (rtext ds).all isDig = true := by
  rw [List.all_eq_true]
  intro x hx
  simp only [rtext, List.mem_map, List.mem_reverse] at hx
  obtain ⟨d, hd, rfl⟩ := hx
  exact isDig_dig (h.mem d hd)
theorem rtext_eq {ds : List Nat} (h : Low ds) (hn : 0 < ds.length) (htop : dg ds (ds.length - 1) ≠ 0) : rtext ds = dtext (rval ds) := by
  have hne : rtext ds ≠ [] := by
    intro e
    have := congrArg List.length e
    simp [rtext] at this
    rw [this] at hn; simp at hn
  have hh : (rtext ds).head? ≠ some 48 := by
    rw [rtext, List.head?_map, List.head?_reverse, List.getLast?_eq_getElem?]
    rw [List.getElem?_eq_getElem (by omega), Option.map_some]
    intro e
    rw [dg_lt (by omega)] at htop
    have h9 := h.mem _ (List.getElem_mem (show ds.length - 1 < ds.length by omega))
    have h2 := congrArg UInt8.toNat (Option.some.inj e)
    rw [toNat_dig h9] at h2
    have h48 : (48 : UInt8).toNat = 48 := rfl
    omega
  have hN : isNat (rtext ds) = true := by rw [isNat_rest hne (.inl hh)]; exact all_rtext h
  have := dtext_dval hN
  rw [dval_rtext h] at this
  exact this.symm

theorem ext_dg {a b : List Nat} (hl : a.length = b.length) (h : ∀ t, t < a.length → dg a t = dg b t) : a = b := by
  apply List.ext_getElem hl
  intro i h1 h2
  have := h i h1
  rwa [dg_lt h1, dg_lt h2] at this
theorem dg_reverse {l : List Nat} {i : Nat} (h : i < l.length) : dg l.reverse i = dg l (l.length - 1 - i) := by
  rw [dg_lt (by simpa using h), dg_lt (by omega), List.getElem_reverse]

/-- So few digits. -/
theorem digits_few {N n k : Nat} (h1 : N < B ^ n) (h2 : 10 ^ k ≤ N) : k ≤ 10 * n := by
  apply Classical.byContradiction
  intro hh
  have h3 : B ^ n ≤ (10 ^ 10) ^ n := Nat.pow_le_pow_left (by rw [B_eq]; omega) n
  rw [← Nat.pow_mul] at h3
  have h4 : 10 ^ (10 * n) ≤ 10 ^ k := Nat.pow_le_pow_right (by omega) (by omega)
  omega

end Num
end Go.Proofs.Ytjeeepcnaaadmaa

