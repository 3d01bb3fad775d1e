import Derived.Test.YtjeeepcnaaadmaaBunProofDecTurned1
import Derived.Test.YtjeeepcnaaadmaaBunProofDecTurned12
import Derived.Test.YtjeeepcnaaadmaaBunProofDecTurned9
import Derived.Deep.RegionHeld3
/-
  PACKAGE dec: the mathematics: so many units of n digits at x or below it, at x or above it, nearest to it; their texts. Nothing of a program.
-/
namespace Go.Proofs.Ytjeeepcnaaadmaa
open Num

/-- Ten, n times. -/
def pten (n : Nat) : Nat := 10 ^ n
theorem pten_zero : pten 0 = 1 := rfl
theorem pten_succ (n : Nat) : pten (n + 1) = pten n * 10 := Nat.pow_succ ..
theorem pten_pos (n : Nat) : 0 < pten n := Nat.pow_pos (by decide)
theorem pten_le {n : Nat} (h : n ≤ 30) : pten n ≤ 1000000000000000000000000000000 := by
  have : 10 ^ n ≤ 10 ^ 30 := Nat.pow_le_pow_right (by decide) h
  exact this
/-- So many units of n digits are not above x; what is left, so many parts of the denominator. -/
def lowu (x : Rat) (n : Nat) : Int := x.num * (pten n : Int) / (x.den : Int)
def resu (x : Rat) (n : Nat) : Int := x.num * (pten n : Int) % (x.den : Int)
def highu (x : Rat) (n : Nat) : Int := if resu x n = 0 then lowu x n else lowu x n + 1
/-- The nearest one; of two, the even one. -/
def nearu (x : Rat) (n : Nat) : Int :=
  if 2 * resu x n < x.den then lowu x n else if (x.den : Int) < 2 * resu x n then lowu x n + 1 else if lowu x n % 2 = 0 then lowu x n else lowu x n + 1
/-- So many units of n digits. -/
def unq (z : Int) (n : Nat) : Rat := Rat.divInt z (pten n : Int)

theorem den_ipos (x : Rat) : (0 : Int) < x.den := by have := x.den_pos; omega
theorem resu_nonneg (x : Rat) (n : Nat) : 0 ≤ resu x n := Int.emod_nonneg _ (by have := den_ipos x; omega)
theorem resu_lt (x : Rat) (n : Nat) : resu x n < x.den := Int.emod_lt_of_pos _ (den_ipos x)
theorem units_eq (x : Rat) (n : Nat) : (x.den : Int) * lowu x n + resu x n = x.num * (pten n : Int) := Int.mul_ediv_add_emod _ _
theorem den_rat_pos (x : Rat) : (0 : Rat) < (x.den : Rat) := by exact_mod_cast x.den_pos
theorem pten_rat_pos (n : Nat) : (0 : Rat) < (pten n : Rat) := by exact_mod_cast pten_pos n
theorem unq_mul (z : Int) (n : Nat) : unq z n * (pten n : Rat) = (z : Rat) := by
  have h := pten_rat_pos n
  unfold unq
  rw [Rat.divInt_eq_div, Rat.intCast_natCast]
  exact Rat.div_mul_cancel (by grind)
theorem scale_lt {a b u : Rat} (hu : 0 < u) : a < b ↔ a * u < b * u := (Rat.mul_lt_mul_right hu).symm
/-- Twice x below both together. -/
theorem twice_lt (x : Rat) (a b : Int) (n : Nat) : x + x < unq a n + unq b n ↔ 2 * (x.num * (pten n : Int)) < (a + b) * x.den := by
  have hd := den_rat_pos x
  have hu := pten_rat_pos n
  rw [scale_lt hd, scale_lt hu]
  have e1 : (x + x) * (x.den : Rat) * (pten n : Rat) = ((2 * (x.num * (pten n : Int)) : Int) : Rat) := by
    have := parts_mul x
    push_cast
    grind
  have e2 : (unq a n + unq b n) * (x.den : Rat) * (pten n : Rat) = (((a + b) * x.den : Int) : Rat) := by
    have h1 := unq_mul a n
    have h2 := unq_mul b n
    push_cast
    grind
  rw [e1, e2, Rat.intCast_lt_intCast]
theorem twice_gt (x : Rat) (a b : Int) (n : Nat) : unq a n + unq b n < x + x ↔ (a + b) * x.den < 2 * (x.num * (pten n : Int)) := by
  have hd := den_rat_pos x
  have hu := pten_rat_pos n
  rw [scale_lt hd, scale_lt hu]
  have e1 : (x + x) * (x.den : Rat) * (pten n : Rat) = ((2 * (x.num * (pten n : Int)) : Int) : Rat) := by
    have := parts_mul x
    push_cast
    grind
  have e2 : (unq a n + unq b n) * (x.den : Rat) * (pten n : Rat) = (((a + b) * x.den : Int) : Rat) := by
    have h1 := unq_mul a n
    have h2 := unq_mul b n
    push_cast
    grind
  rw [e1, e2, Rat.intCast_lt_intCast]
theorem two_sums (x : Rat) (n : Nat) : (lowu x n + highu x n) * (x.den : Int) = 2 * (x.num * (pten n : Int)) - 2 * resu x n + (if resu x n = 0 then 0 else (x.den : Int)) := by
  have h := units_eq x n
  unfold highu
  split
  · rename_i h0
    rw [← h, Int.add_mul, Int.mul_comm (lowu x n)]; omega
  · rw [← h, Int.add_mul, Int.add_mul, Int.mul_comm (lowu x n)]; omega
theorem near_low {x : Rat} {n : Nat} (h : x + x < unq (lowu x n) n + unq (highu x n) n) : nearu x n = lowu x n := by
  rw [twice_lt, two_sums] at h
  have h1 := resu_nonneg x n
  unfold nearu
  split at h
  · omega
  · rw [if_pos (by omega)]
theorem near_high {x : Rat} {n : Nat} (h : unq (lowu x n) n + unq (highu x n) n < x + x) : nearu x n = highu x n := by
  rw [twice_gt, two_sums] at h
  have h1 := resu_nonneg x n
  unfold nearu highu
  split at h
  · omega
  · rename_i h0
    rw [if_neg (by omega), if_pos (by omega), if_neg h0]
theorem near_tie {x : Rat} {n : Nat} (h1 : ¬ x + x < unq (lowu x n) n + unq (highu x n) n) (h2 : ¬ unq (lowu x n) n + unq (highu x n) n < x + x) : nearu x n = if lowu x n % 2 = 0 then lowu x n else highu x n := by
  rw [twice_lt, two_sums] at h1
  rw [twice_gt, two_sums] at h2
  have h3 := den_ipos x
  unfold nearu highu
  split at h1
  · rename_i h0
    rw [if_pos (by omega), if_pos h0]
    split <;> rfl
  · rename_i h0
    rw [if_neg h0] at h2
    rw [if_neg (by omega), if_neg (by omega), if_neg h0]
/-- The floor of x, units times. -/
theorem low_floor (x : Rat) (n : Nat) : (x * ((pten n : Int) : Rat)).floor = lowu x n := by
  have hd := den_rat_pos x
  have h0 := units_eq x n
  have h1 := resu_nonneg x n
  have h2 := resu_lt x n
  have hx : x * ((pten n : Int) : Rat) * (x.den : Rat) = ((x.num * (pten n : Int) : Int) : Rat) := by
    have := parts_mul x
    push_cast
    grind
  apply Int.le_antisymm
  · apply Int.le_of_lt_add_one
    rw [Rat.floor_lt_iff, scale_lt hd, hx]
    have : (((lowu x n + 1 : Int) : Rat)) * (x.den : Rat) = (((lowu x n + 1) * x.den : Int) : Rat) := by push_cast; rfl
    rw [this, Rat.intCast_lt_intCast, Int.add_mul, Int.mul_comm (lowu x n)]
    omega
  · rw [Rat.le_floor_iff]
    have h3 : ¬ x * ((pten n : Int) : Rat) < (lowu x n : Rat) := by
      rw [scale_lt hd, hx]
      have : ((lowu x n : Rat)) * (x.den : Rat) = ((lowu x n * x.den : Int) : Rat) := by push_cast; rfl
      rw [this, Rat.intCast_lt_intCast, Int.mul_comm (lowu x n)]
      omega
    grind
theorem neg_parts (x : Rat) : (-x).num = -x.num ∧ (-x).den = x.den := ⟨Rat.neg_num x, Rat.neg_den x⟩
theorem neg_units (x : Rat) (n : Nat) : lowu (-x) n = -highu x n ∧ (resu (-x) n = if resu x n = 0 then 0 else x.den - resu x n) := by
  have h0 := units_eq x n
  have h1 := resu_nonneg x n
  have h2 := resu_lt x n
  have h3 := units_eq (-x) n
  have h4 := resu_nonneg (-x) n
  have h5 := resu_lt (-x) n
  rw [(neg_parts x).1, (neg_parts x).2] at h3
  rw [(neg_parts x).2] at h5
  have hd := den_ipos x
  rw [Int.neg_mul] at h3
  generalize x.num * (pten n : Int) = m at *
  unfold highu
  split
  · rename_i e
    have key : lowu (-x) n = -lowu x n := by
      have e2 : (x.den : Int) * (lowu (-x) n + lowu x n) + resu (-x) n = 0 := by rw [Int.mul_add]; omega
      have e3 : lowu (-x) n + lowu x n = 0 := by
        rcases Int.lt_trichotomy (lowu (-x) n + lowu x n) 0 with c | c | c
        · have := Int.mul_le_mul_of_nonneg_left (show lowu (-x) n + lowu x n ≤ -1 by omega) (Int.le_of_lt hd); omega
        · exact c
        · have := Int.mul_le_mul_of_nonneg_left (show 1 ≤ lowu (-x) n + lowu x n by omega) (Int.le_of_lt hd); omega
      omega
    refine ⟨key, ?_⟩
    rw [key, Int.mul_neg] at h3
    omega
  · rename_i e
    have key : lowu (-x) n = -(lowu x n + 1) := by
      have e2 : (x.den : Int) * (lowu (-x) n + lowu x n + 1) + resu (-x) n = x.den - resu x n := by rw [Int.mul_add, Int.mul_add]; omega
      have e3 : lowu (-x) n + lowu x n + 1 = 0 := by
        rcases Int.lt_trichotomy (lowu (-x) n + lowu x n + 1) 0 with c | c | c
        · have := Int.mul_le_mul_of_nonneg_left (show lowu (-x) n + lowu x n + 1 ≤ -1 by omega) (Int.le_of_lt hd); omega
        · exact c
        · have := Int.mul_le_mul_of_nonneg_left (show 1 ≤ lowu (-x) n + lowu x n + 1 by omega) (Int.le_of_lt hd); omega
      omega
    refine ⟨key, ?_⟩
    rw [key, Int.mul_neg, Int.mul_add] at h3
    omega
theorem neg_high (x : Rat) (n : Nat) : highu (-x) n = -lowu x n := by
  obtain ⟨h1, h2⟩ := neg_units x n
  have h4 := resu_lt x n
  unfold highu at *
  rw [h1, h2]
  split at h1 <;> rename_i e
  · rw [if_pos e, if_pos e, if_pos rfl]
  · rw [if_neg e, if_neg e, if_neg (by omega)]; omega
theorem neg_near (x : Rat) (n : Nat) : nearu (-x) n = -nearu x n := by
  obtain ⟨h1, h2⟩ := neg_units x n
  have h3 := resu_nonneg x n
  have h4 := resu_lt x n
  have h5 := den_ipos x
  unfold nearu
  unfold highu at h1
  rw [h1, h2, (neg_parts x).2]
  split <;> rename_i e
  · rw [if_pos (by omega), if_pos (by omega)]
  · repeat' split
    all_goals omega
/-- The reference's way: without the sign; so many times, what is left. -/
def absu (x : Rat) (n : Nat) : Nat :=
  let k := x.num.natAbs * pten n / x.den; let r := x.num.natAbs * pten n % x.den
  if x.den < r + r ∨ (r + r = x.den ∧ k % 2 = 1) then k + 1 else k
theorem absu_pos {x : Rat} (n : Nat) (h : 0 ≤ x.num) : nearu x n = absu x n := by
  have e1 : lowu x n = ((x.num.natAbs * pten n / x.den : Nat) : Int) := by
    unfold lowu
    rw [Int.natCast_ediv, Int.natCast_mul, Int.natAbs_of_nonneg h]
  have e2 : resu x n = ((x.num.natAbs * pten n % x.den : Nat) : Int) := by
    unfold resu
    rw [Int.natCast_emod, Int.natCast_mul, Int.natAbs_of_nonneg h]
  unfold nearu absu
  rw [e1, e2]
  generalize x.num.natAbs * pten n / x.den = k
  generalize x.num.natAbs * pten n % x.den = r
  simp only []
  repeat' split
  all_goals omega
theorem absu_neg (x : Rat) (n : Nat) : absu (-x) n = absu x n := by
  unfold absu
  rw [(neg_parts x).1, (neg_parts x).2, Int.natAbs_neg]
theorem nearu_absu (x : Rat) (n : Nat) : nearu x n = if x.num < 0 then -(absu x n : Int) else absu x n := by
  split
  · rename_i h
    have h2 := absu_pos (x := -x) n (by rw [(neg_parts x).1]; omega)
    rw [neg_near, absu_neg] at h2
    omega
  · exact absu_pos n (by omega)
theorem nearu_natAbs (x : Rat) (n : Nat) : (nearu x n).natAbs = absu x n := by rw [nearu_absu]; split <;> omega
theorem nearu_neg (x : Rat) (n : Nat) : decide (nearu x n < 0) = (decide (x.num < 0) && decide (0 < absu x n)) := by
  rw [nearu_absu]
  split
  · rename_i h; rw [decide_eq_true h, Bool.true_and]; congr 1; apply propext; omega
  · rename_i h; rw [decide_eq_false h, Bool.false_and]; apply decide_eq_false; omega
theorem unq_neg (z : Int) (n : Nat) : unq (-z) n = -unq z n := by
  have h1 := unq_mul z n
  have h2 := unq_mul (-z) n
  have h3 := pten_rat_pos n
  push_cast at h2
  grind
/-- A point before the last n digits, with noughts ahead as far as they are wanted. -/
def zpad (n : Nat) (l : List UInt8) : List UInt8 := List.replicate (n - l.length) 48 ++ l
def dpt (n : Nat) (l : List UInt8) : List UInt8 := (zpad (n + 1) l).take ((zpad (n + 1) l).length - n) ++ 46 :: (zpad (n + 1) l).drop ((zpad (n + 1) l).length - n)
theorem zpad_length (n : Nat) (l : List UInt8) : (zpad n l).length = max n l.length := by
  unfold zpad
  rw [List.length_append, List.length_replicate]
  omega
theorem all_zeros (k : Nat) : (List.replicate k (48 : UInt8)).all isDig = true := by
  rw [List.all_eq_true]
  intro x hx
  rw [(List.mem_replicate.1 hx).2]
  decide
theorem dval_zeros (k : Nat) : dval (List.replicate k (48 : UInt8)) = 0 := by
  induction k with
  | zero => rfl
  | succ k ih => rw [List.replicate_succ', dval_snoc, ih]; rfl
theorem zpad_all {n : Nat} {l : List UInt8} (h : l.all isDig = true) : (zpad n l).all isDig = true := by
  unfold zpad
  rw [List.all_append, all_zeros, h]; rfl
theorem zpad_dval (n : Nat) (l : List UInt8) : dval (zpad n l) = dval l := by
  unfold zpad
  rw [dval_append, dval_zeros]; omega
/-- Lists of digits of one length and one value are one. -/
theorem dval_ext {a b : List UInt8} (ha : a.all isDig = true) (hb : b.all isDig = true) (hl : a.length = b.length) (hv : dval a = dval b) : a = b := by
  induction a generalizing b with
  | nil => cases b with
    | nil => rfl
    | cons y b => simp at hl
  | cons x a ih =>
    cases b with
    | nil => simp at hl
    | cons y b =>
      rw [List.all_cons, Bool.and_eq_true] at ha hb
      have e1 := dval_append [x] a
      have e2 := dval_append [y] b
      rw [List.singleton_append] at e1 e2
      rw [e1, e2] at hv
      have hl2 : a.length = b.length := by simpa using hl
      have h1 := dval_lt ha.2
      have h2 := dval_lt hb.2
      rw [hl2] at h1 hv
      have d1 : dval [x] = x.toNat - 48 := by simp [dval]
      have d2 : dval [y] = y.toNat - 48 := by simp [dval]
      rw [d1, d2] at hv
      have x1 : 48 ≤ x.toNat ∧ x.toNat ≤ 57 := by simpa [isDig] using ha.1
      have y1 : 48 ≤ y.toNat ∧ y.toNat ≤ 57 := by simpa [isDig] using hb.1
      have hp : 0 < 10 ^ b.length := Nat.pow_pos (by decide)
      have q1 : (x.toNat - 48) = (y.toNat - 48) := by
        have a1 := congrArg (· / 10 ^ b.length) hv
        rw [Nat.add_comm, Nat.add_mul_div_right _ _ hp, Nat.div_eq_of_lt h1, Nat.add_comm _ (dval b), Nat.add_mul_div_right _ _ hp, Nat.div_eq_of_lt h2] at a1
        omega
      have q2 : x = y := UInt8.toNat_inj.1 (by omega)
      subst q2
      rw [ih ha.2 hb.2 hl2 (by omega)]
theorem split_digits {l : List UInt8} (h : l.all isDig = true) (n : Nat) (hn : n ≤ l.length) :
    dval (l.take (l.length - n)) = dval l / pten n ∧ dval (l.drop (l.length - n)) = dval l % pten n := by
  have e := dval_append (l.take (l.length - n)) (l.drop (l.length - n))
  rw [List.take_append_drop, List.length_drop, show l.length - (l.length - n) = n by omega] at e
  have h1 := dval_lt (all_drop h (l.length - n))
  rw [List.length_drop, show l.length - (l.length - n) = n by omega] at h1
  have hp := pten_pos n
  unfold pten at *
  rw [e]
  constructor
  · rw [Nat.add_comm, Nat.add_mul_div_right _ _ hp, Nat.div_eq_of_lt h1, Nat.zero_add]
  · rw [Nat.add_comm, Nat.add_mul_mod_self_right, Nat.mod_eq_of_lt h1]
/-- The digits behind the point, and those ahead of it. -/
theorem dpt_dtext (k n : Nat) (hn : 0 < n) : dpt n (dtext k) = dtext (k / pten n) ++ 46 :: zpad n (dtext (k % pten n)) := by
  have hall := zpad_all (n := n + 1) (dtext_all k)
  have hlen := zpad_length (n + 1) (dtext k)
  have hle : n ≤ (zpad (n + 1) (dtext k)).length := by omega
  obtain ⟨h1, h2⟩ := split_digits hall n hle
  rw [zpad_dval, dval_dtext] at h1 h2
  unfold dpt
  congr 1
  · rw [← h1]
    symm
    apply dtext_dval
    have ha : ((zpad (n + 1) (dtext k)).take ((zpad (n + 1) (dtext k)).length - n)).all isDig = true := all_take hall _
    have hl : ((zpad (n + 1) (dtext k)).take ((zpad (n + 1) (dtext k)).length - n)).length = (zpad (n + 1) (dtext k)).length - n := by rw [List.length_take]; omega
    rw [isNat_rest ?_ ?_, ha]
    · intro e; rw [e] at hl; simp at hl; omega
    · by_cases hk : (dtext k).length ≤ n + 1
      · -- one digit
        have hl1 : ((zpad (n + 1) (dtext k)).take ((zpad (n + 1) (dtext k)).length - n)).length = 1 := by rw [hl, hlen]; omega
        obtain ⟨x, hx⟩ := List.length_eq_one_iff.1 hl1
        rw [hx]
        by_cases h48 : x = 48
        · right; subst h48; rfl
        · left; simpa using h48
      · left
        have e0 : zpad (n + 1) (dtext k) = dtext k := by
          unfold zpad
          rw [show n + 1 - (dtext k).length = 0 by omega]; rfl
        rw [e0, List.head?_take, if_neg (by omega)]
        apply head_dtext
        intro e
        subst e
        rw [dtext_zero] at hk
        simp at hk
  · congr 1
    apply dval_ext (all_drop hall _) (zpad_all (dtext_all _))
    · rw [List.length_drop, zpad_length n, hlen]
      have hlt : k % pten n < 10 ^ n := Nat.mod_lt _ (pten_pos n)
      have := length_dtext_le hlt hn
      omega
    · rw [h2, zpad_dval, dval_dtext]
/-- The text of a natural number of units. -/
def dabs (k n : Nat) : ByteArray := ⟨(if n = 0 then dtext k else dpt n (dtext k)).toArray⟩
/-- The text of so many units of n digits. -/
def dtxt (z : Int) (n : Nat) : ByteArray := if z < 0 then ⟨#[45]⟩ ++ dabs z.natAbs n else dabs z.natAbs n
theorem dabs_list (k n : Nat) : (dabs k n).data.toList = if n = 0 then dtext k else dpt n (dtext k) := by simp [dabs]
theorem dabs_zero (k : Nat) : dabs k 0 = txt k := rfl
theorem dpt_length (n : Nat) (l : List UInt8) : (dpt n l).length = max (n + 1) l.length + 1 := by
  have h := zpad_length (n + 1) l
  unfold dpt
  rw [List.length_append, List.length_take, List.length_cons, List.length_drop, h]
  omega
theorem size_dabs {k n m : Nat} (h : k < 10 ^ m) (hm : n < m) : (dabs k n).size ≤ m + 1 := by
  have h1 := length_dtext_le h (by omega)
  have e : (dabs k n).size = (dabs k n).data.toList.length := by simp
  rw [e, dabs_list]
  split
  · omega
  · rw [dpt_length]; omega
theorem size_dtxt {z : Int} {n m : Nat} (h : z.natAbs < 10 ^ m) (hm : n < m) : (dtxt z n).size ≤ m + 2 := by
  have h1 := size_dabs h hm
  unfold dtxt
  split
  · rw [ByteArray.size_append]; show 1 + _ ≤ _; omega
  · omega
/-- What withPoint joins. -/
theorem point_text {k n : Nat} (hn : 0 < n) (s : ByteArray) (hs : s.data.toList = zpad (n + 1) (dtext k)) :
    s.extract 0 (s.size - n) ++ ⟨#[46]⟩ ++ s.extract (s.size - n) s.size = dabs k n := by
  have e : s.size = (zpad (n + 1) (dtext k)).length := by rw [← hs]; simp
  apply ba_ext
  rw [app_list, app_list, dabs_list, if_neg (by omega)]
  rw [ByteArray.data_extract, Array.toList_extract, List.extract_eq_take_drop, ByteArray.data_extract, Array.toList_extract, List.extract_eq_take_drop, hs, e]
  unfold dpt
  rw [List.drop_zero, Nat.sub_zero, List.append_assoc]
  congr 1
  rw [List.take_of_length_le (by rw [List.length_drop]; exact Nat.le_refl _)]
  rfl
/-- The reference's text: so many, and what is behind. -/
theorem dabs_parts (k n : Nat) (hn : 0 < n) : dabs k n = txt (k / pten n) ++ ⟨#[46]⟩ ++ ⟨(zpad n (dtext (k % pten n))).toArray⟩ := by
  apply ba_ext
  rw [dabs_list, if_neg (by omega), dpt_dtext k n hn, app_list, app_list, txt_list]
  simp
theorem dabs_whole (k : Nat) : dabs k 0 = txt (k / pten 0) := by rw [pten_zero, Nat.div_one, dabs_zero]
theorem dtxt_turn (z : Int) (n : Nat) : dtxt z n = dtxt (-z) n ∨ dtxt z n = ⟨#[45]⟩ ++ dtxt (-z) n ∨ ⟨#[45]⟩ ++ dtxt z n = dtxt (-z) n := by
  unfold dtxt
  rw [Int.natAbs_neg]
  rcases Int.lt_trichotomy z 0 with h | h | h
  · right; left; rw [if_pos h, if_neg (by omega)]
  · left; subst h; rfl
  · right; right; rw [if_neg (by omega), if_pos (by omega)]

end Go.Proofs.Ytjeeepcnaaadmaa

/-
  PACKAGE dec: decimals in memory.
-/
namespace Go.Proofs.Ytjeeepcnaaadmaa
open Go.RowKit
open Num
set_option linter.unusedVariables false
set_option maxRecDepth 100000
set_option linter.unusedSimpArgs false

/-- A block of three cells: a decimal. -/
def Dbx (w : World) (g : Nat) (s : Bool) (sv : Value) (d : Int) : Prop := w.heap[g]? = some (.cells #[.bool s, sv, .int .i64 d] 80 (0, 0)) ∧ ∃ p n c, sv = .slice p n c
theorem Dbx.lt {w : World} {g : Nat} {s : Bool} {sv : Value} {d : Int} (h : Dbx w g s sv d) : g < w.heap.size := lt_of_block h.1
theorem Dbx.cells {w : World} {g : Nat} {s : Bool} {sv : Value} {d : Int} (h : Dbx w g s sv d) : w.cell? ⟨g, 0, none⟩ = some (.bool s) ∧ w.cell? ⟨g, 1, none⟩ = some sv ∧ w.cell? ⟨g, 2, none⟩ = some (.int .i64 d) := by
  have := h.1
  refine ⟨?_, ?_, ?_⟩ <;> simp [World.cell?, this]
theorem Dbx.free {w : World} {g : Nat} {s : Bool} {sv : Value} {d : Int} (h : Dbx w g s sv d) (i : Nat) : w.frozen? ⟨g, i, none⟩ = false := by
  have := h.1
  simp [World.frozen?, this]
theorem Dbx.below {w w' : World} {g K : Nat} {s : Bool} {sv : Value} {d : Int} (h : Dbx w g s sv d) (hb : Below K w w') (hK : g < K) : Dbx w' g s sv d := ⟨(hb.block g hK).trans h.1, h.2⟩
theorem Dbx.dr {w : World} {g : Nat} {s : Bool} {sv : Value} {d : Int} (h : Dbx w g s sv d) : Dbx w.drew g s sv d := h
theorem Dbx.new (w : World) (s : Bool) (p : Option Addr) (n c : Nat) (d : Int) : Dbx (w.alloc (.cells #[.bool s, .slice p n c, .int .i64 d] 80)) w.heap.size s (.slice p n c) d := by
  refine ⟨?_, ⟨_, _, _, rfl⟩⟩
  show (w.heap.push _)[w.heap.size]? = _
  simp
theorem Dbx.other {w : World} {g g2 : Nat} {s : Bool} {sv : Value} {d : Int} (h : Dbx w g s sv d) (hne : g ≠ g2) (i : Nat) (v : Value) : Dbx (w.setCell ⟨g2, i, none⟩ v) g s sv d := by
  refine ⟨?_, h.2⟩
  rw [Below.heap_setCell _ _ _ _ (by exact hne)]; exact h.1
theorem Dbx.set0 {w : World} {g : Nat} {s : Bool} {sv : Value} {d : Int} (h : Dbx w g s sv d) (x : Bool) : Dbx (w.setCell ⟨g, 0, none⟩ (.bool x)) g x sv d := by
  refine ⟨?_, h.2⟩
  show (w.setCell ⟨g, 0, none⟩ (.bool x)).heap[g]? = _
  simp only [World.setCell, Array.getElem?_modify, h.1]
  simp
theorem Dbx.set1 {w : World} {g : Nat} {s : Bool} {sv : Value} {d : Int} (h : Dbx w g s sv d) (p : Option Addr) (n c : Nat) : Dbx (w.setCell ⟨g, 1, none⟩ (.slice p n c)) g s (.slice p n c) d := by
  refine ⟨?_, ⟨_, _, _, rfl⟩⟩
  show (w.setCell ⟨g, 1, none⟩ (.slice p n c)).heap[g]? = _
  simp only [World.setCell, Array.getElem?_modify, h.1]
  simp
theorem Dbx.set2 {w : World} {g : Nat} {s : Bool} {sv : Value} {d : Int} (h : Dbx w g s sv d) (e : Int) : Dbx (w.setCell ⟨g, 2, none⟩ (.int .i64 e)) g s sv e := by
  refine ⟨?_, h.2⟩
  show (w.setCell ⟨g, 2, none⟩ (.int .i64 e)).heap[g]? = _
  simp only [World.setCell, Array.getElem?_modify, h.1]
  simp
theorem Dbx.stores {w : World} {g : Nat} {s : Bool} {sv : Value} {d : Int} (h : Dbx w g s sv d) :
    (w.cell? ⟨g, 0, none⟩ = some (.bool s) ∧ w.frozen? ⟨g, 0, none⟩ = false) ∧
    ((∀ x, (w.setCell ⟨g, 0, none⟩ (.bool x)).cell? ⟨g, 1, none⟩ = some sv) ∧ (∀ x, (w.setCell ⟨g, 0, none⟩ (.bool x)).frozen? ⟨g, 1, none⟩ = false)) ∧
    (∀ x p n c, ((w.setCell ⟨g, 0, none⟩ (.bool x)).setCell ⟨g, 1, none⟩ (.slice p n c)).cell? ⟨g, 2, none⟩ = some (.int .i64 d)) ∧ (∀ x p n c, ((w.setCell ⟨g, 0, none⟩ (.bool x)).setCell ⟨g, 1, none⟩ (.slice p n c)).frozen? ⟨g, 2, none⟩ = false) :=
  ⟨⟨h.cells.1, h.free 0⟩, ⟨fun x => (h.set0 x).cells.2.1, fun x => (h.set0 x).free 1⟩, fun x p n c => ((h.set0 x).set1 p n c).cells.2.2, fun x p n c => ((h.set0 x).set1 p n c).free 2⟩
theorem Lim.dbx {w : World} {v : Value} {xs : List Nat} {g : Nat} {s : Bool} {sv : Value} {d : Int} (h : Lim w v xs) (hx : Dbx w g s sv d) (i : Nat) (u : Value) : Lim (w.setCell ⟨g, i, none⟩ u) v xs := by
  obtain ⟨h1, p, c, h2, h3, h4, h5⟩ := h
  refine ⟨h1, p, c, h2, h3, h4, ?_⟩
  rcases h5 with h5 | ⟨b, off, h6, h7, h8⟩
  · exact .inl h5
  · refine .inr ⟨b, off, h6, by simpa [World.setCell] using h7, fun i hi => ?_⟩
    have h9 := h8 i hi
    by_cases hb : b = g
    · subst hb
      obtain ⟨hx1, p', n', c', hx2⟩ := hx
      subst hx2
      simp only [World.cell?, hx1] at h9
      have hh : ∀ k : Nat, (#[Value.bool s, Value.slice p' n' c', Value.int .i64 d] : Array Value)[k]? ≠ some (.int .u32 (dg xs i)) := by
        intro k
        rcases k with _ | _ | _ | k <;> simp
      exact absurd h9 (hh _)
    · rw [← h9]
      exact World.cell?_of_block (Below.heap_setCell _ _ _ _ (by exact hb))
theorem Whl.dbx {w : World} {v : Value} {z : Int} {k g : Nat} {s : Bool} {sv : Value} {d : Int} (h : Whl w v z k) (hx : Dbx w g s sv d) (i : Nat) (u : Value) : Whl (w.setCell ⟨g, i, none⟩ u) v z k := by
  obtain ⟨s', sv', xs, h1, h2, h3⟩ := h
  exact ⟨s', sv', xs, h1, h2.dbx hx i u, h3⟩
theorem Dbx.last {w0 w : World} {g K : Nat} {s : Bool} {sv : Value} {d : Int} (h : Dbx w g s sv d) (hb : Below K w0 w) (hg : K ≤ g) (a : Bool) (p : Option Addr) (n c : Nat) (e : Int) :
    Dbx (((w.setCell ⟨g, 0, none⟩ (.bool a)).setCell ⟨g, 1, none⟩ (.slice p n c)).setCell ⟨g, 2, none⟩ (.int .i64 e)) g a (.slice p n c) e ∧
    Below K w0 (((w.setCell ⟨g, 0, none⟩ (.bool a)).setCell ⟨g, 1, none⟩ (.slice p n c)).setCell ⟨g, 2, none⟩ (.int .i64 e)) ∧
    (∀ {v z k}, Whl w v z k → Whl (((w.setCell ⟨g, 0, none⟩ (.bool a)).setCell ⟨g, 1, none⟩ (.slice p n c)).setCell ⟨g, 2, none⟩ (.int .i64 e)) v z k) := by
  have h1 := h.set0 a
  have h2 := h1.set1 p n c
  refine ⟨h2.set2 _, ((hb.setCell (p := ⟨g, 0, none⟩) hg _).setCell (p := ⟨g, 1, none⟩) hg _).setCell (p := ⟨g, 2, none⟩) hg _, fun hv => ?_⟩
  exact ((hv.dbx h 0 _).dbx h1 1 _).dbx h2 2 _
theorem load_dec {w : World} {g : Nat} {s : Bool} {sv : Value} {d : Int} (h2 : Dbx w g s sv d) : (loadVar 80 ⟨g, 0, none⟩).run Try.prog w = .ok (.agg #[.bool s, sv, .int .i64 d]) w := by
  obtain ⟨h0, h1, h3⟩ := h2.cells
  simp [go_sem, h0, h1, h3]
theorem res_dec {fn : Func} {t : Tmp} {tmps : Array Value} {w : World} {g : Nat} {s : Bool} {sv : Value} {d : Int} (hf : fn.results = #[.cell t 80]) (ht : tmps.getD t undef = .pointer (some ⟨g, 0, none⟩)) (h2 : Dbx w g s sv d) :
    (results fn tmps).run Try.prog w = .ok (.agg #[.bool s, sv, .int .i64 d]) w := by
  have h1 := at_addr (P := Try.prog) (w := w) ht
  have h3 := load_dec h2
  simp only [Array.getD_eq_getD_getElem?] at h1
  simp [results, hf, Sem.run_bind, h1, h3]
theorem res_dd {fn : Func} {t t' : Tmp} {tmps : Array Value} {w : World} {g g' : Nat} {s s' : Bool} {sv sv' : Value} {d d' : Int} (hf : fn.results = #[.cell t 80, .cell t' 80]) (ht : tmps.getD t undef = .pointer (some ⟨g, 0, none⟩)) (ht' : tmps.getD t' undef = .pointer (some ⟨g', 0, none⟩)) (h2 : Dbx w g s sv d) (h2' : Dbx w g' s' sv' d') :
    (results fn tmps).run Try.prog w = .ok (.tuple #[.agg #[.bool s, sv, .int .i64 d], .agg #[.bool s', sv', .int .i64 d']]) w := by
  have h1 := at_addr (P := Try.prog) (w := w) ht
  have h1' := at_addr (P := Try.prog) (w := w) ht'
  have h3 := load_dec h2
  have h3' := load_dec h2'
  simp only [Array.getD_eq_getD_getElem?] at h1 h1'
  simp [results, hf, Sem.run_bind, h1, h3, h1', h3']
theorem dx {w w' : World} {g : Nat} {s : Bool} {sv : Value} {d : Int} (h : Hid (Dbx w g s sv d)) (hb : Below w.heap.size w w') : Hid (Dbx w' g s sv d) := hid (h.out.below hb h.out.lt)

/-- A value reads as z units of n digits, of k limbs or fewer. -/
def Dcl (w : World) (v : Value) (z : Int) (n k : Nat) : Prop := ∃ s p m c, v = .agg #[.bool s, .slice p m c, .int .i64 (n : Int)] ∧ Whl w (.agg #[.bool s, .slice p m c]) z k
theorem Dcl.opened {w : World} {v : Value} {z : Int} {n k : Nat} (h : Dcl w v z n k) : ∃ s p m c, v = .agg #[.bool s, .slice p m c, .int .i64 (n : Int)] := by
  obtain ⟨s, p, m, c, h1, _⟩ := h
  exact ⟨s, p, m, c, h1⟩
theorem Dcl.one {w : World} {z : Int} {n k : Nat} {s p m c} (h : Dcl w (.agg #[.bool s, .slice p m c, .int .i64 (n : Int)]) z n k) : Whl w (.agg #[.bool s, .slice p m c]) z k := by
  obtain ⟨s1, p1, m1, c1, h1, h2⟩ := h
  simp only [Value.agg.injEq, Array.mk.injEq, List.cons.injEq, Value.bool.injEq, Value.slice.injEq, and_true] at h1
  obtain ⟨rfl, rfl, rfl, rfl⟩ := h1
  exact h2
theorem Dcl.mk1 {w : World} {z : Int} {n k : Nat} {s p m c} (h : Whl w (.agg #[.bool s, .slice p m c]) z k) : Dcl w (.agg #[.bool s, .slice p m c, .int .i64 (n : Int)]) z n k := ⟨_, _, _, _, rfl, h⟩
theorem Dcl.on {w w' : World} {v : Value} {z : Int} {n k : Nat} (h : Dcl w v z n k) (hb : Below w.heap.size w w') : Dcl w' v z n k := by
  obtain ⟨s, p, m, c, h1, h2⟩ := h
  exact ⟨s, p, m, c, h1, h2.on hb⟩
theorem Dcl.fit {w : World} {v : Value} {z : Int} {n k : Nat} (m : Nat) (h : Dcl w v z n k) (hm : z.natAbs < B ^ m) : Dcl w v z n m := by
  obtain ⟨s, p, m', c, h1, h2⟩ := h
  exact ⟨s, p, m', c, h1, h2.fit m hm⟩

/-- An Integer's box that the region has made. -/
def NewI (w0 w : World) (u : Value) (b : Bool) (v : Value) : Prop := ∃ g, u = .pointer (some ⟨g, 0, none⟩) ∧ w0.heap.size ≤ g ∧ (b = false → Box w g false (.slice none 0 0)) ∧ (b = true → ∃ s p n c, v = .agg #[.bool s, .slice p n c] ∧ Box w g s (.slice p n c))
theorem NewI.free {w0 w : World} {u v v' : Value} {b : Bool} (h : NewI w0 w u b v) (hb : b = false) : NewI w0 w u b v' := by
  obtain ⟨g, h1, h2, h3, h4⟩ := h
  exact ⟨g, h1, h2, h3, fun e => absurd (hb.symm.trans e) (by decide)⟩
theorem NewI.on {w0 w w' : World} {u v : Value} {b : Bool} (h : NewI w0 w u b v) (hb : Below w.heap.size w w') : NewI w0 w' u b v := by
  obtain ⟨g, h1, h2, h3, h4⟩ := h
  refine ⟨g, h1, h2, fun e => (h3 e).below hb (h3 e).lt, fun e => ?_⟩
  obtain ⟨s, p, n, c, e1, e2⟩ := h4 e
  exact ⟨s, p, n, c, e1, e2.below hb e2.lt⟩
theorem NewI.lt {w0 w : World} {u v : Value} {b : Bool} (h : NewI w0 w u b v) : ∃ g, u = .pointer (some ⟨g, 0, none⟩) ∧ g < w.heap.size := by
  obtain ⟨g, h1, h2, h3, h4⟩ := h
  refine ⟨g, h1, ?_⟩
  cases b with
  | false => exact (h3 rfl).lt
  | true => obtain ⟨_, _, _, _, _, h⟩ := h4 rfl; exact h.lt
theorem NewI.set {w0 w : World} {u v : Value} {b : Bool} {g : Nat} (h : NewI w0 w u b v) (hne : u ≠ .pointer (some ⟨g, 0, none⟩)) (a1 a2 : Value) : NewI w0 ((w.setCell ⟨g, 0, none⟩ a1).setCell ⟨g, 1, none⟩ a2) u b v := by
  obtain ⟨g', rfl, h2, h3, h4⟩ := h
  have hg : g' ≠ g := fun e => hne (by rw [e])
  refine ⟨g', rfl, h2, fun e => ((h3 e).other hg _ _).other hg _ _, fun e => ?_⟩
  obtain ⟨s, p, n, c, e1, e2⟩ := h4 e
  exact ⟨s, p, n, c, e1, (e2.other hg _ _).other hg _ _⟩
theorem pten_int (k : Nat) : (pten k : Int) * 10 = (pten (k + 1) : Int) := by rw [pten_succ]; omega
theorem pten_fit {k : Nat} (h : k ≤ 30) : ((pten k : Nat) : Int).natAbs < B ^ 4 := Nat.lt_of_le_of_lt (pten_le h) (by decide +kernel)
theorem pten_ne (k : Nat) : ((pten k : Nat) : Int) ≠ 0 := by have := pten_pos k; omega

end Go.Proofs.Ytjeeepcnaaadmaa

/-
  PACKAGE dec: powerOfTen.
-/
namespace Go.Proofs.Ytjeeepcnaaadmaa
open Go.RowKit
open Num
set_option linter.unusedVariables false
set_option maxRecDepth 100000
set_option linter.unusedSimpArgs false

set_option maxHeartbeats 4000000 in
theorem pot_whl (n : Nat) (hn : n ≤ 30) (w : World) :
    Calls Try.prog 79 #[.int .i64 (n : Int)] w fun e w' => ∃ v, e = .returned v ∧ Whl w' v (pten n : Int) 4 ∧ Below w.heap.size w w' := by
  have B := hid (Below.refl w.heap.size w)
  have hb1 := (Below.refl _ _).alloc (Nat.le_refl w.heap.size) (.cells #[.bool false, .slice none 0 0] 49)
  have hx2 := Box.new w false none 0 0
  replace B := bb B hb1
  have XR := hid hx2
  have hs3 : (w.alloc (.cells #[.bool false, .slice none 0 0] 49)).heap.size = w.heap.size + 1 := by simp
  clear hb1 hx2
  clear hs3 
  go_enter Try.func79, Try.ntmps79
  obtain ⟨cc4a, cc4b⟩ := XR.out.both
  go_wp2_with fail
  generalize hW : w.alloc (.cells #[.bool false, .slice none 0 0] 49) = W5 at *
  clear hW
  refine (of_small 1 (by decide) _).mono ?_
  rintro e w6 ⟨v, rfl, hv, hb⟩
  obtain ⟨s1, p1, n1, c1, rfl⟩ := hv.opened
  replace hv := hv.mono (show 1 ≤ 4 by decide)
  replace XR := bx XR hb
  replace B := bb B hb
  clear cc4a cc4b
  have HP := hid hv
  clear hb hv
  have hb7 := (Below.refl _ _).alloc (Nat.le_refl w6.heap.size) (.cells #[.bool s1, .slice p1 n1 c1] 49)
  have hx8 := Box.new w6 s1 p1 n1 c1
  have L0 := hid XR.out.lt
  replace XR := bx XR hb7
  replace HP := wl HP hb7
  replace B := bb B hb7
  have XP := hid hx8
  have hs9 : (w6.alloc (.cells #[.bool s1, .slice p1 n1 c1] 49)).heap.size = w6.heap.size + 1 := by simp
  clear hb7 hx8
  obtain ⟨cc10a, cc10b⟩ := XR.out.both
  obtain ⟨cc11a, cc11b⟩ := XP.out.both
  go_wp2_with fail
  generalize hW : w6.alloc (.cells #[.bool s1, .slice p1 n1 c1] 49) = W12 at *
  clear hW
  clear cc10a cc10b cc11a cc11b
  obtain ⟨G, hG⟩ : ∃ G, G = w6.heap.size := ⟨_, rfl⟩
  rw [← hG] at XP
  have LG := hid (show w.heap.size < G by have := L0.out; omega)
  rw [← hG]
  clear hG
  go_loopw [6] (fun i wr => ∃ (k : Nat) (sa : Bool) (pa : Option Addr) (na ca : Nat), k ≤ n ∧ i = .int .i64 k ∧ Hid (Box wr w.heap.size false (.slice none 0 0)) ∧ Hid (Box wr G sa (.slice pa na ca)) ∧ Hid (Whl wr (.agg #[.bool sa, .slice pa na ca]) (pten k : Int) 4) ∧ Hid (Below w.heap.size w wr)) (fun i _ => n - (intOf i).toNat)
  case atStart => exact ⟨0, _, _, _, _, Nat.zero_le _, rfl, XR, XP, HP, B⟩
  case round =>
    obtain ⟨k, sa, pa, na, ca, hk, rfl, XR, XP, HP, B⟩ := hrel
    by_cases hlt : k < n
    · obtain ⟨cc201a, cc201b⟩ := XR.out.both
      obtain ⟨cc202a, cc202b⟩ := XP.out.both
      go_wp2_with fail
      obtain ⟨cc203a, cc203b⟩ := XP.out.both
      replace XR := hid XR.out.dr
      replace XP := hid XP.out.dr
      replace HP := hid HP.out.drew
      replace B := hid (Below.drew B.out)
      obtain ⟨cc204a, cc204b⟩ := XP.out.both
      go_region_with (first
        | (have hm := mk205_0; clear hm; go_at_call 62; refine (mul_whl HP.out HT.out (by decide) (by decide)).mono ?_; rintro e w208 ⟨v, rfl, hv, hb⟩; rw [pten_int] at hv; replace hv := hv.fit 4 (pten_fit (by omega)); obtain ⟨s3, p3, n3, c3, rfl⟩ := hv.opened; replace XR := bx XR hb; replace XP := bx XP hb; replace HP := wl HP hb; replace HT := wl HT hb; replace B := bb B hb; clear cc207a cc207b; have HM := hid hv; clear hb hv; obtain ⟨cc209a, cc209b⟩ := XP.out.both; obtain ⟨cc210a, cc210b, cc210c, cc210d⟩ := XP.out.stores; obtain ⟨r211a, r211b, r211c⟩ := XP.out.last B.out (by have := LG.out; omega) s3 p3 n3 c3; replace XR := hid ((XR.out.other (g2 := G) (by have := LG.out; omega) 0 (.bool s3)).other (g2 := G) (by have := LG.out; omega) 1 (.slice p3 n3 c3)); replace HP := hid (r211c HP.out); replace HT := hid (r211c HT.out); replace HM := hid (r211c HM.out); replace XP := hid r211a; replace B := hid r211b; clear r211a r211b r211c; obtain ⟨cc212a, cc212b⟩ := XP.out.both; have mk205_1 := hid True.intro)
        | (go_at_call 71; refine (of_small 10 (by decide) _).mono ?_; rintro e w206 ⟨v, rfl, hv, hb⟩; obtain ⟨s2, p2, n2, c2, rfl⟩ := hv.opened; replace XR := bx XR hb; replace XP := bx XP hb; replace HP := wl HP hb; replace B := bb B hb; clear cc201a cc201b cc202a cc202b cc203a cc203b cc204a cc204b; have HT := hid hv; clear hb hv; obtain ⟨cc207a, cc207b⟩ := XP.out.both; have mk205_0 := hid True.intro))
      all_goals
        go_wp2_with fail
        go_roundw
        case rel => exact ⟨k + 1, _, _, _, _, by omega, by go_num, XR, XP, HM, B⟩
        case measure => simp [intOf]; omega
    · obtain rfl : k = n := by omega
      obtain ⟨cc301a, cc301b⟩ := XR.out.both
      obtain ⟨cc302a, cc302b⟩ := XP.out.both
      obtain ⟨cc303a, cc303b, cc303c, cc303d⟩ := XR.out.stores
      obtain ⟨r304a, r304b, r304c⟩ := XR.out.last B.out (by have := LG.out; omega) sa pa na ca
      replace XP := hid ((XP.out.other (g2 := w.heap.size) (by have := LG.out; omega) 0 (.bool sa)).other (g2 := w.heap.size) (by have := LG.out; omega) 1 (.slice pa na ca))
      replace HP := hid (r304c HP.out)
      replace XR := hid r304a
      replace B := hid r304b
      clear r304a r304b r304c
      go_wp2_with fail
      refine bodyPost_ret (res_one rfl rfl XR.out) rfl ?_
      exact ⟨_, rfl, HP.out, B.out⟩

end Go.Proofs.Ytjeeepcnaaadmaa

/-
  PACKAGE dec: around.
-/
namespace Go.Proofs.Ytjeeepcnaaadmaa
open Go.RowKit
open Num
set_option linter.unusedVariables false
set_option maxRecDepth 100000
set_option linter.unusedSimpArgs false

set_option maxHeartbeats 8000000 in
theorem around_even {w : World} {v : Value} {q : Rat} {n : Nat} (h : Rtl w v q 100) (hn : n ≤ 30) (he : resu q n = 0) :
    Calls Try.prog 57 #[v, .int .i64 (n : Int)] w fun e w' => ∃ v u, e = .returned (.tuple #[v, u]) ∧ Dcl w' v (lowu q n) n 106 ∧ Dcl w' u (highu q n) n 106 ∧ Below w.heap.size w w' := by
  obtain ⟨s1a, p1a, n1a, c1a, s1b, p1b, n1b, c1b, rfl⟩ := h.opened
  obtain ⟨ht1, d1, hu1, hd1⟩ := h.two
  have HD1 := hid hd1
  have HN := hid hn
  have HE := hid he
  have B := hid (Below.refl w.heap.size w)
  have HT1 := hid ht1
  have HU1 := hid hu1
  have hb1 := (Below.refl _ _).alloc (Nat.le_refl w.heap.size) (.cells #[.bool s1a, .slice p1a n1a c1a, .bool s1b, .slice p1b n1b c1b] 51)
  have hx2 := Nbx.new w s1a s1b (.slice p1a n1a c1a) (.slice p1b n1b c1b)
  replace HT1 := wl HT1 hb1
  replace HU1 := wl HU1 hb1
  replace B := bb B hb1
  have X1 := hid hx2
  have hs3 : (w.alloc (.cells #[.bool s1a, .slice p1a n1a c1a, .bool s1b, .slice p1b n1b c1b] 51)).heap.size = w.heap.size + 1 := by simp
  clear hb1 hx2
  have hb4 := (Below.refl _ _).alloc (Nat.le_refl (w.alloc (.cells #[.bool s1a, .slice p1a n1a c1a, .bool s1b, .slice p1b n1b c1b] 51)).heap.size) (.cells #[.bool false, .slice none 0 0, .int .i64 0] 80)
  have hx5 := Dbx.new (w.alloc (.cells #[.bool s1a, .slice p1a n1a c1a, .bool s1b, .slice p1b n1b c1b] 51)) false none 0 0 0
  rw [hs3] at hx5
  replace X1 := nx X1 hb4
  replace HT1 := wl HT1 hb4
  replace HU1 := wl HU1 hb4
  replace B := bb B hb4
  have R4 := hid hx5
  have hs6 : ((w.alloc (.cells #[.bool s1a, .slice p1a n1a c1a, .bool s1b, .slice p1b n1b c1b] 51)).alloc (.cells #[.bool false, .slice none 0 0, .int .i64 0] 80)).heap.size = w.heap.size + 1 + 1 := by simp [hs3]
  clear hb4 hx5
  have hb7 := (Below.refl _ _).alloc (Nat.le_refl ((w.alloc (.cells #[.bool s1a, .slice p1a n1a c1a, .bool s1b, .slice p1b n1b c1b] 51)).alloc (.cells #[.bool false, .slice none 0 0, .int .i64 0] 80)).heap.size) (.cells #[.bool false, .slice none 0 0, .int .i64 0] 80)
  have hx8 := Dbx.new ((w.alloc (.cells #[.bool s1a, .slice p1a n1a c1a, .bool s1b, .slice p1b n1b c1b] 51)).alloc (.cells #[.bool false, .slice none 0 0, .int .i64 0] 80)) false none 0 0 0
  rw [hs6] at hx8
  replace X1 := nx X1 hb7
  replace R4 := dx R4 hb7
  replace HT1 := wl HT1 hb7
  replace HU1 := wl HU1 hb7
  replace B := bb B hb7
  have R5 := hid hx8
  have hs9 : (((w.alloc (.cells #[.bool s1a, .slice p1a n1a c1a, .bool s1b, .slice p1b n1b c1b] 51)).alloc (.cells #[.bool false, .slice none 0 0, .int .i64 0] 80)).alloc (.cells #[.bool false, .slice none 0 0, .int .i64 0] 80)).heap.size = w.heap.size + 1 + 1 + 1 := by simp [hs6]
  clear hb7 hx8
  clear hs9 h ht1 hu1 hd1 hn he
  go_enter Try.func57, Try.ntmps57
  obtain ⟨cc10a, cc10b, cc10c, cc10d⟩ := X1.out.cells
  obtain ⟨cc11a, cc11b, cc11c⟩ := R4.out.cells
  obtain ⟨cc12a, cc12b, cc12c⟩ := R5.out.cells
  go_wp2_with fail
  generalize hW : ((w.alloc (.cells #[.bool s1a, .slice p1a n1a c1a, .bool s1b, .slice p1b n1b c1b] 51)).alloc (.cells #[.bool false, .slice none 0 0, .int .i64 0] 80)).alloc (.cells #[.bool false, .slice none 0 0, .int .i64 0] 80) = W13 at *
  clear hW
  refine (parts_rtl (Rtl.mk2 HT1.out HU1.out HD1.out) (by decide)).mono ?_
  rintro e w14 ⟨v, u, rfl, hv, hu, hb⟩
  obtain ⟨s3, p3, n3, c3, rfl⟩ := hv.opened
  obtain ⟨s4, p4, n4, c4, rfl⟩ := hu.opened
  replace R4 := dx R4 hb
  replace R5 := dx R5 hb
  replace B := bb B hb
  clear cc10a cc10b cc10c cc10d cc11a cc11b cc11c cc12a cc12b cc12c
  have HA := hid hv
  have HB := hid hu
  clear hb hv hu
  have hb15 := (Below.refl _ _).alloc (Nat.le_refl w14.heap.size) (.cells #[.bool s3, .slice p3 n3 c3] 49)
  have hx16 := Box.new w14 s3 p3 n3 c3
  have L0 := hid R5.out.lt
  replace R4 := dx R4 hb15
  replace R5 := dx R5 hb15
  replace HA := wl HA hb15
  replace HB := wl HB hb15
  replace B := bb B hb15
  have XA := hid hx16
  have hs17 : (w14.alloc (.cells #[.bool s3, .slice p3 n3 c3] 49)).heap.size = w14.heap.size + 1 := by simp
  clear hb15 hx16
  have hb18 := (Below.refl _ _).alloc (Nat.le_refl (w14.alloc (.cells #[.bool s3, .slice p3 n3 c3] 49)).heap.size) (.cells #[.bool s4, .slice p4 n4 c4] 49)
  have hx19 := Box.new (w14.alloc (.cells #[.bool s3, .slice p3 n3 c3] 49)) s4 p4 n4 c4
  rw [hs17] at hx19
  replace R4 := dx R4 hb18
  replace R5 := dx R5 hb18
  replace XA := bx XA hb18
  replace HA := wl HA hb18
  replace HB := wl HB hb18
  replace B := bb B hb18
  have XB := hid hx19
  have hs20 : ((w14.alloc (.cells #[.bool s3, .slice p3 n3 c3] 49)).alloc (.cells #[.bool s4, .slice p4 n4 c4] 49)).heap.size = w14.heap.size + 1 + 1 := by simp [hs17]
  clear hb18 hx19
  obtain ⟨cc21a, cc21b, cc21c⟩ := R4.out.cells
  obtain ⟨cc22a, cc22b, cc22c⟩ := R5.out.cells
  obtain ⟨cc23a, cc23b⟩ := XA.out.both
  obtain ⟨cc24a, cc24b⟩ := XB.out.both
  go_wp2_with fail
  generalize hW : (w14.alloc (.cells #[.bool s3, .slice p3 n3 c3] 49)).alloc (.cells #[.bool s4, .slice p4 n4 c4] 49) = W25 at *
  clear hW
  clear cc21a cc21b cc21c cc22a cc22b cc22c cc23a cc23b cc24a cc24b
  have LQ := hid R5.out.lt
  refine region_ops (by kernel_rfl) (by kernel_rfl) (fun a f a' w' => ∃ u8 u9 u10 u16 u17 u18 u19 u20 u21 u22 u23 u24 u25 v9 va : Value, a' = { tmps := (((((((((((((a.tmps.setIfInBounds 8 u8).setIfInBounds 9 u9).setIfInBounds 10 u10).setIfInBounds 16 u16).setIfInBounds 17 u17).setIfInBounds 18 u18).setIfInBounds 19 u19).setIfInBounds 20 u20).setIfInBounds 21 u21).setIfInBounds 22 u22).setIfInBounds 23 u23).setIfInBounds 24 u24).setIfInBounds 25 u25), defers := a.defers } ∧ Hid (Below W25.heap.size W25 w') ∧ Hid (f 0 = true → u17 = (.agg #[.bool s3, .slice p3 n3 c3])) ∧ Hid (f 1 = true → u18 = .int .i64 (n : Int)) ∧ Hid (f 2 = true → Whl w' u19 (pten n : Int) 4) ∧ Hid (f 3 = true → Whl w' u20 (q.num * (pten n : Int)) 104) ∧ Hid (f 4 = true → u21 = (.agg #[.bool s4, .slice p4 n4 c4])) ∧ Hid (f 5 = true → (u22 = .tuple #[v9, va, .nilIface] ∧ Whl w' v9 (lowu q n) 105 ∧ Whl w' va (resu q n) 100)) ∧ Hid (f 6 = true → u16 = .tuple #[v9, va, .nilIface]) ∧ Hid (f 7 = true → u23 = v9) ∧ Hid (f 8 = true → u24 = va) ∧ Hid (f 9 = true → u25 = .nilIface) ∧ Hid (f 10 = true → NewI W25 w' u8 (f 12) v9) ∧ Hid (f 11 = true → NewI W25 w' u9 (f 13) va) ∧ Hid (f 14 = true → u10 = .nilIface) ∧ (f 6 = true → f 5 = true) ∧ (f 7 = true → f 6 = true) ∧ (f 8 = true → f 6 = true) ∧ (f 9 = true → f 6 = true) ∧ (f 12 = true → f 10 = true) ∧ (f 12 = true → f 7 = true) ∧ (f 13 = true → f 11 = true) ∧ (f 13 = true → f 8 = true) ∧ (f 10 = true → f 11 = true → u8 ≠ u9)) ?h0 ⟨?s0, ?s1, ?s2, ?s3, ?s4, ?s5, ?s6, ?s7, ?s8, ?s9, ?s10, ?s11, ?s12, ?s13, ?s14, trivial⟩ ?hend
  case h0 =>
    simp only [List.setIfInBounds_toArray, List.set_cons_zero, List.set_cons_succ]
    exact ⟨_, _, _, _, _, _, _, _, _, _, _, _, _, .nilIface, .nilIface, rfl, hid (Below.drew (Below.refl _ _)), hid (fun h => by cases h), hid (fun h => by cases h), hid (fun h => by cases h), hid (fun h => by cases h), hid (fun h => by cases h), hid (fun h => by cases h), hid (fun h => by cases h), hid (fun h => by cases h), hid (fun h => by cases h), hid (fun h => by cases h), hid (fun h => by cases h), hid (fun h => by cases h), hid (fun h => by cases h), fun h => h, fun h => h, fun h => h, fun h => h, fun h => h, fun h => h, fun h => h, fun h => h, fun h => by cases h⟩
  case s0 =>
    rintro f a1 w1 ⟨u8, u9, u10, u16, u17, u18, u19, u20, u21, u22, u23, u24, u25, v9, va, rfl, HBW, h0, h1, h2, h3, h4, h5, h6, h7, h8, h9, h10, h11, h14, o6_5, o7_6, o8_6, o9_6, o12_10, o12_7, o13_11, o13_8, hne⟩ hf hd K hK
    simp only [List.setIfInBounds_toArray, List.set_cons_zero, List.set_cons_succ] at hK ⊢
    replace hK := hid hK
    obtain ⟨y1, y2⟩ := (XA.out.below HBW.out XA.out.lt).both
    go_simp
    exact hK.out _ _ ⟨_, _, _, _, _, _, _, _, _, _, _, _, _, v9, va, rfl, HBW, hid (fun h => rfl), hid (fun h => h1.out h), hid (fun h => h2.out h), hid (fun h => h3.out h), hid (fun h => h4.out h), hid (fun h => h5.out h), hid (fun h => h6.out h), hid (fun h => h7.out h), hid (fun h => h8.out h), hid (fun h => h9.out h), hid (fun h => h10.out h), hid (fun h => h11.out h), hid (fun h => h14.out h), fun h => o6_5 h, fun h => o7_6 h, fun h => o8_6 h, fun h => o9_6 h, fun h => o12_10 h, fun h => o12_7 h, fun h => o13_11 h, fun h => o13_8 h, fun h => hne h⟩
  case s1 =>
    rintro f a1 w1 ⟨u8, u9, u10, u16, u17, u18, u19, u20, u21, u22, u23, u24, u25, v9, va, rfl, HBW, h0, h1, h2, h3, h4, h5, h6, h7, h8, h9, h10, h11, h14, o6_5, o7_6, o8_6, o9_6, o12_10, o12_7, o13_11, o13_8, hne⟩ hf hd K hK
    simp only [List.setIfInBounds_toArray, List.set_cons_zero, List.set_cons_succ] at hK ⊢
    replace hK := hid hK
    go_simp
    exact hK.out _ _ ⟨_, _, _, _, _, _, _, _, _, _, _, _, _, v9, va, rfl, HBW, hid (fun h => h0.out h), hid (fun h => rfl), hid (fun h => h2.out h), hid (fun h => h3.out h), hid (fun h => h4.out h), hid (fun h => h5.out h), hid (fun h => h6.out h), hid (fun h => h7.out h), hid (fun h => h8.out h), hid (fun h => h9.out h), hid (fun h => h10.out h), hid (fun h => h11.out h), hid (fun h => h14.out h), fun h => o6_5 h, fun h => o7_6 h, fun h => o8_6 h, fun h => o9_6 h, fun h => o12_10 h, fun h => o12_7 h, fun h => o13_11 h, fun h => o13_8 h, fun h => hne h⟩
  case s2 =>
    rintro f a1 w1 ⟨u8, u9, u10, u16, u17, u18, u19, u20, u21, u22, u23, u24, u25, v9, va, rfl, HBW, h0, h1, h2, h3, h4, h5, h6, h7, h8, h9, h10, h11, h14, o6_5, o7_6, o8_6, o9_6, o12_10, o12_7, o13_11, o13_8, hne⟩ hf hd K hK
    simp only [List.setIfInBounds_toArray, List.set_cons_zero, List.set_cons_succ] at hK ⊢
    replace hK := hid hK
    simp [Region.binds] at hd
    obtain rfl := h1.out (by simp only [hd])
    go_simp
    refine (pot_whl n HN.out _).mono ?_
    rintro e w2 ⟨v, rfl, hv, hb⟩
    go_wp2_with fail
    exact hK.out _ _ ⟨_, _, _, _, _, _, _, _, _, _, _, _, _, v9, va, rfl, hid (below_next HBW.out hb), hid (fun h => h0.out h), hid (fun h => rfl), hid (fun h => hv), hid (fun h => (h3.out h).on hb), hid (fun h => h4.out h), hid (fun h => ⟨(h5.out h).1, (h5.out h).2.1.on hb, (h5.out h).2.2.on hb⟩), hid (fun h => h6.out h), hid (fun h => h7.out h), hid (fun h => h8.out h), hid (fun h => h9.out h), hid (fun h => (h10.out h).on hb), hid (fun h => (h11.out h).on hb), hid (fun h => h14.out h), fun h => o6_5 h, fun h => o7_6 h, fun h => o8_6 h, fun h => o9_6 h, fun h => o12_10 h, fun h => o12_7 h, fun h => o13_11 h, fun h => o13_8 h, fun h => hne h⟩
  case s3 =>
    rintro f a1 w1 ⟨u8, u9, u10, u16, u17, u18, u19, u20, u21, u22, u23, u24, u25, v9, va, rfl, HBW, h0, h1, h2, h3, h4, h5, h6, h7, h8, h9, h10, h11, h14, o6_5, o7_6, o8_6, o9_6, o12_10, o12_7, o13_11, o13_8, hne⟩ hf hd K hK
    simp only [List.setIfInBounds_toArray, List.set_cons_zero, List.set_cons_succ] at hK ⊢
    replace hK := hid hK
    simp [Region.binds] at hd
    obtain rfl := h0.out (by simp only [hd])
    go_simp
    refine (mul_whl (HA.out.below HBW.out (Nat.le_refl _)) (h2.out (by simp only [hd])) (by decide) (by decide)).mono ?_
    rintro e w2 ⟨v, rfl, hv, hb⟩
    go_wp2_with fail
    exact hK.out _ _ ⟨_, _, _, _, _, _, _, _, _, _, _, _, _, v9, va, rfl, hid (below_next HBW.out hb), hid (fun h => rfl), hid (fun h => h1.out h), hid (fun h => (h2.out h).on hb), hid (fun h => hv), hid (fun h => h4.out h), hid (fun h => ⟨(h5.out h).1, (h5.out h).2.1.on hb, (h5.out h).2.2.on hb⟩), hid (fun h => h6.out h), hid (fun h => h7.out h), hid (fun h => h8.out h), hid (fun h => h9.out h), hid (fun h => (h10.out h).on hb), hid (fun h => (h11.out h).on hb), hid (fun h => h14.out h), fun h => o6_5 h, fun h => o7_6 h, fun h => o8_6 h, fun h => o9_6 h, fun h => o12_10 h, fun h => o12_7 h, fun h => o13_11 h, fun h => o13_8 h, fun h => hne h⟩
  case s4 =>
    rintro f a1 w1 ⟨u8, u9, u10, u16, u17, u18, u19, u20, u21, u22, u23, u24, u25, v9, va, rfl, HBW, h0, h1, h2, h3, h4, h5, h6, h7, h8, h9, h10, h11, h14, o6_5, o7_6, o8_6, o9_6, o12_10, o12_7, o13_11, o13_8, hne⟩ hf hd K hK
    simp only [List.setIfInBounds_toArray, List.set_cons_zero, List.set_cons_succ] at hK ⊢
    replace hK := hid hK
    obtain ⟨y1, y2⟩ := (XB.out.below HBW.out XB.out.lt).both
    go_simp
    exact hK.out _ _ ⟨_, _, _, _, _, _, _, _, _, _, _, _, _, v9, va, rfl, HBW, hid (fun h => h0.out h), hid (fun h => h1.out h), hid (fun h => h2.out h), hid (fun h => h3.out h), hid (fun h => rfl), hid (fun h => h5.out h), hid (fun h => h6.out h), hid (fun h => h7.out h), hid (fun h => h8.out h), hid (fun h => h9.out h), hid (fun h => h10.out h), hid (fun h => h11.out h), hid (fun h => h14.out h), fun h => o6_5 h, fun h => o7_6 h, fun h => o8_6 h, fun h => o9_6 h, fun h => o12_10 h, fun h => o12_7 h, fun h => o13_11 h, fun h => o13_8 h, fun h => hne h⟩
  case s5 =>
    rintro f a1 w1 ⟨u8, u9, u10, u16, u17, u18, u19, u20, u21, u22, u23, u24, u25, v9, va, rfl, HBW, h0, h1, h2, h3, h4, h5, h6, h7, h8, h9, h10, h11, h14, o6_5, o7_6, o8_6, o9_6, o12_10, o12_7, o13_11, o13_8, hne⟩ hf hd K hK
    simp only [List.setIfInBounds_toArray, List.set_cons_zero, List.set_cons_succ] at hK ⊢
    replace hK := hid hK
    simp [Region.binds] at hd
    obtain rfl := h4.out (by simp only [hd])
    go_simp
    refine (div_whl (h3.out (by simp only [hd])) (HB.out.below HBW.out (Nat.le_refl _)) (den_ne q) (by decide) (by decide)).mono ?_
    rintro e w2 ⟨v, u, rfl, hv, hu, hb⟩
    go_wp2_with fail
    exact hK.out _ _ ⟨_, _, _, _, _, _, _, _, _, _, _, _, _, v, u, rfl, hid (below_next HBW.out hb), hid (fun h => h0.out h), hid (fun h => h1.out h), hid (fun h => (h2.out h).on hb), hid (fun h => (h3.out h).on hb), hid (fun h => rfl), hid (fun h => ⟨rfl, hv, hu⟩), hid (fun h => absurd (o6_5 h) (by rw [hf]; decide)), hid (fun h => absurd (o6_5 (o7_6 h)) (by rw [hf]; decide)), hid (fun h => absurd (o6_5 (o8_6 h)) (by rw [hf]; decide)), hid (fun h => h9.out h), hid (fun h => ((h10.out h).on hb).free (by cases e : f 12 with | false => rfl | true => exact absurd (o6_5 (o7_6 (o12_7 e))) (by rw [hf]; decide))), hid (fun h => ((h11.out h).on hb).free (by cases e : f 13 with | false => rfl | true => exact absurd (o6_5 (o8_6 (o13_8 e))) (by rw [hf]; decide))), hid (fun h => h14.out h), fun _ => rfl, fun h => o7_6 h, fun h => o8_6 h, fun h => o9_6 h, fun h => o12_10 h, fun h => o12_7 h, fun h => o13_11 h, fun h => o13_8 h, fun h => hne h⟩
  case s6 =>
    rintro f a1 w1 ⟨u8, u9, u10, u16, u17, u18, u19, u20, u21, u22, u23, u24, u25, v9, va, rfl, HBW, h0, h1, h2, h3, h4, h5, h6, h7, h8, h9, h10, h11, h14, o6_5, o7_6, o8_6, o9_6, o12_10, o12_7, o13_11, o13_8, hne⟩ hf hd K hK
    simp only [List.setIfInBounds_toArray, List.set_cons_zero, List.set_cons_succ] at hK ⊢
    replace hK := hid hK
    simp [Region.binds] at hd
    have g5 : f 5 = true := by simp only [hd]
    obtain ⟨rfl, e2⟩ := h5.out g5
    go_simp
    exact hK.out _ _ ⟨_, _, _, _, _, _, _, _, _, _, _, _, _, v9, va, rfl, HBW, hid (fun h => h0.out h), hid (fun h => h1.out h), hid (fun h => h2.out h), hid (fun h => h3.out h), hid (fun h => h4.out h), hid (fun h => ⟨rfl, e2⟩), hid (fun h => rfl), hid (fun h => h7.out h), hid (fun h => h8.out h), hid (fun h => h9.out h), hid (fun h => h10.out h), hid (fun h => h11.out h), hid (fun h => h14.out h), fun _ => g5, fun _ => rfl, fun _ => rfl, fun _ => rfl, fun h => o12_10 h, fun h => o12_7 h, fun h => o13_11 h, fun h => o13_8 h, fun h => hne h⟩
  case s7 =>
    rintro f a1 w1 ⟨u8, u9, u10, u16, u17, u18, u19, u20, u21, u22, u23, u24, u25, v9, va, rfl, HBW, h0, h1, h2, h3, h4, h5, h6, h7, h8, h9, h10, h11, h14, o6_5, o7_6, o8_6, o9_6, o12_10, o12_7, o13_11, o13_8, hne⟩ hf hd K hK
    simp only [List.setIfInBounds_toArray, List.set_cons_zero, List.set_cons_succ] at hK ⊢
    replace hK := hid hK
    simp [Region.binds] at hd
    have g6 : f 6 = true := by simp only [hd]
    have e1 := h6.out g6
    subst e1
    go_simp
    exact hK.out _ _ ⟨_, _, _, _, _, _, _, _, _, _, _, _, _, v9, va, rfl, HBW, hid (fun h => h0.out h), hid (fun h => h1.out h), hid (fun h => h2.out h), hid (fun h => h3.out h), hid (fun h => h4.out h), hid (fun h => h5.out h), hid (fun h => h6.out h), hid (fun h => rfl), hid (fun h => h8.out h), hid (fun h => h9.out h), hid (fun h => h10.out h), hid (fun h => h11.out h), hid (fun h => h14.out h), fun h => o6_5 h, fun _ => g6, fun h => o8_6 h, fun h => o9_6 h, fun h => o12_10 h, fun _ => rfl, fun h => o13_11 h, fun h => o13_8 h, fun h => hne h⟩
  case s8 =>
    rintro f a1 w1 ⟨u8, u9, u10, u16, u17, u18, u19, u20, u21, u22, u23, u24, u25, v9, va, rfl, HBW, h0, h1, h2, h3, h4, h5, h6, h7, h8, h9, h10, h11, h14, o6_5, o7_6, o8_6, o9_6, o12_10, o12_7, o13_11, o13_8, hne⟩ hf hd K hK
    simp only [List.setIfInBounds_toArray, List.set_cons_zero, List.set_cons_succ] at hK ⊢
    replace hK := hid hK
    simp [Region.binds] at hd
    have g6 : f 6 = true := by simp only [hd]
    have e1 := h6.out g6
    subst e1
    go_simp
    exact hK.out _ _ ⟨_, _, _, _, _, _, _, _, _, _, _, _, _, v9, va, rfl, HBW, hid (fun h => h0.out h), hid (fun h => h1.out h), hid (fun h => h2.out h), hid (fun h => h3.out h), hid (fun h => h4.out h), hid (fun h => h5.out h), hid (fun h => h6.out h), hid (fun h => h7.out h), hid (fun h => rfl), hid (fun h => h9.out h), hid (fun h => h10.out h), hid (fun h => h11.out h), hid (fun h => h14.out h), fun h => o6_5 h, fun h => o7_6 h, fun _ => g6, fun h => o9_6 h, fun h => o12_10 h, fun h => o12_7 h, fun h => o13_11 h, fun _ => rfl, fun h => hne h⟩
  case s9 =>
    rintro f a1 w1 ⟨u8, u9, u10, u16, u17, u18, u19, u20, u21, u22, u23, u24, u25, v9, va, rfl, HBW, h0, h1, h2, h3, h4, h5, h6, h7, h8, h9, h10, h11, h14, o6_5, o7_6, o8_6, o9_6, o12_10, o12_7, o13_11, o13_8, hne⟩ hf hd K hK
    simp only [List.setIfInBounds_toArray, List.set_cons_zero, List.set_cons_succ] at hK ⊢
    replace hK := hid hK
    simp [Region.binds] at hd
    have g6 : f 6 = true := by simp only [hd]
    have e1 := h6.out g6
    subst e1
    go_simp
    exact hK.out _ _ ⟨_, _, _, _, _, _, _, _, _, _, _, _, _, v9, va, rfl, HBW, hid (fun h => h0.out h), hid (fun h => h1.out h), hid (fun h => h2.out h), hid (fun h => h3.out h), hid (fun h => h4.out h), hid (fun h => h5.out h), hid (fun h => h6.out h), hid (fun h => h7.out h), hid (fun h => h8.out h), hid (fun h => rfl), hid (fun h => h10.out h), hid (fun h => h11.out h), hid (fun h => h14.out h), fun h => o6_5 h, fun h => o7_6 h, fun h => o8_6 h, fun _ => g6, fun h => o12_10 h, fun h => o12_7 h, fun h => o13_11 h, fun h => o13_8 h, fun h => hne h⟩
  case s10 =>
    rintro f a1 w1 ⟨u8, u9, u10, u16, u17, u18, u19, u20, u21, u22, u23, u24, u25, v9, va, rfl, HBW, h0, h1, h2, h3, h4, h5, h6, h7, h8, h9, h10, h11, h14, o6_5, o7_6, o8_6, o9_6, o12_10, o12_7, o13_11, o13_8, hne⟩ hf hd K hK
    simp only [List.setIfInBounds_toArray, List.set_cons_zero, List.set_cons_succ] at hK ⊢
    replace hK := hid hK
    go_simp
    exact hK.out _ _ ⟨_, _, _, _, _, _, _, _, _, _, _, _, _, v9, va, rfl, hid (below_next HBW.out ((Below.refl _ _).alloc (Nat.le_refl _) _)), hid (fun h => h0.out h), hid (fun h => h1.out h), hid (fun h => (h2.out h).on ((Below.refl _ _).alloc (Nat.le_refl _) _)), hid (fun h => (h3.out h).on ((Below.refl _ _).alloc (Nat.le_refl _) _)), hid (fun h => h4.out h), hid (fun h => ⟨(h5.out h).1, (h5.out h).2.1.on ((Below.refl _ _).alloc (Nat.le_refl _) _), (h5.out h).2.2.on ((Below.refl _ _).alloc (Nat.le_refl _) _)⟩), hid (fun h => h6.out h), hid (fun h => h7.out h), hid (fun h => h8.out h), hid (fun h => h9.out h), hid (fun h => ⟨w1.heap.size, rfl, HBW.out.size, fun _ => Box.new w1 false none 0 0, fun e => absurd (o12_10 e) (by rw [hf]; decide)⟩), hid (fun h => (h11.out h).on ((Below.refl _ _).alloc (Nat.le_refl _) _)), hid (fun h => h14.out h), fun h => o6_5 h, fun h => o7_6 h, fun h => o8_6 h, fun h => o9_6 h, fun _ => rfl, fun h => o12_7 h, fun h => o13_11 h, fun h => o13_8 h, fun _ a e => by obtain ⟨g, e2, hlt⟩ := (h11.out a).lt; rw [e2] at e; cases e; exact absurd hlt (Nat.lt_irrefl _)⟩
  case s11 =>
    rintro f a1 w1 ⟨u8, u9, u10, u16, u17, u18, u19, u20, u21, u22, u23, u24, u25, v9, va, rfl, HBW, h0, h1, h2, h3, h4, h5, h6, h7, h8, h9, h10, h11, h14, o6_5, o7_6, o8_6, o9_6, o12_10, o12_7, o13_11, o13_8, hne⟩ hf hd K hK
    simp only [List.setIfInBounds_toArray, List.set_cons_zero, List.set_cons_succ] at hK ⊢
    replace hK := hid hK
    go_simp
    exact hK.out _ _ ⟨_, _, _, _, _, _, _, _, _, _, _, _, _, v9, va, rfl, hid (below_next HBW.out ((Below.refl _ _).alloc (Nat.le_refl _) _)), hid (fun h => h0.out h), hid (fun h => h1.out h), hid (fun h => (h2.out h).on ((Below.refl _ _).alloc (Nat.le_refl _) _)), hid (fun h => (h3.out h).on ((Below.refl _ _).alloc (Nat.le_refl _) _)), hid (fun h => h4.out h), hid (fun h => ⟨(h5.out h).1, (h5.out h).2.1.on ((Below.refl _ _).alloc (Nat.le_refl _) _), (h5.out h).2.2.on ((Below.refl _ _).alloc (Nat.le_refl _) _)⟩), hid (fun h => h6.out h), hid (fun h => h7.out h), hid (fun h => h8.out h), hid (fun h => h9.out h), hid (fun h => (h10.out h).on ((Below.refl _ _).alloc (Nat.le_refl _) _)), hid (fun h => ⟨w1.heap.size, rfl, HBW.out.size, fun _ => Box.new w1 false none 0 0, fun e => absurd (o13_11 e) (by rw [hf]; decide)⟩), hid (fun h => h14.out h), fun h => o6_5 h, fun h => o7_6 h, fun h => o8_6 h, fun h => o9_6 h, fun h => o12_10 h, fun h => o12_7 h, fun _ => rfl, fun h => o13_8 h, fun a _ e => by obtain ⟨g, e2, hlt⟩ := (h10.out a).lt; rw [e2] at e; cases e; exact absurd hlt (Nat.lt_irrefl _)⟩
  case s12 =>
    rintro f a1 w1 ⟨u8, u9, u10, u16, u17, u18, u19, u20, u21, u22, u23, u24, u25, v9, va, rfl, HBW, h0, h1, h2, h3, h4, h5, h6, h7, h8, h9, h10, h11, h14, o6_5, o7_6, o8_6, o9_6, o12_10, o12_7, o13_11, o13_8, hne⟩ hf hd K hK
    simp only [List.setIfInBounds_toArray, List.set_cons_zero, List.set_cons_succ] at hK ⊢
    replace hK := hid hK
    simp [Region.binds] at hd
    have gx : f 7 = true := by simp only [hd]
    have ga : f 10 = true := by simp only [hd]
    have gb : f 11 = true := by simp only [hd]
    have g3 : f 5 = true := o6_5 (o7_6 gx)
    have hne := hne (by simp only [hd]) (by simp only [hd])
    have e8 := h7.out gx
    subst e8
    obtain ⟨g, rfl, hg, hn, _⟩ := h10.out ga
    replace hn := hn hf
    have hv9 := (h5.out g3).2.1
    obtain ⟨s9, p9, n9, c9, rfl⟩ := hv9.opened
    obtain ⟨c1, c2, c3, c4⟩ := hn.stores
    obtain ⟨n1, n2, n3⟩ := hn.last HBW.out hg s9 p9 n9 c9
    have HN2 := hid (And.intro n1 n2)
    have HV := hid (fun v z k h => @n3 v z k h)
    have HO := hid ((h11.out gb).set (Ne.symm hne) (.bool s9) (.slice p9 n9 c9))
    clear n1 n2 n3
    go_simp
    exact hK.out _ _ ⟨_, _, _, _, _, _, _, _, _, _, _, _, _, _, va, rfl, hid HN2.out.2, hid (fun h => h0.out h), hid (fun h => h1.out h), hid (fun h => HV.out _ _ _ (h2.out h)), hid (fun h => HV.out _ _ _ (h3.out h)), hid (fun h => h4.out h), hid (fun h => ⟨(h5.out h).1, HV.out _ _ _ (h5.out h).2.1, HV.out _ _ _ (h5.out h).2.2⟩), hid (fun h => h6.out h), hid (fun h => h7.out h), hid (fun h => h8.out h), hid (fun h => h9.out h), hid (fun h => ⟨g, rfl, hg, fun e => by simp [more] at e, fun _ => ⟨_, _, _, _, rfl, HN2.out.1⟩⟩), hid (fun h => HO.out), hid (fun h => h14.out h), fun h => o6_5 h, fun h => o7_6 h, fun h => o8_6 h, fun h => o9_6 h, fun _ => ga, fun _ => gx, fun h => o13_11 h, fun h => o13_8 h, fun _ _ => hne⟩
  case s13 =>
    rintro f a1 w1 ⟨u8, u9, u10, u16, u17, u18, u19, u20, u21, u22, u23, u24, u25, v9, va, rfl, HBW, h0, h1, h2, h3, h4, h5, h6, h7, h8, h9, h10, h11, h14, o6_5, o7_6, o8_6, o9_6, o12_10, o12_7, o13_11, o13_8, hne⟩ hf hd K hK
    simp only [List.setIfInBounds_toArray, List.set_cons_zero, List.set_cons_succ] at hK ⊢
    replace hK := hid hK
    simp [Region.binds] at hd
    have gx : f 8 = true := by simp only [hd]
    have ga : f 11 = true := by simp only [hd]
    have gb : f 10 = true := by simp only [hd]
    have g3 : f 5 = true := o6_5 (o8_6 gx)
    have hne := hne (by simp only [hd]) (by simp only [hd])
    have e8 := h8.out gx
    subst e8
    obtain ⟨g, rfl, hg, hn, _⟩ := h11.out ga
    replace hn := hn hf
    have hv9 := (h5.out g3).2.2
    obtain ⟨s9, p9, n9, c9, rfl⟩ := hv9.opened
    obtain ⟨c1, c2, c3, c4⟩ := hn.stores
    obtain ⟨n1, n2, n3⟩ := hn.last HBW.out hg s9 p9 n9 c9
    have HN2 := hid (And.intro n1 n2)
    have HV := hid (fun v z k h => @n3 v z k h)
    have HO := hid ((h10.out gb).set hne (.bool s9) (.slice p9 n9 c9))
    clear n1 n2 n3
    go_simp
    exact hK.out _ _ ⟨_, _, _, _, _, _, _, _, _, _, _, _, _, v9, _, rfl, hid HN2.out.2, hid (fun h => h0.out h), hid (fun h => h1.out h), hid (fun h => HV.out _ _ _ (h2.out h)), hid (fun h => HV.out _ _ _ (h3.out h)), hid (fun h => h4.out h), hid (fun h => ⟨(h5.out h).1, HV.out _ _ _ (h5.out h).2.1, HV.out _ _ _ (h5.out h).2.2⟩), hid (fun h => h6.out h), hid (fun h => h7.out h), hid (fun h => h8.out h), hid (fun h => h9.out h), hid (fun h => HO.out), hid (fun h => ⟨g, rfl, hg, fun e => by simp [more] at e, fun _ => ⟨_, _, _, _, rfl, HN2.out.1⟩⟩), hid (fun h => h14.out h), fun h => o6_5 h, fun h => o7_6 h, fun h => o8_6 h, fun h => o9_6 h, fun h => o12_10 h, fun h => o12_7 h, fun _ => ga, fun _ => gx, fun _ _ => hne⟩
  case s14 =>
    rintro f a1 w1 ⟨u8, u9, u10, u16, u17, u18, u19, u20, u21, u22, u23, u24, u25, v9, va, rfl, HBW, h0, h1, h2, h3, h4, h5, h6, h7, h8, h9, h10, h11, h14, o6_5, o7_6, o8_6, o9_6, o12_10, o12_7, o13_11, o13_8, hne⟩ hf hd K hK
    simp only [List.setIfInBounds_toArray, List.set_cons_zero, List.set_cons_succ] at hK ⊢
    replace hK := hid hK
    simp [Region.binds] at hd
    obtain rfl := h9.out (by simp only [hd])
    go_simp
    exact hK.out _ _ ⟨_, _, _, _, _, _, _, _, _, _, _, _, _, v9, va, rfl, HBW, hid (fun h => h0.out h), hid (fun h => h1.out h), hid (fun h => h2.out h), hid (fun h => h3.out h), hid (fun h => h4.out h), hid (fun h => h5.out h), hid (fun h => h6.out h), hid (fun h => h7.out h), hid (fun h => h8.out h), hid (fun h => rfl), hid (fun h => h10.out h), hid (fun h => h11.out h), hid (fun h => rfl), fun h => o6_5 h, fun h => o7_6 h, fun h => o8_6 h, fun h => o9_6 h, fun h => o12_10 h, fun h => o12_7 h, fun h => o13_11 h, fun h => o13_8 h, fun h => hne h⟩
  case hend =>
    rintro f a1 w1 ⟨u8, u9, u10, u16, u17, u18, u19, u20, u21, u22, u23, u24, u25, v9, va, rfl, HBW, h0, h1, h2, h3, h4, h5, h6, h7, h8, h9, h10, h11, h14, o6_5, o7_6, o8_6, o9_6, o12_10, o12_7, o13_11, o13_8, hne⟩ hall
    simp only [List.setIfInBounds_toArray, List.set_cons_zero, List.set_cons_succ]
    have hne := hne (hall 10 (by decide)) (hall 11 (by decide))
    have hv9 := (h5.out (hall 5 (by decide))).2.1
    have hva := (h5.out (hall 5 (by decide))).2.2
    obtain ⟨g8, rfl, hg8, _, hn8⟩ := h10.out (hall 10 (by decide))
    obtain ⟨g9, rfl, hg9, _, hn9⟩ := h11.out (hall 11 (by decide))
    obtain ⟨s8, p8, n8, c8, rfl, hm8⟩ := hn8 (hall 12 (by decide))
    obtain ⟨s9, p9, n9, c9, rfl, hm9⟩ := hn9 (hall 13 (by decide))
    replace R4 := dx R4 HBW.out
    replace R5 := dx R5 HBW.out
    replace B := bb B HBW.out
    have XU := hid hm8
    have XV := hid hm9
    have HV8 := hid hv9
    rw [HE.out] at hva
    have HV9 := hid hva
    have L8 := hid hg8
    have L9 := hid hg9
    have LR := hid (show w.heap.size + 1 + 1 < W25.heap.size from LQ.out)
    clear h0 h1 h2 h3 h4 h5 h6 h7 h8 h9 h10 h11 h14 o6_5 o7_6 o8_6 o9_6 o12_10 o12_7 o13_11 o13_8 hall hn8 hn9 hm8 hm9 hg8 hg9 hv9 hva HBW hne
    obtain ⟨cc901a, cc901b⟩ := XU.out.both
    obtain ⟨cc902a, cc902b⟩ := XV.out.both
    obtain ⟨cc903a, cc903b, cc903c⟩ := R4.out.cells
    obtain ⟨cc904a, cc904b, cc904c⟩ := R5.out.cells
    obtain ⟨⟨cc905a, cc905b⟩, ⟨cc905c, cc905d⟩, cc905e, cc905f⟩ := R4.out.stores
    obtain ⟨r906a, r906b, r906c⟩ := R4.out.last B.out (by have := L8.out; have := L9.out; have := LR.out; omega) s8 p8 n8 c8 (n : Int)
    replace XU := hid (((XU.out.other (g2 := w.heap.size + 1) (by have := L8.out; have := L9.out; have := LR.out; omega) 0 (.bool s8)).other (g2 := w.heap.size + 1) (by have := L8.out; have := L9.out; have := LR.out; omega) 1 (.slice p8 n8 c8)).other (g2 := w.heap.size + 1) (by have := L8.out; have := L9.out; have := LR.out; omega) 2 (.int .i64 (n : Int)))
    replace XV := hid (((XV.out.other (g2 := w.heap.size + 1) (by have := L8.out; have := L9.out; have := LR.out; omega) 0 (.bool s8)).other (g2 := w.heap.size + 1) (by have := L8.out; have := L9.out; have := LR.out; omega) 1 (.slice p8 n8 c8)).other (g2 := w.heap.size + 1) (by have := L8.out; have := L9.out; have := LR.out; omega) 2 (.int .i64 (n : Int)))
    replace R5 := hid (((R5.out.other (g2 := w.heap.size + 1) (by have := L8.out; have := L9.out; have := LR.out; omega) 0 (.bool s8)).other (g2 := w.heap.size + 1) (by have := L8.out; have := L9.out; have := LR.out; omega) 1 (.slice p8 n8 c8)).other (g2 := w.heap.size + 1) (by have := L8.out; have := L9.out; have := LR.out; omega) 2 (.int .i64 (n : Int)))
    replace HV8 := hid (r906c HV8.out)
    replace HV9 := hid (r906c HV9.out)
    replace R4 := hid r906a
    replace B := hid r906b
    clear r906a r906b r906c
    obtain ⟨cc907a, cc907b⟩ := XU.out.both
    obtain ⟨cc908a, cc908b⟩ := XV.out.both
    obtain ⟨cc909a, cc909b, cc909c⟩ := R4.out.cells
    obtain ⟨cc910a, cc910b, cc910c⟩ := R5.out.cells
    go_wp2_with fail
    have HS := sgn_whl HV9.out
    rw [show (0 : Int).sign = 0 from rfl] at HS
    refine (HS).mono ?_
    rintro e w911 ⟨rfl, hb⟩
    replace XU := bx XU hb
    replace XV := bx XV hb
    replace R4 := dx R4 hb
    replace R5 := dx R5 hb
    replace HV8 := wl HV8 hb
    replace HV9 := wl HV9 hb
    replace B := bb B hb
    clear cc901a cc901b cc902a cc902b cc903a cc903b cc903c cc904a cc904b cc904c cc905a cc905b cc905c cc905d cc905e cc905f cc907a cc907b cc908a cc908b cc909a cc909b cc909c cc910a cc910b cc910c
    clear hb 
    clear HS
    obtain ⟨cc912a, cc912b⟩ := XU.out.both
    obtain ⟨cc913a, cc913b⟩ := XV.out.both
    obtain ⟨cc914a, cc914b, cc914c⟩ := R4.out.cells
    obtain ⟨cc915a, cc915b, cc915c⟩ := R5.out.cells
    obtain ⟨⟨cc916a, cc916b⟩, ⟨cc916c, cc916d⟩, cc916e, cc916f⟩ := R4.out.stores
    obtain ⟨r917a, r917b, r917c⟩ := R4.out.last B.out (by have := L8.out; have := L9.out; have := LR.out; omega) s8 p8 n8 c8 (n : Int)
    replace XU := hid (((XU.out.other (g2 := w.heap.size + 1) (by have := L8.out; have := L9.out; have := LR.out; omega) 0 (.bool s8)).other (g2 := w.heap.size + 1) (by have := L8.out; have := L9.out; have := LR.out; omega) 1 (.slice p8 n8 c8)).other (g2 := w.heap.size + 1) (by have := L8.out; have := L9.out; have := LR.out; omega) 2 (.int .i64 (n : Int)))
    replace XV := hid (((XV.out.other (g2 := w.heap.size + 1) (by have := L8.out; have := L9.out; have := LR.out; omega) 0 (.bool s8)).other (g2 := w.heap.size + 1) (by have := L8.out; have := L9.out; have := LR.out; omega) 1 (.slice p8 n8 c8)).other (g2 := w.heap.size + 1) (by have := L8.out; have := L9.out; have := LR.out; omega) 2 (.int .i64 (n : Int)))
    replace R5 := hid (((R5.out.other (g2 := w.heap.size + 1) (by have := L8.out; have := L9.out; have := LR.out; omega) 0 (.bool s8)).other (g2 := w.heap.size + 1) (by have := L8.out; have := L9.out; have := LR.out; omega) 1 (.slice p8 n8 c8)).other (g2 := w.heap.size + 1) (by have := L8.out; have := L9.out; have := LR.out; omega) 2 (.int .i64 (n : Int)))
    replace HV8 := hid (r917c HV8.out)
    replace HV9 := hid (r917c HV9.out)
    replace R4 := hid r917a
    replace B := hid r917b
    clear r917a r917b r917c
    obtain ⟨cc918a, cc918b⟩ := XU.out.both
    obtain ⟨cc919a, cc919b⟩ := XV.out.both
    obtain ⟨cc920a, cc920b, cc920c⟩ := R4.out.cells
    obtain ⟨cc921a, cc921b, cc921c⟩ := R5.out.cells
    obtain ⟨⟨cc922a, cc922b⟩, ⟨cc922c, cc922d⟩, cc922e, cc922f⟩ := R5.out.stores
    obtain ⟨r923a, r923b, r923c⟩ := R5.out.last B.out (by have := L8.out; have := L9.out; have := LR.out; omega) s8 p8 n8 c8 (n : Int)
    replace XU := hid (((XU.out.other (g2 := w.heap.size + 1 + 1) (by have := L8.out; have := L9.out; have := LR.out; omega) 0 (.bool s8)).other (g2 := w.heap.size + 1 + 1) (by have := L8.out; have := L9.out; have := LR.out; omega) 1 (.slice p8 n8 c8)).other (g2 := w.heap.size + 1 + 1) (by have := L8.out; have := L9.out; have := LR.out; omega) 2 (.int .i64 (n : Int)))
    replace XV := hid (((XV.out.other (g2 := w.heap.size + 1 + 1) (by have := L8.out; have := L9.out; have := LR.out; omega) 0 (.bool s8)).other (g2 := w.heap.size + 1 + 1) (by have := L8.out; have := L9.out; have := LR.out; omega) 1 (.slice p8 n8 c8)).other (g2 := w.heap.size + 1 + 1) (by have := L8.out; have := L9.out; have := LR.out; omega) 2 (.int .i64 (n : Int)))
    replace R4 := hid (((R4.out.other (g2 := w.heap.size + 1 + 1) (by have := L8.out; have := L9.out; have := LR.out; omega) 0 (.bool s8)).other (g2 := w.heap.size + 1 + 1) (by have := L8.out; have := L9.out; have := LR.out; omega) 1 (.slice p8 n8 c8)).other (g2 := w.heap.size + 1 + 1) (by have := L8.out; have := L9.out; have := LR.out; omega) 2 (.int .i64 (n : Int)))
    replace HV8 := hid (r923c HV8.out)
    replace HV9 := hid (r923c HV9.out)
    replace R5 := hid r923a
    replace B := hid r923b
    clear r923a r923b r923c
    obtain ⟨cc924a, cc924b⟩ := XU.out.both
    obtain ⟨cc925a, cc925b⟩ := XV.out.both
    obtain ⟨cc926a, cc926b, cc926c⟩ := R4.out.cells
    obtain ⟨cc927a, cc927b, cc927c⟩ := R5.out.cells
    go_wp2_with fail
    refine bodyPost_ret (res_dd rfl rfl rfl R4.out R5.out) rfl ?_
    exact ⟨_, _, rfl, Dcl.mk1 (HV8.out.mono (by decide)), (by rw [highu, if_pos HE.out]; exact Dcl.mk1 (HV8.out.mono (by decide))), B.out⟩

set_option maxHeartbeats 8000000 in
theorem around_odd {w : World} {v : Value} {q : Rat} {n : Nat} (h : Rtl w v q 100) (hn : n ≤ 30) (he : ¬ resu q n = 0) :
    Calls Try.prog 57 #[v, .int .i64 (n : Int)] w fun e w' => ∃ v u, e = .returned (.tuple #[v, u]) ∧ Dcl w' v (lowu q n) n 106 ∧ Dcl w' u (highu q n) n 106 ∧ Below w.heap.size w w' := by
  obtain ⟨s1a, p1a, n1a, c1a, s1b, p1b, n1b, c1b, rfl⟩ := h.opened
  obtain ⟨ht1, d1, hu1, hd1⟩ := h.two
  have HD1 := hid hd1
  have HN := hid hn
  have HE := hid he
  have B := hid (Below.refl w.heap.size w)
  have HT1 := hid ht1
  have HU1 := hid hu1
  have hb1 := (Below.refl _ _).alloc (Nat.le_refl w.heap.size) (.cells #[.bool s1a, .slice p1a n1a c1a, .bool s1b, .slice p1b n1b c1b] 51)
  have hx2 := Nbx.new w s1a s1b (.slice p1a n1a c1a) (.slice p1b n1b c1b)
  replace HT1 := wl HT1 hb1
  replace HU1 := wl HU1 hb1
  replace B := bb B hb1
  have X1 := hid hx2
  have hs3 : (w.alloc (.cells #[.bool s1a, .slice p1a n1a c1a, .bool s1b, .slice p1b n1b c1b] 51)).heap.size = w.heap.size + 1 := by simp
  clear hb1 hx2
  have hb4 := (Below.refl _ _).alloc (Nat.le_refl (w.alloc (.cells #[.bool s1a, .slice p1a n1a c1a, .bool s1b, .slice p1b n1b c1b] 51)).heap.size) (.cells #[.bool false, .slice none 0 0, .int .i64 0] 80)
  have hx5 := Dbx.new (w.alloc (.cells #[.bool s1a, .slice p1a n1a c1a, .bool s1b, .slice p1b n1b c1b] 51)) false none 0 0 0
  rw [hs3] at hx5
  replace X1 := nx X1 hb4
  replace HT1 := wl HT1 hb4
  replace HU1 := wl HU1 hb4
  replace B := bb B hb4
  have R4 := hid hx5
  have hs6 : ((w.alloc (.cells #[.bool s1a, .slice p1a n1a c1a, .bool s1b, .slice p1b n1b c1b] 51)).alloc (.cells #[.bool false, .slice none 0 0, .int .i64 0] 80)).heap.size = w.heap.size + 1 + 1 := by simp [hs3]
  clear hb4 hx5
  have hb7 := (Below.refl _ _).alloc (Nat.le_refl ((w.alloc (.cells #[.bool s1a, .slice p1a n1a c1a, .bool s1b, .slice p1b n1b c1b] 51)).alloc (.cells #[.bool false, .slice none 0 0, .int .i64 0] 80)).heap.size) (.cells #[.bool false, .slice none 0 0, .int .i64 0] 80)
  have hx8 := Dbx.new ((w.alloc (.cells #[.bool s1a, .slice p1a n1a c1a, .bool s1b, .slice p1b n1b c1b] 51)).alloc (.cells #[.bool false, .slice none 0 0, .int .i64 0] 80)) false none 0 0 0
  rw [hs6] at hx8
  replace X1 := nx X1 hb7
  replace R4 := dx R4 hb7
  replace HT1 := wl HT1 hb7
  replace HU1 := wl HU1 hb7
  replace B := bb B hb7
  have R5 := hid hx8
  have hs9 : (((w.alloc (.cells #[.bool s1a, .slice p1a n1a c1a, .bool s1b, .slice p1b n1b c1b] 51)).alloc (.cells #[.bool false, .slice none 0 0, .int .i64 0] 80)).alloc (.cells #[.bool false, .slice none 0 0, .int .i64 0] 80)).heap.size = w.heap.size + 1 + 1 + 1 := by simp [hs6]
  clear hb7 hx8
  clear hs9 h ht1 hu1 hd1 hn he
  go_enter Try.func57, Try.ntmps57
  obtain ⟨cc10a, cc10b, cc10c, cc10d⟩ := X1.out.cells
  obtain ⟨cc11a, cc11b, cc11c⟩ := R4.out.cells
  obtain ⟨cc12a, cc12b, cc12c⟩ := R5.out.cells
  go_wp2_with fail
  generalize hW : ((w.alloc (.cells #[.bool s1a, .slice p1a n1a c1a, .bool s1b, .slice p1b n1b c1b] 51)).alloc (.cells #[.bool false, .slice none 0 0, .int .i64 0] 80)).alloc (.cells #[.bool false, .slice none 0 0, .int .i64 0] 80) = W13 at *
  clear hW
  refine (parts_rtl (Rtl.mk2 HT1.out HU1.out HD1.out) (by decide)).mono ?_
  rintro e w14 ⟨v, u, rfl, hv, hu, hb⟩
  obtain ⟨s3, p3, n3, c3, rfl⟩ := hv.opened
  obtain ⟨s4, p4, n4, c4, rfl⟩ := hu.opened
  replace R4 := dx R4 hb
  replace R5 := dx R5 hb
  replace B := bb B hb
  clear cc10a cc10b cc10c cc10d cc11a cc11b cc11c cc12a cc12b cc12c
  have HA := hid hv
  have HB := hid hu
  clear hb hv hu
  have hb15 := (Below.refl _ _).alloc (Nat.le_refl w14.heap.size) (.cells #[.bool s3, .slice p3 n3 c3] 49)
  have hx16 := Box.new w14 s3 p3 n3 c3
  have L0 := hid R5.out.lt
  replace R4 := dx R4 hb15
  replace R5 := dx R5 hb15
  replace HA := wl HA hb15
  replace HB := wl HB hb15
  replace B := bb B hb15
  have XA := hid hx16
  have hs17 : (w14.alloc (.cells #[.bool s3, .slice p3 n3 c3] 49)).heap.size = w14.heap.size + 1 := by simp
  clear hb15 hx16
  have hb18 := (Below.refl _ _).alloc (Nat.le_refl (w14.alloc (.cells #[.bool s3, .slice p3 n3 c3] 49)).heap.size) (.cells #[.bool s4, .slice p4 n4 c4] 49)
  have hx19 := Box.new (w14.alloc (.cells #[.bool s3, .slice p3 n3 c3] 49)) s4 p4 n4 c4
  rw [hs17] at hx19
  replace R4 := dx R4 hb18
  replace R5 := dx R5 hb18
  replace XA := bx XA hb18
  replace HA := wl HA hb18
  replace HB := wl HB hb18
  replace B := bb B hb18
  have XB := hid hx19
  have hs20 : ((w14.alloc (.cells #[.bool s3, .slice p3 n3 c3] 49)).alloc (.cells #[.bool s4, .slice p4 n4 c4] 49)).heap.size = w14.heap.size + 1 + 1 := by simp [hs17]
  clear hb18 hx19
  obtain ⟨cc21a, cc21b, cc21c⟩ := R4.out.cells
  obtain ⟨cc22a, cc22b, cc22c⟩ := R5.out.cells
  obtain ⟨cc23a, cc23b⟩ := XA.out.both
  obtain ⟨cc24a, cc24b⟩ := XB.out.both
  go_wp2_with fail
  generalize hW : (w14.alloc (.cells #[.bool s3, .slice p3 n3 c3] 49)).alloc (.cells #[.bool s4, .slice p4 n4 c4] 49) = W25 at *
  clear hW
  clear cc21a cc21b cc21c cc22a cc22b cc22c cc23a cc23b cc24a cc24b
  have LQ := hid R5.out.lt
  refine region_ops (by kernel_rfl) (by kernel_rfl) (fun a f a' w' => ∃ u8 u9 u10 u16 u17 u18 u19 u20 u21 u22 u23 u24 u25 v9 va : Value, a' = { tmps := (((((((((((((a.tmps.setIfInBounds 8 u8).setIfInBounds 9 u9).setIfInBounds 10 u10).setIfInBounds 16 u16).setIfInBounds 17 u17).setIfInBounds 18 u18).setIfInBounds 19 u19).setIfInBounds 20 u20).setIfInBounds 21 u21).setIfInBounds 22 u22).setIfInBounds 23 u23).setIfInBounds 24 u24).setIfInBounds 25 u25), defers := a.defers } ∧ Hid (Below W25.heap.size W25 w') ∧ Hid (f 0 = true → u17 = (.agg #[.bool s3, .slice p3 n3 c3])) ∧ Hid (f 1 = true → u18 = .int .i64 (n : Int)) ∧ Hid (f 2 = true → Whl w' u19 (pten n : Int) 4) ∧ Hid (f 3 = true → Whl w' u20 (q.num * (pten n : Int)) 104) ∧ Hid (f 4 = true → u21 = (.agg #[.bool s4, .slice p4 n4 c4])) ∧ Hid (f 5 = true → (u22 = .tuple #[v9, va, .nilIface] ∧ Whl w' v9 (lowu q n) 105 ∧ Whl w' va (resu q n) 100)) ∧ Hid (f 6 = true → u16 = .tuple #[v9, va, .nilIface]) ∧ Hid (f 7 = true → u23 = v9) ∧ Hid (f 8 = true → u24 = va) ∧ Hid (f 9 = true → u25 = .nilIface) ∧ Hid (f 10 = true → NewI W25 w' u8 (f 12) v9) ∧ Hid (f 11 = true → NewI W25 w' u9 (f 13) va) ∧ Hid (f 14 = true → u10 = .nilIface) ∧ (f 6 = true → f 5 = true) ∧ (f 7 = true → f 6 = true) ∧ (f 8 = true → f 6 = true) ∧ (f 9 = true → f 6 = true) ∧ (f 12 = true → f 10 = true) ∧ (f 12 = true → f 7 = true) ∧ (f 13 = true → f 11 = true) ∧ (f 13 = true → f 8 = true) ∧ (f 10 = true → f 11 = true → u8 ≠ u9)) ?h0 ⟨?s0, ?s1, ?s2, ?s3, ?s4, ?s5, ?s6, ?s7, ?s8, ?s9, ?s10, ?s11, ?s12, ?s13, ?s14, trivial⟩ ?hend
  case h0 =>
    simp only [List.setIfInBounds_toArray, List.set_cons_zero, List.set_cons_succ]
    exact ⟨_, _, _, _, _, _, _, _, _, _, _, _, _, .nilIface, .nilIface, rfl, hid (Below.drew (Below.refl _ _)), hid (fun h => by cases h), hid (fun h => by cases h), hid (fun h => by cases h), hid (fun h => by cases h), hid (fun h => by cases h), hid (fun h => by cases h), hid (fun h => by cases h), hid (fun h => by cases h), hid (fun h => by cases h), hid (fun h => by cases h), hid (fun h => by cases h), hid (fun h => by cases h), hid (fun h => by cases h), fun h => h, fun h => h, fun h => h, fun h => h, fun h => h, fun h => h, fun h => h, fun h => h, fun h => by cases h⟩
  case s0 =>
    rintro f a1 w1 ⟨u8, u9, u10, u16, u17, u18, u19, u20, u21, u22, u23, u24, u25, v9, va, rfl, HBW, h0, h1, h2, h3, h4, h5, h6, h7, h8, h9, h10, h11, h14, o6_5, o7_6, o8_6, o9_6, o12_10, o12_7, o13_11, o13_8, hne⟩ hf hd K hK
    simp only [List.setIfInBounds_toArray, List.set_cons_zero, List.set_cons_succ] at hK ⊢
    replace hK := hid hK
    obtain ⟨y1, y2⟩ := (XA.out.below HBW.out XA.out.lt).both
    go_simp
    exact hK.out _ _ ⟨_, _, _, _, _, _, _, _, _, _, _, _, _, v9, va, rfl, HBW, hid (fun h => rfl), hid (fun h => h1.out h), hid (fun h => h2.out h), hid (fun h => h3.out h), hid (fun h => h4.out h), hid (fun h => h5.out h), hid (fun h => h6.out h), hid (fun h => h7.out h), hid (fun h => h8.out h), hid (fun h => h9.out h), hid (fun h => h10.out h), hid (fun h => h11.out h), hid (fun h => h14.out h), fun h => o6_5 h, fun h => o7_6 h, fun h => o8_6 h, fun h => o9_6 h, fun h => o12_10 h, fun h => o12_7 h, fun h => o13_11 h, fun h => o13_8 h, fun h => hne h⟩
  case s1 =>
    rintro f a1 w1 ⟨u8, u9, u10, u16, u17, u18, u19, u20, u21, u22, u23, u24, u25, v9, va, rfl, HBW, h0, h1, h2, h3, h4, h5, h6, h7, h8, h9, h10, h11, h14, o6_5, o7_6, o8_6, o9_6, o12_10, o12_7, o13_11, o13_8, hne⟩ hf hd K hK
    simp only [List.setIfInBounds_toArray, List.set_cons_zero, List.set_cons_succ] at hK ⊢
    replace hK := hid hK
    go_simp
    exact hK.out _ _ ⟨_, _, _, _, _, _, _, _, _, _, _, _, _, v9, va, rfl, HBW, hid (fun h => h0.out h), hid (fun h => rfl), hid (fun h => h2.out h), hid (fun h => h3.out h), hid (fun h => h4.out h), hid (fun h => h5.out h), hid (fun h => h6.out h), hid (fun h => h7.out h), hid (fun h => h8.out h), hid (fun h => h9.out h), hid (fun h => h10.out h), hid (fun h => h11.out h), hid (fun h => h14.out h), fun h => o6_5 h, fun h => o7_6 h, fun h => o8_6 h, fun h => o9_6 h, fun h => o12_10 h, fun h => o12_7 h, fun h => o13_11 h, fun h => o13_8 h, fun h => hne h⟩
  case s2 =>
    rintro f a1 w1 ⟨u8, u9, u10, u16, u17, u18, u19, u20, u21, u22, u23, u24, u25, v9, va, rfl, HBW, h0, h1, h2, h3, h4, h5, h6, h7, h8, h9, h10, h11, h14, o6_5, o7_6, o8_6, o9_6, o12_10, o12_7, o13_11, o13_8, hne⟩ hf hd K hK
    simp only [List.setIfInBounds_toArray, List.set_cons_zero, List.set_cons_succ] at hK ⊢
    replace hK := hid hK
    simp [Region.binds] at hd
    obtain rfl := h1.out (by simp only [hd])
    go_simp
    refine (pot_whl n HN.out _).mono ?_
    rintro e w2 ⟨v, rfl, hv, hb⟩
    go_wp2_with fail
    exact hK.out _ _ ⟨_, _, _, _, _, _, _, _, _, _, _, _, _, v9, va, rfl, hid (below_next HBW.out hb), hid (fun h => h0.out h), hid (fun h => rfl), hid (fun h => hv), hid (fun h => (h3.out h).on hb), hid (fun h => h4.out h), hid (fun h => ⟨(h5.out h).1, (h5.out h).2.1.on hb, (h5.out h).2.2.on hb⟩), hid (fun h => h6.out h), hid (fun h => h7.out h), hid (fun h => h8.out h), hid (fun h => h9.out h), hid (fun h => (h10.out h).on hb), hid (fun h => (h11.out h).on hb), hid (fun h => h14.out h), fun h => o6_5 h, fun h => o7_6 h, fun h => o8_6 h, fun h => o9_6 h, fun h => o12_10 h, fun h => o12_7 h, fun h => o13_11 h, fun h => o13_8 h, fun h => hne h⟩
  case s3 =>
    rintro f a1 w1 ⟨u8, u9, u10, u16, u17, u18, u19, u20, u21, u22, u23, u24, u25, v9, va, rfl, HBW, h0, h1, h2, h3, h4, h5, h6, h7, h8, h9, h10, h11, h14, o6_5, o7_6, o8_6, o9_6, o12_10, o12_7, o13_11, o13_8, hne⟩ hf hd K hK
    simp only [List.setIfInBounds_toArray, List.set_cons_zero, List.set_cons_succ] at hK ⊢
    replace hK := hid hK
    simp [Region.binds] at hd
    obtain rfl := h0.out (by simp only [hd])
    go_simp
    refine (mul_whl (HA.out.below HBW.out (Nat.le_refl _)) (h2.out (by simp only [hd])) (by decide) (by decide)).mono ?_
    rintro e w2 ⟨v, rfl, hv, hb⟩
    go_wp2_with fail
    exact hK.out _ _ ⟨_, _, _, _, _, _, _, _, _, _, _, _, _, v9, va, rfl, hid (below_next HBW.out hb), hid (fun h => rfl), hid (fun h => h1.out h), hid (fun h => (h2.out h).on hb), hid (fun h => hv), hid (fun h => h4.out h), hid (fun h => ⟨(h5.out h).1, (h5.out h).2.1.on hb, (h5.out h).2.2.on hb⟩), hid (fun h => h6.out h), hid (fun h => h7.out h), hid (fun h => h8.out h), hid (fun h => h9.out h), hid (fun h => (h10.out h).on hb), hid (fun h => (h11.out h).on hb), hid (fun h => h14.out h), fun h => o6_5 h, fun h => o7_6 h, fun h => o8_6 h, fun h => o9_6 h, fun h => o12_10 h, fun h => o12_7 h, fun h => o13_11 h, fun h => o13_8 h, fun h => hne h⟩
  case s4 =>
    rintro f a1 w1 ⟨u8, u9, u10, u16, u17, u18, u19, u20, u21, u22, u23, u24, u25, v9, va, rfl, HBW, h0, h1, h2, h3, h4, h5, h6, h7, h8, h9, h10, h11, h14, o6_5, o7_6, o8_6, o9_6, o12_10, o12_7, o13_11, o13_8, hne⟩ hf hd K hK
    simp only [List.setIfInBounds_toArray, List.set_cons_zero, List.set_cons_succ] at hK ⊢
    replace hK := hid hK
    obtain ⟨y1, y2⟩ := (XB.out.below HBW.out XB.out.lt).both
    go_simp
    exact hK.out _ _ ⟨_, _, _, _, _, _, _, _, _, _, _, _, _, v9, va, rfl, HBW, hid (fun h => h0.out h), hid (fun h => h1.out h), hid (fun h => h2.out h), hid (fun h => h3.out h), hid (fun h => rfl), hid (fun h => h5.out h), hid (fun h => h6.out h), hid (fun h => h7.out h), hid (fun h => h8.out h), hid (fun h => h9.out h), hid (fun h => h10.out h), hid (fun h => h11.out h), hid (fun h => h14.out h), fun h => o6_5 h, fun h => o7_6 h, fun h => o8_6 h, fun h => o9_6 h, fun h => o12_10 h, fun h => o12_7 h, fun h => o13_11 h, fun h => o13_8 h, fun h => hne h⟩
  case s5 =>
    rintro f a1 w1 ⟨u8, u9, u10, u16, u17, u18, u19, u20, u21, u22, u23, u24, u25, v9, va, rfl, HBW, h0, h1, h2, h3, h4, h5, h6, h7, h8, h9, h10, h11, h14, o6_5, o7_6, o8_6, o9_6, o12_10, o12_7, o13_11, o13_8, hne⟩ hf hd K hK
    simp only [List.setIfInBounds_toArray, List.set_cons_zero, List.set_cons_succ] at hK ⊢
    replace hK := hid hK
    simp [Region.binds] at hd
    obtain rfl := h4.out (by simp only [hd])
    go_simp
    refine (div_whl (h3.out (by simp only [hd])) (HB.out.below HBW.out (Nat.le_refl _)) (den_ne q) (by decide) (by decide)).mono ?_
    rintro e w2 ⟨v, u, rfl, hv, hu, hb⟩
    go_wp2_with fail
    exact hK.out _ _ ⟨_, _, _, _, _, _, _, _, _, _, _, _, _, v, u, rfl, hid (below_next HBW.out hb), hid (fun h => h0.out h), hid (fun h => h1.out h), hid (fun h => (h2.out h).on hb), hid (fun h => (h3.out h).on hb), hid (fun h => rfl), hid (fun h => ⟨rfl, hv, hu⟩), hid (fun h => absurd (o6_5 h) (by rw [hf]; decide)), hid (fun h => absurd (o6_5 (o7_6 h)) (by rw [hf]; decide)), hid (fun h => absurd (o6_5 (o8_6 h)) (by rw [hf]; decide)), hid (fun h => h9.out h), hid (fun h => ((h10.out h).on hb).free (by cases e : f 12 with | false => rfl | true => exact absurd (o6_5 (o7_6 (o12_7 e))) (by rw [hf]; decide))), hid (fun h => ((h11.out h).on hb).free (by cases e : f 13 with | false => rfl | true => exact absurd (o6_5 (o8_6 (o13_8 e))) (by rw [hf]; decide))), hid (fun h => h14.out h), fun _ => rfl, fun h => o7_6 h, fun h => o8_6 h, fun h => o9_6 h, fun h => o12_10 h, fun h => o12_7 h, fun h => o13_11 h, fun h => o13_8 h, fun h => hne h⟩
  case s6 =>
    rintro f a1 w1 ⟨u8, u9, u10, u16, u17, u18, u19, u20, u21, u22, u23, u24, u25, v9, va, rfl, HBW, h0, h1, h2, h3, h4, h5, h6, h7, h8, h9, h10, h11, h14, o6_5, o7_6, o8_6, o9_6, o12_10, o12_7, o13_11, o13_8, hne⟩ hf hd K hK
    simp only [List.setIfInBounds_toArray, List.set_cons_zero, List.set_cons_succ] at hK ⊢
    replace hK := hid hK
    simp [Region.binds] at hd
    have g5 : f 5 = true := by simp only [hd]
    obtain ⟨rfl, e2⟩ := h5.out g5
    go_simp
    exact hK.out _ _ ⟨_, _, _, _, _, _, _, _, _, _, _, _, _, v9, va, rfl, HBW, hid (fun h => h0.out h), hid (fun h => h1.out h), hid (fun h => h2.out h), hid (fun h => h3.out h), hid (fun h => h4.out h), hid (fun h => ⟨rfl, e2⟩), hid (fun h => rfl), hid (fun h => h7.out h), hid (fun h => h8.out h), hid (fun h => h9.out h), hid (fun h => h10.out h), hid (fun h => h11.out h), hid (fun h => h14.out h), fun _ => g5, fun _ => rfl, fun _ => rfl, fun _ => rfl, fun h => o12_10 h, fun h => o12_7 h, fun h => o13_11 h, fun h => o13_8 h, fun h => hne h⟩
  case s7 =>
    rintro f a1 w1 ⟨u8, u9, u10, u16, u17, u18, u19, u20, u21, u22, u23, u24, u25, v9, va, rfl, HBW, h0, h1, h2, h3, h4, h5, h6, h7, h8, h9, h10, h11, h14, o6_5, o7_6, o8_6, o9_6, o12_10, o12_7, o13_11, o13_8, hne⟩ hf hd K hK
    simp only [List.setIfInBounds_toArray, List.set_cons_zero, List.set_cons_succ] at hK ⊢
    replace hK := hid hK
    simp [Region.binds] at hd
    have g6 : f 6 = true := by simp only [hd]
    have e1 := h6.out g6
    subst e1
    go_simp
    exact hK.out _ _ ⟨_, _, _, _, _, _, _, _, _, _, _, _, _, v9, va, rfl, HBW, hid (fun h => h0.out h), hid (fun h => h1.out h), hid (fun h => h2.out h), hid (fun h => h3.out h), hid (fun h => h4.out h), hid (fun h => h5.out h), hid (fun h => h6.out h), hid (fun h => rfl), hid (fun h => h8.out h), hid (fun h => h9.out h), hid (fun h => h10.out h), hid (fun h => h11.out h), hid (fun h => h14.out h), fun h => o6_5 h, fun _ => g6, fun h => o8_6 h, fun h => o9_6 h, fun h => o12_10 h, fun _ => rfl, fun h => o13_11 h, fun h => o13_8 h, fun h => hne h⟩
  case s8 =>
    rintro f a1 w1 ⟨u8, u9, u10, u16, u17, u18, u19, u20, u21, u22, u23, u24, u25, v9, va, rfl, HBW, h0, h1, h2, h3, h4, h5, h6, h7, h8, h9, h10, h11, h14, o6_5, o7_6, o8_6, o9_6, o12_10, o12_7, o13_11, o13_8, hne⟩ hf hd K hK
    simp only [List.setIfInBounds_toArray, List.set_cons_zero, List.set_cons_succ] at hK ⊢
    replace hK := hid hK
    simp [Region.binds] at hd
    have g6 : f 6 = true := by simp only [hd]
    have e1 := h6.out g6
    subst e1
    go_simp
    exact hK.out _ _ ⟨_, _, _, _, _, _, _, _, _, _, _, _, _, v9, va, rfl, HBW, hid (fun h => h0.out h), hid (fun h => h1.out h), hid (fun h => h2.out h), hid (fun h => h3.out h), hid (fun h => h4.out h), hid (fun h => h5.out h), hid (fun h => h6.out h), hid (fun h => h7.out h), hid (fun h => rfl), hid (fun h => h9.out h), hid (fun h => h10.out h), hid (fun h => h11.out h), hid (fun h => h14.out h), fun h => o6_5 h, fun h => o7_6 h, fun _ => g6, fun h => o9_6 h, fun h => o12_10 h, fun h => o12_7 h, fun h => o13_11 h, fun _ => rfl, fun h => hne h⟩
  case s9 =>
    rintro f a1 w1 ⟨u8, u9, u10, u16, u17, u18, u19, u20, u21, u22, u23, u24, u25, v9, va, rfl, HBW, h0, h1, h2, h3, h4, h5, h6, h7, h8, h9, h10, h11, h14, o6_5, o7_6, o8_6, o9_6, o12_10, o12_7, o13_11, o13_8, hne⟩ hf hd K hK
    simp only [List.setIfInBounds_toArray, List.set_cons_zero, List.set_cons_succ] at hK ⊢
    replace hK := hid hK
    simp [Region.binds] at hd
    have g6 : f 6 = true := by simp only [hd]
    have e1 := h6.out g6
    subst e1
    go_simp
    exact hK.out _ _ ⟨_, _, _, _, _, _, _, _, _, _, _, _, _, v9, va, rfl, HBW, hid (fun h => h0.out h), hid (fun h => h1.out h), hid (fun h => h2.out h), hid (fun h => h3.out h), hid (fun h => h4.out h), hid (fun h => h5.out h), hid (fun h => h6.out h), hid (fun h => h7.out h), hid (fun h => h8.out h), hid (fun h => rfl), hid (fun h => h10.out h), hid (fun h => h11.out h), hid (fun h => h14.out h), fun h => o6_5 h, fun h => o7_6 h, fun h => o8_6 h, fun _ => g6, fun h => o12_10 h, fun h => o12_7 h, fun h => o13_11 h, fun h => o13_8 h, fun h => hne h⟩
  case s10 =>
    rintro f a1 w1 ⟨u8, u9, u10, u16, u17, u18, u19, u20, u21, u22, u23, u24, u25, v9, va, rfl, HBW, h0, h1, h2, h3, h4, h5, h6, h7, h8, h9, h10, h11, h14, o6_5, o7_6, o8_6, o9_6, o12_10, o12_7, o13_11, o13_8, hne⟩ hf hd K hK
    simp only [List.setIfInBounds_toArray, List.set_cons_zero, List.set_cons_succ] at hK ⊢
    replace hK := hid hK
    go_simp
    exact hK.out _ _ ⟨_, _, _, _, _, _, _, _, _, _, _, _, _, v9, va, rfl, hid (below_next HBW.out ((Below.refl _ _).alloc (Nat.le_refl _) _)), hid (fun h => h0.out h), hid (fun h => h1.out h), hid (fun h => (h2.out h).on ((Below.refl _ _).alloc (Nat.le_refl _) _)), hid (fun h => (h3.out h).on ((Below.refl _ _).alloc (Nat.le_refl _) _)), hid (fun h => h4.out h), hid (fun h => ⟨(h5.out h).1, (h5.out h).2.1.on ((Below.refl _ _).alloc (Nat.le_refl _) _), (h5.out h).2.2.on ((Below.refl _ _).alloc (Nat.le_refl _) _)⟩), hid (fun h => h6.out h), hid (fun h => h7.out h), hid (fun h => h8.out h), hid (fun h => h9.out h), hid (fun h => ⟨w1.heap.size, rfl, HBW.out.size, fun _ => Box.new w1 false none 0 0, fun e => absurd (o12_10 e) (by rw [hf]; decide)⟩), hid (fun h => (h11.out h).on ((Below.refl _ _).alloc (Nat.le_refl _) _)), hid (fun h => h14.out h), fun h => o6_5 h, fun h => o7_6 h, fun h => o8_6 h, fun h => o9_6 h, fun _ => rfl, fun h => o12_7 h, fun h => o13_11 h, fun h => o13_8 h, fun _ a e => by obtain ⟨g, e2, hlt⟩ := (h11.out a).lt; rw [e2] at e; cases e; exact absurd hlt (Nat.lt_irrefl _)⟩
  case s11 =>
    rintro f a1 w1 ⟨u8, u9, u10, u16, u17, u18, u19, u20, u21, u22, u23, u24, u25, v9, va, rfl, HBW, h0, h1, h2, h3, h4, h5, h6, h7, h8, h9, h10, h11, h14, o6_5, o7_6, o8_6, o9_6, o12_10, o12_7, o13_11, o13_8, hne⟩ hf hd K hK
    simp only [List.setIfInBounds_toArray, List.set_cons_zero, List.set_cons_succ] at hK ⊢
    replace hK := hid hK
    go_simp
    exact hK.out _ _ ⟨_, _, _, _, _, _, _, _, _, _, _, _, _, v9, va, rfl, hid (below_next HBW.out ((Below.refl _ _).alloc (Nat.le_refl _) _)), hid (fun h => h0.out h), hid (fun h => h1.out h), hid (fun h => (h2.out h).on ((Below.refl _ _).alloc (Nat.le_refl _) _)), hid (fun h => (h3.out h).on ((Below.refl _ _).alloc (Nat.le_refl _) _)), hid (fun h => h4.out h), hid (fun h => ⟨(h5.out h).1, (h5.out h).2.1.on ((Below.refl _ _).alloc (Nat.le_refl _) _), (h5.out h).2.2.on ((Below.refl _ _).alloc (Nat.le_refl _) _)⟩), hid (fun h => h6.out h), hid (fun h => h7.out h), hid (fun h => h8.out h), hid (fun h => h9.out h), hid (fun h => (h10.out h).on ((Below.refl _ _).alloc (Nat.le_refl _) _)), hid (fun h => ⟨w1.heap.size, rfl, HBW.out.size, fun _ => Box.new w1 false none 0 0, fun e => absurd (o13_11 e) (by rw [hf]; decide)⟩), hid (fun h => h14.out h), fun h => o6_5 h, fun h => o7_6 h, fun h => o8_6 h, fun h => o9_6 h, fun h => o12_10 h, fun h => o12_7 h, fun _ => rfl, fun h => o13_8 h, fun a _ e => by obtain ⟨g, e2, hlt⟩ := (h10.out a).lt; rw [e2] at e; cases e; exact absurd hlt (Nat.lt_irrefl _)⟩
  case s12 =>
    rintro f a1 w1 ⟨u8, u9, u10, u16, u17, u18, u19, u20, u21, u22, u23, u24, u25, v9, va, rfl, HBW, h0, h1, h2, h3, h4, h5, h6, h7, h8, h9, h10, h11, h14, o6_5, o7_6, o8_6, o9_6, o12_10, o12_7, o13_11, o13_8, hne⟩ hf hd K hK
    simp only [List.setIfInBounds_toArray, List.set_cons_zero, List.set_cons_succ] at hK ⊢
    replace hK := hid hK
    simp [Region.binds] at hd
    have gx : f 7 = true := by simp only [hd]
    have ga : f 10 = true := by simp only [hd]
    have gb : f 11 = true := by simp only [hd]
    have g3 : f 5 = true := o6_5 (o7_6 gx)
    have hne := hne (by simp only [hd]) (by simp only [hd])
    have e8 := h7.out gx
    subst e8
    obtain ⟨g, rfl, hg, hn, _⟩ := h10.out ga
    replace hn := hn hf
    have hv9 := (h5.out g3).2.1
    obtain ⟨s9, p9, n9, c9, rfl⟩ := hv9.opened
    obtain ⟨c1, c2, c3, c4⟩ := hn.stores
    obtain ⟨n1, n2, n3⟩ := hn.last HBW.out hg s9 p9 n9 c9
    have HN2 := hid (And.intro n1 n2)
    have HV := hid (fun v z k h => @n3 v z k h)
    have HO := hid ((h11.out gb).set (Ne.symm hne) (.bool s9) (.slice p9 n9 c9))
    clear n1 n2 n3
    go_simp
    exact hK.out _ _ ⟨_, _, _, _, _, _, _, _, _, _, _, _, _, _, va, rfl, hid HN2.out.2, hid (fun h => h0.out h), hid (fun h => h1.out h), hid (fun h => HV.out _ _ _ (h2.out h)), hid (fun h => HV.out _ _ _ (h3.out h)), hid (fun h => h4.out h), hid (fun h => ⟨(h5.out h).1, HV.out _ _ _ (h5.out h).2.1, HV.out _ _ _ (h5.out h).2.2⟩), hid (fun h => h6.out h), hid (fun h => h7.out h), hid (fun h => h8.out h), hid (fun h => h9.out h), hid (fun h => ⟨g, rfl, hg, fun e => by simp [more] at e, fun _ => ⟨_, _, _, _, rfl, HN2.out.1⟩⟩), hid (fun h => HO.out), hid (fun h => h14.out h), fun h => o6_5 h, fun h => o7_6 h, fun h => o8_6 h, fun h => o9_6 h, fun _ => ga, fun _ => gx, fun h => o13_11 h, fun h => o13_8 h, fun _ _ => hne⟩
  case s13 =>
    rintro f a1 w1 ⟨u8, u9, u10, u16, u17, u18, u19, u20, u21, u22, u23, u24, u25, v9, va, rfl, HBW, h0, h1, h2, h3, h4, h5, h6, h7, h8, h9, h10, h11, h14, o6_5, o7_6, o8_6, o9_6, o12_10, o12_7, o13_11, o13_8, hne⟩ hf hd K hK
    simp only [List.setIfInBounds_toArray, List.set_cons_zero, List.set_cons_succ] at hK ⊢
    replace hK := hid hK
    simp [Region.binds] at hd
    have gx : f 8 = true := by simp only [hd]
    have ga : f 11 = true := by simp only [hd]
    have gb : f 10 = true := by simp only [hd]
    have g3 : f 5 = true := o6_5 (o8_6 gx)
    have hne := hne (by simp only [hd]) (by simp only [hd])
    have e8 := h8.out gx
    subst e8
    obtain ⟨g, rfl, hg, hn, _⟩ := h11.out ga
    replace hn := hn hf
    have hv9 := (h5.out g3).2.2
    obtain ⟨s9, p9, n9, c9, rfl⟩ := hv9.opened
    obtain ⟨c1, c2, c3, c4⟩ := hn.stores
    obtain ⟨n1, n2, n3⟩ := hn.last HBW.out hg s9 p9 n9 c9
    have HN2 := hid (And.intro n1 n2)
    have HV := hid (fun v z k h => @n3 v z k h)
    have HO := hid ((h10.out gb).set hne (.bool s9) (.slice p9 n9 c9))
    clear n1 n2 n3
    go_simp
    exact hK.out _ _ ⟨_, _, _, _, _, _, _, _, _, _, _, _, _, v9, _, rfl, hid HN2.out.2, hid (fun h => h0.out h), hid (fun h => h1.out h), hid (fun h => HV.out _ _ _ (h2.out h)), hid (fun h => HV.out _ _ _ (h3.out h)), hid (fun h => h4.out h), hid (fun h => ⟨(h5.out h).1, HV.out _ _ _ (h5.out h).2.1, HV.out _ _ _ (h5.out h).2.2⟩), hid (fun h => h6.out h), hid (fun h => h7.out h), hid (fun h => h8.out h), hid (fun h => h9.out h), hid (fun h => HO.out), hid (fun h => ⟨g, rfl, hg, fun e => by simp [more] at e, fun _ => ⟨_, _, _, _, rfl, HN2.out.1⟩⟩), hid (fun h => h14.out h), fun h => o6_5 h, fun h => o7_6 h, fun h => o8_6 h, fun h => o9_6 h, fun h => o12_10 h, fun h => o12_7 h, fun _ => ga, fun _ => gx, fun _ _ => hne⟩
  case s14 =>
    rintro f a1 w1 ⟨u8, u9, u10, u16, u17, u18, u19, u20, u21, u22, u23, u24, u25, v9, va, rfl, HBW, h0, h1, h2, h3, h4, h5, h6, h7, h8, h9, h10, h11, h14, o6_5, o7_6, o8_6, o9_6, o12_10, o12_7, o13_11, o13_8, hne⟩ hf hd K hK
    simp only [List.setIfInBounds_toArray, List.set_cons_zero, List.set_cons_succ] at hK ⊢
    replace hK := hid hK
    simp [Region.binds] at hd
    obtain rfl := h9.out (by simp only [hd])
    go_simp
    exact hK.out _ _ ⟨_, _, _, _, _, _, _, _, _, _, _, _, _, v9, va, rfl, HBW, hid (fun h => h0.out h), hid (fun h => h1.out h), hid (fun h => h2.out h), hid (fun h => h3.out h), hid (fun h => h4.out h), hid (fun h => h5.out h), hid (fun h => h6.out h), hid (fun h => h7.out h), hid (fun h => h8.out h), hid (fun h => rfl), hid (fun h => h10.out h), hid (fun h => h11.out h), hid (fun h => rfl), fun h => o6_5 h, fun h => o7_6 h, fun h => o8_6 h, fun h => o9_6 h, fun h => o12_10 h, fun h => o12_7 h, fun h => o13_11 h, fun h => o13_8 h, fun h => hne h⟩
  case hend =>
    rintro f a1 w1 ⟨u8, u9, u10, u16, u17, u18, u19, u20, u21, u22, u23, u24, u25, v9, va, rfl, HBW, h0, h1, h2, h3, h4, h5, h6, h7, h8, h9, h10, h11, h14, o6_5, o7_6, o8_6, o9_6, o12_10, o12_7, o13_11, o13_8, hne⟩ hall
    simp only [List.setIfInBounds_toArray, List.set_cons_zero, List.set_cons_succ]
    have hne := hne (hall 10 (by decide)) (hall 11 (by decide))
    have hv9 := (h5.out (hall 5 (by decide))).2.1
    have hva := (h5.out (hall 5 (by decide))).2.2
    obtain ⟨g8, rfl, hg8, _, hn8⟩ := h10.out (hall 10 (by decide))
    obtain ⟨g9, rfl, hg9, _, hn9⟩ := h11.out (hall 11 (by decide))
    obtain ⟨s8, p8, n8, c8, rfl, hm8⟩ := hn8 (hall 12 (by decide))
    obtain ⟨s9, p9, n9, c9, rfl, hm9⟩ := hn9 (hall 13 (by decide))
    replace R4 := dx R4 HBW.out
    replace R5 := dx R5 HBW.out
    replace B := bb B HBW.out
    have XU := hid hm8
    have XV := hid hm9
    have HV8 := hid hv9
    have HV9 := hid hva
    have L8 := hid hg8
    have L9 := hid hg9
    have LR := hid (show w.heap.size + 1 + 1 < W25.heap.size from LQ.out)
    clear h0 h1 h2 h3 h4 h5 h6 h7 h8 h9 h10 h11 h14 o6_5 o7_6 o8_6 o9_6 o12_10 o12_7 o13_11 o13_8 hall hn8 hn9 hm8 hm9 hg8 hg9 hv9 hva HBW hne
    obtain ⟨cc901a, cc901b⟩ := XU.out.both
    obtain ⟨cc902a, cc902b⟩ := XV.out.both
    obtain ⟨cc903a, cc903b, cc903c⟩ := R4.out.cells
    obtain ⟨cc904a, cc904b, cc904c⟩ := R5.out.cells
    obtain ⟨⟨cc905a, cc905b⟩, ⟨cc905c, cc905d⟩, cc905e, cc905f⟩ := R4.out.stores
    obtain ⟨r906a, r906b, r906c⟩ := R4.out.last B.out (by have := L8.out; have := L9.out; have := LR.out; omega) s8 p8 n8 c8 (n : Int)
    replace XU := hid (((XU.out.other (g2 := w.heap.size + 1) (by have := L8.out; have := L9.out; have := LR.out; omega) 0 (.bool s8)).other (g2 := w.heap.size + 1) (by have := L8.out; have := L9.out; have := LR.out; omega) 1 (.slice p8 n8 c8)).other (g2 := w.heap.size + 1) (by have := L8.out; have := L9.out; have := LR.out; omega) 2 (.int .i64 (n : Int)))
    replace XV := hid (((XV.out.other (g2 := w.heap.size + 1) (by have := L8.out; have := L9.out; have := LR.out; omega) 0 (.bool s8)).other (g2 := w.heap.size + 1) (by have := L8.out; have := L9.out; have := LR.out; omega) 1 (.slice p8 n8 c8)).other (g2 := w.heap.size + 1) (by have := L8.out; have := L9.out; have := LR.out; omega) 2 (.int .i64 (n : Int)))
    replace R5 := hid (((R5.out.other (g2 := w.heap.size + 1) (by have := L8.out; have := L9.out; have := LR.out; omega) 0 (.bool s8)).other (g2 := w.heap.size + 1) (by have := L8.out; have := L9.out; have := LR.out; omega) 1 (.slice p8 n8 c8)).other (g2 := w.heap.size + 1) (by have := L8.out; have := L9.out; have := LR.out; omega) 2 (.int .i64 (n : Int)))
    replace HV8 := hid (r906c HV8.out)
    replace HV9 := hid (r906c HV9.out)
    replace R4 := hid r906a
    replace B := hid r906b
    clear r906a r906b r906c
    obtain ⟨cc907a, cc907b⟩ := XU.out.both
    obtain ⟨cc908a, cc908b⟩ := XV.out.both
    obtain ⟨cc909a, cc909b, cc909c⟩ := R4.out.cells
    obtain ⟨cc910a, cc910b, cc910c⟩ := R5.out.cells
    go_wp2_with fail
    have HS := sgn_whl HV9.out
    rw [Int.sign_eq_one_of_pos (by have := resu_nonneg q n; have := HE.out; omega)] at HS
    refine (HS).mono ?_
    rintro e w911 ⟨rfl, hb⟩
    replace XU := bx XU hb
    replace XV := bx XV hb
    replace R4 := dx R4 hb
    replace R5 := dx R5 hb
    replace HV8 := wl HV8 hb
    replace HV9 := wl HV9 hb
    replace B := bb B hb
    clear cc901a cc901b cc902a cc902b cc903a cc903b cc903c cc904a cc904b cc904c cc905a cc905b cc905c cc905d cc905e cc905f cc907a cc907b cc908a cc908b cc909a cc909b cc909c cc910a cc910b cc910c
    clear hb 
    clear HS
    obtain ⟨cc912a, cc912b⟩ := XU.out.both
    obtain ⟨cc913a, cc913b⟩ := XV.out.both
    obtain ⟨cc914a, cc914b, cc914c⟩ := R4.out.cells
    obtain ⟨cc915a, cc915b, cc915c⟩ := R5.out.cells
    go_wp2_with fail
    obtain ⟨cc916a, cc916b, cc916c⟩ := R4.out.cells
    obtain ⟨cc917a, cc917b⟩ := XU.out.both
    replace XU := hid XU.out.dr
    replace XV := hid XV.out.dr
    replace R4 := hid R4.out.dr
    replace R5 := hid R5.out.dr
    replace HV8 := hid HV8.out.drew
    replace HV9 := hid HV9.out.drew
    replace B := hid (Below.drew B.out)
    obtain ⟨cc918a, cc918b, cc918c⟩ := R4.out.cells
    obtain ⟨cc919a, cc919b⟩ := XU.out.both
    go_region_held3 (fun w' => w'.cell? ⟨w.heap.size + 1, 0, none⟩ = some (.bool s8) ∧ w'.cell? ⟨w.heap.size + 1, 1, none⟩ = some (.slice p8 n8 c8) ∧ w'.cell? ⟨w.heap.size + 1, 2, none⟩ = some (.int .i64 (n : Int)) ∧ w'.cell? ⟨g8, 0, none⟩ = some (.bool s8) ∧ w'.cell? ⟨g8, 1, none⟩ = some (.slice p8 n8 c8)) (go_keep) (first
      | (have hm := mk920_0; clear hm; go_at_call 63; refine (add_whl HV8.out HO.out (by decide) (by decide)).mono ?_; rintro e w924 ⟨v, rfl, hv, hb⟩; obtain ⟨s7, p7, n7, c7, rfl⟩ := hv.opened; replace XU := bx XU hb; replace XV := bx XV hb; replace R4 := dx R4 hb; replace R5 := dx R5 hb; replace HV8 := wl HV8 hb; replace HV9 := wl HV9 hb; replace HO := wl HO hb; replace B := bb B hb; clear cc922a cc922b cc922c cc923a cc923b; have HS7 := hid hv; clear hb hv; obtain ⟨cc925a, cc925b, cc925c⟩ := R4.out.cells; obtain ⟨cc926a, cc926b⟩ := XU.out.both; obtain ⟨⟨cc927a, cc927b⟩, ⟨cc927c, cc927d⟩, cc927e, cc927f⟩ := R4.out.stores; obtain ⟨r928a, r928b, r928c⟩ := R4.out.last B.out (by have := L8.out; have := L9.out; have := LR.out; omega) s8 p8 n8 c8 (n : Int); replace XU := hid (((XU.out.other (g2 := w.heap.size + 1) (by have := L8.out; have := L9.out; have := LR.out; omega) 0 (.bool s8)).other (g2 := w.heap.size + 1) (by have := L8.out; have := L9.out; have := LR.out; omega) 1 (.slice p8 n8 c8)).other (g2 := w.heap.size + 1) (by have := L8.out; have := L9.out; have := LR.out; omega) 2 (.int .i64 (n : Int))); replace XV := hid (((XV.out.other (g2 := w.heap.size + 1) (by have := L8.out; have := L9.out; have := LR.out; omega) 0 (.bool s8)).other (g2 := w.heap.size + 1) (by have := L8.out; have := L9.out; have := LR.out; omega) 1 (.slice p8 n8 c8)).other (g2 := w.heap.size + 1) (by have := L8.out; have := L9.out; have := LR.out; omega) 2 (.int .i64 (n : Int))); replace R5 := hid (((R5.out.other (g2 := w.heap.size + 1) (by have := L8.out; have := L9.out; have := LR.out; omega) 0 (.bool s8)).other (g2 := w.heap.size + 1) (by have := L8.out; have := L9.out; have := LR.out; omega) 1 (.slice p8 n8 c8)).other (g2 := w.heap.size + 1) (by have := L8.out; have := L9.out; have := LR.out; omega) 2 (.int .i64 (n : Int))); replace HV8 := hid (r928c HV8.out); replace HV9 := hid (r928c HV9.out); replace HO := hid (r928c HO.out); replace HS7 := hid (r928c HS7.out); replace R4 := hid r928a; replace B := hid r928b; clear r928a r928b r928c; obtain ⟨cc929a, cc929b, cc929c⟩ := R4.out.cells; obtain ⟨cc930a, cc930b⟩ := XU.out.both; obtain ⟨⟨cc931a, cc931b⟩, ⟨cc931c, cc931d⟩, cc931e, cc931f⟩ := R5.out.stores; obtain ⟨r932a, r932b, r932c⟩ := R5.out.last B.out (by have := L8.out; have := L9.out; have := LR.out; omega) s7 p7 n7 c7 (n : Int); replace XU := hid (((XU.out.other (g2 := w.heap.size + 1 + 1) (by have := L8.out; have := L9.out; have := LR.out; omega) 0 (.bool s7)).other (g2 := w.heap.size + 1 + 1) (by have := L8.out; have := L9.out; have := LR.out; omega) 1 (.slice p7 n7 c7)).other (g2 := w.heap.size + 1 + 1) (by have := L8.out; have := L9.out; have := LR.out; omega) 2 (.int .i64 (n : Int))); replace XV := hid (((XV.out.other (g2 := w.heap.size + 1 + 1) (by have := L8.out; have := L9.out; have := LR.out; omega) 0 (.bool s7)).other (g2 := w.heap.size + 1 + 1) (by have := L8.out; have := L9.out; have := LR.out; omega) 1 (.slice p7 n7 c7)).other (g2 := w.heap.size + 1 + 1) (by have := L8.out; have := L9.out; have := LR.out; omega) 2 (.int .i64 (n : Int))); replace R4 := hid (((R4.out.other (g2 := w.heap.size + 1 + 1) (by have := L8.out; have := L9.out; have := LR.out; omega) 0 (.bool s7)).other (g2 := w.heap.size + 1 + 1) (by have := L8.out; have := L9.out; have := LR.out; omega) 1 (.slice p7 n7 c7)).other (g2 := w.heap.size + 1 + 1) (by have := L8.out; have := L9.out; have := LR.out; omega) 2 (.int .i64 (n : Int))); replace HV8 := hid (r932c HV8.out); replace HV9 := hid (r932c HV9.out); replace HO := hid (r932c HO.out); replace HS7 := hid (r932c HS7.out); replace R5 := hid r932a; replace B := hid r932b; clear r932a r932b r932c; obtain ⟨cc933a, cc933b, cc933c⟩ := R4.out.cells; obtain ⟨cc934a, cc934b⟩ := XU.out.both; have mk920_1 := hid True.intro)
      | (go_at_call 71; refine (of_small 1 (by decide) _).mono ?_; rintro e w921 ⟨v, rfl, hv, hb⟩; obtain ⟨s6, p6, n6, c6, rfl⟩ := hv.opened; replace XU := bx XU hb; replace XV := bx XV hb; replace R4 := dx R4 hb; replace R5 := dx R5 hb; replace HV8 := wl HV8 hb; replace HV9 := wl HV9 hb; replace B := bb B hb; clear cc912a cc912b cc913a cc913b cc914a cc914b cc914c cc915a cc915b cc915c cc916a cc916b cc916c cc917a cc917b cc918a cc918b cc918c cc919a cc919b; have HO := hid hv; clear hb hv; obtain ⟨cc922a, cc922b, cc922c⟩ := R4.out.cells; obtain ⟨cc923a, cc923b⟩ := XU.out.both; have mk920_0 := hid True.intro))
    go_wp2_with fail
    refine bodyPost_ret (res_dd rfl rfl rfl R4.out R5.out) rfl ?_
    exact ⟨_, _, rfl, Dcl.mk1 (HV8.out.mono (by decide)), (by rw [highu, if_neg HE.out]; exact Dcl.mk1 (HS7.out.mono (by decide))), B.out⟩

theorem around_dec {w : World} {v : Value} {q : Rat} {n : Nat} (h : Rtl w v q 100) (hn : n ≤ 30) :
    Calls Try.prog 57 #[v, .int .i64 (n : Int)] w fun e w' => (∃ v u, e = .returned (.tuple #[v, u]) ∧ Dcl w' v (lowu q n) n 106 ∧ Dcl w' u (highu q n) n 106 ∧ Below w.heap.size w w') := by
  by_cases he : resu q n = 0
  · exact around_even h hn he
  · exact around_odd h hn he

end Go.Proofs.Ytjeeepcnaaadmaa

/-
  PACKAGE dec: number.
-/
namespace Go.Proofs.Ytjeeepcnaaadmaa
open Go.RowKit
open Num
set_option linter.unusedVariables false
set_option maxRecDepth 100000
set_option linter.unusedSimpArgs false

set_option maxHeartbeats 4000000 in
theorem number_dec {w : World} {v : Value} {z : Int} {n : Nat} (h : Dcl w v z n 106) (hn : n ≤ 30) :
    Calls Try.prog 58 #[v] w fun e w' => ∃ v, e = .returned v ∧ Rtl w' v (unq z n) 106 ∧ Below w.heap.size w w' := by
  obtain ⟨s1, p1, n1, c1, rfl⟩ := h.opened
  have h1 := h.one
  have HN := hid hn
  have B := hid (Below.refl w.heap.size w)
  have HZ := hid h1
  have hb1 := (Below.refl _ _).alloc (Nat.le_refl w.heap.size) (.cells #[.bool s1, .slice p1 n1 c1, .int .i64 (n : Int)] 80)
  have hx2 := Dbx.new w s1 p1 n1 c1 (n : Int)
  replace HZ := wl HZ hb1
  replace B := bb B hb1
  have X1 := hid hx2
  have hs3 : (w.alloc (.cells #[.bool s1, .slice p1 n1 c1, .int .i64 (n : Int)] 80)).heap.size = w.heap.size + 1 := by simp
  clear hb1 hx2
  have hb4 := (Below.refl _ _).alloc (Nat.le_refl (w.alloc (.cells #[.bool s1, .slice p1 n1 c1, .int .i64 (n : Int)] 80)).heap.size) (.cells #[.bool false, .slice none 0 0, .bool false, .slice none 0 0] 51)
  have hx5 := Nbx.new (w.alloc (.cells #[.bool s1, .slice p1 n1 c1, .int .i64 (n : Int)] 80)) false false (.slice none 0 0) (.slice none 0 0)
  rw [hs3] at hx5
  replace X1 := dx X1 hb4
  replace HZ := wl HZ hb4
  replace B := bb B hb4
  have XR := hid hx5
  have hs6 : ((w.alloc (.cells #[.bool s1, .slice p1 n1 c1, .int .i64 (n : Int)] 80)).alloc (.cells #[.bool false, .slice none 0 0, .bool false, .slice none 0 0] 51)).heap.size = w.heap.size + 1 + 1 := by simp [hs3]
  clear hb4 hx5
  clear hs6 h h1 hn
  go_enter Try.func58, Try.ntmps58
  obtain ⟨cc7a, cc7b, cc7c⟩ := X1.out.cells
  obtain ⟨cc8a, cc8b, cc8c, cc8d⟩ := XR.out.cells
  go_wp2_with fail
  generalize hW : (w.alloc (.cells #[.bool s1, .slice p1 n1 c1, .int .i64 (n : Int)] 80)).alloc (.cells #[.bool false, .slice none 0 0, .bool false, .slice none 0 0] 51) = W9 at *
  clear hW
  clear cc7a cc7b cc7c cc8a cc8b cc8c cc8d
  have LQ := hid XR.out.lt
  refine region_ops (by kernel_rfl) (by kernel_rfl) (fun a f a' w' => ∃ u3 u4 u5 u6 u7 u8 u9 u10 u11 u12 u13 v9 : Value, a' = { tmps := (((((((((((a.tmps.setIfInBounds 3 u3).setIfInBounds 4 u4).setIfInBounds 5 u5).setIfInBounds 6 u6).setIfInBounds 7 u7).setIfInBounds 8 u8).setIfInBounds 9 u9).setIfInBounds 10 u10).setIfInBounds 11 u11).setIfInBounds 12 u12).setIfInBounds 13 u13), defers := a.defers } ∧ Hid (Below W9.heap.size W9 w') ∧ Hid (f 0 = true → u6 = .pointer (some ⟨w.heap.size, 0, none⟩)) ∧ Hid (f 1 = true → u7 = (.agg #[.bool s1, .slice p1 n1 c1])) ∧ Hid (f 2 = true → u8 = .pointer (some ⟨w.heap.size, 2, none⟩)) ∧ Hid (f 3 = true → u9 = .int .i64 (n : Int)) ∧ Hid (f 4 = true → Whl w' u10 (pten n : Int) 4) ∧ Hid (f 5 = true → (u11 = .tuple #[v9, .nilIface] ∧ Rtl w' v9 (unq z n) 106)) ∧ Hid (f 6 = true → u5 = .tuple #[v9, .nilIface]) ∧ Hid (f 7 = true → u12 = v9) ∧ Hid (f 8 = true → u13 = .nilIface) ∧ Hid (f 9 = true → NewN W9 w' u3 (f 10) v9) ∧ Hid (f 11 = true → u4 = .nilIface) ∧ (f 6 = true → f 5 = true) ∧ (f 7 = true → f 6 = true) ∧ (f 8 = true → f 6 = true) ∧ (f 10 = true → f 9 = true) ∧ (f 10 = true → f 7 = true)) ?h0 ⟨?s0, ?s1, ?s2, ?s3, ?s4, ?s5, ?s6, ?s7, ?s8, ?s9, ?s10, ?s11, trivial⟩ ?hend
  case h0 =>
    simp only [List.setIfInBounds_toArray, List.set_cons_zero, List.set_cons_succ]
    exact ⟨_, _, _, _, _, _, _, _, _, _, _, .nilIface, rfl, hid (Below.drew (Below.refl _ _)), hid (fun h => by cases h), hid (fun h => by cases h), hid (fun h => by cases h), hid (fun h => by cases h), hid (fun h => by cases h), hid (fun h => by cases h), hid (fun h => by cases h), hid (fun h => by cases h), hid (fun h => by cases h), hid (fun h => by cases h), hid (fun h => by cases h), fun h => h, fun h => h, fun h => h, fun h => h, fun h => h⟩
  case s0 =>
    rintro f a1 w1 ⟨u3, u4, u5, u6, u7, u8, u9, u10, u11, u12, u13, v9, rfl, HBW, h0, h1, h2, h3, h4, h5, h6, h7, h8, h9, h11, o6_5, o7_6, o8_6, o10_9, o10_7⟩ hf hd K hK
    simp only [List.setIfInBounds_toArray, List.set_cons_zero, List.set_cons_succ] at hK ⊢
    replace hK := hid hK
    obtain ⟨y1, y2, y3⟩ := (X1.out.below HBW.out X1.out.lt).cells
    go_simp
    exact hK.out _ _ ⟨_, _, _, _, _, _, _, _, _, _, _, v9, rfl, HBW, hid (fun h => rfl), hid (fun h => h1.out h), hid (fun h => h2.out h), hid (fun h => h3.out h), hid (fun h => h4.out h), hid (fun h => h5.out h), hid (fun h => h6.out h), hid (fun h => h7.out h), hid (fun h => h8.out h), hid (fun h => h9.out h), hid (fun h => h11.out h), fun h => o6_5 h, fun h => o7_6 h, fun h => o8_6 h, fun h => o10_9 h, fun h => o10_7 h⟩
  case s1 =>
    rintro f a1 w1 ⟨u3, u4, u5, u6, u7, u8, u9, u10, u11, u12, u13, v9, rfl, HBW, h0, h1, h2, h3, h4, h5, h6, h7, h8, h9, h11, o6_5, o7_6, o8_6, o10_9, o10_7⟩ hf hd K hK
    simp only [List.setIfInBounds_toArray, List.set_cons_zero, List.set_cons_succ] at hK ⊢
    replace hK := hid hK
    simp [Region.binds] at hd
    obtain rfl := h0.out (by simp only [hd])
    obtain ⟨y1, y2, y3⟩ := (X1.out.below HBW.out X1.out.lt).cells
    go_simp
    exact hK.out _ _ ⟨_, _, _, _, _, _, _, _, _, _, _, v9, rfl, HBW, hid (fun h => rfl), hid (fun h => rfl), hid (fun h => h2.out h), hid (fun h => h3.out h), hid (fun h => h4.out h), hid (fun h => h5.out h), hid (fun h => h6.out h), hid (fun h => h7.out h), hid (fun h => h8.out h), hid (fun h => h9.out h), hid (fun h => h11.out h), fun h => o6_5 h, fun h => o7_6 h, fun h => o8_6 h, fun h => o10_9 h, fun h => o10_7 h⟩
  case s2 =>
    rintro f a1 w1 ⟨u3, u4, u5, u6, u7, u8, u9, u10, u11, u12, u13, v9, rfl, HBW, h0, h1, h2, h3, h4, h5, h6, h7, h8, h9, h11, o6_5, o7_6, o8_6, o10_9, o10_7⟩ hf hd K hK
    simp only [List.setIfInBounds_toArray, List.set_cons_zero, List.set_cons_succ] at hK ⊢
    replace hK := hid hK
    obtain ⟨y1, y2, y3⟩ := (X1.out.below HBW.out X1.out.lt).cells
    go_simp
    exact hK.out _ _ ⟨_, _, _, _, _, _, _, _, _, _, _, v9, rfl, HBW, hid (fun h => h0.out h), hid (fun h => h1.out h), hid (fun h => rfl), hid (fun h => h3.out h), hid (fun h => h4.out h), hid (fun h => h5.out h), hid (fun h => h6.out h), hid (fun h => h7.out h), hid (fun h => h8.out h), hid (fun h => h9.out h), hid (fun h => h11.out h), fun h => o6_5 h, fun h => o7_6 h, fun h => o8_6 h, fun h => o10_9 h, fun h => o10_7 h⟩
  case s3 =>
    rintro f a1 w1 ⟨u3, u4, u5, u6, u7, u8, u9, u10, u11, u12, u13, v9, rfl, HBW, h0, h1, h2, h3, h4, h5, h6, h7, h8, h9, h11, o6_5, o7_6, o8_6, o10_9, o10_7⟩ hf hd K hK
    simp only [List.setIfInBounds_toArray, List.set_cons_zero, List.set_cons_succ] at hK ⊢
    replace hK := hid hK
    simp [Region.binds] at hd
    obtain rfl := h2.out (by simp only [hd])
    obtain ⟨y1, y2, y3⟩ := (X1.out.below HBW.out X1.out.lt).cells
    go_simp
    exact hK.out _ _ ⟨_, _, _, _, _, _, _, _, _, _, _, v9, rfl, HBW, hid (fun h => h0.out h), hid (fun h => h1.out h), hid (fun h => rfl), hid (fun h => rfl), hid (fun h => h4.out h), hid (fun h => h5.out h), hid (fun h => h6.out h), hid (fun h => h7.out h), hid (fun h => h8.out h), hid (fun h => h9.out h), hid (fun h => h11.out h), fun h => o6_5 h, fun h => o7_6 h, fun h => o8_6 h, fun h => o10_9 h, fun h => o10_7 h⟩
  case s4 =>
    rintro f a1 w1 ⟨u3, u4, u5, u6, u7, u8, u9, u10, u11, u12, u13, v9, rfl, HBW, h0, h1, h2, h3, h4, h5, h6, h7, h8, h9, h11, o6_5, o7_6, o8_6, o10_9, o10_7⟩ hf hd K hK
    simp only [List.setIfInBounds_toArray, List.set_cons_zero, List.set_cons_succ] at hK ⊢
    replace hK := hid hK
    simp [Region.binds] at hd
    obtain rfl := h3.out (by simp only [hd])
    go_simp
    refine (pot_whl n HN.out _).mono ?_
    rintro e w2 ⟨v, rfl, hv, hb⟩
    go_wp2_with fail
    exact hK.out _ _ ⟨_, _, _, _, _, _, _, _, _, _, _, v9, rfl, hid (below_next HBW.out hb), hid (fun h => h0.out h), hid (fun h => h1.out h), hid (fun h => h2.out h), hid (fun h => rfl), hid (fun h => hv), hid (fun h => ⟨(h5.out h).1, (h5.out h).2.on hb⟩), hid (fun h => h6.out h), hid (fun h => h7.out h), hid (fun h => h8.out h), hid (fun h => (h9.out h).on hb), hid (fun h => h11.out h), fun h => o6_5 h, fun h => o7_6 h, fun h => o8_6 h, fun h => o10_9 h, fun h => o10_7 h⟩
  case s5 =>
    rintro f a1 w1 ⟨u3, u4, u5, u6, u7, u8, u9, u10, u11, u12, u13, v9, rfl, HBW, h0, h1, h2, h3, h4, h5, h6, h7, h8, h9, h11, o6_5, o7_6, o8_6, o10_9, o10_7⟩ hf hd K hK
    simp only [List.setIfInBounds_toArray, List.set_cons_zero, List.set_cons_succ] at hK ⊢
    replace hK := hid hK
    simp [Region.binds] at hd
    obtain rfl := h1.out (by simp only [hd])
    go_simp
    refine (quot_some (HZ.out.below HBW.out (Nat.le_refl _)) ((h4.out (by simp only [hd])).mono (show 4 ≤ 106 by decide)) (pten_ne n) (by decide)).mono ?_
    rintro e w2 ⟨v, rfl, hv, hb⟩
    go_wp2_with fail
    exact hK.out _ _ ⟨_, _, _, _, _, _, _, _, _, _, _, v, rfl, hid (below_next HBW.out hb), hid (fun h => h0.out h), hid (fun h => rfl), hid (fun h => h2.out h), hid (fun h => h3.out h), hid (fun h => (h4.out h).on hb), hid (fun h => ⟨rfl, hv⟩), hid (fun h => absurd (o6_5 h) (by rw [hf]; decide)), hid (fun h => absurd (o6_5 (o7_6 h)) (by rw [hf]; decide)), hid (fun h => h8.out h), hid (fun h => ((h9.out h).on hb).free (by cases e : f 10 with | false => rfl | true => exact absurd (o6_5 (o7_6 (o10_7 e))) (by rw [hf]; decide))), hid (fun h => h11.out h), fun _ => rfl, fun h => o7_6 h, fun h => o8_6 h, fun h => o10_9 h, fun h => o10_7 h⟩
  case s6 =>
    rintro f a1 w1 ⟨u3, u4, u5, u6, u7, u8, u9, u10, u11, u12, u13, v9, rfl, HBW, h0, h1, h2, h3, h4, h5, h6, h7, h8, h9, h11, o6_5, o7_6, o8_6, o10_9, o10_7⟩ hf hd K hK
    simp only [List.setIfInBounds_toArray, List.set_cons_zero, List.set_cons_succ] at hK ⊢
    replace hK := hid hK
    simp [Region.binds] at hd
    have g5 : f 5 = true := by simp only [hd]
    obtain ⟨rfl, e2⟩ := h5.out g5
    go_simp
    exact hK.out _ _ ⟨_, _, _, _, _, _, _, _, _, _, _, v9, rfl, HBW, hid (fun h => h0.out h), hid (fun h => h1.out h), hid (fun h => h2.out h), hid (fun h => h3.out h), hid (fun h => h4.out h), hid (fun h => ⟨rfl, e2⟩), hid (fun h => rfl), hid (fun h => h7.out h), hid (fun h => h8.out h), hid (fun h => h9.out h), hid (fun h => h11.out h), fun _ => g5, fun _ => rfl, fun _ => rfl, fun h => o10_9 h, fun h => o10_7 h⟩
  case s7 =>
    rintro f a1 w1 ⟨u3, u4, u5, u6, u7, u8, u9, u10, u11, u12, u13, v9, rfl, HBW, h0, h1, h2, h3, h4, h5, h6, h7, h8, h9, h11, o6_5, o7_6, o8_6, o10_9, o10_7⟩ hf hd K hK
    simp only [List.setIfInBounds_toArray, List.set_cons_zero, List.set_cons_succ] at hK ⊢
    replace hK := hid hK
    simp [Region.binds] at hd
    have g6 : f 6 = true := by simp only [hd]
    have e1 := h6.out g6
    subst e1
    go_simp
    exact hK.out _ _ ⟨_, _, _, _, _, _, _, _, _, _, _, v9, rfl, HBW, hid (fun h => h0.out h), hid (fun h => h1.out h), hid (fun h => h2.out h), hid (fun h => h3.out h), hid (fun h => h4.out h), hid (fun h => h5.out h), hid (fun h => h6.out h), hid (fun h => rfl), hid (fun h => h8.out h), hid (fun h => h9.out h), hid (fun h => h11.out h), fun h => o6_5 h, fun _ => g6, fun h => o8_6 h, fun h => o10_9 h, fun _ => rfl⟩
  case s8 =>
    rintro f a1 w1 ⟨u3, u4, u5, u6, u7, u8, u9, u10, u11, u12, u13, v9, rfl, HBW, h0, h1, h2, h3, h4, h5, h6, h7, h8, h9, h11, o6_5, o7_6, o8_6, o10_9, o10_7⟩ hf hd K hK
    simp only [List.setIfInBounds_toArray, List.set_cons_zero, List.set_cons_succ] at hK ⊢
    replace hK := hid hK
    simp [Region.binds] at hd
    have g6 : f 6 = true := by simp only [hd]
    have e1 := h6.out g6
    subst e1
    go_simp
    exact hK.out _ _ ⟨_, _, _, _, _, _, _, _, _, _, _, v9, rfl, HBW, hid (fun h => h0.out h), hid (fun h => h1.out h), hid (fun h => h2.out h), hid (fun h => h3.out h), hid (fun h => h4.out h), hid (fun h => h5.out h), hid (fun h => h6.out h), hid (fun h => h7.out h), hid (fun h => rfl), hid (fun h => h9.out h), hid (fun h => h11.out h), fun h => o6_5 h, fun h => o7_6 h, fun _ => g6, fun h => o10_9 h, fun h => o10_7 h⟩
  case s9 =>
    rintro f a1 w1 ⟨u3, u4, u5, u6, u7, u8, u9, u10, u11, u12, u13, v9, rfl, HBW, h0, h1, h2, h3, h4, h5, h6, h7, h8, h9, h11, o6_5, o7_6, o8_6, o10_9, o10_7⟩ hf hd K hK
    simp only [List.setIfInBounds_toArray, List.set_cons_zero, List.set_cons_succ] at hK ⊢
    replace hK := hid hK
    go_simp
    exact hK.out _ _ ⟨_, _, _, _, _, _, _, _, _, _, _, v9, rfl, hid (below_next HBW.out ((Below.refl _ _).alloc (Nat.le_refl _) _)), hid (fun h => h0.out h), hid (fun h => h1.out h), hid (fun h => h2.out h), hid (fun h => h3.out h), hid (fun h => (h4.out h).on ((Below.refl _ _).alloc (Nat.le_refl _) _)), hid (fun h => ⟨(h5.out h).1, (h5.out h).2.on ((Below.refl _ _).alloc (Nat.le_refl _) _)⟩), hid (fun h => h6.out h), hid (fun h => h7.out h), hid (fun h => h8.out h), hid (fun h => ⟨w1.heap.size, rfl, HBW.out.size, fun _ => Nbx.new w1 false false _ _, fun e => absurd (o10_9 e) (by rw [hf]; decide)⟩), hid (fun h => h11.out h), fun h => o6_5 h, fun h => o7_6 h, fun h => o8_6 h, fun _ => rfl, fun h => o10_7 h⟩
  case s10 =>
    rintro f a1 w1 ⟨u3, u4, u5, u6, u7, u8, u9, u10, u11, u12, u13, v9, rfl, HBW, h0, h1, h2, h3, h4, h5, h6, h7, h8, h9, h11, o6_5, o7_6, o8_6, o10_9, o10_7⟩ hf hd K hK
    simp only [List.setIfInBounds_toArray, List.set_cons_zero, List.set_cons_succ] at hK ⊢
    replace hK := hid hK
    simp [Region.binds] at hd
    have g7 : f 7 = true := by simp only [hd]
    have g9 : f 9 = true := by simp only [hd]
    have g5 : f 5 = true := o6_5 (o7_6 g7)
    have e8 := h7.out g7
    subst e8
    obtain ⟨g, rfl, hg, hn, _⟩ := h9.out g9
    replace hn := hn hf
    have hv9 := (h5.out g5).2
    obtain ⟨s9a, p9a, n9a, c9a, s9b, p9b, n9b, c9b, rfl⟩ := hv9.opened
    obtain ⟨t1, d9, t2, hd9⟩ := hv9.two
    obtain ⟨⟨c1, c2⟩, ⟨c3, c4⟩, ⟨c5, c6⟩, c7, c8⟩ := hn.stores
    obtain ⟨n1, n2, n3⟩ := hn.last HBW.out hg s9a s9b p9a p9b n9a n9b c9a c9b
    have HN2 := hid (And.intro n1 n2)
    have HV := hid (fun v z k h => @n3 v z k h)
    have H9 := hid (Rtl.mk2 (n3 t1) (n3 t2) hd9)
    clear n1 n2 n3
    go_simp
    exact hK.out _ _ ⟨_, _, _, _, _, _, _, _, _, _, _, _, rfl, hid HN2.out.2, hid (fun h => h0.out h), hid (fun h => h1.out h), hid (fun h => h2.out h), hid (fun h => h3.out h), hid (fun h => HV.out _ _ _ (h4.out h)), hid (fun h => ⟨(h5.out h).1, H9.out⟩), hid (fun h => h6.out h), hid (fun h => h7.out h), hid (fun h => h8.out h), hid (fun h => ⟨g, rfl, hg, fun e => by simp [more] at e, fun _ => ⟨_, _, _, _, _, _, _, _, rfl, HN2.out.1⟩⟩), hid (fun h => h11.out h), fun h => o6_5 h, fun h => o7_6 h, fun h => o8_6 h, fun _ => g9, fun _ => g7⟩
  case s11 =>
    rintro f a1 w1 ⟨u3, u4, u5, u6, u7, u8, u9, u10, u11, u12, u13, v9, rfl, HBW, h0, h1, h2, h3, h4, h5, h6, h7, h8, h9, h11, o6_5, o7_6, o8_6, o10_9, o10_7⟩ hf hd K hK
    simp only [List.setIfInBounds_toArray, List.set_cons_zero, List.set_cons_succ] at hK ⊢
    replace hK := hid hK
    simp [Region.binds] at hd
    obtain rfl := h8.out (by simp only [hd])
    go_simp
    exact hK.out _ _ ⟨_, _, _, _, _, _, _, _, _, _, _, v9, rfl, HBW, hid (fun h => h0.out h), hid (fun h => h1.out h), hid (fun h => h2.out h), hid (fun h => h3.out h), hid (fun h => h4.out h), hid (fun h => h5.out h), hid (fun h => h6.out h), hid (fun h => h7.out h), hid (fun h => rfl), hid (fun h => h9.out h), hid (fun h => rfl), fun h => o6_5 h, fun h => o7_6 h, fun h => o8_6 h, fun h => o10_9 h, fun h => o10_7 h⟩
  case hend =>
    rintro f a1 w1 ⟨u3, u4, u5, u6, u7, u8, u9, u10, u11, u12, u13, v9, rfl, HBW, h0, h1, h2, h3, h4, h5, h6, h7, h8, h9, h11, _⟩ hall
    simp only [List.setIfInBounds_toArray, List.set_cons_zero, List.set_cons_succ]
    have hv9 := (h5.out (hall 5 (by decide))).2
    obtain ⟨g, rfl, hg, _, hn⟩ := h9.out (hall 9 (by decide))
    obtain ⟨s9a, p9a, n9a, c9a, s9b, p9b, n9b, c9b, rfl, hn2⟩ := hn (hall 10 (by decide))
    obtain ⟨ht9, d9, hu9, hd9⟩ := hv9.two
    replace XR := nx XR HBW.out
    replace B := bb B HBW.out
    have XN := hid hn2
    have LN := hid hg
    have HT9 := hid ht9
    have HU9 := hid hu9
    have HD9 := hid hd9
    have LR := hid (show w.heap.size + 1 < W9.heap.size from LQ.out)
    clear h0 h1 h2 h3 h4 h5 h6 h7 h8 h9 h11 hall hn hn2 hg ht9 hu9 hd9 hv9 HBW
    obtain ⟨cc901a, cc901b, cc901c, cc901d⟩ := XN.out.cells
    obtain ⟨cc902a, cc902b, cc902c, cc902d⟩ := XR.out.cells
    obtain ⟨⟨cc903a, cc903b⟩, ⟨cc903c, cc903d⟩, ⟨cc903e, cc903f⟩, cc903g, cc903h⟩ := XR.out.stores
    obtain ⟨r904a, r904b, r904c⟩ := XR.out.last B.out (by have := LR.out; have := LN.out; omega) s9a s9b p9a p9b n9a n9b c9a c9b
    replace XN := hid ((((XN.out.other (g2 := w.heap.size + 1) (by have := LR.out; have := LN.out; omega) 0 (.bool s9a)).other (g2 := w.heap.size + 1) (by have := LR.out; have := LN.out; omega) 1 (.slice p9a n9a c9a)).other (g2 := w.heap.size + 1) (by have := LR.out; have := LN.out; omega) 2 (.bool s9b)).other (g2 := w.heap.size + 1) (by have := LR.out; have := LN.out; omega) 3 (.slice p9b n9b c9b))
    replace HT9 := hid (r904c HT9.out)
    replace HU9 := hid (r904c HU9.out)
    replace XR := hid r904a
    replace B := hid r904b
    clear r904a r904b r904c
    go_wp2_with fail
    refine bodyPost_ret (res_num rfl rfl XR.out) rfl ?_
    exact ⟨_, rfl, Rtl.mk2 HT9.out HU9.out HD9.out, B.out⟩

end Go.Proofs.Ytjeeepcnaaadmaa

/-
  PACKAGE dec: Around.
-/
namespace Go.Proofs.Ytjeeepcnaaadmaa
open Go.RowKit
open Num
set_option linter.unusedVariables false
set_option maxRecDepth 100000
set_option linter.unusedSimpArgs false

set_option maxHeartbeats 2000000 in
theorem darnd_ok {a : ByteArray} {n : Nat} (h : GoodQ a) (hn : n ≤ 30) (w : World) :
    Calls Try.prog 31 #[.string a, .int .i64 (n : Int)] w fun e w' => e = .returned (.tuple #[.agg #[.string (qtxt (unq (lowu (qnum a) n) n)), .string (qtxt (unq (highu (qnum a) n) n))], .nilIface]) ∧ Below w.heap.size w w' := by
  have hne := errv_neq
  have hgd := errv_guard
  have H1 := hid (fun w => dread_ok h hn w)
  have HN := hid hn
  have B := hid (Below.refl w.heap.size w)
  have hb1 := (Below.refl _ _).alloc (Nat.le_refl w.heap.size) (.cells #[.string ⟨#[]⟩, .string ⟨#[]⟩] 42)
  have hx2 := Vbx.new w ⟨#[]⟩ ⟨#[]⟩
  replace B := bb B hb1
  have XV := hid hx2
  have hs3 : (w.alloc (.cells #[.string ⟨#[]⟩, .string ⟨#[]⟩] 42)).heap.size = w.heap.size + 1 := by simp
  clear hb1 hx2
  clear hs3 h hn
  go_enter Try.func31, Try.ntmps31
  obtain ⟨cc4a, cc4b⟩ := XV.out.both
  go_wp2_with fail
  generalize hW : w.alloc (.cells #[.string ⟨#[]⟩, .string ⟨#[]⟩] 42) = W5 at *
  clear hW
  refine (H1.out _).mono ?_
  rintro e w6 ⟨v, rfl, hv, hb⟩
  obtain ⟨s1a, p1a, n1a, c1a, s1b, p1b, n1b, c1b, rfl⟩ := hv.opened
  obtain ⟨ht1, d1, hu1, hd1⟩ := hv.two
  have HD1 := hid hd1
  replace XV := vx XV hb
  replace B := bb B hb
  clear cc4a cc4b
  have HT1 := hid ht1
  have HU1 := hid hu1
  clear hb hv ht1 hu1 hd1 H1
  have hb7 := (Below.refl _ _).alloc (Nat.le_refl w6.heap.size) (.cells #[.bool s1a, .slice p1a n1a c1a, .bool s1b, .slice p1b n1b c1b] 51)
  have hx8 := Nbx.new w6 s1a s1b (.slice p1a n1a c1a) (.slice p1b n1b c1b)
  have L0 := hid XV.out.lt
  replace XV := vx XV hb7
  replace HT1 := wl HT1 hb7
  replace HU1 := wl HU1 hb7
  replace B := bb B hb7
  have XA := hid hx8
  have hs9 : (w6.alloc (.cells #[.bool s1a, .slice p1a n1a c1a, .bool s1b, .slice p1b n1b c1b] 51)).heap.size = w6.heap.size + 1 := by simp
  clear hb7 hx8
  obtain ⟨cc10a, cc10b⟩ := XV.out.both
  obtain ⟨cc11a, cc11b, cc11c, cc11d⟩ := XA.out.cells
  go_wp2_with fail
  generalize hW : w6.alloc (.cells #[.bool s1a, .slice p1a n1a c1a, .bool s1b, .slice p1b n1b c1b] 51) = W12 at *
  clear hW
  refine (around_dec (Rtl.mk2 HT1.out HU1.out HD1.out) HN.out).mono ?_
  rintro e w13 ⟨v, u, rfl, hv, hu, hb⟩
  obtain ⟨s2, p2, n2, c2, rfl⟩ := hv.opened
  obtain ⟨s3, p3, n3, c3, rfl⟩ := hu.opened
  replace hv := hv.one
  replace hu := hu.one
  replace XV := vx XV hb
  replace B := bb B hb
  clear cc10a cc10b cc11a cc11b cc11c cc11d
  have HL := hid hv
  have HH := hid hu
  clear hb hv hu
  have hb14 := (Below.refl _ _).alloc (Nat.le_refl w13.heap.size) (.cells #[.bool s2, .slice p2 n2 c2, .int .i64 (n : Int)] 80)
  have hx15 := Dbx.new w13 s2 p2 n2 c2 (n : Int)
  have L1 := hid XV.out.lt
  replace XV := vx XV hb14
  replace HL := wl HL hb14
  replace HH := wl HH hb14
  replace B := bb B hb14
  have XL := hid hx15
  have hs16 : (w13.alloc (.cells #[.bool s2, .slice p2 n2 c2, .int .i64 (n : Int)] 80)).heap.size = w13.heap.size + 1 := by simp
  clear hb14 hx15
  have hb17 := (Below.refl _ _).alloc (Nat.le_refl (w13.alloc (.cells #[.bool s2, .slice p2 n2 c2, .int .i64 (n : Int)] 80)).heap.size) (.cells #[.bool s3, .slice p3 n3 c3, .int .i64 (n : Int)] 80)
  have hx18 := Dbx.new (w13.alloc (.cells #[.bool s2, .slice p2 n2 c2, .int .i64 (n : Int)] 80)) s3 p3 n3 c3 (n : Int)
  rw [hs16] at hx18
  replace XV := vx XV hb17
  replace XL := dx XL hb17
  replace HL := wl HL hb17
  replace HH := wl HH hb17
  replace B := bb B hb17
  have XH := hid hx18
  have hs19 : ((w13.alloc (.cells #[.bool s2, .slice p2 n2 c2, .int .i64 (n : Int)] 80)).alloc (.cells #[.bool s3, .slice p3 n3 c3, .int .i64 (n : Int)] 80)).heap.size = w13.heap.size + 1 + 1 := by simp [hs16]
  clear hb17 hx18
  obtain ⟨cc20a, cc20b⟩ := XV.out.both
  obtain ⟨cc21a, cc21b, cc21c⟩ := XL.out.cells
  obtain ⟨cc22a, cc22b, cc22c⟩ := XH.out.cells
  go_wp2_with fail
  generalize hW : (w13.alloc (.cells #[.bool s2, .slice p2 n2 c2, .int .i64 (n : Int)] 80)).alloc (.cells #[.bool s3, .slice p3 n3 c3, .int .i64 (n : Int)] 80) = W23 at *
  clear hW
  obtain ⟨cc24a, cc24b, cc24c⟩ := XL.out.cells
  obtain ⟨cc25a, cc25b, cc25c⟩ := XH.out.cells
  replace XV := hid XV.out.dr
  replace XL := hid XL.out.dr
  replace XH := hid XH.out.dr
  replace HL := hid HL.out.drew
  replace HH := hid HH.out.drew
  replace B := hid (Below.drew B.out)
  obtain ⟨cc26a, cc26b, cc26c⟩ := XL.out.cells
  obtain ⟨cc27a, cc27b, cc27c⟩ := XH.out.cells
  go_region_held3 (fun w' => w'.cell? ⟨w13.heap.size, 0, none⟩ = some (.bool s2) ∧ w'.cell? ⟨w13.heap.size, 1, none⟩ = some (.slice p2 n2 c2) ∧ w'.cell? ⟨w13.heap.size, 2, none⟩ = some (.int .i64 (n : Int)) ∧ w'.cell? ⟨w13.heap.size + 1, 0, none⟩ = some (.bool s3) ∧ w'.cell? ⟨w13.heap.size + 1, 1, none⟩ = some (.slice p3 n3 c3) ∧ w'.cell? ⟨w13.heap.size + 1, 2, none⟩ = some (.int .i64 (n : Int))) (go_keep) (first
    | (have hm := mk28_2; clear hm; go_at_call 35; refine (qstring (Rtl.mk2 HT5.out HU5.out HD5.out) (by decide)).mono ?_; rintro e w38 ⟨rfl, hb⟩; replace XV := vx XV hb; replace XL := dx XL hb; replace XH := dx XH hb; replace HL := wl HL hb; replace HH := wl HH hb; replace HT4 := wl HT4 hb; replace HU4 := wl HU4 hb; replace HT5 := wl HT5 hb; replace HU5 := wl HU5 hb; replace B := bb B hb; clear cc36a cc36b cc36c cc37a cc37b cc37c; clear hb ; obtain ⟨cc39a, cc39b, cc39c⟩ := XL.out.cells; obtain ⟨cc40a, cc40b, cc40c⟩ := XH.out.cells; obtain ⟨cc41a, cc41b, cc41c, cc41d⟩ := XV.out.stores; obtain ⟨r42a, r42b, r42c⟩ := XV.out.last B.out (by have := L0.out; have := L1.out; omega) (qtxt (unq (lowu (qnum a) n) n)) (qtxt (unq (highu (qnum a) n) n)); replace XL := hid ((XL.out.other (g2 := w.heap.size) (by have := L0.out; have := L1.out; omega) 0 (.string (qtxt (unq (lowu (qnum a) n) n)))).other (g2 := w.heap.size) (by have := L0.out; have := L1.out; omega) 1 (.string (qtxt (unq (highu (qnum a) n) n)))); replace XH := hid ((XH.out.other (g2 := w.heap.size) (by have := L0.out; have := L1.out; omega) 0 (.string (qtxt (unq (lowu (qnum a) n) n)))).other (g2 := w.heap.size) (by have := L0.out; have := L1.out; omega) 1 (.string (qtxt (unq (highu (qnum a) n) n)))); replace HL := hid (r42c HL.out); replace HH := hid (r42c HH.out); replace HT4 := hid (r42c HT4.out); replace HU4 := hid (r42c HU4.out); replace HT5 := hid (r42c HT5.out); replace HU5 := hid (r42c HU5.out); replace XV := hid r42a; replace B := hid r42b; clear r42a r42b r42c; obtain ⟨cc43a, cc43b, cc43c⟩ := XL.out.cells; obtain ⟨cc44a, cc44b, cc44c⟩ := XH.out.cells; have mk28_3 := hid True.intro)
    | (have hm := mk28_1; clear hm; go_at_call 58; refine (number_dec (Dcl.mk1 (n := n) HH.out) HN.out).mono ?_; rintro e w35 ⟨v, rfl, hv, hb⟩; obtain ⟨s5a, p5a, n5a, c5a, s5b, p5b, n5b, c5b, rfl⟩ := hv.opened; obtain ⟨ht5, d5, hu5, hd5⟩ := hv.two; have HD5 := hid hd5; replace XV := vx XV hb; replace XL := dx XL hb; replace XH := dx XH hb; replace HL := wl HL hb; replace HH := wl HH hb; replace HT4 := wl HT4 hb; replace HU4 := wl HU4 hb; replace B := bb B hb; clear cc33a cc33b cc33c cc34a cc34b cc34c; have HT5 := hid ht5; have HU5 := hid hu5; clear hb hv ht5 hu5 hd5; obtain ⟨cc36a, cc36b, cc36c⟩ := XL.out.cells; obtain ⟨cc37a, cc37b, cc37c⟩ := XH.out.cells; have mk28_2 := hid True.intro)
    | (have hm := mk28_0; clear hm; go_at_call 35; refine (qstring (Rtl.mk2 HT4.out HU4.out HD4.out) (by decide)).mono ?_; rintro e w32 ⟨rfl, hb⟩; replace XV := vx XV hb; replace XL := dx XL hb; replace XH := dx XH hb; replace HL := wl HL hb; replace HH := wl HH hb; replace HT4 := wl HT4 hb; replace HU4 := wl HU4 hb; replace B := bb B hb; clear cc30a cc30b cc30c cc31a cc31b cc31c; clear hb ; obtain ⟨cc33a, cc33b, cc33c⟩ := XL.out.cells; obtain ⟨cc34a, cc34b, cc34c⟩ := XH.out.cells; have mk28_1 := hid True.intro)
    | (go_at_call 58; refine (number_dec (Dcl.mk1 (n := n) HL.out) HN.out).mono ?_; rintro e w29 ⟨v, rfl, hv, hb⟩; obtain ⟨s4a, p4a, n4a, c4a, s4b, p4b, n4b, c4b, rfl⟩ := hv.opened; obtain ⟨ht4, d4, hu4, hd4⟩ := hv.two; have HD4 := hid hd4; replace XV := vx XV hb; replace XL := dx XL hb; replace XH := dx XH hb; replace HL := wl HL hb; replace HH := wl HH hb; replace B := bb B hb; clear cc20a cc20b cc21a cc21b cc21c cc22a cc22b cc22c cc24a cc24b cc24c cc25a cc25b cc25c cc26a cc26b cc26c cc27a cc27b cc27c; have HT4 := hid ht4; have HU4 := hid hu4; clear hb hv ht4 hu4 hd4; obtain ⟨cc30a, cc30b, cc30c⟩ := XL.out.cells; obtain ⟨cc31a, cc31b, cc31c⟩ := XH.out.cells; have mk28_0 := hid True.intro))
  go_wp2_with fail
  refine bodyPost_ret (res_ival_tmp rfl rfl rfl XV.out) rfl ?_
  exact ⟨rfl, B.out⟩

set_option maxHeartbeats 2000000 in
theorem darnd_bad {a : ByteArray} {d k : Int} (h : BadD a d k) (ha : a.size ≤ maxLen) (w : World) :
    Calls Try.prog 31 #[.string a, .int .i64 d] w fun e w' => e = .returned (.tuple #[.agg #[.string ⟨#[]⟩, .string ⟨#[]⟩], errno k]) ∧ Below w.heap.size w w' := by
  have hne := errv_neq
  have hgd := errv_guard
  have hkk := errv_some h.ne
  have H1 := hid (fun w => dread_bad h ha w)
  have B := hid (Below.refl w.heap.size w)
  have hb1 := (Below.refl _ _).alloc (Nat.le_refl w.heap.size) (.cells #[.string ⟨#[]⟩, .string ⟨#[]⟩] 42)
  have hx2 := Vbx.new w ⟨#[]⟩ ⟨#[]⟩
  replace B := bb B hb1
  have XV := hid hx2
  have hs3 : (w.alloc (.cells #[.string ⟨#[]⟩, .string ⟨#[]⟩] 42)).heap.size = w.heap.size + 1 := by simp
  clear hb1 hx2
  clear hs3 h
  go_enter Try.func31, Try.ntmps31
  obtain ⟨cc4a, cc4b⟩ := XV.out.both
  go_wp2_with fail
  generalize hW : w.alloc (.cells #[.string ⟨#[]⟩, .string ⟨#[]⟩] 42) = W5 at *
  clear hW
  refine (H1.out _).mono ?_
  rintro e w6 ⟨rfl, hb⟩
  replace XV := vx XV hb
  replace B := bb B hb
  clear cc4a cc4b
  clear hb H1
  have hb7 := (Below.refl _ _).alloc (Nat.le_refl w6.heap.size) (.cells #[.bool false, .slice none 0 0, .bool false, .slice none 0 0] 51)
  have hx8 := Nbx.new w6 false false (.slice none 0 0) (.slice none 0 0)
  have L0 := hid XV.out.lt
  replace XV := vx XV hb7
  replace B := bb B hb7
  have XA := hid hx8
  have hs9 : (w6.alloc (.cells #[.bool false, .slice none 0 0, .bool false, .slice none 0 0] 51)).heap.size = w6.heap.size + 1 := by simp
  clear hb7 hx8
  obtain ⟨cc10a, cc10b⟩ := XV.out.both
  obtain ⟨cc11a, cc11b, cc11c, cc11d⟩ := XA.out.cells
  obtain ⟨cc12a, cc12b, cc12c, cc12d⟩ := XV.out.stores
  obtain ⟨r13a, r13b, r13c⟩ := XV.out.last B.out (by have := L0.out; omega) ⟨#[]⟩ ⟨#[]⟩
  replace XA := hid ((XA.out.other (g2 := w.heap.size) (by have := L0.out; omega) 0 (.string ⟨#[]⟩)).other (g2 := w.heap.size) (by have := L0.out; omega) 1 (.string ⟨#[]⟩))
  replace XV := hid r13a
  replace B := hid r13b
  clear r13a r13b r13c
  obtain ⟨cc14a, cc14b⟩ := XV.out.both
  obtain ⟨cc15a, cc15b, cc15c, cc15d⟩ := XA.out.cells
  go_wp2_with fail
  refine bodyPost_ret (res_ival_tmp rfl rfl rfl XV.out) rfl ?_
  exact ⟨rfl, B.out⟩

theorem units_lt {a : ByteArray} (h : GoodQ a) {n : Nat} (hn : n ≤ 30) : (lowu (qnum a) n).natAbs < 10 ^ 131 ∧ (highu (qnum a) n).natAbs < 10 ^ 131 := by
  have h1 := (qnum_lt h).1
  have h2 := pten_le hn
  have h3 : ((qnum a).num * (pten n : Int) / ((qnum a).den : Int)).natAbs ≤ ((qnum a).num * (pten n : Int)).natAbs := natAbs_ediv_le _ _
  rw [Int.natAbs_mul, Int.natAbs_natCast] at h3
  have h4 : (qnum a).num.natAbs * pten n ≤ 10 ^ 100 * 1000000000000000000000000000000 := Nat.mul_le_mul (Nat.le_of_lt h1) h2
  have h5 : (10 : Nat) ^ 100 * 1000000000000000000000000000000 + 1 < 10 ^ 131 := by decide +kernel
  have h6 : (lowu (qnum a) n).natAbs ≤ (qnum a).num.natAbs * pten n := h3
  have h7 : (highu (qnum a) n).natAbs ≤ (qnum a).num.natAbs * pten n + 1 := by
    unfold highu
    split <;> omega
  generalize (10 : Nat) ^ 100 * 1000000000000000000000000000000 = m at *
  generalize (10 : Nat) ^ 131 = l at *
  omega
theorem size_unq {z : Int} (hz : z.natAbs < 10 ^ 131) {n : Nat} (hn : n ≤ 30) : (qtxt (unq z n)).size ≤ 1000 := by
  obtain ⟨h1, h2⟩ := divInt_le z (pten n : Int)
  have h3 := pten_le hn
  have h4 := pten_pos n
  have h5 : (1000000000000000000000000000000 : Nat) < 10 ^ 131 := by decide +kernel
  have := size_qtxt (q := unq z n) 131 (by decide) (Nat.lt_of_le_of_lt h1 hz) (Nat.lt_of_le_of_lt h2 (by rw [Int.natAbs_natCast]; generalize (10 : Nat) ^ 131 = l at *; omega))
  omega
/-- What Around tells. -/
def RTells (a : ByteArray) (d : Int) (l h : ByteArray) (k : Int) : Prop :=
  (k = 0 ∧ GoodQ a ∧ ∃ n : Nat, n ≤ 30 ∧ d = (n : Int) ∧ l = qtxt (unq (lowu (qnum a) n) n) ∧ h = qtxt (unq (highu (qnum a) n) n)) ∨ (k ≠ 0 ∧ BadD a d k ∧ l = ⟨#[]⟩ ∧ h = ⟨#[]⟩)
theorem darnd_any (a : ByteArray) (d : Int) (ha : a.size ≤ maxLen) (w : World) :
    Calls Try.prog 31 #[.string a, .int .i64 d] w fun e w' => ∃ l h k, e = .returned (.tuple #[.agg #[.string l, .string h], errv k]) ∧ RTells a d l h k ∧ l.size ≤ 1000 ∧ h.size ≤ 1000 ∧ Below w.heap.size w w' := by
  rcases dec_cases a d with ⟨h, n, hn, rfl⟩ | ⟨k, h⟩
  · refine (darnd_ok h hn w).mono ?_
    rintro e w' ⟨rfl, hb⟩
    obtain ⟨u1, u2⟩ := units_lt h hn
    exact ⟨_, _, 0, rfl, .inl ⟨rfl, h, n, hn, rfl, rfl, rfl⟩, size_unq u1 hn, size_unq u2 hn, hb⟩
  · refine (darnd_bad h ha w).mono ?_
    rintro e w' ⟨rfl, hb⟩
    exact ⟨_, _, k, by rw [errv_some h.ne], .inr ⟨h.ne, h, rfl, rfl⟩, Nat.zero_le _, Nat.zero_le _, hb⟩

end Go.Proofs.Ytjeeepcnaaadmaa
