/-
  THE EXTENDED EUCLIDEAN ALGORITHM, on integers (nothing of a program).
-/
import Derived.Test.YtjeeepcnaaadmaaNum
namespace Go.Proofs.Ytjeeepcnaaadmaa
namespace Num
set_option linter.unusedVariables false

/-- The greatest divisor of both and how it is made of them, by the document's recursion. -/
def zg (a b : Int) : Int × Int × Int :=
  if h : b = 0 then ((a.natAbs : Int), a.sign, 0)
  else
    let t := zg b (a % b)
    (t.1, t.2.2, t.2.1 - a / b * t.2.2)
termination_by b.natAbs
decreasing_by
  have h1 := Int.emod_nonneg a h
  have h2 := Int.emod_lt a h
  omega

theorem zg_zero (a : Int) : zg a 0 = ((a.natAbs : Int), a.sign, 0) := by rw [zg]; simp
theorem zg_step (a b : Int) (h : b ≠ 0) : zg a b = ((zg b (a % b)).1, (zg b (a % b)).2.2, (zg b (a % b)).2.1 - a / b * (zg b (a % b)).2.2) := by
  rw [zg]; simp [h]

theorem zg_ind {P : Int → Int → Prop} (h0 : ∀ a, P a 0) (h1 : ∀ a b, b ≠ 0 → P b (a % b) → P a b) (a b : Int) : P a b := by
  have : ∀ n : Nat, ∀ a b : Int, b.natAbs ≤ n → P a b := by
    intro n
    induction n with
    | zero => intro a b h; rw [show b = 0 by omega]; exact h0 a
    | succ n ih =>
      intro a b h
      by_cases hb : b = 0
      · subst hb; exact h0 a
      · refine h1 a b hb (ih _ _ ?_)
        have e1 := Int.emod_nonneg a hb
        have e2 := Int.emod_lt a hb
        omega
  exact this _ a b (Nat.le_refl _)

theorem gcd_emod (a b : Int) : Int.gcd (a % b) b = Int.gcd a b := by
  have h := Int.gcd_add_mul_left_left b (a % b) (a / b)
  rw [Int.emod_add_mul_ediv] at h
  exact h.symm

theorem zg_gcd (a b : Int) : (zg a b).1 = (Int.gcd a b : Int) := by
  refine zg_ind (P := fun a b => (zg a b).1 = (Int.gcd a b : Int)) ?_ ?_ a b
  · intro a; rw [zg_zero]; simp
  · intro a b hb ih
    rw [zg_step a b hb]
    show (zg b (a % b)).1 = _
    rw [ih, Int.gcd_comm b (a % b), gcd_emod]

theorem zg_made (a b : Int) : (zg a b).2.1 * a + (zg a b).2.2 * b = (zg a b).1 := by
  refine zg_ind (P := fun a b => (zg a b).2.1 * a + (zg a b).2.2 * b = (zg a b).1) ?_ ?_ a b
  · intro a; rw [zg_zero]; simp [Int.sign_mul_self]
  · intro a b hb ih
    rw [zg_step a b hb]
    show (zg b (a % b)).2.2 * a + ((zg b (a % b)).2.1 - a / b * (zg b (a % b)).2.2) * b = (zg b (a % b)).1
    rw [← ih]
    have h := Int.mul_ediv_add_emod a b
    generalize (zg b (a % b)).2.2 = v at *
    generalize (zg b (a % b)).2.1 = u at *
    generalize a % b = r at *
    generalize a / b = q at *
    rw [← h]
    simp only [Int.sub_mul, Int.mul_add]
    rw [show v * (b * q) = q * v * b by rw [Int.mul_comm b q, ← Int.mul_assoc, Int.mul_comm v q]]
    omega

theorem zg_small (a b : Int) (hb : b ≠ 0) : (zg a b).2.1.natAbs ≤ b.natAbs ∧ (zg a b).2.2.natAbs ≤ max a.natAbs 1 := by
  revert hb
  refine zg_ind (P := fun a b => b ≠ 0 → (zg a b).2.1.natAbs ≤ b.natAbs ∧ (zg a b).2.2.natAbs ≤ max a.natAbs 1) ?_ ?_ a b
  · intro a h; exact absurd rfl h
  · intro a b hb ih _
    have hm := zg_made a b
    rw [zg_gcd] at hm
    by_cases hr : a % b = 0
    · rw [zg_step a b hb, hr, zg_zero]
      show (0 : Int).natAbs ≤ _ ∧ (b.sign - a / b * 0).natAbs ≤ _
      rw [Int.mul_zero, Int.sub_zero]
      refine ⟨by simp, ?_⟩
      have : b.sign.natAbs ≤ 1 := by rw [Int.natAbs_sign]; split <;> omega
      omega
    · have h1 := ih hr
      have h2 : (zg a b).2.1.natAbs ≤ b.natAbs := by
        rw [zg_step a b hb]
        show (zg b (a % b)).2.2.natAbs ≤ _
        have := h1.2
        omega
      refine ⟨h2, ?_⟩
      have e1 := Int.emod_nonneg a hb
      have e2 := Int.emod_lt a hb
      have hg : Int.gcd a b < b.natAbs := by
        have h3 : Int.gcd a b = Int.gcd b (a % b) := by
          rw [Int.gcd_comm b (a % b), gcd_emod]
        have h4 : Int.gcd b (a % b) ≤ (a % b).natAbs := Nat.le_of_dvd (by omega) (Int.natAbs_dvd_natAbs.2 (Int.gcd_dvd_right b (a % b)) |> fun h => by simpa using h)
        omega
      have h5 : ((zg a b).2.2 * b).natAbs ≤ Int.gcd a b + (zg a b).2.1.natAbs * a.natAbs := by
        have h6 : (zg a b).2.2 * b = (Int.gcd a b : Int) - (zg a b).2.1 * a := by omega
        rw [h6]
        refine Nat.le_trans (Int.natAbs_sub_le _ _) ?_
        rw [Int.natAbs_mul]
        simp
      rw [Int.natAbs_mul] at h5
      have h7 : (zg a b).2.1.natAbs * a.natAbs ≤ b.natAbs * a.natAbs := Nat.mul_le_mul_right _ h2
      have h8 : (zg a b).2.2.natAbs * b.natAbs < (a.natAbs + 1) * b.natAbs := by
        rw [Nat.add_mul, Nat.one_mul, Nat.mul_comm a.natAbs]
        omega
      have := Nat.lt_of_mul_lt_mul_right h8
      omega

end Num
end Go.Proofs.Ytjeeepcnaaadmaa

