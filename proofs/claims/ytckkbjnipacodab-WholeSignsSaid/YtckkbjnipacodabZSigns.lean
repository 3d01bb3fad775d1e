import Derived.Test.YtckkbjnipacodabWholeAny
namespace Go.Proofs.Ytckkbjnipacodab
open Go.RowKit
open Num
set_option linter.unusedVariables false
set_option maxRecDepth 100000
set_option linter.unusedSimpArgs false


set_option maxHeartbeats 2000000 in
theorem signs_walk (a b : ByteArray) (ha : a.size ≤ maxLen) (hb : b.size ≤ maxLen) (w : World) :
    Calls Try.prog 3 #[.string a, .string b] w fun e w' => e = .returned (.bool true) ∧ Below w.heap.size w w' := by
  have hne := errv_neq
  have hgd := errv_guard
  have hmi : (⟨#[45, 49]⟩ : ByteArray).size ≤ maxLen := by decide
  go_enter Try.func3, Try.ntmps3
  go_wp2_with fail
  refine (zmul_any a ⟨#[45, 49]⟩ ha hmi w).mono ?_
  rintro e w1 ⟨x, k1, rfl, t1, z1, b1⟩
  have T1 := hid t1
  have B1 := hid (b1)
  clear b1 t1
  go_wp2_with fail
  refine (zmul_any b ⟨#[45, 49]⟩ hb hmi w1).mono ?_
  rintro e w2 ⟨y, k2, rfl, t2, z2, b2⟩
  have T2 := hid t2
  have B2 := hid (B1.out.trans (b2.mono B1.out.size))
  clear b2 t2
  go_wp2_with fail
  refine (zmul_any a b ha hb w2).mono ?_
  rintro e w3 ⟨m, k3, rfl, t3, z3, b3⟩
  have T3 := hid t3
  have B3 := hid (B2.out.trans (b3.mono B2.out.size))
  clear b3 t3
  go_wp2_with fail
  refine (minus7 w3).mono ?_
  rintro e w4 ⟨rfl, b4⟩
  have B4 := hid (B3.out.trans (b4.mono B3.out.size))
  clear b4 
  by_cases hgood : GoodZ a ∧ GoodZ b
  · have e1 : k1 = 0 := T1.out.zero hgood.1 good_minus
    have e2 : k2 = 0 := T2.out.zero hgood.2 good_minus
    have e3 : k3 = 0 := T3.out.zero hgood.1 hgood.2
    subst e1 e2 e3
    go_wp2_with fail
    refine (zadd_any a x ha z1 w4).mono ?_
    rintro e w5 ⟨s, k5, rfl, t5, z5, b5⟩
    have T5 := hid t5
    have B5 := hid (B4.out.trans (b5.mono B4.out.size))
    clear b5 t5
    go_wp2_with fail
    refine (zmul_any x y z1 z2 w5).mono ?_
    rintro e w6 ⟨n, k6, rfl, t6, z6, b6⟩
    have T6 := hid t6
    have B6 := hid (B5.out.trans (b6.mono B5.out.size))
    clear b6 t6
    go_wp2_with fail
    refine (zmul_any x b z1 hb w6).mono ?_
    rintro e w7 ⟨p, k7, rfl, t7, z7, b7⟩
    have T7 := hid t7
    have B7 := hid (B6.out.trans (b7.mono B6.out.size))
    clear b7 t7
    go_wp2_with fail
    refine (zmul_any p ⟨#[45, 49]⟩ z7 hmi w7).mono ?_
    rintro e w8 ⟨t, k8, rfl, t8, z8, b8⟩
    have T8 := hid t8
    have B8 := hid (B7.out.trans (b8.mono B7.out.size))
    clear b8 t8
    have E1 : k5 = 0 → s.toList = [48] := by
      intro h
      rw [(T5.out.yes h).2.2, (T1.out.yes rfl).2.2, znum_ztxt, znum_minus, show znum a + znum a * -1 = 0 by omega, ztxt_zero, ByteArray.toList_eq]
    have E2 : k6 = 0 → n.toList = m.toList := by
      intro h
      apply congrArg ByteArray.toList
      rw [(T6.out.yes h).2.2, (T1.out.yes rfl).2.2, (T2.out.yes rfl).2.2, (T3.out.yes rfl).2.2, znum_ztxt, znum_ztxt, znum_minus]
      exact congrArg ztxt (by rw [Int.mul_neg_one, Int.mul_neg_one, Int.neg_mul_neg])
    have E3 : k7 = 0 → k8 = 0 → (t.toList == m.toList) = true := by
      intro h7 h8
      rw [beq_iff_eq]
      apply congrArg ByteArray.toList
      rw [(T8.out.yes h8).2.2, (T7.out.yes h7).2.2, (T1.out.yes rfl).2.2, (T3.out.yes rfl).2.2, znum_ztxt, znum_ztxt, znum_minus]
      exact congrArg ztxt (by rw [Int.mul_neg_one, Int.mul_neg_one, Int.neg_mul, Int.neg_neg])
    have H1 := hid E1
    have H2 := hid E2
    have H3 := hid E3
    clear E1 E2 E3 hgood
    go_wp2_with fail
    all_goals
      go_ret
      refine ⟨?_, B8.out⟩
      first
      | rfl
      | exact absurd (H1.out (by assumption)) (by assumption)
      | exact absurd (H2.out (by assumption)) (by assumption)
      | exact ret_bool (H3.out (by assumption) (by assumption))
  · have hor : k1 ≠ 0 ∨ k2 ≠ 0 := by
      apply Classical.byContradiction
      intro h
      have e1 : k1 = 0 := Classical.byContradiction fun e => h (.inl e)
      have e2 : k2 = 0 := Classical.byContradiction fun e => h (.inr e)
      exact hgood ⟨(T1.out.yes e1).1, (T2.out.yes e2).1⟩
    clear hgood
    rcases hor with h | h
    all_goals
      go_wp2_with fail
    all_goals
      go_ret
      refine ⟨?_, B4.out⟩
      first
      | rfl
      | exact ret_bool (by simp_all)

end Go.Proofs.Ytckkbjnipacodab

