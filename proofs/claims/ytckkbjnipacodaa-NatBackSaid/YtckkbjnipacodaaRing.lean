import Derived.Test.YtckkbjnipacodaaLaw
namespace Go.Proofs.Ytckkbjnipacodaa
open Go.RowKit
open Num
set_option linter.unusedVariables false
set_option linter.unusedSimpArgs false

set_option maxHeartbeats 2000000 in
set_option maxRecDepth 100000 in
theorem ring_walk (a b c : ByteArray) (ha : a.size ≤ maxLen) (hb : b.size ≤ maxLen) (hc : c.size ≤ maxLen) (w : World) :
    Calls Try.prog 4 #[.string a, .string b, .string c] w fun e w' => e = .returned (.bool true) ∧ Below w.heap.size w w' := by
  have hne := errv_neq
  have hgd := errv_guard
  go_enter Try.func4, Try.ntmps4
  go_wp2_with fail
  refine (added_true w).mono ?_
  rintro e w1 ⟨rfl, b1⟩
  have B1 := hid b1
  clear b1
  go_wp2_with fail
  refine (add_any a b ha hb w1).mono ?_
  rintro e w2 ⟨ab, k2, rfl, t2, z2, b2⟩
  have T2 := hid t2
  have B2 := hid (B1.out.trans (b2.mono B1.out.size))
  clear t2 b2
  go_wp2_with fail
  refine (add_any b a hb ha w2).mono ?_
  rintro e w3 ⟨ba, k3, rfl, t3, z3, b3⟩
  have T3 := hid t3
  have B3 := hid (B2.out.trans (b3.mono B2.out.size))
  clear t3 b3
  go_wp2_with fail
  refine (mul_any a b ha hb w3).mono ?_
  rintro e w4 ⟨m, k4, rfl, t4, z4, b4⟩
  have T4 := hid t4
  have B4 := hid (B3.out.trans (b4.mono B3.out.size))
  clear t4 b4
  go_wp2_with fail
  refine (mul_any b a hb ha w4).mono ?_
  rintro e w5 ⟨n, k5, rfl, t5, z5, b5⟩
  have T5 := hid t5
  have B5 := hid (B4.out.trans (b5.mono B4.out.size))
  clear t5 b5
  by_cases hgood : Good a ∧ Good b
  · have e2 : k2 = 0 := T2.out.zero hgood.1 hgood.2
    have e3 : k3 = 0 := T3.out.zero hgood.2 hgood.1
    have e4 : k4 = 0 := T4.out.zero hgood.1 hgood.2
    have e5 : k5 = 0 := T5.out.zero hgood.2 hgood.1
    subst e2 e3 e4 e5
    have eab : ab = ba := by
      rw [(T2.out.yes rfl).2.2, (T3.out.yes rfl).2.2]
      exact congrArg txt (Nat.add_comm _ _)
    have emn : m = n := by
      rw [(T4.out.yes rfl).2.2, (T5.out.yes rfl).2.2]
      exact congrArg txt (Nat.mul_comm _ _)
    subst eab emn
    go_wp2_with fail
    refine (mul_any a c ha hc w5).mono ?_
    rintro e w6 ⟨ac, k6, rfl, t6, z6, b6⟩
    have T6 := hid t6
    have B6 := hid (B5.out.trans (b6.mono B5.out.size))
    clear t6 b6
    go_wp2_with fail
    refine (mul_any b c hb hc w6).mono ?_
    rintro e w7 ⟨bc, k7, rfl, t7, z7, b7⟩
    have T7 := hid t7
    have B7 := hid (B6.out.trans (b7.mono B6.out.size))
    clear t7 b7
    go_wp2_with fail
    refine (mul_any ab c z2 hc w7).mono ?_
    rintro e w8 ⟨x, k8, rfl, t8, z8, b8⟩
    have T8 := hid t8
    have B8 := hid (B7.out.trans (b8.mono B7.out.size))
    clear t8 b8
    go_wp2_with fail
    refine (add_any ac bc z6 z7 w8).mono ?_
    rintro e w9 ⟨y, k9, rfl, t9, z9, b9⟩
    have T9 := hid t9
    have B9 := hid (B8.out.trans (b9.mono B8.out.size))
    clear t9 b9
    go_wp2_with fail
    refine (mul_any m c z4 hc w9).mono ?_
    rintro e w10 ⟨z, k10, rfl, t10, z10, b10⟩
    have T10 := hid t10
    have B10 := hid (B9.out.trans (b10.mono B9.out.size))
    clear t10 b10
    go_wp2_with fail
    refine (mul_any a bc ha z7 w10).mono ?_
    rintro e w11 ⟨v, k11, rfl, t11, z11, b11⟩
    have T11 := hid t11
    have B11 := hid (B10.out.trans (b11.mono B10.out.size))
    clear t11 b11
    have E1 : k6 = 0 → k7 = 0 → k8 = 0 → k9 = 0 → x = y := by
      intro h6 h7 h8 h9
      rw [(T8.out.yes h8).2.2, (T9.out.yes h9).2.2, (T6.out.yes h6).2.2, (T7.out.yes h7).2.2, (T2.out.yes rfl).2.2]
      simp only [num_txt]
      exact congrArg txt (Nat.add_mul _ _ _)
    have E2 : k10 = 0 → k7 = 0 → k11 = 0 → z = v := by
      intro h10 h7 h11
      rw [(T10.out.yes h10).2.2, (T11.out.yes h11).2.2, (T7.out.yes h7).2.2, (T4.out.yes rfl).2.2]
      simp only [num_txt]
      exact congrArg txt (Nat.mul_assoc _ _ _)
    have HE1 := hid E1
    have HE2 := hid E2
    clear E1 E2 hgood
    go_wp2_with fail
    all_goals
      go_ret
      refine ⟨?_, B11.out⟩
      first
      | rfl
      | exact absurd (congrArg ByteArray.toList (HE1.out (by assumption) (by assumption) (by assumption) (by assumption))) (by assumption)
      | (rw [HE2.out (by assumption) (by assumption) (by assumption)]; exact ret_bool (by simp))
  · have e2 : k2 ≠ 0 := fun e => hgood ⟨(T2.out.yes e).1, (T2.out.yes e).2.1⟩
    have e3 : k3 ≠ 0 := fun e => hgood ⟨(T3.out.yes e).2.1, (T3.out.yes e).1⟩
    have e4 : k4 ≠ 0 := fun e => hgood ⟨(T4.out.yes e).1, (T4.out.yes e).2.1⟩
    have e5 : k5 ≠ 0 := fun e => hgood ⟨(T5.out.yes e).2.1, (T5.out.yes e).1⟩
    have f2 : (k2 != 0) = true := by simpa using e2
    have f3 : (k3 != 0) = true := by simpa using e3
    have f4 : (k4 != 0) = true := by simpa using e4
    have f5 : (k5 != 0) = true := by simpa using e5
    clear hgood e2 e3 e4 e5
    go_wp2_with fail
    go_ret
    exact ⟨rfl, B5.out⟩

end Go.Proofs.Ytckkbjnipacodaa

