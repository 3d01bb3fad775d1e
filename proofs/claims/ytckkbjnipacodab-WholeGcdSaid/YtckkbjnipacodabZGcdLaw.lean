import Derived.Test.YtckkbjnipacodabZSignOf
namespace Go.Proofs.Ytckkbjnipacodab
open Go.RowKit
open Num
set_option linter.unusedVariables false
set_option maxRecDepth 100000
set_option linter.unusedSimpArgs false


set_option maxHeartbeats 4000000 in
theorem gcd_walk (a b k : ByteArray) (ha : a.size ≤ maxLen) (hb : b.size ≤ maxLen) (hk : k.size ≤ maxLen) (w : World) :
    Calls Try.prog 4 #[.string a, .string b, .string k] w fun e w' => e = .returned (.bool true) ∧ Below w.heap.size w w' := by
  have hne := errv_neq
  have hgd := errv_guard
  go_enter Try.func4, Try.ntmps4
  go_wp2_with fail
  refine (zgcd_any a b ha hb w).mono ?_
  rintro e w1 ⟨g, _, _, k1, rfl, t1, z1, _, _, b1⟩
  have T1 := hid t1
  have B1 := hid (b1)
  clear b1 t1
  go_wp2_with fail
  refine (zgcd_any b a hb ha w1).mono ?_
  rintro e w2 ⟨h, _, _, k2, rfl, t2, z2, _, _, b2⟩
  have T2 := hid t2
  have B2 := hid (B1.out.trans (b2.mono B1.out.size))
  clear b2 t2
  go_wp2_with fail
  refine (minus7 w2).mono ?_
  rintro e w3 ⟨rfl, b3⟩
  have B3 := hid (B2.out.trans (b3.mono B2.out.size))
  clear b3 
  by_cases hgood : GoodZ a ∧ GoodZ b
  · have e1 : k1 = 0 := T1.out.zero hgood.1 hgood.2
    have e2 : k2 = 0 := T2.out.zero hgood.2 hgood.1
    subst e1 e2
    have G1 : g = ztxt (Int.gcd (znum a) (znum b) : Int) := by rw [(T1.out.yes rfl).2.2.1, zg_gcd]
    have EG := hid G1
    have G2 : (g.toList == h.toList) = true := by
      rw [G1, (T2.out.yes rfl).2.2.1, zg_gcd, Int.gcd_comm]
      simp
    clear G1
    go_wp2_with fail
    refine (zadd_any a b ha hb w3).mono ?_
    rintro e w4 ⟨s, k4, rfl, t4, z4, b4⟩
    have T4 := hid t4
    have B4 := hid (B3.out.trans (b4.mono B3.out.size))
    clear b4 t4
    go_wp2_with fail
    refine (zgcd_any a s ha z4 w4).mono ?_
    rintro e w5 ⟨i, _, _, k5, rfl, t5, z5, _, _, b5⟩
    have T5 := hid t5
    have B5 := hid (B4.out.trans (b5.mono B4.out.size))
    clear b5 t5
    go_wp2_with fail
    refine (zmul_any a k ha hk w5).mono ?_
    rintro e w6 ⟨x, k6, rfl, t6, z6, b6⟩
    have T6 := hid t6
    have B6 := hid (B5.out.trans (b6.mono B5.out.size))
    clear b6 t6
    go_wp2_with fail
    refine (zmul_any b k hb hk w6).mono ?_
    rintro e w7 ⟨y, k7, rfl, t7, z7, b7⟩
    have T7 := hid t7
    have B7 := hid (B6.out.trans (b7.mono B6.out.size))
    clear b7 t7
    go_wp2_with fail
    refine (zgcd_any x y z6 z7 w7).mono ?_
    rintro e w8 ⟨j, _, _, k8, rfl, t8, z8, _, _, b8⟩
    have T8 := hid t8
    have B8 := hid (B7.out.trans (b8.mono B7.out.size))
    clear b8 t8
    go_wp2_with fail
    refine (zmul_any g k z1 hk w8).mono ?_
    rintro e w9 ⟨m, k9, rfl, t9, z9, b9⟩
    have T9 := hid t9
    have B9 := hid (B8.out.trans (b9.mono B8.out.size))
    clear b9 t9
    have E1 : k4 = 0 → k5 = 0 → i.toList = g.toList := by
      intro h4 h5
      apply congrArg ByteArray.toList
      rw [(T5.out.yes h5).2.2.1, (T4.out.yes h4).2.2, EG.out, zg_gcd, znum_ztxt, Int.add_comm, Int.gcd_comm, Int.gcd_add_self_left, Int.gcd_comm]
    have E2 : k6 = 0 → k7 = 0 → k8 = 0 → k9 = 0 → j = txt (znum g * znum k).natAbs := by
      intro h6 h7 h8 h9
      rw [(T8.out.yes h8).2.2.1, (T6.out.yes h6).2.2, (T7.out.yes h7).2.2, zg_gcd, znum_ztxt, znum_ztxt, Int.gcd_mul_right, EG.out, znum_ztxt, Int.natAbs_mul]
      exact ztxt_nat _
    have H1 := hid E1
    have H2 := hid E2
    clear E1 E2 hgood
    by_cases h9 : k9 = 0
    · have em := (T9.out.yes h9).2.2
      by_cases hz : znum g * znum k < 0
      · obtain ⟨q1, q2, q3, q4, q5⟩ := ztxt_minus em hz
        have q4' := q4 q1
        have H3 : k6 = 0 → k7 = 0 → k8 = 0 → (j.toList == (m.extract 1 m.size).toList) = true := by
          intro h6 h7 h8
          rw [H2.out h6 h7 h8 h9, q5]
          simp
        have HH3 := hid H3
        have q6 : (1 : Int) ≤ (m.size : Int) := by omega
        unfold maxLen at z9
        clear H3 q4 q5 em hz
        subst h9
        go_wp2_with fail
        all_goals
          go_ret
          refine ⟨?_, B9.out⟩
          first
          | rfl
          | exact absurd (H1.out (by assumption) (by assumption)) (by assumption)
          | exact ret_bool (HH3.out (by assumption) (by assumption) (by assumption))
      · obtain ⟨q1, q2, q3, q4, q5⟩ := ztxt_plain em (by omega)
        have q4' := q4 q1
        have H3 : k6 = 0 → k7 = 0 → k8 = 0 → (j.toList == m.toList) = true := by
          intro h6 h7 h8
          rw [H2.out h6 h7 h8 h9, q5]
          simp
        have HH3 := hid H3
        clear H3 q4 q5 em hz
        subst h9
        go_wp2_with fail
        all_goals
          go_ret
          refine ⟨?_, B9.out⟩
          first
          | rfl
          | exact absurd (H1.out (by assumption) (by assumption)) (by assumption)
          | exact ret_bool (HH3.out (by assumption) (by assumption) (by assumption))
    · have em := (T9.out.no h9).2
      subst em
      have hl0 : (⟨#[]⟩ : ByteArray).toList = [] := by rw [ByteArray.toList_eq]
      go_wp2_with fail
      all_goals
        go_ret
        refine ⟨?_, B9.out⟩
        first
        | rfl
        | exact absurd (H1.out (by assumption) (by assumption)) (by assumption)
        | exact ret_bool (by simp_all)
  · have e1 : k1 ≠ 0 := fun e => hgood ⟨(T1.out.yes e).1, (T1.out.yes e).2.1⟩
    have e2 : k2 ≠ 0 := fun e => hgood ⟨(T2.out.yes e).2.1, (T2.out.yes e).1⟩
    have f1 : (k1 != 0) = true := by simpa using e1
    have f2 : (k2 != 0) = true := by simpa using e2
    clear hgood e1 e2
    go_wp2_with fail
    go_ret
    exact ⟨rfl, B3.out⟩

end Go.Proofs.Ytckkbjnipacodab

