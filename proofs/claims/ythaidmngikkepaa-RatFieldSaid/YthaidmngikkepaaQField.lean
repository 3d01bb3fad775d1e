import Derived.Test.YthaidmngikkepaaQMath
namespace Go.Proofs.Ythaidmngikkepaa
open Go.RowKit
open Num
set_option linter.unusedVariables false
set_option maxRecDepth 100000
set_option linter.unusedSimpArgs false

set_option maxHeartbeats 16000000 in
theorem field_walk (a b c : ByteArray) (ha : a.size ≤ maxLen) (hb : b.size ≤ maxLen) (hc : c.size ≤ maxLen)  (w : World) :
    Calls Try.prog 3 #[.string a, .string b, .string c] w fun e w' => e = .returned (.bool true) ∧ Below w.heap.size w w' := by
  have hne := errv_neq
  have heq := errv_eql
  have hgd := errv_guard
  go_enter Try.func3, Try.ntmps3
  go_wp2_with fail
  refine (halved_true w).mono ?_
  rintro e w1 ⟨rfl, b1⟩
  have B1 := hid b1
  clear b1
  go_wp2_with fail
  refine (qadd_any a b ha hb w1).mono ?_
  rintro e w2 ⟨s, k2, rfl, t2, z2, b2⟩
  have T2 := hid t2
  have B2 := hid (B1.out.trans (b2.mono B1.out.size))
  clear b2
  clear t2
  go_wp2_with fail
  refine (qadd_any b a hb ha w2).mono ?_
  rintro e w3 ⟨t, k3, rfl, t3, z3, b3⟩
  have T3 := hid t3
  have B3 := hid (B2.out.trans (b3.mono B2.out.size))
  clear b3
  clear t3
  go_wp2_with fail
  refine (qmul_any a b ha hb w3).mono ?_
  rintro e w4 ⟨m, k4, rfl, t4, z4, b4⟩
  have T4 := hid t4
  have B4 := hid (B3.out.trans (b4.mono B3.out.size))
  clear b4
  clear t4
  go_wp2_with fail
  refine (qmul_any b a hb ha w4).mono ?_
  rintro e w5 ⟨n, k5, rfl, t5, z5, b5⟩
  have T5 := hid t5
  have B5 := hid (B4.out.trans (b5.mono B4.out.size))
  clear b5
  clear t5
  by_cases hgood : GoodQ a ∧ GoodQ b
  · have e1 : k2 = 0 := T2.out.zero hgood.1 hgood.2
    have e2 : k3 = 0 := T3.out.zero hgood.2 hgood.1
    have e3 : k4 = 0 := T4.out.zero hgood.1 hgood.2
    have e4 : k5 = 0 := T5.out.zero hgood.2 hgood.1
    subst e1 e2 e3 e4
    have est : s = t := addc_text T2.out T3.out
    have emn : m = n := mulc_text T4.out T5.out
    subst est emn
    have HG := hid hgood
    clear hgood
    go_wp2_with fail
    refine (qdiv_any a b ha hb w5).mono ?_
    rintro e w6 ⟨q, k6, rfl, t6, z6, b6⟩
    have T6 := hid t6
    have B6 := hid (B5.out.trans (b6.mono B5.out.size))
    clear b6
    clear t6
    go_wp2_with fail
    refine (qmul_any q b z6 hb w6).mono ?_
    rintro e w7 ⟨p, k7, rfl, t7, z7, b7⟩
    have T7 := hid t7
    have B7 := hid (B6.out.trans (b7.mono B6.out.size))
    clear b7
    clear t7
    by_cases h5 : k6 = 0
    · subst h5
      have HEP := hid (fun (h6 : k7 = 0) => cancel_text T6.out (h6 ▸ T7.out))
      by_cases h6 : k7 = 0
      · have EP := (HEP.out h6).symm
        clear HEP
        subst h6 EP
        go_wp2_with fail
        refine (qmul_any a c ha hc w7).mono ?_
        rintro e w8 ⟨ac, k8, rfl, t8, z8, b8⟩
        have T8 := hid t8
        have B8 := hid (B7.out.trans (b8.mono B7.out.size))
        clear b8
        clear t8
        go_wp2_with fail
        refine (qmul_any b c hb hc w8).mono ?_
        rintro e w9 ⟨bc, k9, rfl, t9, z9, b9⟩
        have T9 := hid t9
        have B9 := hid (B8.out.trans (b9.mono B8.out.size))
        clear b9
        clear t9
        go_wp2_with fail
        refine (qmul_any s c z2 hc w9).mono ?_
        rintro e w10 ⟨x, k10, rfl, t10, z10, b10⟩
        have T10 := hid t10
        have B10 := hid (B9.out.trans (b10.mono B9.out.size))
        clear b10
        clear t10
        go_wp2_with fail
        refine (qadd_any ac bc z8 z9 w10).mono ?_
        rintro e w11 ⟨y, k11, rfl, t11, z11, b11⟩
        have T11 := hid t11
        have B11 := hid (B10.out.trans (b11.mono B10.out.size))
        clear b11
        clear t11
        have HE := hid (fun (h1 : k8 = 0) (h2 : k9 = 0) (h3 : k10 = 0) (h4 : k11 = 0) => dist_text T2.out (h1 ▸ T8.out) (h2 ▸ T9.out) (h3 ▸ T10.out) (h4 ▸ T11.out))
        go_wp2_with fail
        all_goals
          go_ret
          refine ⟨?_, B11.out⟩
          first
          | rfl
          | (rw [HE.out (by assumption) (by assumption) (by assumption) (by assumption)]; exact ret_bool (by simp))
      · have f7 : (k7 != 0) = true := by simpa using h6
        have g7 : (k7 == 0) = false := by simpa using h6
        clear HEP h6
        go_wp2_with fail
        refine (qmul_any a c ha hc w7).mono ?_
        rintro e w8 ⟨ac, k8, rfl, t8, z8, b8⟩
        have T8 := hid t8
        have B8 := hid (B7.out.trans (b8.mono B7.out.size))
        clear b8
        clear t8
        go_wp2_with fail
        refine (qmul_any b c hb hc w8).mono ?_
        rintro e w9 ⟨bc, k9, rfl, t9, z9, b9⟩
        have T9 := hid t9
        have B9 := hid (B8.out.trans (b9.mono B8.out.size))
        clear b9
        clear t9
        go_wp2_with fail
        refine (qmul_any s c z2 hc w9).mono ?_
        rintro e w10 ⟨x, k10, rfl, t10, z10, b10⟩
        have T10 := hid t10
        have B10 := hid (B9.out.trans (b10.mono B9.out.size))
        clear b10
        clear t10
        go_wp2_with fail
        refine (qadd_any ac bc z8 z9 w10).mono ?_
        rintro e w11 ⟨y, k11, rfl, t11, z11, b11⟩
        have T11 := hid t11
        have B11 := hid (B10.out.trans (b11.mono B10.out.size))
        clear b11
        clear t11
        have HE := hid (fun (h1 : k8 = 0) (h2 : k9 = 0) (h3 : k10 = 0) (h4 : k11 = 0) => dist_text T2.out (h1 ▸ T8.out) (h2 ▸ T9.out) (h3 ▸ T10.out) (h4 ▸ T11.out))
        go_wp2_with fail
        all_goals
          go_ret
          refine ⟨?_, B11.out⟩
          first
          | rfl
          | (rw [HE.out (by assumption) (by assumption) (by assumption) (by assumption)]; exact ret_bool (by simp))
    · have hb0 : b = ⟨#[48]⟩ := zero_text HG.out.2 ((T6.out.no h5).2 HG.out.1 HG.out.2)
      have f6 : (k6 != 0) = true := by simpa using h5
      have g6 : (k6 == 0) = false := by simpa using h5
      clear h5
      subst hb0
      go_wp2_with fail
      refine (qmul_any a c ha hc w7).mono ?_
      rintro e w8 ⟨ac, k8, rfl, t8, z8, b8⟩
      have T8 := hid t8
      have B8 := hid (B7.out.trans (b8.mono B7.out.size))
      clear b8
      clear t8
      go_wp2_with fail
      refine (qmul_any ⟨#[48]⟩ c hb hc w8).mono ?_
      rintro e w9 ⟨bc, k9, rfl, t9, z9, b9⟩
      have T9 := hid t9
      have B9 := hid (B8.out.trans (b9.mono B8.out.size))
      clear b9
      clear t9
      go_wp2_with fail
      refine (qmul_any s c z2 hc w9).mono ?_
      rintro e w10 ⟨x, k10, rfl, t10, z10, b10⟩
      have T10 := hid t10
      have B10 := hid (B9.out.trans (b10.mono B9.out.size))
      clear b10
      clear t10
      go_wp2_with fail
      refine (qadd_any ac bc z8 z9 w10).mono ?_
      rintro e w11 ⟨y, k11, rfl, t11, z11, b11⟩
      have T11 := hid t11
      have B11 := hid (B10.out.trans (b11.mono B10.out.size))
      clear b11
      clear t11
      have HE := hid (fun (h1 : k8 = 0) (h2 : k9 = 0) (h3 : k10 = 0) (h4 : k11 = 0) => dist_text T2.out (h1 ▸ T8.out) (h2 ▸ T9.out) (h3 ▸ T10.out) (h4 ▸ T11.out))
      go_wp2_with fail
      all_goals
        go_ret
        refine ⟨?_, B11.out⟩
        first
        | rfl
        | (rw [HE.out (by assumption) (by assumption) (by assumption) (by assumption)]; exact ret_bool (by simp))
  · obtain ⟨n2, v2⟩ := T2.out.no hgood
    have f2 : (k2 != 0) = true := by simpa using n2
    have g2 : (k2 == 0) = false := by simpa using n2
    obtain ⟨n3, v3⟩ := T3.out.no (fun h => hgood ⟨h.2, h.1⟩)
    have f3 : (k3 != 0) = true := by simpa using n3
    have g3 : (k3 == 0) = false := by simpa using n3
    obtain ⟨n4, v4⟩ := T4.out.no hgood
    have f4 : (k4 != 0) = true := by simpa using n4
    have g4 : (k4 == 0) = false := by simpa using n4
    obtain ⟨n5, v5⟩ := T5.out.no (fun h => hgood ⟨h.2, h.1⟩)
    have f5 : (k5 != 0) = true := by simpa using n5
    have g5 : (k5 == 0) = false := by simpa using n5
    subst v2 v4
    clear hgood n2 n3 n4 n5
    go_wp2_with fail
    go_ret
    exact ⟨rfl, B5.out⟩

end Go.Proofs.Ythaidmngikkepaa

