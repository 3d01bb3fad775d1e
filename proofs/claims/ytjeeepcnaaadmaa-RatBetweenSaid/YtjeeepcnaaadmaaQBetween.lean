import Derived.Test.YtjeeepcnaaadmaaQHalf
namespace Go.Proofs.Ytjeeepcnaaadmaa
open Go.RowKit
open Num
set_option linter.unusedVariables false
set_option maxRecDepth 100000
set_option linter.unusedSimpArgs false

set_option maxHeartbeats 16000000 in
theorem between_walk (a b : ByteArray) (ha : a.size ≤ maxLen) (hb : b.size ≤ maxLen)  (w : World) :
    Calls Try.prog 5 #[.string a, .string b] w fun e w' => e = .returned (.bool true) ∧ Below w.heap.size w w' := by
  have hne := errv_neq
  have heq := errv_eql
  have hgd := errv_guard
  go_enter Try.func5, Try.ntmps5
  have hh : (⟨#[49, 47, 50]⟩ : ByteArray).size ≤ maxLen := by decide
  have hm : (⟨#[45, 49]⟩ : ByteArray).size ≤ maxLen := by decide
  go_wp2_with fail
  refine (qless_any a b ha hb w).mono ?_
  rintro e w1 ⟨is, k1, rfl, t1, b1⟩
  have T1 := hid t1
  have B1 := hid b1
  clear b1
  clear t1
  go_wp2_with fail
  refine (qadd_any a b ha hb w1).mono ?_
  rintro e w2 ⟨s, k2, rfl, t2, z2, b2⟩
  have T2 := hid t2
  have B2 := hid (B1.out.trans (b2.mono B1.out.size))
  clear b2
  clear t2
  go_wp2_with fail
  refine (qmul_any s ⟨#[49, 47, 50]⟩ z2 hh w2).mono ?_
  rintro e w3 ⟨m, k3, rfl, t3, z3, b3⟩
  have T3 := hid t3
  have B3 := hid (B2.out.trans (b3.mono B2.out.size))
  clear b3
  clear t3
  go_wp2_with fail
  refine (half_true w3).mono ?_
  rintro e w4 ⟨rfl, b4⟩
  have B4 := hid (B3.out.trans (b4.mono B3.out.size))
  clear b4
  by_cases hgood : GoodQ a ∧ GoodQ b
  · have e1 : k1 = 0 := T1.out.zero hgood.1 hgood.2
    have e2 : k2 = 0 := T2.out.zero hgood.1 hgood.2
    subst e1 e2
    have HG := hid hgood
    clear hgood
    go_wp2_with fail
    refine (qmul_any a ⟨#[45, 49]⟩ ha hm w4).mono ?_
    rintro e w5 ⟨t, k5, rfl, t5, z5, b5⟩
    have T5 := hid t5
    have B5 := hid (B4.out.trans (b5.mono B4.out.size))
    clear b5
    clear t5
    go_wp2_with fail
    refine (qadd_any a t ha z5 w5).mono ?_
    rintro e w6 ⟨z, k6, rfl, t6, z6, b6⟩
    have T6 := hid t6
    have B6 := hid (B5.out.trans (b6.mono B5.out.size))
    clear b6
    clear t6
    have HZ := hid (fun (h4 : k5 = 0) (h5 : k6 = 0) => less_itself (h4 ▸ T5.out) (h5 ▸ T6.out))
    by_cases h4 : k5 = 0
    · by_cases h5 : k6 = 0
      · have ez := HZ.out h4 h5
        clear HZ
        subst h4 h5
        subst ez
        go_wp2_with fail
        refine (qless_any a m ha z3 w6).mono ?_
        rintro e w7 ⟨x, k7, rfl, t7, b7⟩
        have T7 := hid t7
        have B7 := hid (B6.out.trans (b7.mono B6.out.size))
        clear b7
        clear t7
        go_wp2_with fail
        refine (qless_any m b z3 hb w7).mono ?_
        rintro e w8 ⟨y, k8, rfl, t8, b8⟩
        have T8 := hid t8
        have B8 := hid (B7.out.trans (b8.mono B7.out.size))
        clear b8
        clear t8
        have HE := hid (fun (h3 : k3 = 0) (h6 : k7 = 0) (h7 : k8 = 0) => between T1.out T2.out (h3 ▸ T3.out) (h6 ▸ T7.out) (h7 ▸ T8.out))
        by_cases h : k3 = 0 ∧ k7 = 0 ∧ k8 = 0 ∧ is = true
        · obtain ⟨h3, h6, h7, h8⟩ := h
          obtain ⟨ex, ey⟩ := HE.out h3 h6 h7 h8
          clear HE
          subst h3 h6 h7 h8 ex ey
          go_wp2_with fail
          go_ret
          exact ⟨rfl, B8.out⟩
        · have HN := hid h
          clear h HE
          go_wp2_with fail
          all_goals
            first
            | (go_ret; exact ⟨rfl, B8.out⟩)
            | exact absurd ⟨by assumption, by assumption, by assumption, by assumption⟩ HN.out
      · have f6 : (k6 != 0) = true := by simpa using h5
        have g6 : (k6 == 0) = false := by simpa using h5
        clear h5 HZ
        subst h4
        go_wp2_with fail
        refine (qless_any a m ha z3 w6).mono ?_
        rintro e w7 ⟨x, k7, rfl, t7, b7⟩
        have T7 := hid t7
        have B7 := hid (B6.out.trans (b7.mono B6.out.size))
        clear b7
        clear t7
        go_wp2_with fail
        refine (qless_any m b z3 hb w7).mono ?_
        rintro e w8 ⟨y, k8, rfl, t8, b8⟩
        have T8 := hid t8
        have B8 := hid (B7.out.trans (b8.mono B7.out.size))
        clear b8
        clear t8
        have HE := hid (fun (h3 : k3 = 0) (h6 : k7 = 0) (h7 : k8 = 0) => between T1.out T2.out (h3 ▸ T3.out) (h6 ▸ T7.out) (h7 ▸ T8.out))
        by_cases h : k3 = 0 ∧ k7 = 0 ∧ k8 = 0 ∧ is = true
        · obtain ⟨h3, h6, h7, h8⟩ := h
          obtain ⟨ex, ey⟩ := HE.out h3 h6 h7 h8
          clear HE
          subst h3 h6 h7 h8 ex ey
          go_wp2_with fail
          go_ret
          exact ⟨rfl, B8.out⟩
        · have HN := hid h
          clear h HE
          go_wp2_with fail
          all_goals
            first
            | (go_ret; exact ⟨rfl, B8.out⟩)
            | exact absurd ⟨by assumption, by assumption, by assumption, by assumption⟩ HN.out
    · have f5 : (k5 != 0) = true := by simpa using h4
      have g5 : (k5 == 0) = false := by simpa using h4
      clear h4 HZ
      go_wp2_with fail
      refine (qless_any a m ha z3 w6).mono ?_
      rintro e w7 ⟨x, k7, rfl, t7, b7⟩
      have T7 := hid t7
      have B7 := hid (B6.out.trans (b7.mono B6.out.size))
      clear b7
      clear t7
      go_wp2_with fail
      refine (qless_any m b z3 hb w7).mono ?_
      rintro e w8 ⟨y, k8, rfl, t8, b8⟩
      have T8 := hid t8
      have B8 := hid (B7.out.trans (b8.mono B7.out.size))
      clear b8
      clear t8
      have HE := hid (fun (h3 : k3 = 0) (h6 : k7 = 0) (h7 : k8 = 0) => between T1.out T2.out (h3 ▸ T3.out) (h6 ▸ T7.out) (h7 ▸ T8.out))
      by_cases h : k3 = 0 ∧ k7 = 0 ∧ k8 = 0 ∧ is = true
      · obtain ⟨h3, h6, h7, h8⟩ := h
        obtain ⟨ex, ey⟩ := HE.out h3 h6 h7 h8
        clear HE
        subst h3 h6 h7 h8 ex ey
        go_wp2_with fail
        go_ret
        exact ⟨rfl, B8.out⟩
      · have HN := hid h
        clear h HE
        go_wp2_with fail
        all_goals
          first
          | (go_ret; exact ⟨rfl, B8.out⟩)
          | exact absurd ⟨by assumption, by assumption, by assumption, by assumption⟩ HN.out
  · obtain ⟨n1, v1⟩ := T1.out.no hgood
    have f1 : (k1 != 0) = true := by simpa using n1
    have g1 : (k1 == 0) = false := by simpa using n1
    obtain ⟨n2, v2⟩ := T2.out.no hgood
    have f2 : (k2 != 0) = true := by simpa using n2
    have g2 : (k2 == 0) = false := by simpa using n2
    subst v1 v2
    clear hgood n1 n2
    go_wp2_with fail
    go_ret
    exact ⟨rfl, B4.out⟩

end Go.Proofs.Ytjeeepcnaaadmaa

