import Derived.Test.YtjeeepcnaaadmaaQMath
namespace Go.Proofs.Ytjeeepcnaaadmaa
open Go.RowKit
open Num
set_option linter.unusedVariables false
set_option maxRecDepth 100000
set_option linter.unusedSimpArgs false

set_option maxHeartbeats 8000000 in
theorem floor_walk (a : ByteArray) (ha : a.size ≤ maxLen)  (w : World) :
    Calls Try.prog 4 #[.string a] w fun e w' => e = .returned (.bool true) ∧ Below w.heap.size w w' := by
  have hne := errv_neq
  have heq := errv_eql
  have hgd := errv_guard
  go_enter Try.func4, Try.ntmps4
  go_wp2_with fail
  refine (halved_true w).mono ?_
  rintro e w1 ⟨rfl, b1⟩
  have B1 := hid b1
  clear b1
  by_cases hgood : GoodQ a
  · have HG := hid hgood
    clear hgood
    obtain ⟨gf, gz⟩ := floor_good HG.out
    have GF := hid gf
    have GZ := hid gz
    clear gf gz
    go_wp2_with fail
    refine (qfloor_good HG.out w1).mono ?_
    rintro e w2 ⟨rfl, b2⟩
    have B2 := hid (B1.out.trans (b2.mono B1.out.size))
    clear b2
    have hf : (ztxt (qnum a).floor).size ≤ maxLen := by have := GF.out.1; unfold maxLen; omega
    have h1 : (⟨#[49]⟩ : ByteArray).size ≤ maxLen := by decide
    go_wp2_with fail
    refine (qadd_any (ztxt (qnum a).floor) ⟨#[49]⟩ hf h1 w2).mono ?_
    rintro e w3 ⟨g, k3, rfl, t3, z3, b3⟩
    have T3 := hid t3
    have B3 := hid (B2.out.trans (b3.mono B2.out.size))
    clear b3
    clear t3
    go_wp2_with fail
    refine (qless_any a (ztxt (qnum a).floor) ha hf w3).mono ?_
    rintro e w4 ⟨x, k4, rfl, t4, b4⟩
    have T4 := hid t4
    have B4 := hid (B3.out.trans (b4.mono B3.out.size))
    clear b4
    clear t4
    go_wp2_with fail
    refine (qless_any a g ha z3 w4).mono ?_
    rintro e w5 ⟨y, k5, rfl, t5, b5⟩
    have T5 := hid t5
    have B5 := hid (B4.out.trans (b5.mono B4.out.size))
    clear b5
    clear t5
    have e1 : k3 = 0 := T3.out.zero GF.out good_one
    have e2 : k4 = 0 := T4.out.zero HG.out GF.out
    subst e1 e2
    have ex : x = false := less_false T4.out floor_not
    subst ex
    have HY := hid (fun (h : k5 = 0) => floor_next T3.out (h ▸ T5.out))
    by_cases h3 : k5 = 0
    · have ey := HY.out h3
      subst h3
      subst ey
      go_wp2_with fail
      refine (zcheck_good GZ.out w5).mono ?_
      rintro e w6 ⟨rfl, b6⟩
      have B6 := hid (B5.out.trans (b6.mono B5.out.size))
      clear b6
      go_wp2_with fail
      go_ret
      exact ⟨rfl, B6.out⟩
    · have f5 : (k5 != 0) = true := by simpa using h3
      have g5 : (k5 == 0) = false := by simpa using h3
      clear h3
      go_wp2_with fail
      refine (zcheck_good GZ.out w5).mono ?_
      rintro e w6 ⟨rfl, b6⟩
      have B6 := hid (B5.out.trans (b6.mono B5.out.size))
      clear b6
      go_wp2_with fail
      go_ret
      exact ⟨rfl, B6.out⟩
  · obtain ⟨k0, hb0⟩ : ∃ k, BadQ a k := (goodQ_or_bad a).resolve_left hgood
    have HB := hid hb0
    clear hb0 hgood
    go_wp2_with fail
    refine (qfloor_bad HB.out ha w1).mono ?_
    rintro e w2 ⟨rfl, b2⟩
    have B2 := hid (B1.out.trans (b2.mono B1.out.size))
    clear b2
    go_wp2_with fail
    go_ret
    exact ⟨rfl, B2.out⟩

end Go.Proofs.Ytjeeepcnaaadmaa

