import Derived.Test.YtckkbjnipacodaaZSignOf
import Derived.Test.YtckkbjnipacodaaNatLess
namespace Go.Proofs.Ytckkbjnipacodaa
open Go.RowKit
open Num
set_option linter.unusedVariables false
set_option maxRecDepth 100000
set_option linter.unusedSimpArgs false

set_option maxHeartbeats 400000 in
theorem divided_true (w : World) :
    Calls Try.prog 19 #[] w fun e w' => e = .returned (.bool true) ∧ Below w.heap.size w w' := by
  have H := hid (minus7 w)
  go_enter Try.func19, Try.ntmps19
  go_wp2_with fail
  refine H.out.mono ?_
  rintro e w' ⟨rfl, hb⟩
  go_wp2_with fail
  go_ret
  exact ⟨rfl, hb⟩

theorem goodN_txt {n : Nat} (h : n < 10 ^ 100) : Good (txt n) := ⟨size_txt_le h (by omega), isNat_txt n⟩

set_option maxHeartbeats 2000000 in
theorem left_bad (a b : ByteArray) (ha : a.size ≤ maxLen) (hb : b.size ≤ maxLen) {k : Int} (h : WrongZ a b k) (w : World) :
    Calls Try.prog 6 #[.string a, .string b] w fun e w' => e = .returned (.bool true) ∧ Below w.heap.size w w' := by
  have HD := hid (fun w => zdiv_bad h ha hb w)
  rcases h with h | ⟨h1, h2⟩
  · have HC := hid (fun w => zcheck_bad h ha w)
    clear h
    go_enter Try.func6, Try.ntmps6
    go_wp2_with fail
    refine (divided_true w).mono ?_
    rintro e w1 ⟨rfl, b1⟩
    have B1 := hid b1
    clear b1
    go_wp2_with fail
    refine (HD.out _).mono ?_
    rintro e w2 ⟨rfl, b2⟩
    have B2 := hid (B1.out.trans (b2.mono B1.out.size))
    clear b2
    go_wp2_with fail
    refine (HC.out _).mono ?_
    rintro e w3 ⟨rfl, b3⟩
    have B3 := hid (B2.out.trans (b3.mono B2.out.size))
    clear b3
    go_wp2_with fail
    go_ret
    exact ⟨rfl, B3.out⟩
  · have HC := hid (fun w => zcheck_good h1 w)
    have HC2 := hid (fun w => zcheck_bad h2 hb w)
    clear h1 h2
    go_enter Try.func6, Try.ntmps6
    go_wp2_with fail
    refine (divided_true w).mono ?_
    rintro e w1 ⟨rfl, b1⟩
    have B1 := hid b1
    clear b1
    go_wp2_with fail
    refine (HD.out _).mono ?_
    rintro e w2 ⟨rfl, b2⟩
    have B2 := hid (B1.out.trans (b2.mono B1.out.size))
    clear b2
    go_wp2_with fail
    refine (HC.out _).mono ?_
    rintro e w3 ⟨rfl, b3⟩
    have B3 := hid (B2.out.trans (b3.mono B2.out.size))
    clear b3
    go_wp2_with fail
    refine (HC2.out _).mono ?_
    rintro e w4 ⟨rfl, b4⟩
    have B4 := hid (B3.out.trans (b4.mono B3.out.size))
    clear b4
    go_wp2_with fail
    go_ret
    exact ⟨rfl, B4.out⟩

set_option maxHeartbeats 2000000 in
theorem left_zero (a b : ByteArray) (h1 : GoodZ a) (h2 : GoodZ b) (h0 : znum b = 0) (w : World) :
    Calls Try.prog 6 #[.string a, .string b] w fun e w' => e = .returned (.bool true) ∧ Below w.heap.size w w' := by
  have HD := hid (fun w => zdiv_zero h1 h2 h0 w)
  have HC := hid (fun w => zcheck_good h1 w)
  have HC2 := hid (fun w => zcheck_good h2 w)
  have hb0 : b = ⟨#[48]⟩ := by rw [← ztxt_good h2, h0, ztxt_zero]
  subst hb0
  clear h1 h2 h0
  go_enter Try.func6, Try.ntmps6
  go_wp2_with fail
  refine (divided_true w).mono ?_
  rintro e w1 ⟨rfl, b1⟩
  have B1 := hid b1
  clear b1
  go_wp2_with fail
  refine (HD.out _).mono ?_
  rintro e w2 ⟨rfl, b2⟩
  have B2 := hid (B1.out.trans (b2.mono B1.out.size))
  clear b2
  go_wp2_with fail
  refine (HC.out _).mono ?_
  rintro e w3 ⟨rfl, b3⟩
  have B3 := hid (B2.out.trans (b3.mono B2.out.size))
  clear b3
  go_wp2_with fail
  refine (HC2.out _).mono ?_
  rintro e w4 ⟨rfl, b4⟩
  have B4 := hid (B3.out.trans (b4.mono B3.out.size))
  clear b4
  go_wp2_with fail
  go_ret
  exact ⟨rfl, B4.out⟩

set_option maxHeartbeats 4000000 in
theorem left_good (a b : ByteArray) (ha : a.size ≤ maxLen) (hb : b.size ≤ maxLen) (h1 : GoodZ a) (h2 : GoodZ b) (h0 : znum b ≠ 0) (w : World) :
    Calls Try.prog 6 #[.string a, .string b] w fun e w' => e = .returned (.bool true) ∧ Below w.heap.size w w' := by
  have HD := hid (fun w => zdiv_good h1 h2 h0 w)
  have hqm : (ztxt (znum a / znum b)).size ≤ maxLen := by
    refine size_ztxt_max ?_
    have := natAbs_ediv_le (znum a) (znum b)
    have h3 := znum_lt h1
    have h5 : (10 : Nat) ^ 100 ≤ 10 ^ 200 := by decide +kernel
    omega
  have e1 := Int.emod_nonneg (znum a) h0
  have e2 := Int.emod_lt (znum a) h0
  have h4 := znum_lt h2
  have hr : (znum a % znum b).natAbs < 10 ^ 100 := by omega
  have gr := goodZ_ztxt0 e1 hr
  have er : ztxt (znum a % znum b) = txt (znum a % znum b).natAbs := by
    rw [ztxt, if_neg (by omega)]
  have HGR := hid gr
  have hLs := nat_less (goodN_txt hr) (goodN_txt h4)
  rw [num_txt, num_txt, ← er, decide_eq_true (show (znum a % znum b).natAbs < (znum b).natAbs by omega)] at hLs
  have HL := hid hLs
  have HA := hid (ztxt_good h1)
  have HM := hid (fun w => zmul_any _ _ hqm hb w)
  have HG1 := hid h1
  have HG2 := hid h2
  have HBT := hid (ztxt_good h2)
  have HN := hid h0
  clear h1 hqm e1 e2 h4 hr gr er hLs h0 h2
  have hne := errv_neq
  have hgd := errv_guard
  go_enter Try.func6, Try.ntmps6
  go_wp2_with fail
  refine (divided_true w).mono ?_
  rintro e w1 ⟨rfl, b1⟩
  have B1 := hid b1
  clear b1
  go_wp2_with fail
  refine (HD.out _).mono ?_
  rintro e w2 ⟨rfl, b2⟩
  have B2 := hid (B1.out.trans (b2.mono B1.out.size))
  clear b2
  go_wp2_with fail
  refine (HM.out _).mono ?_
  rintro e w3 ⟨p, k3, rfl, t3, z3, b3⟩
  have B3 := hid (B2.out.trans (b3.mono B2.out.size))
  have T3 := hid t3
  clear b3 t3
  by_cases h3 : k3 = 0
  · subst h3
    rcases goodZ_or_bad p with hp | ⟨kp, hp⟩
    · have HCP := hid (fun w => zcheck_good hp w)
      have HAD := hid (fun w => zadd_good hp HGR.out w)
      have es : ztxt (znum p + znum (ztxt (znum a % znum b))) = a := by
        have e3 := (T3.out.yes rfl).2.2
        rw [e3, znum_ztxt, znum_ztxt, znum_ztxt, Int.mul_comm, Int.mul_ediv_add_emod]
        exact HA.out
      rw [es] at HAD
      clear es hp
      by_cases hz : znum b < 0
      · obtain ⟨q1, q2, q3, q4, q5⟩ := ztxt_minus HBT.out.symm hz
        have q4' := q4 q1
        have q6 : (1 : Int) ≤ (b.size : Int) := by omega
        rw [← q5] at HL
        unfold maxLen at hb
        clear q4 q5 hz
        go_wp2_with fail
        refine (HCP.out _).mono ?_
        rintro e w4 ⟨rfl, b4⟩
        have B4 := hid (B3.out.trans (b4.mono B3.out.size))
        clear b4
        go_wp2_with fail
        refine (HAD.out _).mono ?_
        rintro e w5 ⟨rfl, b5⟩
        have B5 := hid (B4.out.trans (b5.mono B4.out.size))
        clear b5
        go_wp2_with fail
        refine (HL.out _).mono ?_
        rintro e w6 ⟨rfl, b6⟩
        have B6 := hid (B5.out.trans (b6.mono B5.out.size))
        clear b6
        go_wp2_with fail
        go_ret
        exact ⟨rfl, B6.out⟩
      · obtain ⟨q1, q2, q3, q4, q5⟩ := ztxt_plain HBT.out.symm (by omega)
        have q4' := q4 q1
        rw [← q5] at HL
        clear q4 q5 hz
        go_wp2_with fail
        refine (HCP.out _).mono ?_
        rintro e w4 ⟨rfl, b4⟩
        have B4 := hid (B3.out.trans (b4.mono B3.out.size))
        clear b4
        go_wp2_with fail
        refine (HAD.out _).mono ?_
        rintro e w5 ⟨rfl, b5⟩
        have B5 := hid (B4.out.trans (b5.mono B4.out.size))
        clear b5
        go_wp2_with fail
        refine (HL.out _).mono ?_
        rintro e w6 ⟨rfl, b6⟩
        have B6 := hid (B5.out.trans (b6.mono B5.out.size))
        clear b6
        go_wp2_with fail
        go_ret
        exact ⟨rfl, B6.out⟩
    · have HCP := hid (fun w => zcheck_bad hp z3 w)
      clear hp
      go_wp2_with fail
      refine (HCP.out _).mono ?_
      rintro e w4 ⟨rfl, b4⟩
      have B4 := hid (B3.out.trans (b4.mono B3.out.size))
      clear b4
      go_wp2_with fail
      go_ret
      exact ⟨rfl, B4.out⟩
  · go_wp2_with fail
    go_ret
    exact ⟨rfl, B3.out⟩

theorem left_walk (a b : ByteArray) (ha : a.size ≤ maxLen) (hb : b.size ≤ maxLen) (w : World) :
    Calls Try.prog 6 #[.string a, .string b] w fun e w' => e = .returned (.bool true) ∧ Below w.heap.size w w' := by
  rcases rightZ_or_wrong a b with ⟨h1, h2⟩ | ⟨k, h⟩
  · by_cases h0 : znum b = 0
    · exact left_zero a b h1 h2 h0 w
    · exact left_good a b ha hb h1 h2 h0 w
  · exact left_bad a b ha hb h w

end Go.Proofs.Ytckkbjnipacodaa

