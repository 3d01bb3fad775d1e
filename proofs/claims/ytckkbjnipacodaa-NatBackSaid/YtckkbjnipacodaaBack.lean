import Derived.Test.YtckkbjnipacodaaRing
import Derived.Test.YtckkbjnipacodaaTen
import Derived.Test.YtckkbjnipacodaaNatSub
import Derived.Test.YtckkbjnipacodaaNatLess
namespace Go.Proofs.Ytckkbjnipacodaa
open Go.RowKit
open Num
set_option linter.unusedVariables false
set_option linter.unusedSimpArgs false

theorem good_txt {n : Nat} (h : n < 10 ^ 100) : Good (txt n) := ⟨size_txt_le h (by omega), isNat_txt n⟩
theorem zero_of_num {b : ByteArray} (h : Good b) (h0 : num b = 0) : b = ⟨#[48]⟩ := by
  have := txt_num h
  rw [h0, txt_zero] at this
  exact this.symm
theorem sum_max {a b : ByteArray} (ha : Good a) (hb : Good b) : (txt (num a + num b)).size ≤ maxLen := by
  refine size_txt_max ?_
  have h3 := num_lt ha
  have h4 := num_lt hb
  have h5 : (10 : Nat) ^ 100 + 10 ^ 100 ≤ 10 ^ 200 := by decide +kernel
  omega

set_option maxHeartbeats 4000000 in
set_option maxRecDepth 100000 in
theorem back_walk (a b : ByteArray) (ha : a.size ≤ maxLen) (hb : b.size ≤ maxLen) (w : World) :
    Calls Try.prog 3 #[.string a, .string b] w fun e w' => e = .returned (.bool true) ∧ Below w.heap.size w w' := by
  rcases right_or_wrong a b with ⟨ga, gb⟩ | ⟨k, hw⟩
  · have na := num_lt ga
    have HS := hid (nat_add ga gb)
    have eA := txt_num ga
    by_cases h0 : num b = 0
    · have HD := hid (nat_div_no ga gb h0)
      have hb0 := zero_of_num gb h0
      subst hb0
      rcases good_or_bad (txt (num a + num ⟨#[48]⟩)) with hsg | ⟨k, hsb⟩
      · have HC := hid (check_good hsg)
        have hX := nat_sub hsg gb (by rw [num_txt]; omega)
        rw [num_txt, Nat.add_sub_cancel, eA] at hX
        have HX := hid hX
        clear hX na ga gb h0 hsg eA
        go_enter Try.func3, Try.ntmps3
        go_wp2_with fail
        refine (added_true w).mono ?_
        rintro e w1 ⟨rfl, b1⟩
        go_wp2_with fail
        refine (HS.out _).mono ?_
        rintro e w2 ⟨rfl, b2⟩
        have B2 := hid (b1.trans (b2.mono b1.size))
        clear b1 b2
        go_wp2_with fail
        refine (HC.out _).mono ?_
        rintro e w3 ⟨rfl, b3⟩
        have B3 := hid (B2.out.trans (b3.mono B2.out.size))
        clear b3
        go_wp2_with fail
        refine (HX.out _).mono ?_
        rintro e w4 ⟨rfl, b4⟩
        have BB := hid (B3.out.trans (b4.mono B3.out.size))
        clear b4
        go_wp2_with fail
        refine (HD.out _).mono ?_
        rintro e w9 ⟨rfl, b9⟩
        have B9 := hid (BB.out.trans (b9.mono BB.out.size))
        clear b9
        go_wp2_with fail
        go_ret
        exact ⟨rfl, B9.out⟩
      · have HC := hid (fun w => check_bad hsb w (sum_max ga gb))
        clear na ga gb h0 hsb eA
        go_enter Try.func3, Try.ntmps3
        go_wp2_with fail
        refine (added_true w).mono ?_
        rintro e w1 ⟨rfl, b1⟩
        go_wp2_with fail
        refine (HS.out _).mono ?_
        rintro e w2 ⟨rfl, b2⟩
        have B2 := hid (b1.trans (b2.mono b1.size))
        clear b1 b2
        go_wp2_with fail
        refine (HC.out _).mono ?_
        rintro e w3 ⟨rfl, rfl⟩
        have BB := B2
        go_wp2_with fail
        refine (HD.out _).mono ?_
        rintro e w9 ⟨rfl, b9⟩
        have B9 := hid (BB.out.trans (b9.mono BB.out.size))
        clear b9
        go_wp2_with fail
        go_ret
        exact ⟨rfl, B9.out⟩
    · have h1 : 0 < num b := by omega
      have HD := hid (nat_div ga gb h1)
      have hq1 : num a / num b < 10 ^ 100 := Nat.lt_of_le_of_lt (Nat.div_le_self _ _) na
      have hr1 : num a % num b < 10 ^ 100 := Nat.lt_of_le_of_lt (Nat.mod_le _ _) na
      have hp1 : num a / num b * num b < 10 ^ 100 := Nat.lt_of_le_of_lt (Nat.div_mul_le_self _ _) na
      have hM := nat_mul (good_txt hq1) gb
      rw [num_txt] at hM
      have hK := check_good (good_txt hp1)
      have hA := nat_add (good_txt hp1) (good_txt hr1)
      rw [num_txt, num_txt, Nat.mul_comm, Nat.div_add_mod, eA, Nat.mul_comm] at hA
      have hL := nat_less (good_txt hr1) gb
      rw [num_txt, decide_eq_true (Nat.mod_lt _ h1)] at hL
      have HM := hid hM
      have HK := hid hK
      have HA := hid hA
      have HL := hid hL
      clear hM hK hA hL hq1 hr1 hp1
      rcases good_or_bad (txt (num a + num b)) with hsg | ⟨k, hsb⟩
      · have HC := hid (check_good hsg)
        have hX := nat_sub hsg gb (by rw [num_txt]; omega)
        rw [num_txt, Nat.add_sub_cancel, eA] at hX
        have HX := hid hX
        clear hX na ga gb h0 h1 hsg eA
        go_enter Try.func3, Try.ntmps3
        go_wp2_with fail
        refine (added_true w).mono ?_
        rintro e w1 ⟨rfl, b1⟩
        go_wp2_with fail
        refine (HS.out _).mono ?_
        rintro e w2 ⟨rfl, b2⟩
        have B2 := hid (b1.trans (b2.mono b1.size))
        clear b1 b2
        go_wp2_with fail
        refine (HC.out _).mono ?_
        rintro e w3 ⟨rfl, b3⟩
        have B3 := hid (B2.out.trans (b3.mono B2.out.size))
        clear b3
        go_wp2_with fail
        refine (HX.out _).mono ?_
        rintro e w4 ⟨rfl, b4⟩
        have BB := hid (B3.out.trans (b4.mono B3.out.size))
        clear b4
        go_wp2_with fail
        refine (HD.out _).mono ?_
        rintro e w9 ⟨rfl, b9⟩
        have B9 := hid (BB.out.trans (b9.mono BB.out.size))
        clear b9
        go_wp2_with fail
        refine (HM.out _).mono ?_
        rintro e w10 ⟨rfl, b10⟩
        have B10 := hid (B9.out.trans (b10.mono B9.out.size))
        clear b10
        go_wp2_with fail
        refine (HK.out _).mono ?_
        rintro e w11 ⟨rfl, b11⟩
        have B11 := hid (B10.out.trans (b11.mono B10.out.size))
        clear b11
        go_wp2_with fail
        refine (HA.out _).mono ?_
        rintro e w12 ⟨rfl, b12⟩
        have B12 := hid (B11.out.trans (b12.mono B11.out.size))
        clear b12
        go_wp2_with fail
        refine (HL.out _).mono ?_
        rintro e w13 ⟨rfl, b13⟩
        have B13 := hid (B12.out.trans (b13.mono B12.out.size))
        clear b13
        go_wp2_with fail
        go_ret
        exact ⟨rfl, B13.out⟩
      · have HC := hid (fun w => check_bad hsb w (sum_max ga gb))
        clear na ga gb h0 h1 hsb eA
        go_enter Try.func3, Try.ntmps3
        go_wp2_with fail
        refine (added_true w).mono ?_
        rintro e w1 ⟨rfl, b1⟩
        go_wp2_with fail
        refine (HS.out _).mono ?_
        rintro e w2 ⟨rfl, b2⟩
        have B2 := hid (b1.trans (b2.mono b1.size))
        clear b1 b2
        go_wp2_with fail
        refine (HC.out _).mono ?_
        rintro e w3 ⟨rfl, rfl⟩
        have BB := B2
        go_wp2_with fail
        refine (HD.out _).mono ?_
        rintro e w9 ⟨rfl, b9⟩
        have B9 := hid (BB.out.trans (b9.mono BB.out.size))
        clear b9
        go_wp2_with fail
        refine (HM.out _).mono ?_
        rintro e w10 ⟨rfl, b10⟩
        have B10 := hid (B9.out.trans (b10.mono B9.out.size))
        clear b10
        go_wp2_with fail
        refine (HK.out _).mono ?_
        rintro e w11 ⟨rfl, b11⟩
        have B11 := hid (B10.out.trans (b11.mono B10.out.size))
        clear b11
        go_wp2_with fail
        refine (HA.out _).mono ?_
        rintro e w12 ⟨rfl, b12⟩
        have B12 := hid (B11.out.trans (b12.mono B11.out.size))
        clear b12
        go_wp2_with fail
        refine (HL.out _).mono ?_
        rintro e w13 ⟨rfl, b13⟩
        have B13 := hid (B12.out.trans (b13.mono B12.out.size))
        clear b13
        go_wp2_with fail
        go_ret
        exact ⟨rfl, B13.out⟩
  · have HS := hid (nat_add_bad hw ha hb)
    clear hw
    go_enter Try.func3, Try.ntmps3
    go_wp2_with fail
    refine (added_true w).mono ?_
    rintro e w1 ⟨rfl, b1⟩
    go_wp2_with fail
    refine (HS.out _).mono ?_
    rintro e w2 ⟨rfl, b2⟩
    have B2 := hid (b1.trans (b2.mono b1.size))
    clear b1 b2
    go_wp2_with fail
    go_ret
    exact ⟨rfl, B2.out⟩

end Go.Proofs.Ytckkbjnipacodaa

