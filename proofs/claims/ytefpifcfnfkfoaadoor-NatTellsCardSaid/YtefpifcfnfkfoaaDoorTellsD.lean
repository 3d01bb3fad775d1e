import Derived.Test.YtefpifcfnfkfoaaDoorTells
namespace Go.Proofs.YtefpifcfnfkfoaaDoor
open Go.RowKit
open Num (dtext)
set_option linter.unusedVariables false
set_option linter.unusedSimpArgs false

set_option maxHeartbeats 16000000 in
set_option maxRecDepth 100000 in
theorem tells_wrong1 (a b : ByteArray) {k : Int} (ha : Bad a k) (sa : a.size ≤ maxLen) (sb : b.size ≤ maxLen) (w : World) (hd : Door w) :
    Calls Tryd.prog 3 #[.string a, .string b] w fun e w' => e = .returned (.bool true) ∧ Below w.heap.size w w' := by
  have HD := hid hd
  have SA := hid sa
  have SB := hid sb
  have hk := ha.ne
  have GA := hid ha
  have WR := hid (show Wrong a b k from .inl ha)
  have hnb : ∃ kb : Int, (Good b ∧ kb = 0) ∨ Bad b kb := by
    rcases good_or_bad b with h | ⟨kb, h⟩
    · exact ⟨0, .inl ⟨h, rfl⟩⟩
    · exact ⟨kb, .inr h⟩
  obtain ⟨kb, hnb⟩ := hnb
  have GB := hid hnb
  clear ha hd sa sb hnb
  go_enter Tryd.func3, Tryd.ntmps3
  have H := hid (added_true w)
  go_wp2_with fail
  refine H.out.mono ?_
  rintro e w1 ⟨rfl, hb⟩
  have B1 := hid hb
  clear hb H
  have H := hid (natof_bad w1 SA.out GA.out)
  go_wp2_with fail
  refine H.out.mono ?_
  rintro e w2 ⟨rfl, hb⟩
  have B2 := hid (B1.out.trans (hb.mono B1.out.size))
  clear hb H B1
  have H := hid (check_bad GA.out w2 SA.out)
  go_wp2_with fail
  refine H.out.mono ?_
  rintro e w' ⟨rfl, rfl⟩
  clear H
  have H := hid (same_no k hk w2 (HD.out.below B2.out))
  go_wp2_with fail
  refine H.out.mono ?_
  rintro e w3 ⟨rfl, hb⟩
  have B3 := hid (B2.out.trans (hb.mono B2.out.size))
  clear hb H B2
  have H := hid (natof_any w3 SB.out GB.out)
  go_wp2_with fail
  refine H.out.mono ?_
  rintro e w4 ⟨vy, rfl, hb⟩
  have B4 := hid (B3.out.trans (hb.mono B3.out.size))
  clear hb H B3
  have H := hid (two_some k kb hk w4)
  go_wp2_with fail
  refine H.out.mono ?_
  rintro e w' ⟨rfl, rfl⟩
  clear H
  have H := hid (nat_add_bad WR.out SA.out SB.out w4)
  go_wp2_with fail
  refine H.out.mono ?_
  rintro e w5 ⟨rfl, hb⟩
  have B5 := hid (B4.out.trans (hb.mono B4.out.size))
  clear hb H B4
  have H := hid (same_no k hk w5 (HD.out.below B5.out))
  go_wp2_with fail
  refine H.out.mono ?_
  rintro e w6 ⟨rfl, hb⟩
  have B6 := hid (B5.out.trans (hb.mono B5.out.size))
  clear hb H B5
  have H := hid (nat_mul_bad WR.out SA.out SB.out w6)
  go_wp2_with fail
  refine H.out.mono ?_
  rintro e w7 ⟨rfl, hb⟩
  have B7 := hid (B6.out.trans (hb.mono B6.out.size))
  clear hb H B6
  have H := hid (same_no k hk w7 (HD.out.below B7.out))
  go_wp2_with fail
  refine H.out.mono ?_
  rintro e w8 ⟨rfl, hb⟩
  have B8 := hid (B7.out.trans (hb.mono B7.out.size))
  clear hb H B7
  have H := hid (nat_sub_bad WR.out SA.out SB.out w8)
  go_wp2_with fail
  refine H.out.mono ?_
  rintro e w9 ⟨rfl, hb⟩
  have B9 := hid (B8.out.trans (hb.mono B8.out.size))
  clear hb H B8
  have H := hid (same_no k hk w9 (HD.out.below B9.out))
  go_wp2_with fail
  refine H.out.mono ?_
  rintro e w10 ⟨rfl, hb⟩
  have B10 := hid (B9.out.trans (hb.mono B9.out.size))
  clear hb H B9
  have H := hid (nat_div_bad WR.out SA.out SB.out w10)
  go_wp2_with fail
  refine H.out.mono ?_
  rintro e w11 ⟨rfl, hb⟩
  have B11 := hid (B10.out.trans (hb.mono B10.out.size))
  clear hb H B10
  have H := hid (same_no k hk w11 (HD.out.below B11.out))
  go_wp2_with fail
  refine H.out.mono ?_
  rintro e w12 ⟨rfl, hb⟩
  have B12 := hid (B11.out.trans (hb.mono B11.out.size))
  clear hb H B11
  have H := hid (nat_less_bad WR.out SA.out SB.out w12)
  go_wp2_with fail
  refine H.out.mono ?_
  rintro e w13 ⟨rfl, hb⟩
  have B13 := hid (B12.out.trans (hb.mono B12.out.size))
  clear hb H B12
  have H := hid (same_no k hk w13 (HD.out.below B13.out))
  go_wp2_with fail
  refine H.out.mono ?_
  rintro e w14 ⟨rfl, hb⟩
  have B14 := hid (B13.out.trans (hb.mono B13.out.size))
  clear hb H B13
  go_wp2_with fail
  go_ret
  exact ⟨rfl, B14.out⟩

end Go.Proofs.YtefpifcfnfkfoaaDoor
