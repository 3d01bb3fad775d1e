import Derived.Test.YtefpifcfnfkfoaaDoorTells
namespace Go.Proofs.YtefpifcfnfkfoaaDoor
open Go.RowKit
open Num (dtext)
set_option linter.unusedVariables false
set_option linter.unusedSimpArgs false

set_option maxHeartbeats 16000000 in
set_option maxRecDepth 100000 in
theorem tells_wrong2 (a b : ByteArray) {k : Int} (ha : Good a) (hb : Bad b k) (sa : a.size ≤ maxLen) (sb : b.size ≤ maxLen) (w : World) (hd : Door w) :
    Calls Tryd.prog 3 #[.string a, .string b] w fun e w' => e = .returned (.bool true) ∧ Below w.heap.size w w' := by
  have HD := hid hd
  have SA := hid sa
  have SB := hid sb
  have hk := hb.ne
  have GA := hid ha
  have GB := hid (show (Good b ∧ k = 0) ∨ Bad b k from .inr hb)
  have WR := hid (show Wrong a b k from .inr ⟨ha, hb⟩)
  clear ha hb hd sa sb
  go_enter Tryd.func3, Tryd.ntmps3
  have H := hid (added_true w)
  go_wp2_with fail
  refine H.out.mono ?_
  rintro e w1 ⟨rfl, hb⟩
  have B1 := hid hb
  clear hb H
  have H := hid (natof_num GA.out w1)
  go_wp2_with fail
  refine H.out.mono ?_
  rintro e w2 ⟨vx, xs, rfl, _, _, _, _, hb⟩
  have B2 := hid (B1.out.trans (hb.mono B1.out.size))
  clear hb H B1
  have H := hid (check_good GA.out w2)
  go_wp2_with fail
  refine H.out.mono ?_
  rintro e w3 ⟨rfl, hb⟩
  have B3 := hid (B2.out.trans (hb.mono B2.out.size))
  clear hb H B2
  have H := hid (same_nil w3 (HD.out.below B3.out))
  go_wp2_with fail
  refine H.out.mono ?_
  rintro e w4 ⟨rfl, hb⟩
  have B4 := hid (B3.out.trans (hb.mono B3.out.size))
  clear hb H B3
  have H := hid (natof_any w4 SB.out GB.out)
  go_wp2_with fail
  refine H.out.mono ?_
  rintro e w5 ⟨vy, rfl, hb⟩
  have B5 := hid (B4.out.trans (hb.mono B4.out.size))
  clear hb H B4
  have H := hid (two_zero k w5)
  go_wp2_with fail
  refine H.out.mono ?_
  rintro e w' ⟨rfl, rfl⟩
  clear H
  have H := hid (nat_add_bad WR.out SA.out SB.out w5)
  go_wp2_with fail
  refine H.out.mono ?_
  rintro e w6 ⟨rfl, hb⟩
  have B6 := hid (B5.out.trans (hb.mono B5.out.size))
  clear hb H B5
  have H := hid (same_no k hk w6 (HD.out.below B6.out))
  go_wp2_with fail
  refine H.out.mono ?_
  rintro e w7 ⟨rfl, hb⟩
  have B7 := hid (B6.out.trans (hb.mono B6.out.size))
  clear hb H B6
  have H := hid (nat_mul_bad WR.out SA.out SB.out w7)
  go_wp2_with fail
  refine H.out.mono ?_
  rintro e w8 ⟨rfl, hb⟩
  have B8 := hid (B7.out.trans (hb.mono B7.out.size))
  clear hb H B7
  have H := hid (same_no k hk w8 (HD.out.below B8.out))
  go_wp2_with fail
  refine H.out.mono ?_
  rintro e w9 ⟨rfl, hb⟩
  have B9 := hid (B8.out.trans (hb.mono B8.out.size))
  clear hb H B8
  have H := hid (nat_sub_bad WR.out SA.out SB.out w9)
  go_wp2_with fail
  refine H.out.mono ?_
  rintro e w10 ⟨rfl, hb⟩
  have B10 := hid (B9.out.trans (hb.mono B9.out.size))
  clear hb H B9
  have H := hid (same_no k hk w10 (HD.out.below B10.out))
  go_wp2_with fail
  refine H.out.mono ?_
  rintro e w11 ⟨rfl, hb⟩
  have B11 := hid (B10.out.trans (hb.mono B10.out.size))
  clear hb H B10
  have H := hid (nat_div_bad WR.out SA.out SB.out w11)
  go_wp2_with fail
  refine H.out.mono ?_
  rintro e w12 ⟨rfl, hb⟩
  have B12 := hid (B11.out.trans (hb.mono B11.out.size))
  clear hb H B11
  have H := hid (same_no k hk w12 (HD.out.below B12.out))
  go_wp2_with fail
  refine H.out.mono ?_
  rintro e w13 ⟨rfl, hb⟩
  have B13 := hid (B12.out.trans (hb.mono B12.out.size))
  clear hb H B12
  have H := hid (nat_less_bad WR.out SA.out SB.out w13)
  go_wp2_with fail
  refine H.out.mono ?_
  rintro e w14 ⟨rfl, hb⟩
  have B14 := hid (B13.out.trans (hb.mono B13.out.size))
  clear hb H B13
  have H := hid (same_no k hk w14 (HD.out.below B14.out))
  go_wp2_with fail
  refine H.out.mono ?_
  rintro e w15 ⟨rfl, hb⟩
  have B15 := hid (B14.out.trans (hb.mono B14.out.size))
  clear hb H B14
  go_wp2_with fail
  go_ret
  exact ⟨rfl, B15.out⟩

end Go.Proofs.YtefpifcfnfkfoaaDoor
