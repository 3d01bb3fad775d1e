import Derived.Test.YtefpifcfnfkfoaaDoorTells
namespace Go.Proofs.YtefpifcfnfkfoaaDoor
open Go.RowKit
open Num (dtext)
set_option linter.unusedVariables false
set_option linter.unusedSimpArgs false

set_option maxHeartbeats 16000000 in
set_option maxRecDepth 100000 in
theorem tells_more (a b : ByteArray) (ha : Good a) (hb : Good b) (hlt : num b ≤ num a) (hy0 : 0 < num b) (w : World) (hd : Door w) :
    Calls Tryd.prog 3 #[.string a, .string b] w fun e w' => e = .returned (.bool true) ∧ Below w.heap.size w w' := by
  have GA := hid ha
  have GB := hid hb
  have LA := hid (num_lt ha)
  have LB := hid (num_lt hb)
  have HD := hid hd
  have HLT := hid hlt
  have HY0 := hid hy0
  have HC := cmpv_ge hlt
  clear ha hb hd hlt hy0
  go_enter Tryd.func3, Tryd.ntmps3
  have H := hid (added_true w)
  go_wp2_with fail
  refine H.out.mono ?_
  rintro e w1 ⟨rfl, hb⟩
  have B1 := hid hb
  clear hb H
  have H := hid (natof_num GA.out w1)
  go_wp2_with fail
  refine H.out.mono ?_
  rintro e w2 ⟨vx, xs, rfl, hX, tX, eX, lX, hb⟩
  have B2 := hid (B1.out.trans (hb.mono B1.out.size))
  have HX0 := hid hX
  have EX := hid eX
  clear hX tX eX
  have BX := hid (Below.refl w2.heap.size w2)
  clear hb H B1
  have H := hid (check_good GA.out w2)
  go_wp2_with fail
  refine H.out.mono ?_
  rintro e w3 ⟨rfl, hb⟩
  have B3 := hid (B2.out.trans (hb.mono B2.out.size))
  have HX1 := hid (HX0.out.below hb (Nat.le_refl _))
  clear HX0 BX
  clear hb H B2
  have H := hid (same_nil w3 (HD.out.below B3.out))
  go_wp2_with fail
  refine H.out.mono ?_
  rintro e w4 ⟨rfl, hb⟩
  have B4 := hid (B3.out.trans (hb.mono B3.out.size))
  have HX0 := hid (HX1.out.below hb (Nat.le_refl _))
  clear HX1
  clear hb H B3
  have H := hid (natof_num GB.out w4)
  go_wp2_with fail
  refine H.out.mono ?_
  rintro e w5 ⟨vy, ys, rfl, hY, tY, eY, lY, hb⟩
  have B5 := hid (B4.out.trans (hb.mono B4.out.size))
  have HX := hid (HX0.out.below hb (Nat.le_refl _))
  have HY := hid hY
  have EY := hid eY
  have TY := hid tY
  clear HX0 hY tY eY
  clear hb H B4
  have C5 := hid (Below.refl w5.heap.size w5)
  obtain ⟨q, d, hvy, _, _, _, _⟩ := limR_parts HY.out
  obtain ⟨m, hm⟩ : ∃ m, ys.length = m := ⟨_, rfl⟩
  rw [hm] at hvy
  have hm0 : 0 < m := by
    apply Nat.pos_of_ne_zero
    intro h
    have h1 : ys = [] := List.length_eq_zero_iff.1 (hm.trans h)
    have h2 := EY.out
    have h3 := HY0.out
    rw [h1, Num4.val_nil] at h2
    omega
  subst hvy
  clear hm
  have H := hid (two_zero 0 w5)
  go_wp2_with fail
  refine H.out.mono ?_
  rintro e w' ⟨rfl, rfl⟩
  clear H
  have H := hid (radd_lim (HX.out.below C5.out (Nat.le_refl _)) (HY.out.below C5.out (Nat.le_refl _)) (by omega) (by omega))
  go_wp2_with fail
  refine H.out.mono ?_
  rintro e w6 ⟨vz, zs, rfl, hZ, tZ, eZ, hb⟩
  have B6 := hid (B5.out.trans (hb.mono B5.out.size))
  have C6 := hid (C5.out.trans (hb.mono C5.out.size))
  rw [EX.out, EY.out] at eZ
  have HZ := hid hZ
  have EZ := hid eZ
  have LZ := hid (len4 tZ eZ (sum_lt LA.out LB.out))
  clear hZ tZ eZ
  clear hb H B5 C5
  have H := hid (rtext_txt HZ.out EZ.out (Nat.le_trans LZ.out (by omega)))
  go_wp2_with fail
  refine H.out.mono ?_
  rintro e w7 ⟨rfl, hb⟩
  have B7 := hid (B6.out.trans (hb.mono B6.out.size))
  have C7 := hid (C6.out.trans (hb.mono C6.out.size))
  clear HZ EZ LZ
  clear hb H B6 C6
  have H := hid (rmul_lim (HX.out.below C7.out (Nat.le_refl _)) (HY.out.below C7.out (Nat.le_refl _)) (by omega) (by omega))
  go_wp2_with fail
  refine H.out.mono ?_
  rintro e w8 ⟨vz2, zs2, rfl, hZ, tZ, eZ, hb⟩
  have B8 := hid (B7.out.trans (hb.mono B7.out.size))
  have C8 := hid (C7.out.trans (hb.mono C7.out.size))
  rw [EX.out, EY.out] at eZ
  have HZ := hid hZ
  have EZ := hid eZ
  have LZ := hid (len4 tZ eZ (prod_lt LA.out LB.out))
  clear hZ tZ eZ
  clear hb H B7 C7
  have H := hid (rtext_txt HZ.out EZ.out (Nat.le_trans LZ.out (by omega)))
  go_wp2_with fail
  refine H.out.mono ?_
  rintro e w9 ⟨rfl, hb⟩
  have B9 := hid (B8.out.trans (hb.mono B8.out.size))
  have C9 := hid (C8.out.trans (hb.mono C8.out.size))
  clear HZ EZ LZ
  clear hb H B8 C8
  have H := hid (cmp_num (HX.out.below C9.out (Nat.le_refl _)) (HY.out.below C9.out (Nat.le_refl _)) lX lY EX.out EY.out)
  go_wp2_with fail
  refine H.out.mono ?_
  rintro e w' ⟨rfl, rfl⟩
  clear H
  have H := hid (rsub_lim (HX.out.below C9.out (Nat.le_refl _)) (HY.out.below C9.out (Nat.le_refl _)) (by omega) TY.out (by rw [EX.out, EY.out]; exact HLT.out))
  go_wp2_with fail
  refine H.out.mono ?_
  rintro e w10 ⟨vz3, zs3, rfl, hZ, tZ, eZ, hb⟩
  have B10 := hid (B9.out.trans (hb.mono B9.out.size))
  have C10 := hid (C9.out.trans (hb.mono C9.out.size))
  rw [EX.out, EY.out] at eZ
  have HZ := hid hZ
  have EZ := hid eZ
  have LZ := hid (len4 tZ eZ (Nat.lt_of_le_of_lt (Nat.sub_le _ _) LA.out))
  clear hZ tZ eZ
  clear hb H B9 C9
  have H := hid (rtext_txt HZ.out EZ.out (Nat.le_trans LZ.out (by omega)))
  go_wp2_with fail
  refine H.out.mono ?_
  rintro e w11 ⟨rfl, hb⟩
  have B11 := hid (B10.out.trans (hb.mono B10.out.size))
  have C11 := hid (C10.out.trans (hb.mono C10.out.size))
  clear HZ EZ LZ
  clear hb H B10 C10
  have H := hid (rdiv_num (HX.out.below C11.out (Nat.le_refl _)) (HY.out.below C11.out (Nat.le_refl _)) lX lY TY.out EX.out EY.out LA.out LB.out HY0.out)
  go_wp2_with fail
  refine H.out.mono ?_
  rintro e w12 ⟨vq, vr, qs, rs, rfl, hq, hr, eq, er, lq, lr, hb⟩
  have B12 := hid (B11.out.trans (hb.mono B11.out.size))
  have C12 := hid (C11.out.trans (hb.mono C11.out.size))
  have HQ := hid hq
  have HR := hid hr
  have EQ := hid eq
  have ER := hid er
  clear hq hr eq er
  clear hb H B11 C11
  have H := hid (rtext_txt HQ.out EQ.out (by omega))
  go_wp2_with fail
  refine H.out.mono ?_
  rintro e w13 ⟨rfl, hb⟩
  have B13 := hid (B12.out.trans (hb.mono B12.out.size))
  have C13 := hid (C12.out.trans (hb.mono C12.out.size))
  have HR1 := hid (HR.out.below hb (Nat.le_refl _))
  clear HQ EQ HR
  clear hb H B12 C12
  have H := hid (rtext_txt HR1.out ER.out (by omega))
  go_wp2_with fail
  refine H.out.mono ?_
  rintro e w14 ⟨rfl, hb⟩
  have B14 := hid (B13.out.trans (hb.mono B13.out.size))
  have C14 := hid (C13.out.trans (hb.mono C13.out.size))
  clear HR1 ER
  clear hb H B13 C13
  have H := hid (nat_add GA.out GB.out w14)
  go_wp2_with fail
  refine H.out.mono ?_
  rintro e w15 ⟨rfl, hb⟩
  have B15 := hid (B14.out.trans (hb.mono B14.out.size))
  have C15 := hid (C14.out.trans (hb.mono C14.out.size))
  clear hb H B14 C14
  have H := hid (same_nil w15 (HD.out.below B15.out))
  go_wp2_with fail
  refine H.out.mono ?_
  rintro e w16 ⟨rfl, hb⟩
  have B16 := hid (B15.out.trans (hb.mono B15.out.size))
  have C16 := hid (C15.out.trans (hb.mono C15.out.size))
  clear hb H B15 C15
  have H := hid (nat_mul GA.out GB.out w16)
  go_wp2_with fail
  refine H.out.mono ?_
  rintro e w17 ⟨rfl, hb⟩
  have B17 := hid (B16.out.trans (hb.mono B16.out.size))
  have C17 := hid (C16.out.trans (hb.mono C16.out.size))
  clear hb H B16 C16
  have H := hid (same_nil w17 (HD.out.below B17.out))
  go_wp2_with fail
  refine H.out.mono ?_
  rintro e w18 ⟨rfl, hb⟩
  have B18 := hid (B17.out.trans (hb.mono B17.out.size))
  have C18 := hid (C17.out.trans (hb.mono C17.out.size))
  clear hb H B17 C17
  have H := hid (nat_sub GA.out GB.out HLT.out w18)
  go_wp2_with fail
  refine H.out.mono ?_
  rintro e w19 ⟨rfl, hb⟩
  have B19 := hid (B18.out.trans (hb.mono B18.out.size))
  have C19 := hid (C18.out.trans (hb.mono C18.out.size))
  clear hb H B18 C18
  have H := hid (same_nil w19 (HD.out.below B19.out))
  go_wp2_with fail
  refine H.out.mono ?_
  rintro e w20 ⟨rfl, hb⟩
  have B20 := hid (B19.out.trans (hb.mono B19.out.size))
  have C20 := hid (C19.out.trans (hb.mono C19.out.size))
  clear hb H B19 C19
  have H := hid (nat_div GA.out GB.out HY0.out w20)
  go_wp2_with fail
  refine H.out.mono ?_
  rintro e w21 ⟨rfl, hb⟩
  have B21 := hid (B20.out.trans (hb.mono B20.out.size))
  have C21 := hid (C20.out.trans (hb.mono C20.out.size))
  clear hb H B20 C20
  have H := hid (same_nil w21 (HD.out.below B21.out))
  go_wp2_with fail
  refine H.out.mono ?_
  rintro e w22 ⟨rfl, hb⟩
  have B22 := hid (B21.out.trans (hb.mono B21.out.size))
  have C22 := hid (C21.out.trans (hb.mono C21.out.size))
  clear hb H B21 C21
  have H := hid (less_num GA.out GB.out (decide_eq_false (Nat.not_lt.2 HLT.out)) w22)
  go_wp2_with fail
  refine H.out.mono ?_
  rintro e w23 ⟨rfl, hb⟩
  have B23 := hid (B22.out.trans (hb.mono B22.out.size))
  have C23 := hid (C22.out.trans (hb.mono C22.out.size))
  clear hb H B22 C22
  have H := hid (same_nil w23 (HD.out.below B23.out))
  go_wp2_with fail
  refine H.out.mono ?_
  rintro e w24 ⟨rfl, hb⟩
  have B24 := hid (B23.out.trans (hb.mono B23.out.size))
  have C24 := hid (C23.out.trans (hb.mono C23.out.size))
  clear hb H B23 C23
  have H := hid (cmp_num (HX.out.below C24.out (Nat.le_refl _)) (HY.out.below C24.out (Nat.le_refl _)) lX lY EX.out EY.out)
  go_wp2_with fail
  refine H.out.mono ?_
  rintro e w' ⟨rfl, rfl⟩
  clear H
  go_wp2_with fail
  go_ret
  exact ⟨not_less HC, B24.out⟩

end Go.Proofs.YtefpifcfnfkfoaaDoor
