import Derived.Test.YtjeeepcnaaadmaaQMath
namespace Go.Proofs.Ytjeeepcnaaadmaa
open Go.RowKit
open Num
set_option linter.unusedVariables false
set_option maxRecDepth 100000
set_option linter.unusedSimpArgs false

set_option maxHeartbeats 32000000 in
theorem order_walk (a b c : ByteArray) (ha : a.size ≤ maxLen) (hb : b.size ≤ maxLen) (hc : c.size ≤ maxLen)  (w : World) :
    Calls Try.prog 3 #[.string a, .string b, .string c] w fun e w' => e = .returned (.bool true) ∧ Below w.heap.size w w' := by
  have hne := errv_neq
  have heq := errv_eql
  have hgd := errv_guard
  go_enter Try.func3, Try.ntmps3
  go_wp2_with fail
  refine (halved_true w).mono ?_
  rintro e w1 ⟨rfl, b1⟩
  have B1 := hid b1
  clear b1
  go_wp2_with fail
  refine (qless_any a b ha hb w1).mono ?_
  rintro e w2 ⟨x, k2, rfl, t2, b2⟩
  have T2 := hid t2
  have B2 := hid (B1.out.trans (b2.mono B1.out.size))
  clear b2
  clear t2
  go_wp2_with fail
  refine (qless_any b a hb ha w2).mono ?_
  rintro e w3 ⟨y, k3, rfl, t3, b3⟩
  have T3 := hid t3
  have B3 := hid (B2.out.trans (b3.mono B2.out.size))
  clear b3
  clear t3
  by_cases hgood : GoodQ a ∧ GoodQ b
  · have e1 : k2 = 0 := T2.out.zero hgood.1 hgood.2
    have e2 : k3 = 0 := T3.out.zero hgood.2 hgood.1
    subst e1 e2
    have HG := hid hgood
    clear hgood
    rcases rat_tri (qnum a) (qnum b) with hl | he | hl
    · have ex : x = true := less_true T2.out hl
      have ey : y = false := less_false T3.out (rat_asym hl)
      have hab := toList_ne (show a ≠ b by intro e; rw [e] at hl; exact absurd hl Rat.lt_irrefl)
      obtain ⟨hab1, hab2⟩ := hab
      subst ex ey
      clear hl
      go_wp2_with fail
      refine (qless_any b c hb hc w3).mono ?_
      rintro e w4 ⟨z, k4, rfl, t4, b4⟩
      have T4 := hid t4
      have B4 := hid (B3.out.trans (b4.mono B3.out.size))
      clear b4
      clear t4
      go_wp2_with fail
      refine (qless_any a c ha hc w4).mono ?_
      rintro e w5 ⟨v, k5, rfl, t5, b5⟩
      have T5 := hid t5
      have B5 := hid (B4.out.trans (b5.mono B4.out.size))
      clear b5
      clear t5
      by_cases hc2 : GoodQ c
      · have e3 : k4 = 0 := T4.out.zero HG.out.2 hc2
        have e4 : k5 = 0 := T5.out.zero HG.out.1 hc2
        subst e3 e4
        have HC := hid hc2
        clear hc2
        go_wp2_with fail
        refine (qadd_any a c ha hc w5).mono ?_
        rintro e w6 ⟨ac, k6, rfl, t6, z6, b6⟩
        have T6 := hid t6
        have B6 := hid (B5.out.trans (b6.mono B5.out.size))
        clear b6
        clear t6
        go_wp2_with fail
        refine (qadd_any b c hb hc w6).mono ?_
        rintro e w7 ⟨bc, k7, rfl, t7, z7, b7⟩
        have T7 := hid t7
        have B7 := hid (B6.out.trans (b7.mono B6.out.size))
        clear b7
        clear t7
        have e5 : k6 = 0 := T6.out.zero HG.out.1 HC.out
        have e6 : k7 = 0 := T7.out.zero HG.out.2 HC.out
        subst e5 e6
        go_wp2_with fail
        refine (qless_any ac bc z6 z7 w7).mono ?_
        rintro e w8 ⟨u, k8, rfl, t8, b8⟩
        have T8 := hid t8
        have B8 := hid (B7.out.trans (b8.mono B7.out.size))
        clear b8
        clear t8
        have HU := hid (fun (h : k8 = 0) => less_shift T2.out T6.out T7.out (h ▸ T8.out))
        have HZ := hid (less_trans T2.out T4.out T5.out)
        by_cases h7 : k8 = 0
        · have eu := HU.out h7
          subst h7
          subst eu
          cases hz : z
          · subst hz
            go_wp2_with fail
            all_goals
              go_ret
              exact ⟨rfl, B8.out⟩
          · subst hz
            have ev := HZ.out rfl rfl
            subst ev
            go_wp2_with fail
            all_goals
              go_ret
              exact ⟨rfl, B8.out⟩
        · have f8 : (k8 != 0) = true := by simpa using h7
          have g8 : (k8 == 0) = false := by simpa using h7
          clear h7
          cases hz : z
          · subst hz
            go_wp2_with fail
            all_goals
              go_ret
              exact ⟨rfl, B8.out⟩
          · subst hz
            have ev := HZ.out rfl rfl
            subst ev
            go_wp2_with fail
            all_goals
              go_ret
              exact ⟨rfl, B8.out⟩
      · obtain ⟨n3, v3⟩ := T4.out.no (fun h => hc2 h.2)
        obtain ⟨n4, v4⟩ := T5.out.no (fun h => hc2 h.2)
        have f4 : (k4 != 0) = true := by simpa using n3
        have g4 : (k4 == 0) = false := by simpa using n3
        have f5 : (k5 != 0) = true := by simpa using n4
        have g5 : (k5 == 0) = false := by simpa using n4
        clear hc2 n3 n4
        go_wp2_with fail
        go_ret
        exact ⟨rfl, B5.out⟩
    · have ex : x = false := less_false T2.out (by rw [he]; exact Rat.lt_irrefl)
      have ey : y = false := less_false T3.out (by rw [he]; exact Rat.lt_irrefl)
      have hab : a = b := same_of_num HG.out.1 HG.out.2 he
      subst ex ey
      clear he
      subst hab
      go_wp2_with fail
      refine (qless_any a c ha hc w3).mono ?_
      rintro e w4 ⟨z, k4, rfl, t4, b4⟩
      have T4 := hid t4
      have B4 := hid (B3.out.trans (b4.mono B3.out.size))
      clear b4
      clear t4
      go_wp2_with fail
      refine (qless_any a c ha hc w4).mono ?_
      rintro e w5 ⟨v, k5, rfl, t5, b5⟩
      have T5 := hid t5
      have B5 := hid (B4.out.trans (b5.mono B4.out.size))
      clear b5
      clear t5
      by_cases hc2 : GoodQ c
      · have e3 : k4 = 0 := T4.out.zero HG.out.2 hc2
        have e4 : k5 = 0 := T5.out.zero HG.out.1 hc2
        subst e3 e4
        have HC := hid hc2
        clear hc2
        go_wp2_with fail
        refine (qadd_any a c ha hc w5).mono ?_
        rintro e w6 ⟨ac, k6, rfl, t6, z6, b6⟩
        have T6 := hid t6
        have B6 := hid (B5.out.trans (b6.mono B5.out.size))
        clear b6
        clear t6
        go_wp2_with fail
        refine (qadd_any a c ha hc w6).mono ?_
        rintro e w7 ⟨bc, k7, rfl, t7, z7, b7⟩
        have T7 := hid t7
        have B7 := hid (B6.out.trans (b7.mono B6.out.size))
        clear b7
        clear t7
        have e5 : k6 = 0 := T6.out.zero HG.out.1 HC.out
        have e6 : k7 = 0 := T7.out.zero HG.out.2 HC.out
        subst e5 e6
        go_wp2_with fail
        refine (qless_any ac bc z6 z7 w7).mono ?_
        rintro e w8 ⟨u, k8, rfl, t8, b8⟩
        have T8 := hid t8
        have B8 := hid (B7.out.trans (b8.mono B7.out.size))
        clear b8
        clear t8
        have HU := hid (fun (h : k8 = 0) => less_shift T2.out T6.out T7.out (h ▸ T8.out))
        have HZ := hid (less_trans T2.out T4.out T5.out)
        by_cases h7 : k8 = 0
        · have eu := HU.out h7
          subst h7
          subst eu
          cases hz : z
          · subst hz
            go_wp2_with fail
            all_goals
              go_ret
              exact ⟨rfl, B8.out⟩
          · subst hz
            go_wp2_with fail
            all_goals
              go_ret
              exact ⟨rfl, B8.out⟩
        · have f8 : (k8 != 0) = true := by simpa using h7
          have g8 : (k8 == 0) = false := by simpa using h7
          clear h7
          cases hz : z
          · subst hz
            go_wp2_with fail
            all_goals
              go_ret
              exact ⟨rfl, B8.out⟩
          · subst hz
            go_wp2_with fail
            all_goals
              go_ret
              exact ⟨rfl, B8.out⟩
      · obtain ⟨n3, v3⟩ := T4.out.no (fun h => hc2 h.2)
        obtain ⟨n4, v4⟩ := T5.out.no (fun h => hc2 h.2)
        have f4 : (k4 != 0) = true := by simpa using n3
        have g4 : (k4 == 0) = false := by simpa using n3
        have f5 : (k5 != 0) = true := by simpa using n4
        have g5 : (k5 == 0) = false := by simpa using n4
        clear hc2 n3 n4
        go_wp2_with fail
        go_ret
        exact ⟨rfl, B5.out⟩
    · have ex : x = false := less_false T2.out (rat_asym hl)
      have ey : y = true := less_true T3.out hl
      have hab := toList_ne (show a ≠ b by intro e; rw [e] at hl; exact absurd hl Rat.lt_irrefl)
      obtain ⟨hab1, hab2⟩ := hab
      subst ex ey
      clear hl
      go_wp2_with fail
      refine (qless_any b c hb hc w3).mono ?_
      rintro e w4 ⟨z, k4, rfl, t4, b4⟩
      have T4 := hid t4
      have B4 := hid (B3.out.trans (b4.mono B3.out.size))
      clear b4
      clear t4
      go_wp2_with fail
      refine (qless_any a c ha hc w4).mono ?_
      rintro e w5 ⟨v, k5, rfl, t5, b5⟩
      have T5 := hid t5
      have B5 := hid (B4.out.trans (b5.mono B4.out.size))
      clear b5
      clear t5
      by_cases hc2 : GoodQ c
      · have e3 : k4 = 0 := T4.out.zero HG.out.2 hc2
        have e4 : k5 = 0 := T5.out.zero HG.out.1 hc2
        subst e3 e4
        have HC := hid hc2
        clear hc2
        go_wp2_with fail
        refine (qadd_any a c ha hc w5).mono ?_
        rintro e w6 ⟨ac, k6, rfl, t6, z6, b6⟩
        have T6 := hid t6
        have B6 := hid (B5.out.trans (b6.mono B5.out.size))
        clear b6
        clear t6
        go_wp2_with fail
        refine (qadd_any b c hb hc w6).mono ?_
        rintro e w7 ⟨bc, k7, rfl, t7, z7, b7⟩
        have T7 := hid t7
        have B7 := hid (B6.out.trans (b7.mono B6.out.size))
        clear b7
        clear t7
        have e5 : k6 = 0 := T6.out.zero HG.out.1 HC.out
        have e6 : k7 = 0 := T7.out.zero HG.out.2 HC.out
        subst e5 e6
        go_wp2_with fail
        refine (qless_any ac bc z6 z7 w7).mono ?_
        rintro e w8 ⟨u, k8, rfl, t8, b8⟩
        have T8 := hid t8
        have B8 := hid (B7.out.trans (b8.mono B7.out.size))
        clear b8
        clear t8
        have HU := hid (fun (h : k8 = 0) => less_shift T2.out T6.out T7.out (h ▸ T8.out))
        have HZ := hid (less_trans T2.out T4.out T5.out)
        by_cases h7 : k8 = 0
        · have eu := HU.out h7
          subst h7
          subst eu
          cases hz : z
          · subst hz
            go_wp2_with fail
            all_goals
              go_ret
              exact ⟨rfl, B8.out⟩
          · subst hz
            go_wp2_with fail
            all_goals
              go_ret
              exact ⟨rfl, B8.out⟩
        · have f8 : (k8 != 0) = true := by simpa using h7
          have g8 : (k8 == 0) = false := by simpa using h7
          clear h7
          cases hz : z
          · subst hz
            go_wp2_with fail
            all_goals
              go_ret
              exact ⟨rfl, B8.out⟩
          · subst hz
            go_wp2_with fail
            all_goals
              go_ret
              exact ⟨rfl, B8.out⟩
      · obtain ⟨n3, v3⟩ := T4.out.no (fun h => hc2 h.2)
        obtain ⟨n4, v4⟩ := T5.out.no (fun h => hc2 h.2)
        have f4 : (k4 != 0) = true := by simpa using n3
        have g4 : (k4 == 0) = false := by simpa using n3
        have f5 : (k5 != 0) = true := by simpa using n4
        have g5 : (k5 == 0) = false := by simpa using n4
        clear hc2 n3 n4
        go_wp2_with fail
        go_ret
        exact ⟨rfl, B5.out⟩
  · obtain ⟨n2, v2⟩ := T2.out.no hgood
    have f2 : (k2 != 0) = true := by simpa using n2
    have g2 : (k2 == 0) = false := by simpa using n2
    obtain ⟨n3, v3⟩ := T3.out.no (fun h => hgood ⟨h.2, h.1⟩)
    have f3 : (k3 != 0) = true := by simpa using n3
    have g3 : (k3 == 0) = false := by simpa using n3
    subst v2 v3
    clear hgood n2 n3
    go_wp2_with fail
    go_ret
    exact ⟨rfl, B3.out⟩

end Go.Proofs.Ytjeeepcnaaadmaa

