import Derived.Test.YthaidmngikkepaaQHalf
namespace Go.Proofs.Ythaidmngikkepaa
open Go.RowKit
open Num
set_option linter.unusedVariables false
set_option maxRecDepth 100000
set_option linter.unusedSimpArgs false

set_option maxHeartbeats 16000000 in
theorem make_walk (n d k : ByteArray) (hn : n.size ≤ maxLen) (hd : d.size ≤ maxLen) (hk : k.size ≤ maxLen)  (w : World) :
    Calls Try.prog 8 #[.string n, .string d, .string k] w fun e w' => e = .returned (.bool true) ∧ Below w.heap.size w w' := by
  have hne := errv_neq
  have heq := errv_eql
  have hgd := errv_guard
  go_enter Try.func8, Try.ntmps8
  go_wp2_with fail
  refine (qmake_any n d hn hd w).mono ?_
  rintro e w1 ⟨a, k1, rfl, t1, z1, b1⟩
  have T1 := hid t1
  have B1 := hid b1
  clear b1
  clear t1
  go_wp2_with fail
  refine (zmul_any n k hn hk w1).mono ?_
  rintro e w2 ⟨x, k2, rfl, t2, z2, b2⟩
  have T2 := hid t2
  have B2 := hid (B1.out.trans (b2.mono B1.out.size))
  clear b2
  clear t2
  go_wp2_with fail
  refine (zmul_any d k hd hk w2).mono ?_
  rintro e w3 ⟨y, k3, rfl, t3, z3, b3⟩
  have T3 := hid t3
  have B3 := hid (B2.out.trans (b3.mono B2.out.size))
  clear b3
  clear t3
  go_wp2_with fail
  refine (qmake_any x y z2 z3 w3).mono ?_
  rintro e w4 ⟨b, k4, rfl, t4, z4, b4⟩
  have T4 := hid t4
  have B4 := hid (B3.out.trans (b4.mono B3.out.size))
  clear b4
  clear t4
  go_wp2_with fail
  refine (half_true w4).mono ?_
  rintro e w5 ⟨rfl, b5⟩
  have B5 := hid (B4.out.trans (b5.mono B4.out.size))
  clear b5
  by_cases h1 : k1 = 0
  · subst h1
    have HS := hid (fun (h2 : k2 = 0) (h3 : k3 = 0) (h4 : k4 = 0) => make_scaled T1.out (h2 ▸ T2.out) (h3 ▸ T3.out) (h4 ▸ T4.out))
    by_cases h2 : k2 = 0
    · by_cases h3 : k3 = 0
      · by_cases h4 : k4 = 0
        · have eb := HS.out h2 h3 h4
          clear HS
          subst h2 h3 h4
          subst eb
          go_wp2_with fail
          refine (qmul_any a d z1 hd w5).mono ?_
          rintro e w6 ⟨m, k6, rfl, t6, z6, b6⟩
          have T6 := hid t6
          have B6 := hid (B5.out.trans (b6.mono B5.out.size))
          clear b6
          clear t6
          have HM := hid (fun (h : k6 = 0) => make_times T1.out (h ▸ T6.out))
          by_cases h5 : k6 = 0
          · have em := HM.out h5
            subst h5
            subst em
            go_wp2_with fail
            go_ret
            exact ⟨rfl, B6.out⟩
          · have f6 : (k6 != 0) = true := by simpa using h5
            have g6 : (k6 == 0) = false := by simpa using h5
            clear h5
            go_wp2_with fail
            go_ret
            exact ⟨rfl, B6.out⟩
        · have f4 : (k4 != 0) = true := by simpa using h4
          have g4 : (k4 == 0) = false := by simpa using h4
          clear h4 HS
          subst h2 h3
          go_wp2_with fail
          refine (qmul_any a d z1 hd w5).mono ?_
          rintro e w6 ⟨m, k6, rfl, t6, z6, b6⟩
          have T6 := hid t6
          have B6 := hid (B5.out.trans (b6.mono B5.out.size))
          clear b6
          clear t6
          have HM := hid (fun (h : k6 = 0) => make_times T1.out (h ▸ T6.out))
          by_cases h5 : k6 = 0
          · have em := HM.out h5
            subst h5
            subst em
            go_wp2_with fail
            go_ret
            exact ⟨rfl, B6.out⟩
          · have f6 : (k6 != 0) = true := by simpa using h5
            have g6 : (k6 == 0) = false := by simpa using h5
            clear h5
            go_wp2_with fail
            go_ret
            exact ⟨rfl, B6.out⟩
      · have f3 : (k3 != 0) = true := by simpa using h3
        have g3 : (k3 == 0) = false := by simpa using h3
        clear h3 HS
        subst h2
        go_wp2_with fail
        refine (qmul_any a d z1 hd w5).mono ?_
        rintro e w6 ⟨m, k6, rfl, t6, z6, b6⟩
        have T6 := hid t6
        have B6 := hid (B5.out.trans (b6.mono B5.out.size))
        clear b6
        clear t6
        have HM := hid (fun (h : k6 = 0) => make_times T1.out (h ▸ T6.out))
        by_cases h5 : k6 = 0
        · have em := HM.out h5
          subst h5
          subst em
          go_wp2_with fail
          go_ret
          exact ⟨rfl, B6.out⟩
        · have f6 : (k6 != 0) = true := by simpa using h5
          have g6 : (k6 == 0) = false := by simpa using h5
          clear h5
          go_wp2_with fail
          go_ret
          exact ⟨rfl, B6.out⟩
    · have f2 : (k2 != 0) = true := by simpa using h2
      have g2 : (k2 == 0) = false := by simpa using h2
      clear h2 HS
      go_wp2_with fail
      refine (qmul_any a d z1 hd w5).mono ?_
      rintro e w6 ⟨m, k6, rfl, t6, z6, b6⟩
      have T6 := hid t6
      have B6 := hid (B5.out.trans (b6.mono B5.out.size))
      clear b6
      clear t6
      have HM := hid (fun (h : k6 = 0) => make_times T1.out (h ▸ T6.out))
      by_cases h5 : k6 = 0
      · have em := HM.out h5
        subst h5
        subst em
        go_wp2_with fail
        go_ret
        exact ⟨rfl, B6.out⟩
      · have f6 : (k6 != 0) = true := by simpa using h5
        have g6 : (k6 == 0) = false := by simpa using h5
        clear h5
        go_wp2_with fail
        go_ret
        exact ⟨rfl, B6.out⟩
  · have f1 : (k1 != 0) = true := by simpa using h1
    have g1 : (k1 == 0) = false := by simpa using h1
    have ea := T1.out.no h1
    subst ea
    clear h1
    go_wp2_with fail
    go_ret
    exact ⟨rfl, B5.out⟩

end Go.Proofs.Ythaidmngikkepaa

