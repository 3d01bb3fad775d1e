import Derived.Test.YtckkbjnipacodaaErrv
import Derived.ProofKit
import Derived.OpenShut
import Derived.ShutString
namespace Go.Proofs.Ytckkbjnipacodaa
open Go.ChangeShapes Go.WideShapes Go.ChangeAt Go.RowKit
open Go.ChangeMaps (open_string shut_string)
open Num
set_option linter.unusedVariables false
set_option linter.unusedSimpArgs false


set_option maxHeartbeats 1000000 in
theorem squares_walk (a b : ByteArray) (ha : a.size ≤ maxLen) (hb : b.size ≤ maxLen) (w : World) :
    Calls Try.prog 11 #[.string a, .string b] w fun e w' => e = .returned (.bool true) ∧ Below w.heap.size w w' := by
  have hne := errv_neq
  have hgd := errv_guard
  go_enter Try.func11, Try.ntmps11
  go_wp2_with fail
  refine (add_any a b ha hb w).mono ?_
  rintro e w1 ⟨s, k1, rfl, t1, z1, b1⟩
  have T1 := hid t1
  have B1 := hid b1
  clear t1 b1
  go_wp2_with fail
  refine (mul_any s s z1 z1 w1).mono ?_
  rintro e w2 ⟨t, k2, rfl, t2, z2, b2⟩
  have T2 := hid t2
  have B2 := hid (B1.out.trans (b2.mono B1.out.size))
  clear t2 b2
  go_wp2_with fail
  refine (mul_any a a ha ha w2).mono ?_
  rintro e w3 ⟨x, k3, rfl, t3, z3, b3⟩
  have T3 := hid t3
  have B3 := hid (B2.out.trans (b3.mono B2.out.size))
  clear t3 b3
  go_wp2_with fail
  refine (mul_any b b hb hb w3).mono ?_
  rintro e w4 ⟨y, k4, rfl, t4, z4, b4⟩
  have T4 := hid t4
  have B4 := hid (B3.out.trans (b4.mono B3.out.size))
  clear t4 b4
  go_wp2_with fail
  refine (mul_any a b ha hb w4).mono ?_
  rintro e w5 ⟨m, k5, rfl, t5, z5, b5⟩
  have T5 := hid t5
  have B5 := hid (B4.out.trans (b5.mono B4.out.size))
  clear t5 b5
  go_wp2_with fail
  refine (add_any m m z5 z5 w5).mono ?_
  rintro e w6 ⟨n, k6, rfl, t6, z6, b6⟩
  have T6 := hid t6
  have B6 := hid (B5.out.trans (b6.mono B5.out.size))
  clear t6 b6
  go_wp2_with fail
  refine (add_any x y z3 z4 w6).mono ?_
  rintro e w7 ⟨u, k7, rfl, t7, z7, b7⟩
  have T7 := hid t7
  have B7 := hid (B6.out.trans (b7.mono B6.out.size))
  clear t7 b7
  go_wp2_with fail
  refine (add_any u n z7 z6 w7).mono ?_
  rintro e w8 ⟨v, k8, rfl, t8, z8, b8⟩
  have T8 := hid t8
  have B8 := hid (B7.out.trans (b8.mono B7.out.size))
  clear t8 b8
  go_wp2_with fail
  refine (nine_one w8).mono ?_
  rintro e w9 ⟨rfl, b9⟩
  have B9 := hid (B8.out.trans (b9.mono B8.out.size))
  clear b9
  go_wp2_with fail
  all_goals
    go_ret
    refine ⟨?_, B9.out⟩
    first
    | rfl
    | ( have E : t = v := by
          obtain ⟨ga, gb, es⟩ := T1.out.yes (by assumption)
          obtain ⟨gs, _, et⟩ := T2.out.yes (by assumption)
          obtain ⟨_, _, ex⟩ := T3.out.yes (by assumption)
          obtain ⟨_, _, ey⟩ := T4.out.yes (by assumption)
          obtain ⟨_, _, em⟩ := T5.out.yes (by assumption)
          obtain ⟨_, _, en⟩ := T6.out.yes (by assumption)
          obtain ⟨_, _, eu⟩ := T7.out.yes (by assumption)
          obtain ⟨_, _, ev⟩ := T8.out.yes (by assumption)
          subst es et ex ey em en eu ev
          simp only [num_txt]
          congr 1
          simp only [Nat.add_mul, Nat.mul_add]
          rw [Nat.mul_comm (num b) (num a)]
          omega
        rw [E]
        exact ret_bool (by simp) )

end Go.Proofs.Ytckkbjnipacodaa

