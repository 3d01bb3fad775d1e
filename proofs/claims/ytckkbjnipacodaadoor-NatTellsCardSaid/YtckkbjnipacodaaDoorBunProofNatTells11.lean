import Derived.Test.YtckkbjnipacodaaDoorBunProofNatTells5
import Derived.Test.YtckkbjnipacodaaDoorBunProofNatTells9
import Derived.Test.YtckkbjnipacodaaDoorBunProofNatTells6
import Derived.Test.YtckkbjnipacodaaDoorBunProofNatTells10
import Derived.Test.YtckkbjnipacodaaDoorBunProofNatTells7
namespace Go.Proofs.YtckkbjnipacodaaDoor
open Go.RowKit
open Num (dtext)
set_option linter.unusedVariables false
set_option linter.unusedSimpArgs false

theorem rtext_txt {w : World} {v : Value} {xs : List Nat} {n : Nat} (h : LimR w v xs) (hv : Num4.val xs = n) (hn : xs.length ≤ 1099511627776) :
    Calls Tryd.prog 10 #[v] w fun e w' => e = .returned (.string (txt n)) ∧ Below w.heap.size w w' := by
  subst hv; exact rtext_lim h hn

theorem same_nil (w : World) (hd : Door w) : Calls Tryd.prog 7 #[.nilIface, .int .i64 0] w fun r w' => r = .returned (.bool true) ∧ Below w.heap.size w w' := same_error 0 0 w hd
theorem same_no (k : Int) (hk : k ≠ 0) (w : World) (hd : Door w) : Calls Tryd.prog 7 #[errno k, .int .i64 k] w fun r w' => r = .returned (.bool true) ∧ Below w.heap.size w w' := by
  have h := same_error k k w hd
  rw [if_neg hk, beq_self_eq_true] at h
  exact h

theorem two_zero (e : Int) (w : World) : Calls Tryd.prog 9 #[.int .i64 0, .int .i64 e] w fun r w' => r = .returned (.int .i64 e) ∧ w = w' := by
  go_enter Tryd.func9, Tryd.ntmps9
  go_wp2_with fail
  go_ret
  exact ⟨rfl, rfl⟩
theorem two_some (k e : Int) (hk : k ≠ 0) (w : World) : Calls Tryd.prog 9 #[.int .i64 k, .int .i64 e] w fun r w' => r = .returned (.int .i64 k) ∧ w = w' := by
  go_enter Tryd.func9, Tryd.ntmps9
  go_wp2_with fail
  go_ret
  exact ⟨rfl, rfl⟩

theorem len4 {zs : List Nat} {n k : Nat} (ht : Num4.Trim zs) (hv : Num4.val zs = n) (hn : n < 10 ^ k) : zs.length ≤ k :=
  Num4.length_le_of_val ht k (by rw [hv]; exact Nat.lt_of_lt_of_le hn (pow10_le k))

/-- A text that is a natural is read. -/
theorem natof_num {s : ByteArray} (h : Good s) (w : World) : Calls Tryd.prog 6 #[.string s] w fun e w' => ∃ v xs, e = .returned (.tuple #[v, .int .i64 0]) ∧ LimR w' v xs ∧ Num4.Trim xs ∧ Num4.val xs = num s ∧ xs.length ≤ 100 ∧ Below w.heap.size w w' := by
  refine (natof_good w h.1 h.2).mono ?_
  rintro e w' ⟨v, xs, rfl, h1, h2, h3, h4⟩
  exact ⟨v, xs, rfl, h1, h2, h3, len4 h2 h3 (num_lt h), h4⟩

theorem sum_lt {x y : Nat} (hx : x < 10 ^ 100) (hy : y < 10 ^ 100) : x + y < 10 ^ 101 := by
  rw [Nat.pow_succ]; omega
theorem prod_lt {x y : Nat} (hx : x < 10 ^ 100) (hy : y < 10 ^ 100) : x * y < 10 ^ 200 := by
  rw [show (200 : Nat) = 100 + 100 from rfl, Nat.pow_add]
  exact Nat.mul_lt_mul'' hx hy
theorem cmpv_lt {a b : Nat} (h : a < b) : cmpv a b = -1 := by rw [cmpv, if_pos h]
theorem cmpv_ge {a b : Nat} (h : b ≤ a) : ¬ cmpv a b < 0 := by
  rw [cmpv, if_neg (by omega)]; split <;> decide

/-- Division by the reference, in the kit's words. -/
theorem rdiv_num {w : World} {v u : Value} {xs ys : List Nat} {x y : Nat} (h1 : LimR w v xs) (h2 : LimR w u ys) (l1 : xs.length ≤ 100) (l2 : ys.length ≤ 100) (ty : Num4.Trim ys) (ex : Num4.val xs = x) (ey : Num4.val ys = y) (hx : x < 10 ^ 100) (h100 : y < 10 ^ 100) (hy : 0 < y) :
    Calls Tryd.prog 15 #[v, u] w fun e w' => ∃ v' u' qs zs, e = .returned (.tuple #[v', u']) ∧ LimR w' v' qs ∧ LimR w' u' zs ∧ Num4.val qs = x / y ∧ Num4.val zs = x % y ∧ qs.length ≤ 100 ∧ zs.length ≤ 100 ∧ Below w.heap.size w w' := by
  refine (rdiv_lim h1 h2 (by omega) (by omega) ty (by rw [ey]; exact hy)).mono ?_
  rintro e w' ⟨v', u', qs, zs, rfl, g1, g2, g3, g4, g5, g6, g7⟩
  rw [ex, ey] at g5
  rw [ey] at g6
  have e1 : x / y = Num4.val qs := by
    rw [g5, Nat.mul_comm, Nat.mul_add_div hy, Nat.div_eq_of_lt g6]; omega
  have e2 : x % y = Num4.val zs := by
    rw [g5, Nat.mul_comm, Nat.mul_add_mod, Nat.mod_eq_of_lt g6]
  refine ⟨v', u', qs, zs, rfl, g1, g2, e1.symm, e2.symm, ?_, ?_, g7⟩
  · exact len4 g3 e1.symm (Nat.lt_of_le_of_lt (Nat.div_le_self _ _) hx)
  · exact len4 g4 e2.symm (Nat.lt_of_le_of_lt (Nat.le_of_lt (Nat.mod_lt _ hy)) h100)

theorem cmp_num {w : World} {v u : Value} {xs ys : List Nat} {x y : Nat} (h1 : LimR w v xs) (h2 : LimR w u ys) (l1 : xs.length ≤ 100) (l2 : ys.length ≤ 100) (ex : Num4.val xs = x) (ey : Num4.val ys = y) :
    Calls Tryd.prog 13 #[v, u] w fun e w' => e = .returned (.int .i64 (cmpv x y)) ∧ w = w' := by
  subst ex ey
  exact cmp_lim h1 h2 (by omega) (by omega)
theorem not_less {z : Int} (h : 0 ≤ z) : Ending.returned (.bool (!decide (z < 0))) = Ending.returned (.bool true) := by rw [decide_eq_false (by omega)]; rfl
-- @needs{abacist/nat.Less}@
theorem less_num {a b : ByteArray} {t : Bool} (ha : Good a) (hb : Good b) (ht : decide (num a < num b) = t) (w : World) :
    Calls Tryd.prog 20 #[.string a, .string b] w fun e w' => e = .returned (.tuple #[.bool t, .nilIface]) ∧ Below w.heap.size w w' := by
  subst ht; exact nat_less ha hb w

theorem natof_any {s : ByteArray} {k : Int} (w : World) (h63 : s.size ≤ maxLen) (h : (Good s ∧ k = 0) ∨ Bad s k) :
    Calls Tryd.prog 6 #[.string s] w fun e w' => ∃ v, e = .returned (.tuple #[v, .int .i64 k]) ∧ Below w.heap.size w w' := by
  rcases h with ⟨h, rfl⟩ | h
  · refine (natof_num h w).mono ?_
    rintro e w' ⟨v, xs, rfl, _, _, _, _, hb⟩
    exact ⟨v, rfl, hb⟩
  · refine (natof_bad w h63 h).mono ?_
    rintro e w' ⟨rfl, hb⟩
    exact ⟨_, rfl, hb⟩

end Go.Proofs.YtckkbjnipacodaaDoor

namespace Go.Proofs.YtckkbjnipacodaaDoor
open Go.RowKit
open Num (dtext)
set_option linter.unusedVariables false
set_option linter.unusedSimpArgs false

set_option maxHeartbeats 16000000 in
set_option maxRecDepth 100000 in
theorem tells_less (a b : ByteArray) (ha : Good a) (hb : Good b) (hlt : num a < num b) (hy0 : 0 < num b) (w : World) (hd : Door w) :
    Calls Tryd.prog 3 #[.string a, .string b] w fun e w' => e = .returned (.bool true) ∧ Below w.heap.size w w' := by
  have GA := hid ha
  have GB := hid hb
  have LA := hid (num_lt ha)
  have LB := hid (num_lt hb)
  have HD := hid hd
  have HLT := hid hlt
  have HY0 := hid hy0
  have HC := cmpv_lt hlt
  clear ha hb hd hlt hy0
  go_enter Tryd.func3, Tryd.ntmps3
  have H := hid (added_true w)
  go_wp2_with fail
  refine H.out.mono ?_
  rintro e w1 ⟨rfl, hb⟩
  have B1 := hid hb
  clear hb H
  have H := hid (natof_num GA.out w1)
  go_wp2_with fail
  refine H.out.mono ?_
  rintro e w2 ⟨vx, xs, rfl, hX, tX, eX, lX, hb⟩
  have B2 := hid (B1.out.trans (hb.mono B1.out.size))
  have HX0 := hid hX
  have EX := hid eX
  clear hX tX eX
  have BX := hid (Below.refl w2.heap.size w2)
  clear hb H B1
  have H := hid (check_good GA.out w2)
  go_wp2_with fail
  refine H.out.mono ?_
  rintro e w3 ⟨rfl, hb⟩
  have B3 := hid (B2.out.trans (hb.mono B2.out.size))
  have HX1 := hid (HX0.out.below hb (Nat.le_refl _))
  clear HX0 BX
  clear hb H B2
  have H := hid (same_nil w3 (HD.out.below B3.out))
  go_wp2_with fail
  refine H.out.mono ?_
  rintro e w4 ⟨rfl, hb⟩
  have B4 := hid (B3.out.trans (hb.mono B3.out.size))
  have HX0 := hid (HX1.out.below hb (Nat.le_refl _))
  clear HX1
  clear hb H B3
  have H := hid (natof_num GB.out w4)
  go_wp2_with fail
  refine H.out.mono ?_
  rintro e w5 ⟨vy, ys, rfl, hY, tY, eY, lY, hb⟩
  have B5 := hid (B4.out.trans (hb.mono B4.out.size))
  have HX := hid (HX0.out.below hb (Nat.le_refl _))
  have HY := hid hY
  have EY := hid eY
  have TY := hid tY
  clear HX0 hY tY eY
  clear hb H B4
  have C5 := hid (Below.refl w5.heap.size w5)
  obtain ⟨q, d, hvy, _, _, _, _⟩ := limR_parts HY.out
  obtain ⟨m, hm⟩ : ∃ m, ys.length = m := ⟨_, rfl⟩
  rw [hm] at hvy
  have hm0 : 0 < m := by
    apply Nat.pos_of_ne_zero
    intro h
    have h1 : ys = [] := List.length_eq_zero_iff.1 (hm.trans h)
    have h2 := EY.out
    have h3 := HY0.out
    rw [h1, Num4.val_nil] at h2
    omega
  subst hvy
  clear hm
  have H := hid (two_zero 0 w5)
  go_wp2_with fail
  refine H.out.mono ?_
  rintro e w' ⟨rfl, rfl⟩
  clear H
  have H := hid (radd_lim (HX.out.below C5.out (Nat.le_refl _)) (HY.out.below C5.out (Nat.le_refl _)) (by omega) (by omega))
  go_wp2_with fail
  refine H.out.mono ?_
  rintro e w6 ⟨vz, zs, rfl, hZ, tZ, eZ, hb⟩
  have B6 := hid (B5.out.trans (hb.mono B5.out.size))
  have C6 := hid (C5.out.trans (hb.mono C5.out.size))
  rw [EX.out, EY.out] at eZ
  have HZ := hid hZ
  have EZ := hid eZ
  have LZ := hid (len4 tZ eZ (sum_lt LA.out LB.out))
  clear hZ tZ eZ
  clear hb H B5 C5
  have H := hid (rtext_txt HZ.out EZ.out (Nat.le_trans LZ.out (by omega)))
  go_wp2_with fail
  refine H.out.mono ?_
  rintro e w7 ⟨rfl, hb⟩
  have B7 := hid (B6.out.trans (hb.mono B6.out.size))
  have C7 := hid (C6.out.trans (hb.mono C6.out.size))
  clear HZ EZ LZ
  clear hb H B6 C6
  have H := hid (rmul_lim (HX.out.below C7.out (Nat.le_refl _)) (HY.out.below C7.out (Nat.le_refl _)) (by omega) (by omega))
  go_wp2_with fail
  refine H.out.mono ?_
  rintro e w8 ⟨vz2, zs2, rfl, hZ, tZ, eZ, hb⟩
  have B8 := hid (B7.out.trans (hb.mono B7.out.size))
  have C8 := hid (C7.out.trans (hb.mono C7.out.size))
  rw [EX.out, EY.out] at eZ
  have HZ := hid hZ
  have EZ := hid eZ
  have LZ := hid (len4 tZ eZ (prod_lt LA.out LB.out))
  clear hZ tZ eZ
  clear hb H B7 C7
  have H := hid (rtext_txt HZ.out EZ.out (Nat.le_trans LZ.out (by omega)))
  go_wp2_with fail
  refine H.out.mono ?_
  rintro e w9 ⟨rfl, hb⟩
  have B9 := hid (B8.out.trans (hb.mono B8.out.size))
  have C9 := hid (C8.out.trans (hb.mono C8.out.size))
  clear HZ EZ LZ
  clear hb H B8 C8
  have H := hid (cmp_num (HX.out.below C9.out (Nat.le_refl _)) (HY.out.below C9.out (Nat.le_refl _)) lX lY EX.out EY.out)
  go_wp2_with fail
  refine H.out.mono ?_
  rintro e w' ⟨rfl, rfl⟩
  clear H
  have H := hid (rdiv_num (HX.out.below C9.out (Nat.le_refl _)) (HY.out.below C9.out (Nat.le_refl _)) lX lY TY.out EX.out EY.out LA.out LB.out HY0.out)
  go_wp2_with fail
  refine H.out.mono ?_
  rintro e w10 ⟨vq, vr, qs, rs, rfl, hq, hr, eq, er, lq, lr, hb⟩
  have B10 := hid (B9.out.trans (hb.mono B9.out.size))
  have C10 := hid (C9.out.trans (hb.mono C9.out.size))
  have HQ := hid hq
  have HR := hid hr
  have EQ := hid eq
  have ER := hid er
  clear hq hr eq er
  clear hb H B9 C9
  have H := hid (rtext_txt HQ.out EQ.out (by omega))
  go_wp2_with fail
  refine H.out.mono ?_
  rintro e w11 ⟨rfl, hb⟩
  have B11 := hid (B10.out.trans (hb.mono B10.out.size))
  have C11 := hid (C10.out.trans (hb.mono C10.out.size))
  have HR1 := hid (HR.out.below hb (Nat.le_refl _))
  clear HQ EQ HR
  clear hb H B10 C10
  have H := hid (rtext_txt HR1.out ER.out (by omega))
  go_wp2_with fail
  refine H.out.mono ?_
  rintro e w12 ⟨rfl, hb⟩
  have B12 := hid (B11.out.trans (hb.mono B11.out.size))
  have C12 := hid (C11.out.trans (hb.mono C11.out.size))
  clear HR1 ER
  clear hb H B11 C11
  have H := hid (nat_add GA.out GB.out w12)
  go_wp2_with fail
  refine H.out.mono ?_
  rintro e w13 ⟨rfl, hb⟩
  have B13 := hid (B12.out.trans (hb.mono B12.out.size))
  have C13 := hid (C12.out.trans (hb.mono C12.out.size))
  clear hb H B12 C12
  have H := hid (same_nil w13 (HD.out.below B13.out))
  go_wp2_with fail
  refine H.out.mono ?_
  rintro e w14 ⟨rfl, hb⟩
  have B14 := hid (B13.out.trans (hb.mono B13.out.size))
  have C14 := hid (C13.out.trans (hb.mono C13.out.size))
  clear hb H B13 C13
  have H := hid (nat_mul GA.out GB.out w14)
  go_wp2_with fail
  refine H.out.mono ?_
  rintro e w15 ⟨rfl, hb⟩
  have B15 := hid (B14.out.trans (hb.mono B14.out.size))
  have C15 := hid (C14.out.trans (hb.mono C14.out.size))
  clear hb H B14 C14
  have H := hid (same_nil w15 (HD.out.below B15.out))
  go_wp2_with fail
  refine H.out.mono ?_
  rintro e w16 ⟨rfl, hb⟩
  have B16 := hid (B15.out.trans (hb.mono B15.out.size))
  have C16 := hid (C15.out.trans (hb.mono C15.out.size))
  clear hb H B15 C15
  have H := hid (nat_sub_no GA.out GB.out HLT.out w16)
  go_wp2_with fail
  refine H.out.mono ?_
  rintro e w17 ⟨rfl, hb⟩
  have B17 := hid (B16.out.trans (hb.mono B16.out.size))
  have C17 := hid (C16.out.trans (hb.mono C16.out.size))
  clear hb H B16 C16
  have H := hid (same_no 2 (by decide) w17 (HD.out.below B17.out))
  go_wp2_with fail
  refine H.out.mono ?_
  rintro e w18 ⟨rfl, hb⟩
  have B18 := hid (B17.out.trans (hb.mono B17.out.size))
  have C18 := hid (C17.out.trans (hb.mono C17.out.size))
  clear hb H B17 C17
  have H := hid (nat_div GA.out GB.out HY0.out w18)
  go_wp2_with fail
  refine H.out.mono ?_
  rintro e w19 ⟨rfl, hb⟩
  have B19 := hid (B18.out.trans (hb.mono B18.out.size))
  have C19 := hid (C18.out.trans (hb.mono C18.out.size))
  clear hb H B18 C18
  have H := hid (same_nil w19 (HD.out.below B19.out))
  go_wp2_with fail
  refine H.out.mono ?_
  rintro e w20 ⟨rfl, hb⟩
  have B20 := hid (B19.out.trans (hb.mono B19.out.size))
  have C20 := hid (C19.out.trans (hb.mono C19.out.size))
  clear hb H B19 C19
  have H := hid (less_num GA.out GB.out (decide_eq_true HLT.out) w20)
  go_wp2_with fail
  refine H.out.mono ?_
  rintro e w21 ⟨rfl, hb⟩
  have B21 := hid (B20.out.trans (hb.mono B20.out.size))
  have C21 := hid (C20.out.trans (hb.mono C20.out.size))
  clear hb H B20 C20
  have H := hid (same_nil w21 (HD.out.below B21.out))
  go_wp2_with fail
  refine H.out.mono ?_
  rintro e w22 ⟨rfl, hb⟩
  have B22 := hid (B21.out.trans (hb.mono B21.out.size))
  have C22 := hid (C21.out.trans (hb.mono C21.out.size))
  clear hb H B21 C21
  have H := hid (cmp_num (HX.out.below C22.out (Nat.le_refl _)) (HY.out.below C22.out (Nat.le_refl _)) lX lY EX.out EY.out)
  go_wp2_with fail
  refine H.out.mono ?_
  rintro e w' ⟨rfl, rfl⟩
  clear H
  go_wp2_with fail
  go_ret
  exact ⟨rfl, B22.out⟩

end Go.Proofs.YtckkbjnipacodaaDoor

namespace Go.Proofs.YtckkbjnipacodaaDoor
open Go.RowKit
open Num (dtext)
set_option linter.unusedVariables false
set_option linter.unusedSimpArgs false

set_option maxHeartbeats 16000000 in
set_option maxRecDepth 100000 in
theorem tells_zero (a b : ByteArray) (ha : Good a) (hb : Good b) (hlt : num b ≤ num a) (hy0 : num b = 0) (w : World) (hd : Door w) :
    Calls Tryd.prog 3 #[.string a, .string b] w fun e w' => e = .returned (.bool true) ∧ Below w.heap.size w w' := by
  have GA := hid ha
  have GB := hid hb
  have LA := hid (num_lt ha)
  have LB := hid (num_lt hb)
  have HD := hid hd
  have HLT := hid hlt
  have HY0 := hid hy0
  have HC := cmpv_ge hlt
  clear ha hb hd hlt hy0
  go_enter Tryd.func3, Tryd.ntmps3
  have H := hid (added_true w)
  go_wp2_with fail
  refine H.out.mono ?_
  rintro e w1 ⟨rfl, hb⟩
  have B1 := hid hb
  clear hb H
  have H := hid (natof_num GA.out w1)
  go_wp2_with fail
  refine H.out.mono ?_
  rintro e w2 ⟨vx, xs, rfl, hX, tX, eX, lX, hb⟩
  have B2 := hid (B1.out.trans (hb.mono B1.out.size))
  have HX0 := hid hX
  have EX := hid eX
  clear hX tX eX
  have BX := hid (Below.refl w2.heap.size w2)
  clear hb H B1
  have H := hid (check_good GA.out w2)
  go_wp2_with fail
  refine H.out.mono ?_
  rintro e w3 ⟨rfl, hb⟩
  have B3 := hid (B2.out.trans (hb.mono B2.out.size))
  have HX1 := hid (HX0.out.below hb (Nat.le_refl _))
  clear HX0 BX
  clear hb H B2
  have H := hid (same_nil w3 (HD.out.below B3.out))
  go_wp2_with fail
  refine H.out.mono ?_
  rintro e w4 ⟨rfl, hb⟩
  have B4 := hid (B3.out.trans (hb.mono B3.out.size))
  have HX0 := hid (HX1.out.below hb (Nat.le_refl _))
  clear HX1
  clear hb H B3
  have H := hid (natof_num GB.out w4)
  go_wp2_with fail
  refine H.out.mono ?_
  rintro e w5 ⟨vy, ys, rfl, hY, tY, eY, lY, hb⟩
  have B5 := hid (B4.out.trans (hb.mono B4.out.size))
  have HX := hid (HX0.out.below hb (Nat.le_refl _))
  have HY := hid hY
  have EY := hid eY
  have TY := hid tY
  clear HX0 hY tY eY
  clear hb H B4
  have C5 := hid (Below.refl w5.heap.size w5)
  obtain ⟨q, d, hvy, _, _, _, _⟩ := limR_parts HY.out
  obtain ⟨m, hm⟩ : ∃ m, ys.length = m := ⟨_, rfl⟩
  rw [hm] at hvy
  have hm0 : m = 0 := by
    rw [← hm, (TY.out.zero_iff).1 (by rw [EY.out]; exact HY0.out)]; rfl
  subst hm0
  subst hvy
  clear hm
  have H := hid (two_zero 0 w5)
  go_wp2_with fail
  refine H.out.mono ?_
  rintro e w' ⟨rfl, rfl⟩
  clear H
  have H := hid (radd_lim (HX.out.below C5.out (Nat.le_refl _)) (HY.out.below C5.out (Nat.le_refl _)) (by omega) (by omega))
  go_wp2_with fail
  refine H.out.mono ?_
  rintro e w6 ⟨vz, zs, rfl, hZ, tZ, eZ, hb⟩
  have B6 := hid (B5.out.trans (hb.mono B5.out.size))
  have C6 := hid (C5.out.trans (hb.mono C5.out.size))
  rw [EX.out, EY.out] at eZ
  have HZ := hid hZ
  have EZ := hid eZ
  have LZ := hid (len4 tZ eZ (sum_lt LA.out LB.out))
  clear hZ tZ eZ
  clear hb H B5 C5
  have H := hid (rtext_txt HZ.out EZ.out (Nat.le_trans LZ.out (by omega)))
  go_wp2_with fail
  refine H.out.mono ?_
  rintro e w7 ⟨rfl, hb⟩
  have B7 := hid (B6.out.trans (hb.mono B6.out.size))
  have C7 := hid (C6.out.trans (hb.mono C6.out.size))
  clear HZ EZ LZ
  clear hb H B6 C6
  have H := hid (rmul_lim (HX.out.below C7.out (Nat.le_refl _)) (HY.out.below C7.out (Nat.le_refl _)) (by omega) (by omega))
  go_wp2_with fail
  refine H.out.mono ?_
  rintro e w8 ⟨vz2, zs2, rfl, hZ, tZ, eZ, hb⟩
  have B8 := hid (B7.out.trans (hb.mono B7.out.size))
  have C8 := hid (C7.out.trans (hb.mono C7.out.size))
  rw [EX.out, EY.out] at eZ
  have HZ := hid hZ
  have EZ := hid eZ
  have LZ := hid (len4 tZ eZ (prod_lt LA.out LB.out))
  clear hZ tZ eZ
  clear hb H B7 C7
  have H := hid (rtext_txt HZ.out EZ.out (Nat.le_trans LZ.out (by omega)))
  go_wp2_with fail
  refine H.out.mono ?_
  rintro e w9 ⟨rfl, hb⟩
  have B9 := hid (B8.out.trans (hb.mono B8.out.size))
  have C9 := hid (C8.out.trans (hb.mono C8.out.size))
  clear HZ EZ LZ
  clear hb H B8 C8
  have H := hid (cmp_num (HX.out.below C9.out (Nat.le_refl _)) (HY.out.below C9.out (Nat.le_refl _)) lX lY EX.out EY.out)
  go_wp2_with fail
  refine H.out.mono ?_
  rintro e w' ⟨rfl, rfl⟩
  clear H
  have H := hid (rsub_lim (HX.out.below C9.out (Nat.le_refl _)) (HY.out.below C9.out (Nat.le_refl _)) (by omega) TY.out (by rw [EX.out, EY.out]; exact HLT.out))
  go_wp2_with fail
  refine H.out.mono ?_
  rintro e w10 ⟨vz3, zs3, rfl, hZ, tZ, eZ, hb⟩
  have B10 := hid (B9.out.trans (hb.mono B9.out.size))
  have C10 := hid (C9.out.trans (hb.mono C9.out.size))
  rw [EX.out, EY.out] at eZ
  have HZ := hid hZ
  have EZ := hid eZ
  have LZ := hid (len4 tZ eZ (Nat.lt_of_le_of_lt (Nat.sub_le _ _) LA.out))
  clear hZ tZ eZ
  clear hb H B9 C9
  have H := hid (rtext_txt HZ.out EZ.out (Nat.le_trans LZ.out (by omega)))
  go_wp2_with fail
  refine H.out.mono ?_
  rintro e w11 ⟨rfl, hb⟩
  have B11 := hid (B10.out.trans (hb.mono B10.out.size))
  have C11 := hid (C10.out.trans (hb.mono C10.out.size))
  clear HZ EZ LZ
  clear hb H B10 C10
  have H := hid (nat_add GA.out GB.out w11)
  go_wp2_with fail
  refine H.out.mono ?_
  rintro e w12 ⟨rfl, hb⟩
  have B12 := hid (B11.out.trans (hb.mono B11.out.size))
  have C12 := hid (C11.out.trans (hb.mono C11.out.size))
  clear hb H B11 C11
  have H := hid (same_nil w12 (HD.out.below B12.out))
  go_wp2_with fail
  refine H.out.mono ?_
  rintro e w13 ⟨rfl, hb⟩
  have B13 := hid (B12.out.trans (hb.mono B12.out.size))
  have C13 := hid (C12.out.trans (hb.mono C12.out.size))
  clear hb H B12 C12
  have H := hid (nat_mul GA.out GB.out w13)
  go_wp2_with fail
  refine H.out.mono ?_
  rintro e w14 ⟨rfl, hb⟩
  have B14 := hid (B13.out.trans (hb.mono B13.out.size))
  have C14 := hid (C13.out.trans (hb.mono C13.out.size))
  clear hb H B13 C13
  have H := hid (same_nil w14 (HD.out.below B14.out))
  go_wp2_with fail
  refine H.out.mono ?_
  rintro e w15 ⟨rfl, hb⟩
  have B15 := hid (B14.out.trans (hb.mono B14.out.size))
  have C15 := hid (C14.out.trans (hb.mono C14.out.size))
  clear hb H B14 C14
  have H := hid (nat_sub GA.out GB.out HLT.out w15)
  go_wp2_with fail
  refine H.out.mono ?_
  rintro e w16 ⟨rfl, hb⟩
  have B16 := hid (B15.out.trans (hb.mono B15.out.size))
  have C16 := hid (C15.out.trans (hb.mono C15.out.size))
  clear hb H B15 C15
  have H := hid (same_nil w16 (HD.out.below B16.out))
  go_wp2_with fail
  refine H.out.mono ?_
  rintro e w17 ⟨rfl, hb⟩
  have B17 := hid (B16.out.trans (hb.mono B16.out.size))
  have C17 := hid (C16.out.trans (hb.mono C16.out.size))
  clear hb H B16 C16
  have H := hid (nat_div_no GA.out GB.out HY0.out w17)
  go_wp2_with fail
  refine H.out.mono ?_
  rintro e w18 ⟨rfl, hb⟩
  have B18 := hid (B17.out.trans (hb.mono B17.out.size))
  have C18 := hid (C17.out.trans (hb.mono C17.out.size))
  clear hb H B17 C17
  have H := hid (same_no 5 (by decide) w18 (HD.out.below B18.out))
  go_wp2_with fail
  refine H.out.mono ?_
  rintro e w19 ⟨rfl, hb⟩
  have B19 := hid (B18.out.trans (hb.mono B18.out.size))
  have C19 := hid (C18.out.trans (hb.mono C18.out.size))
  clear hb H B18 C18
  have H := hid (less_num GA.out GB.out (decide_eq_false (Nat.not_lt.2 HLT.out)) w19)
  go_wp2_with fail
  refine H.out.mono ?_
  rintro e w20 ⟨rfl, hb⟩
  have B20 := hid (B19.out.trans (hb.mono B19.out.size))
  have C20 := hid (C19.out.trans (hb.mono C19.out.size))
  clear hb H B19 C19
  have H := hid (same_nil w20 (HD.out.below B20.out))
  go_wp2_with fail
  refine H.out.mono ?_
  rintro e w21 ⟨rfl, hb⟩
  have B21 := hid (B20.out.trans (hb.mono B20.out.size))
  have C21 := hid (C20.out.trans (hb.mono C20.out.size))
  clear hb H B20 C20
  have H := hid (cmp_num (HX.out.below C21.out (Nat.le_refl _)) (HY.out.below C21.out (Nat.le_refl _)) lX lY EX.out EY.out)
  go_wp2_with fail
  refine H.out.mono ?_
  rintro e w' ⟨rfl, rfl⟩
  clear H
  go_wp2_with fail
  go_ret
  exact ⟨not_less HC, B21.out⟩

end Go.Proofs.YtckkbjnipacodaaDoor

namespace Go.Proofs.YtckkbjnipacodaaDoor
open Go.RowKit
open Num (dtext)
set_option linter.unusedVariables false
set_option linter.unusedSimpArgs false

set_option maxHeartbeats 16000000 in
set_option maxRecDepth 100000 in
theorem tells_more (a b : ByteArray) (ha : Good a) (hb : Good b) (hlt : num b ≤ num a) (hy0 : 0 < num b) (w : World) (hd : Door w) :
    Calls Tryd.prog 3 #[.string a, .string b] w fun e w' => e = .returned (.bool true) ∧ Below w.heap.size w w' := by
  have GA := hid ha
  have GB := hid hb
  have LA := hid (num_lt ha)
  have LB := hid (num_lt hb)
  have HD := hid hd
  have HLT := hid hlt
  have HY0 := hid hy0
  have HC := cmpv_ge hlt
  clear ha hb hd hlt hy0
  go_enter Tryd.func3, Tryd.ntmps3
  have H := hid (added_true w)
  go_wp2_with fail
  refine H.out.mono ?_
  rintro e w1 ⟨rfl, hb⟩
  have B1 := hid hb
  clear hb H
  have H := hid (natof_num GA.out w1)
  go_wp2_with fail
  refine H.out.mono ?_
  rintro e w2 ⟨vx, xs, rfl, hX, tX, eX, lX, hb⟩
  have B2 := hid (B1.out.trans (hb.mono B1.out.size))
  have HX0 := hid hX
  have EX := hid eX
  clear hX tX eX
  have BX := hid (Below.refl w2.heap.size w2)
  clear hb H B1
  have H := hid (check_good GA.out w2)
  go_wp2_with fail
  refine H.out.mono ?_
  rintro e w3 ⟨rfl, hb⟩
  have B3 := hid (B2.out.trans (hb.mono B2.out.size))
  have HX1 := hid (HX0.out.below hb (Nat.le_refl _))
  clear HX0 BX
  clear hb H B2
  have H := hid (same_nil w3 (HD.out.below B3.out))
  go_wp2_with fail
  refine H.out.mono ?_
  rintro e w4 ⟨rfl, hb⟩
  have B4 := hid (B3.out.trans (hb.mono B3.out.size))
  have HX0 := hid (HX1.out.below hb (Nat.le_refl _))
  clear HX1
  clear hb H B3
  have H := hid (natof_num GB.out w4)
  go_wp2_with fail
  refine H.out.mono ?_
  rintro e w5 ⟨vy, ys, rfl, hY, tY, eY, lY, hb⟩
  have B5 := hid (B4.out.trans (hb.mono B4.out.size))
  have HX := hid (HX0.out.below hb (Nat.le_refl _))
  have HY := hid hY
  have EY := hid eY
  have TY := hid tY
  clear HX0 hY tY eY
  clear hb H B4
  have C5 := hid (Below.refl w5.heap.size w5)
  obtain ⟨q, d, hvy, _, _, _, _⟩ := limR_parts HY.out
  obtain ⟨m, hm⟩ : ∃ m, ys.length = m := ⟨_, rfl⟩
  rw [hm] at hvy
  have hm0 : 0 < m := by
    apply Nat.pos_of_ne_zero
    intro h
    have h1 : ys = [] := List.length_eq_zero_iff.1 (hm.trans h)
    have h2 := EY.out
    have h3 := HY0.out
    rw [h1, Num4.val_nil] at h2
    omega
  subst hvy
  clear hm
  have H := hid (two_zero 0 w5)
  go_wp2_with fail
  refine H.out.mono ?_
  rintro e w' ⟨rfl, rfl⟩
  clear H
  have H := hid (radd_lim (HX.out.below C5.out (Nat.le_refl _)) (HY.out.below C5.out (Nat.le_refl _)) (by omega) (by omega))
  go_wp2_with fail
  refine H.out.mono ?_
  rintro e w6 ⟨vz, zs, rfl, hZ, tZ, eZ, hb⟩
  have B6 := hid (B5.out.trans (hb.mono B5.out.size))
  have C6 := hid (C5.out.trans (hb.mono C5.out.size))
  rw [EX.out, EY.out] at eZ
  have HZ := hid hZ
  have EZ := hid eZ
  have LZ := hid (len4 tZ eZ (sum_lt LA.out LB.out))
  clear hZ tZ eZ
  clear hb H B5 C5
  have H := hid (rtext_txt HZ.out EZ.out (Nat.le_trans LZ.out (by omega)))
  go_wp2_with fail
  refine H.out.mono ?_
  rintro e w7 ⟨rfl, hb⟩
  have B7 := hid (B6.out.trans (hb.mono B6.out.size))
  have C7 := hid (C6.out.trans (hb.mono C6.out.size))
  clear HZ EZ LZ
  clear hb H B6 C6
  have H := hid (rmul_lim (HX.out.below C7.out (Nat.le_refl _)) (HY.out.below C7.out (Nat.le_refl _)) (by omega) (by omega))
  go_wp2_with fail
  refine H.out.mono ?_
  rintro e w8 ⟨vz2, zs2, rfl, hZ, tZ, eZ, hb⟩
  have B8 := hid (B7.out.trans (hb.mono B7.out.size))
  have C8 := hid (C7.out.trans (hb.mono C7.out.size))
  rw [EX.out, EY.out] at eZ
  have HZ := hid hZ
  have EZ := hid eZ
  have LZ := hid (len4 tZ eZ (prod_lt LA.out LB.out))
  clear hZ tZ eZ
  clear hb H B7 C7
  have H := hid (rtext_txt HZ.out EZ.out (Nat.le_trans LZ.out (by omega)))
  go_wp2_with fail
  refine H.out.mono ?_
  rintro e w9 ⟨rfl, hb⟩
  have B9 := hid (B8.out.trans (hb.mono B8.out.size))
  have C9 := hid (C8.out.trans (hb.mono C8.out.size))
  clear HZ EZ LZ
  clear hb H B8 C8
  have H := hid (cmp_num (HX.out.below C9.out (Nat.le_refl _)) (HY.out.below C9.out (Nat.le_refl _)) lX lY EX.out EY.out)
  go_wp2_with fail
  refine H.out.mono ?_
  rintro e w' ⟨rfl, rfl⟩
  clear H
  have H := hid (rsub_lim (HX.out.below C9.out (Nat.le_refl _)) (HY.out.below C9.out (Nat.le_refl _)) (by omega) TY.out (by rw [EX.out, EY.out]; exact HLT.out))
  go_wp2_with fail
  refine H.out.mono ?_
  rintro e w10 ⟨vz3, zs3, rfl, hZ, tZ, eZ, hb⟩
  have B10 := hid (B9.out.trans (hb.mono B9.out.size))
  have C10 := hid (C9.out.trans (hb.mono C9.out.size))
  rw [EX.out, EY.out] at eZ
  have HZ := hid hZ
  have EZ := hid eZ
  have LZ := hid (len4 tZ eZ (Nat.lt_of_le_of_lt (Nat.sub_le _ _) LA.out))
  clear hZ tZ eZ
  clear hb H B9 C9
  have H := hid (rtext_txt HZ.out EZ.out (Nat.le_trans LZ.out (by omega)))
  go_wp2_with fail
  refine H.out.mono ?_
  rintro e w11 ⟨rfl, hb⟩
  have B11 := hid (B10.out.trans (hb.mono B10.out.size))
  have C11 := hid (C10.out.trans (hb.mono C10.out.size))
  clear HZ EZ LZ
  clear hb H B10 C10
  have H := hid (rdiv_num (HX.out.below C11.out (Nat.le_refl _)) (HY.out.below C11.out (Nat.le_refl _)) lX lY TY.out EX.out EY.out LA.out LB.out HY0.out)
  go_wp2_with fail
  refine H.out.mono ?_
  rintro e w12 ⟨vq, vr, qs, rs, rfl, hq, hr, eq, er, lq, lr, hb⟩
  have B12 := hid (B11.out.trans (hb.mono B11.out.size))
  have C12 := hid (C11.out.trans (hb.mono C11.out.size))
  have HQ := hid hq
  have HR := hid hr
  have EQ := hid eq
  have ER := hid er
  clear hq hr eq er
  clear hb H B11 C11
  have H := hid (rtext_txt HQ.out EQ.out (by omega))
  go_wp2_with fail
  refine H.out.mono ?_
  rintro e w13 ⟨rfl, hb⟩
  have B13 := hid (B12.out.trans (hb.mono B12.out.size))
  have C13 := hid (C12.out.trans (hb.mono C12.out.size))
  have HR1 := hid (HR.out.below hb (Nat.le_refl _))
  clear HQ EQ HR
  clear hb H B12 C12
  have H := hid (rtext_txt HR1.out ER.out (by omega))
  go_wp2_with fail
  refine H.out.mono ?_
  rintro e w14 ⟨rfl, hb⟩
  have B14 := hid (B13.out.trans (hb.mono B13.out.size))
  have C14 := hid (C13.out.trans (hb.mono C13.out.size))
  clear HR1 ER
  clear hb H B13 C13
  have H := hid (nat_add GA.out GB.out w14)
  go_wp2_with fail
  refine H.out.mono ?_
  rintro e w15 ⟨rfl, hb⟩
  have B15 := hid (B14.out.trans (hb.mono B14.out.size))
  have C15 := hid (C14.out.trans (hb.mono C14.out.size))
  clear hb H B14 C14
  have H := hid (same_nil w15 (HD.out.below B15.out))
  go_wp2_with fail
  refine H.out.mono ?_
  rintro e w16 ⟨rfl, hb⟩
  have B16 := hid (B15.out.trans (hb.mono B15.out.size))
  have C16 := hid (C15.out.trans (hb.mono C15.out.size))
  clear hb H B15 C15
  have H := hid (nat_mul GA.out GB.out w16)
  go_wp2_with fail
  refine H.out.mono ?_
  rintro e w17 ⟨rfl, hb⟩
  have B17 := hid (B16.out.trans (hb.mono B16.out.size))
  have C17 := hid (C16.out.trans (hb.mono C16.out.size))
  clear hb H B16 C16
  have H := hid (same_nil w17 (HD.out.below B17.out))
  go_wp2_with fail
  refine H.out.mono ?_
  rintro e w18 ⟨rfl, hb⟩
  have B18 := hid (B17.out.trans (hb.mono B17.out.size))
  have C18 := hid (C17.out.trans (hb.mono C17.out.size))
  clear hb H B17 C17
  have H := hid (nat_sub GA.out GB.out HLT.out w18)
  go_wp2_with fail
  refine H.out.mono ?_
  rintro e w19 ⟨rfl, hb⟩
  have B19 := hid (B18.out.trans (hb.mono B18.out.size))
  have C19 := hid (C18.out.trans (hb.mono C18.out.size))
  clear hb H B18 C18
  have H := hid (same_nil w19 (HD.out.below B19.out))
  go_wp2_with fail
  refine H.out.mono ?_
  rintro e w20 ⟨rfl, hb⟩
  have B20 := hid (B19.out.trans (hb.mono B19.out.size))
  have C20 := hid (C19.out.trans (hb.mono C19.out.size))
  clear hb H B19 C19
  have H := hid (nat_div GA.out GB.out HY0.out w20)
  go_wp2_with fail
  refine H.out.mono ?_
  rintro e w21 ⟨rfl, hb⟩
  have B21 := hid (B20.out.trans (hb.mono B20.out.size))
  have C21 := hid (C20.out.trans (hb.mono C20.out.size))
  clear hb H B20 C20
  have H := hid (same_nil w21 (HD.out.below B21.out))
  go_wp2_with fail
  refine H.out.mono ?_
  rintro e w22 ⟨rfl, hb⟩
  have B22 := hid (B21.out.trans (hb.mono B21.out.size))
  have C22 := hid (C21.out.trans (hb.mono C21.out.size))
  clear hb H B21 C21
  have H := hid (less_num GA.out GB.out (decide_eq_false (Nat.not_lt.2 HLT.out)) w22)
  go_wp2_with fail
  refine H.out.mono ?_
  rintro e w23 ⟨rfl, hb⟩
  have B23 := hid (B22.out.trans (hb.mono B22.out.size))
  have C23 := hid (C22.out.trans (hb.mono C22.out.size))
  clear hb H B22 C22
  have H := hid (same_nil w23 (HD.out.below B23.out))
  go_wp2_with fail
  refine H.out.mono ?_
  rintro e w24 ⟨rfl, hb⟩
  have B24 := hid (B23.out.trans (hb.mono B23.out.size))
  have C24 := hid (C23.out.trans (hb.mono C23.out.size))
  clear hb H B23 C23
  have H := hid (cmp_num (HX.out.below C24.out (Nat.le_refl _)) (HY.out.below C24.out (Nat.le_refl _)) lX lY EX.out EY.out)
  go_wp2_with fail
  refine H.out.mono ?_
  rintro e w' ⟨rfl, rfl⟩
  clear H
  go_wp2_with fail
  go_ret
  exact ⟨not_less HC, B24.out⟩

end Go.Proofs.YtckkbjnipacodaaDoor

namespace Go.Proofs.YtckkbjnipacodaaDoor
open Go.RowKit
open Num (dtext)
set_option linter.unusedVariables false
set_option linter.unusedSimpArgs false

set_option maxHeartbeats 16000000 in
set_option maxRecDepth 100000 in
theorem tells_wrong1 (a b : ByteArray) {k : Int} (ha : Bad a k) (sa : a.size ≤ maxLen) (sb : b.size ≤ maxLen) (w : World) (hd : Door w) :
    Calls Tryd.prog 3 #[.string a, .string b] w fun e w' => e = .returned (.bool true) ∧ Below w.heap.size w w' := by
  have HD := hid hd
  have SA := hid sa
  have SB := hid sb
  have hk := ha.ne
  have GA := hid ha
  have WR := hid (show Wrong a b k from .inl ha)
  have hnb : ∃ kb : Int, (Good b ∧ kb = 0) ∨ Bad b kb := by
    rcases good_or_bad b with h | ⟨kb, h⟩
    · exact ⟨0, .inl ⟨h, rfl⟩⟩
    · exact ⟨kb, .inr h⟩
  obtain ⟨kb, hnb⟩ := hnb
  have GB := hid hnb
  clear ha hd sa sb hnb
  go_enter Tryd.func3, Tryd.ntmps3
  have H := hid (added_true w)
  go_wp2_with fail
  refine H.out.mono ?_
  rintro e w1 ⟨rfl, hb⟩
  have B1 := hid hb
  clear hb H
  have H := hid (natof_bad w1 SA.out GA.out)
  go_wp2_with fail
  refine H.out.mono ?_
  rintro e w2 ⟨rfl, hb⟩
  have B2 := hid (B1.out.trans (hb.mono B1.out.size))
  clear hb H B1
  have H := hid (check_bad GA.out w2 SA.out)
  go_wp2_with fail
  refine H.out.mono ?_
  rintro e w' ⟨rfl, rfl⟩
  clear H
  have H := hid (same_no k hk w2 (HD.out.below B2.out))
  go_wp2_with fail
  refine H.out.mono ?_
  rintro e w3 ⟨rfl, hb⟩
  have B3 := hid (B2.out.trans (hb.mono B2.out.size))
  clear hb H B2
  have H := hid (natof_any w3 SB.out GB.out)
  go_wp2_with fail
  refine H.out.mono ?_
  rintro e w4 ⟨vy, rfl, hb⟩
  have B4 := hid (B3.out.trans (hb.mono B3.out.size))
  clear hb H B3
  have H := hid (two_some k kb hk w4)
  go_wp2_with fail
  refine H.out.mono ?_
  rintro e w' ⟨rfl, rfl⟩
  clear H
  have H := hid (nat_add_bad WR.out SA.out SB.out w4)
  go_wp2_with fail
  refine H.out.mono ?_
  rintro e w5 ⟨rfl, hb⟩
  have B5 := hid (B4.out.trans (hb.mono B4.out.size))
  clear hb H B4
  have H := hid (same_no k hk w5 (HD.out.below B5.out))
  go_wp2_with fail
  refine H.out.mono ?_
  rintro e w6 ⟨rfl, hb⟩
  have B6 := hid (B5.out.trans (hb.mono B5.out.size))
  clear hb H B5
  have H := hid (nat_mul_bad WR.out SA.out SB.out w6)
  go_wp2_with fail
  refine H.out.mono ?_
  rintro e w7 ⟨rfl, hb⟩
  have B7 := hid (B6.out.trans (hb.mono B6.out.size))
  clear hb H B6
  have H := hid (same_no k hk w7 (HD.out.below B7.out))
  go_wp2_with fail
  refine H.out.mono ?_
  rintro e w8 ⟨rfl, hb⟩
  have B8 := hid (B7.out.trans (hb.mono B7.out.size))
  clear hb H B7
  have H := hid (nat_sub_bad WR.out SA.out SB.out w8)
  go_wp2_with fail
  refine H.out.mono ?_
  rintro e w9 ⟨rfl, hb⟩
  have B9 := hid (B8.out.trans (hb.mono B8.out.size))
  clear hb H B8
  have H := hid (same_no k hk w9 (HD.out.below B9.out))
  go_wp2_with fail
  refine H.out.mono ?_
  rintro e w10 ⟨rfl, hb⟩
  have B10 := hid (B9.out.trans (hb.mono B9.out.size))
  clear hb H B9
  have H := hid (nat_div_bad WR.out SA.out SB.out w10)
  go_wp2_with fail
  refine H.out.mono ?_
  rintro e w11 ⟨rfl, hb⟩
  have B11 := hid (B10.out.trans (hb.mono B10.out.size))
  clear hb H B10
  have H := hid (same_no k hk w11 (HD.out.below B11.out))
  go_wp2_with fail
  refine H.out.mono ?_
  rintro e w12 ⟨rfl, hb⟩
  have B12 := hid (B11.out.trans (hb.mono B11.out.size))
  clear hb H B11
  have H := hid (nat_less_bad WR.out SA.out SB.out w12)
  go_wp2_with fail
  refine H.out.mono ?_
  rintro e w13 ⟨rfl, hb⟩
  have B13 := hid (B12.out.trans (hb.mono B12.out.size))
  clear hb H B12
  have H := hid (same_no k hk w13 (HD.out.below B13.out))
  go_wp2_with fail
  refine H.out.mono ?_
  rintro e w14 ⟨rfl, hb⟩
  have B14 := hid (B13.out.trans (hb.mono B13.out.size))
  clear hb H B13
  go_wp2_with fail
  go_ret
  exact ⟨rfl, B14.out⟩

end Go.Proofs.YtckkbjnipacodaaDoor

namespace Go.Proofs.YtckkbjnipacodaaDoor
open Go.RowKit
open Num (dtext)
set_option linter.unusedVariables false
set_option linter.unusedSimpArgs false

set_option maxHeartbeats 16000000 in
set_option maxRecDepth 100000 in
theorem tells_wrong2 (a b : ByteArray) {k : Int} (ha : Good a) (hb : Bad b k) (sa : a.size ≤ maxLen) (sb : b.size ≤ maxLen) (w : World) (hd : Door w) :
    Calls Tryd.prog 3 #[.string a, .string b] w fun e w' => e = .returned (.bool true) ∧ Below w.heap.size w w' := by
  have HD := hid hd
  have SA := hid sa
  have SB := hid sb
  have hk := hb.ne
  have GA := hid ha
  have GB := hid (show (Good b ∧ k = 0) ∨ Bad b k from .inr hb)
  have WR := hid (show Wrong a b k from .inr ⟨ha, hb⟩)
  clear ha hb hd sa sb
  go_enter Tryd.func3, Tryd.ntmps3
  have H := hid (added_true w)
  go_wp2_with fail
  refine H.out.mono ?_
  rintro e w1 ⟨rfl, hb⟩
  have B1 := hid hb
  clear hb H
  have H := hid (natof_num GA.out w1)
  go_wp2_with fail
  refine H.out.mono ?_
  rintro e w2 ⟨vx, xs, rfl, _, _, _, _, hb⟩
  have B2 := hid (B1.out.trans (hb.mono B1.out.size))
  clear hb H B1
  have H := hid (check_good GA.out w2)
  go_wp2_with fail
  refine H.out.mono ?_
  rintro e w3 ⟨rfl, hb⟩
  have B3 := hid (B2.out.trans (hb.mono B2.out.size))
  clear hb H B2
  have H := hid (same_nil w3 (HD.out.below B3.out))
  go_wp2_with fail
  refine H.out.mono ?_
  rintro e w4 ⟨rfl, hb⟩
  have B4 := hid (B3.out.trans (hb.mono B3.out.size))
  clear hb H B3
  have H := hid (natof_any w4 SB.out GB.out)
  go_wp2_with fail
  refine H.out.mono ?_
  rintro e w5 ⟨vy, rfl, hb⟩
  have B5 := hid (B4.out.trans (hb.mono B4.out.size))
  clear hb H B4
  have H := hid (two_zero k w5)
  go_wp2_with fail
  refine H.out.mono ?_
  rintro e w' ⟨rfl, rfl⟩
  clear H
  have H := hid (nat_add_bad WR.out SA.out SB.out w5)
  go_wp2_with fail
  refine H.out.mono ?_
  rintro e w6 ⟨rfl, hb⟩
  have B6 := hid (B5.out.trans (hb.mono B5.out.size))
  clear hb H B5
  have H := hid (same_no k hk w6 (HD.out.below B6.out))
  go_wp2_with fail
  refine H.out.mono ?_
  rintro e w7 ⟨rfl, hb⟩
  have B7 := hid (B6.out.trans (hb.mono B6.out.size))
  clear hb H B6
  have H := hid (nat_mul_bad WR.out SA.out SB.out w7)
  go_wp2_with fail
  refine H.out.mono ?_
  rintro e w8 ⟨rfl, hb⟩
  have B8 := hid (B7.out.trans (hb.mono B7.out.size))
  clear hb H B7
  have H := hid (same_no k hk w8 (HD.out.below B8.out))
  go_wp2_with fail
  refine H.out.mono ?_
  rintro e w9 ⟨rfl, hb⟩
  have B9 := hid (B8.out.trans (hb.mono B8.out.size))
  clear hb H B8
  have H := hid (nat_sub_bad WR.out SA.out SB.out w9)
  go_wp2_with fail
  refine H.out.mono ?_
  rintro e w10 ⟨rfl, hb⟩
  have B10 := hid (B9.out.trans (hb.mono B9.out.size))
  clear hb H B9
  have H := hid (same_no k hk w10 (HD.out.below B10.out))
  go_wp2_with fail
  refine H.out.mono ?_
  rintro e w11 ⟨rfl, hb⟩
  have B11 := hid (B10.out.trans (hb.mono B10.out.size))
  clear hb H B10
  have H := hid (nat_div_bad WR.out SA.out SB.out w11)
  go_wp2_with fail
  refine H.out.mono ?_
  rintro e w12 ⟨rfl, hb⟩
  have B12 := hid (B11.out.trans (hb.mono B11.out.size))
  clear hb H B11
  have H := hid (same_no k hk w12 (HD.out.below B12.out))
  go_wp2_with fail
  refine H.out.mono ?_
  rintro e w13 ⟨rfl, hb⟩
  have B13 := hid (B12.out.trans (hb.mono B12.out.size))
  clear hb H B12
  have H := hid (nat_less_bad WR.out SA.out SB.out w13)
  go_wp2_with fail
  refine H.out.mono ?_
  rintro e w14 ⟨rfl, hb⟩
  have B14 := hid (B13.out.trans (hb.mono B13.out.size))
  clear hb H B13
  have H := hid (same_no k hk w14 (HD.out.below B14.out))
  go_wp2_with fail
  refine H.out.mono ?_
  rintro e w15 ⟨rfl, hb⟩
  have B15 := hid (B14.out.trans (hb.mono B14.out.size))
  clear hb H B14
  go_wp2_with fail
  go_ret
  exact ⟨rfl, B15.out⟩

end Go.Proofs.YtckkbjnipacodaaDoor

namespace Go.Proofs.YtckkbjnipacodaaDoor
open Go.RowKit

theorem tells_walk (a b : ByteArray) (sa : a.size ≤ maxLen) (sb : b.size ≤ maxLen) (w : World) (hd : Door w) :
    Calls Tryd.prog 3 #[.string a, .string b] w fun e w' => e = .returned (.bool true) ∧ Below w.heap.size w w' := by
  rcases good_or_bad a with ha | ⟨k, ha⟩
  · rcases good_or_bad b with hb | ⟨k, hb⟩
    · by_cases h : num a < num b
      · exact tells_less a b ha hb h (by omega) w hd
      · by_cases h0 : num b = 0
        · exact tells_zero a b ha hb (by omega) h0 w hd
        · exact tells_more a b ha hb (by omega) (by omega) w hd
    · exact tells_wrong2 a b ha hb sa sb w hd
  · exact tells_wrong1 a b ha sa sb w hd

end Go.Proofs.YtckkbjnipacodaaDoor
