import Derived.Test.YtkdeopikojgboaaGreatDoorBunProofIvalTells7
import Derived.Test.YtkdeopikojgboaaGreatDoorBunProofIvalTells6
import Derived.Test.YtkdeopikojgboaaGreatDoorBunProofIvalTells11
import Derived.Test.YtkdeopikojgboaaGreatDoorBunProofIvalTells8
namespace Go.Proofs.YtkdeopikojgboaaGreatDoor
open Go.RowKit
open Num (dtext)
set_option linter.unusedVariables false
set_option linter.unusedSimpArgs false

theorem rtext_txt {w : World} {v : Value} {xs : List Nat} {n : Nat} (h : LimR w v xs) (hv : Num4.val xs = n) (hn : xs.length ≤ 1099511627776) :
    Calls Tryz.prog 33 #[v] w fun e w' => e = .returned (.string (txt n)) ∧ Below w.heap.size w w' := by
  subst hv; exact rtext_lim h hn

theorem same_nil (w : World) (hd : Door w) : Calls Tryz.prog 6 #[.nilIface, .int .i64 0] w fun r w' => r = .returned (.bool true) ∧ Below w.heap.size w w' := same_error 0 0 w hd
theorem same_no (k : Int) (hk : k ≠ 0) (w : World) (hd : Door w) : Calls Tryz.prog 6 #[errno k, .int .i64 k] w fun r w' => r = .returned (.bool true) ∧ Below w.heap.size w w' := by
  have h := same_error k k w hd
  rw [if_neg hk, beq_self_eq_true] at h
  exact h

theorem two_zero (e : Int) (w : World) : Calls Tryz.prog 9 #[.int .i64 0, .int .i64 e] w fun r w' => r = .returned (.int .i64 e) ∧ w = w' := by
  go_enter Tryz.func9, Tryz.ntmps9
  go_wp2_with fail
  go_ret
  exact ⟨rfl, rfl⟩
theorem two_some (k e : Int) (hk : k ≠ 0) (w : World) : Calls Tryz.prog 9 #[.int .i64 k, .int .i64 e] w fun r w' => r = .returned (.int .i64 k) ∧ w = w' := by
  go_enter Tryz.func9, Tryz.ntmps9
  go_wp2_with fail
  go_ret
  exact ⟨rfl, rfl⟩

theorem len4 {zs : List Nat} {n k : Nat} (ht : Num4.Trim zs) (hv : Num4.val zs = n) (hn : n < 10 ^ k) : zs.length ≤ k :=
  Num4.length_le_of_val ht k (by rw [hv]; exact Nat.lt_of_lt_of_le hn (pow10_le k))

/-- A text that is a natural is read. -/
theorem natof_num {s : ByteArray} (h : Good s) (w : World) : Calls Tryz.prog 26 #[.string s] w fun e w' => ∃ v xs, e = .returned (.tuple #[v, .int .i64 0]) ∧ LimR w' v xs ∧ Num4.Trim xs ∧ Num4.val xs = num s ∧ xs.length ≤ 100 ∧ Below w.heap.size w w' := by
  refine (natof_good w h.1 h.2).mono ?_
  rintro e w' ⟨v, xs, rfl, h1, h2, h3, h4⟩
  exact ⟨v, xs, rfl, h1, h2, h3, len4 h2 h3 (num_lt h), h4⟩

theorem sum_lt {x y : Nat} (hx : x < 10 ^ 100) (hy : y < 10 ^ 100) : x + y < 10 ^ 101 := by
  rw [Nat.pow_succ]; omega
theorem prod_lt {x y : Nat} (hx : x < 10 ^ 100) (hy : y < 10 ^ 100) : x * y < 10 ^ 200 := by
  rw [show (200 : Nat) = 100 + 100 from rfl, Nat.pow_add]
  exact Nat.mul_lt_mul'' hx hy
theorem cmpv_lt {a b : Nat} (h : a < b) : cmpv a b = -1 := by rw [cmpv, if_pos h]
theorem cmpv_ge {a b : Nat} (h : b ≤ a) : ¬ cmpv a b < 0 := by
  rw [cmpv, if_neg (by omega)]; split <;> decide

/-- Division by the reference, in the kit's words. -/
theorem rdiv_num {w : World} {v u : Value} {xs ys : List Nat} {x y : Nat} (h1 : LimR w v xs) (h2 : LimR w u ys) (l1 : xs.length ≤ 100) (l2 : ys.length ≤ 100) (ty : Num4.Trim ys) (ex : Num4.val xs = x) (ey : Num4.val ys = y) (hx : x < 10 ^ 100) (h100 : y < 10 ^ 100) (hy : 0 < y) :
    Calls Tryz.prog 50 #[v, u] w fun e w' => ∃ v' u' qs zs, e = .returned (.tuple #[v', u']) ∧ LimR w' v' qs ∧ LimR w' u' zs ∧ Num4.val qs = x / y ∧ Num4.val zs = x % y ∧ qs.length ≤ 100 ∧ zs.length ≤ 100 ∧ Below w.heap.size w w' := by
  refine (rdiv_lim h1 h2 (by omega) (by omega) ty (by rw [ey]; exact hy)).mono ?_
  rintro e w' ⟨v', u', qs, zs, rfl, g1, g2, g3, g4, g5, g6, g7⟩
  rw [ex, ey] at g5
  rw [ey] at g6
  have e1 : x / y = Num4.val qs := by
    rw [g5, Nat.mul_comm, Nat.mul_add_div hy, Nat.div_eq_of_lt g6]; omega
  have e2 : x % y = Num4.val zs := by
    rw [g5, Nat.mul_comm, Nat.mul_add_mod, Nat.mod_eq_of_lt g6]
  refine ⟨v', u', qs, zs, rfl, g1, g2, e1.symm, e2.symm, ?_, ?_, g7⟩
  · exact len4 g3 e1.symm (Nat.lt_of_le_of_lt (Nat.div_le_self _ _) hx)
  · exact len4 g4 e2.symm (Nat.lt_of_le_of_lt (Nat.le_of_lt (Nat.mod_lt _ hy)) h100)

theorem cmp_num {w : World} {v u : Value} {xs ys : List Nat} {x y : Nat} (h1 : LimR w v xs) (h2 : LimR w u ys) (l1 : xs.length ≤ 100) (l2 : ys.length ≤ 100) (ex : Num4.val xs = x) (ey : Num4.val ys = y) :
    Calls Tryz.prog 27 #[v, u] w fun e w' => e = .returned (.int .i64 (cmpv x y)) ∧ w = w' := by
  subst ex ey
  exact cmp_lim h1 h2 (by omega) (by omega)
theorem not_less {z : Int} (h : 0 ≤ z) : Ending.returned (.bool (!decide (z < 0))) = Ending.returned (.bool true) := by rw [decide_eq_false (by omega)]; rfl
theorem natof_any {s : ByteArray} {k : Int} (w : World) (h63 : s.size ≤ maxLen) (h : (Good s ∧ k = 0) ∨ Bad s k) :
    Calls Tryz.prog 26 #[.string s] w fun e w' => ∃ v, e = .returned (.tuple #[v, .int .i64 k]) ∧ Below w.heap.size w w' := by
  rcases h with ⟨h, rfl⟩ | h
  · refine (natof_num h w).mono ?_
    rintro e w' ⟨v, xs, rfl, _, _, _, _, hb⟩
    exact ⟨v, rfl, hb⟩
  · refine (natof_bad w h63 h).mono ?_
    rintro e w' ⟨rfl, hb⟩
    exact ⟨_, rfl, hb⟩

end Go.Proofs.YtkdeopikojgboaaGreatDoor
