import Derived.Test.YtjeeepcnaaadmaaString2
namespace Go.Proofs.Ytjeeepcnaaadmaa
open Go.RowKit
open Num
set_option linter.unusedVariables false
set_option maxRecDepth 100000
set_option linter.unusedSimpArgs false

/-- A natural that may be handed in. -/
def Good (s : ByteArray) : Prop := s.size ≤ 100 ∧ isNat s.data.toList = true
/-- What is wrong with a text. -/
def Bad (s : ByteArray) (k : Int) : Prop := (100 < s.size ∧ k = 4) ∨ (s.size ≤ 100 ∧ isNat s.data.toList = false ∧ k = 1)
theorem good_or_bad (s : ByteArray) : Good s ∨ ∃ k, Bad s k := by
  by_cases h : s.size ≤ 100
  · cases hn : isNat s.data.toList with
    | true => exact .inl ⟨h, hn⟩
    | false => exact .inr ⟨1, .inr ⟨h, hn, rfl⟩⟩
  · exact .inr ⟨4, .inl ⟨by omega, rfl⟩⟩
/-- The number of a text. -/
def num (s : ByteArray) : Nat := dval s.data.toList
theorem num_txt (n : Nat) : num (txt n) = n := by rw [num, txt_list, dval_dtext]
theorem txt_num {s : ByteArray} (h : Good s) : txt (num s) = s := by
  have e := dtext_dval h.2
  rw [txt, num, e]
theorem txt_inj {a b : Nat} (h : txt a = txt b) : a = b := by
  have := congrArg num h
  rwa [num_txt, num_txt] at this
theorem isNat_txt (n : Nat) : isNat (txt n).data.toList = true := by rw [txt_list]; exact isNat_dtext n
theorem size_txt (n : Nat) : (txt n).size = (dtext n).length := by
  show (txt n).data.toList.length = _
  rw [txt_list]
theorem size_txt_le {n k : Nat} (h : n < 10 ^ k) (hk : 0 < k) : (txt n).size ≤ k := by rw [size_txt]; exact length_dtext_le h hk
theorem num_lt {s : ByteArray} (h : Good s) : num s < 10 ^ 100 := by
  have h1 := dval_lt (isNat_all h.2)
  have h2 : s.data.toList.length = s.size := rfl
  exact Nat.lt_of_lt_of_le h1 (Nat.pow_le_pow_right (by omega) (by rw [h2]; exact h.1))

set_option maxHeartbeats 400000 in
theorem read_bad {s : ByteArray} {k : Int} (h : Bad s k) (w : World) (hs : s.size ≤ maxLen) :
    Calls Try.prog 95 #[.string s] w fun e w' => e = .returned (.tuple #[.slice none 0 0, errno k]) ∧ w = w' := by
  rcases h with ⟨h, rfl⟩ | ⟨h, hn, rfl⟩
  · unfold maxLen at hs
    go_enter Try.func95, Try.ntmps95
    go_wp2_with fail
    go_ret2
    exact ⟨rfl, rfl⟩
  · have HP := hid (parse_no s w hs hn)
    clear hn
    unfold maxLen at hs
    go_enter Try.func95, Try.ntmps95
    go_wp2_with fail
    refine HP.out.mono ?_
    rintro e w' ⟨rfl, rfl⟩
    go_wp2_with fail
    go_ret2
    exact ⟨rfl, rfl⟩

set_option maxHeartbeats 400000 in
theorem read_good {s : ByteArray} (h : Good s) (w : World) :
    Calls Try.prog 95 #[.string s] w fun e w' => ∃ v xs, e = .returned (.tuple #[v, .nilIface]) ∧ Lim w' v xs ∧ val xs = num s ∧ xs.length ≤ 100 ∧ Below w.heap.size w w' := by
  obtain ⟨h1, h2⟩ := h
  have HP := hid (parse_yes s w (by omega) h2)
  clear h2
  go_enter Try.func95, Try.ntmps95
  go_wp2_with fail
  refine HP.out.mono ?_
  rintro e w' ⟨v, xs, rfl, hO, hv, hl, hb⟩
  have HO := hid hO
  have HV := hid hv
  clear hO hv
  go_wp2_with fail
  go_ret2
  exact ⟨v, xs, rfl, HO.out.lim, HV.out, by omega, hb⟩

set_option maxHeartbeats 400000 in
theorem check_bad {s : ByteArray} {k : Int} (h : Bad s k) (w : World) (hs : s.size ≤ maxLen) :
    Calls Try.prog 69 #[.string s] w fun e w' => e = .returned (errno k) ∧ w = w' := by
  have HP := hid (read_bad h w hs)
  clear h
  go_enter Try.func69, Try.ntmps69
  go_wp2_with fail
  refine HP.out.mono ?_
  rintro e w' ⟨rfl, rfl⟩
  go_wp2_with fail
  go_ret
  exact ⟨rfl, rfl⟩

set_option maxHeartbeats 400000 in
theorem check_good {s : ByteArray} (h : Good s) (w : World) :
    Calls Try.prog 69 #[.string s] w fun e w' => e = .returned .nilIface ∧ Below w.heap.size w w' := by
  have HP := hid (read_good h w)
  clear h
  go_enter Try.func69, Try.ntmps69
  go_wp2_with fail
  refine HP.out.mono ?_
  rintro e w' ⟨v, xs, rfl, hO, hv, hl, hb⟩
  clear hv
  go_wp2_with fail
  go_ret
  exact ⟨rfl, hb⟩

/-- A block of one cell. -/
def One (w : World) (g : Nat) (v : Value) (t : TypeId) : Prop := w.heap[g]? = some (.cells #[v] t (0, 0))

/-- What a piece of work over two numbers does. -/
def Works (K : Nat) (caps : Array Value) (w : World) (a b : Nat) (Post : Value → World → Prop) : Prop :=
  ∀ (w1 : World) (vx vy : Value) (xs ys : List Nat), Below w.heap.size w w1 → Lim w1 vx xs → Lim w1 vy ys → val xs = a → val ys = b → xs.length ≤ 100 → ys.length ≤ 100 →
    Calls Try.prog K (#[vx, vy] ++ caps) w1 fun e w' => ∃ v, e = .returned v ∧ Post v w'

/-- The error of two texts. -/
def Wrong (a b : ByteArray) (k : Int) : Prop := Bad a k ∨ (Good a ∧ Bad b k)
theorem right_or_wrong (a b : ByteArray) : (Good a ∧ Good b) ∨ ∃ k, Wrong a b k := by
  rcases good_or_bad a with ha | ⟨k, ha⟩
  · rcases good_or_bad b with hb | ⟨k, hb⟩
    · exact .inl ⟨ha, hb⟩
    · exact .inr ⟨k, .inr ⟨ha, hb⟩⟩
  · exact .inr ⟨k, .inl ha⟩

theorem string_lim {w : World} {v : Value} {xs : List Nat} (h : Lim w v xs) (hn : xs.length ≤ 68719476736) :
    Calls Try.prog 67 #[v] w fun e w' => e = .returned (.string (txt (val xs))) ∧ Below w.heap.size w w' := by
  by_cases hz : val xs = 0
  · rw [hz]; exact string_zero h hz (by omega)
  · exact string_pos h (by omega) hn

theorem One.cell {w : World} {g : Nat} {v : Value} {t : TypeId} (h : One w g v t) : w.cell? ⟨g, 0, none⟩ = some v := cell_of_one h
theorem One.free {w : World} {g : Nat} {v : Value} {t : TypeId} (h : One w g v t) : w.frozen? ⟨g, 0, none⟩ = false := free_of_one h
theorem One.lt {w : World} {g : Nat} {v : Value} {t : TypeId} (h : One w g v t) : g < w.heap.size := lt_of_block h
theorem One.set {w : World} {g : Nat} {v : Value} {t : TypeId} (h : One w g v t) (u : Value) : One (w.setCell ⟨g, 0, none⟩ u) g u t := one_setCell h
theorem One.below {w w' : World} {g K : Nat} {v : Value} {t : TypeId} (h : One w g v t) (hb : Below K w w') (hK : g < K) : One w' g v t := (hb.block g hK).trans h
theorem One.new (w : World) (v : Value) (t : TypeId) : One (w.alloc (.cells #[v] t)) w.heap.size v t := by
  show (w.heap.push _)[w.heap.size]? = _
  simp

theorem few_limbs {xs : List Nat} (hf : Fits xs) {k : Nat} (hl : xs.length ≤ k) : val xs < B ^ k :=
  Nat.lt_of_lt_of_le (val_lt hf) (Nat.pow_le_pow_right B_pos hl)

/-- What a piece of work leaves: a text in the caller's variable, no error. -/
def Left (w : World) (g : Nat) (s : ByteArray) : Value → World → Prop := fun v w' => v = .nilIface ∧ One w' g (.string s) 9 ∧ Below g w w'

theorem pow_sum {x y : Nat} (h1 : x < B ^ 100) (h2 : y < B ^ 100) : x + y < B ^ 101 := by
  have h3 : ∀ k : Nat, x < B ^ k → y < B ^ k → x + y < B ^ (k + 1) := by
    intro k h1 h2
    rw [Nat.pow_succ, B_eq] at *
    omega
  exact h3 100 h1 h2
theorem pow_prod {x y : Nat} (h1 : x < B ^ 100) (h2 : y < B ^ 100) : x * y < B ^ 200 := by
  rw [show (200 : Nat) = 100 + 100 from rfl, Nat.pow_add]
  exact Nat.mul_lt_mul'' h1 h2

end Go.Proofs.Ytjeeepcnaaadmaa

