import Derived.Test.YtckkbjnipacodaaLaw
import Derived.Test.YtckkbjnipacodaaNatDiv
namespace Go.Proofs.Ytckkbjnipacodaa
open Go.RowKit
open Num
set_option linter.unusedVariables false
set_option linter.unusedSimpArgs false

theorem good_ten : Good ⟨#[49, 48]⟩ := ⟨by decide, by decide⟩
theorem num_ten : num ⟨#[49, 48]⟩ = 10 := by decide
theorem txt_small {n : Nat} (h : n < 10) : txt n = ⟨#[dch n]⟩ := by rw [txt, dtext_small h]
theorem txt_zero : txt 0 = ⟨#[48]⟩ := txt_small (by omega)

theorem bytes_eq {a b : ByteArray} (h : a.data.toList = b.data.toList) : a = b := by
  cases a with
  | mk x => cases b with
    | mk y => congr 1; exact Array.toList_inj.1 h
theorem toList_48 : (⟨#[48]⟩ : ByteArray).toList = [48] := by rw [ByteArray.toList_eq]

theorem dtext_ten {n : Nat} (h : 0 < n) : dtext (n * 10) = dtext n ++ [48] := by
  rw [dtext_big (by omega), Nat.mul_div_cancel _ (by omega), Nat.mul_mod_left]; rfl
theorem ten_facts {a : ByteArray} (hg : Good a) (h : 0 < num a) : txt (num a * 10) = a ++ ⟨#[48]⟩ ∧ txt (num a % 10) = a.extract (a.size - 1) a.size ∧ (a.size = 1 → txt (num a / 10) = ⟨#[48]⟩) ∧ (1 < a.size → txt (num a / 10) = a.extract 0 (a.size - 1)) := by
  have e := txt_num hg
  have el : a.data.toList = dtext (num a) := by rw [← txt_list, e]
  have hs : a.size = (dtext (num a)).length := by rw [← el]; rfl
  have hx : ∀ i j, (a.extract i j).data.toList = ((dtext (num a)).drop i).take (j - i) := by
    intro i j
    rw [ByteArray.data_extract, Array.toList_extract, List.extract_eq_take_drop, el]
  generalize num a = N at *
  refine ⟨?_, ?_, ?_, ?_⟩
  · apply bytes_eq
    rw [txt_list, dtext_ten h, ByteArray.data_append, Array.toList_append, el]
  · apply bytes_eq
    rw [txt_list, hx, hs]
    by_cases hN : N < 10
    · rw [dtext_small hN, Nat.mod_eq_of_lt hN, dtext_small hN]; rfl
    · rw [dtext_big hN, dtext_small (Nat.mod_lt _ (by omega)), List.length_append, List.length_singleton, Nat.add_sub_cancel, List.drop_left]; simp
  · intro h1
    by_cases hN : N < 10
    · rw [Nat.div_eq_of_lt hN]; exact txt_zero
    · rw [hs, dtext_big hN, List.length_append, List.length_singleton] at h1
      have := List.length_pos_iff.2 (dtext_ne (N / 10))
      omega
  · intro h1
    by_cases hN : N < 10
    · rw [hs, dtext_small hN] at h1; simp at h1
    · apply bytes_eq
      rw [txt_list, hx, hs, dtext_big hN, List.length_append, List.length_singleton, Nat.add_sub_cancel]; simp

set_option maxHeartbeats 2000000 in
theorem ten_walk (a : ByteArray) (ha : a.size ≤ maxLen) (w : World) :
    Calls Try.prog 10 #[.string a] w fun e w' => e = .returned (.bool true) ∧ Below w.heap.size w w' := by
  rcases good_or_bad a with hg | ⟨k, hb⟩
  · have H1 := hid (nat_mul hg good_ten)
    have H2 := hid (nat_div hg good_ten (by rw [num_ten]; omega))
    rw [num_ten] at H1 H2
    by_cases h0 : a = ⟨#[48]⟩
    · have e0 : num a = 0 := by rw [h0]; decide
      rw [e0, Nat.zero_mul, txt_zero] at H1
      rw [e0, Nat.zero_div, Nat.zero_mod, txt_zero] at H2
      subst h0
      clear hg e0
      go_enter Try.func10, Try.ntmps10
      go_wp2_with fail
      refine (H1.out _).mono ?_
      rintro e w1 ⟨rfl, b1⟩
      go_wp2_with fail
      refine (H2.out _).mono ?_
      rintro e w2 ⟨rfl, b2⟩
      go_wp2_with fail
      refine (nine_one w2).mono ?_
      rintro e w3 ⟨rfl, b3⟩
      have B3 := hid ((b1.trans (b2.mono b1.size)).trans (b3.mono (Nat.le_trans b1.size b2.size)))
      clear b1 b2 b3
      go_wp2_with fail
      go_ret
      exact ⟨rfl, B3.out⟩
    · have hN : 0 < num a := by
        apply Nat.pos_of_ne_zero
        intro e
        have := txt_num hg
        rw [e, txt_zero] at this
        exact h0 this.symm
      have hne : (a.toList == [48]) = false := by
        rw [beq_eq_false_iff_ne]
        intro e
        rw [ByteArray.toList_eq] at e
        exact h0 (bytes_eq e)
      have hpos : 0 < a.size := by
        have h1 := isNat_ne hg.2
        have h2 : a.data.toList.length = a.size := rfl
        have h3 := List.length_pos_iff.2 h1
        omega
      have HN := hid hN
      have HG := hid hg
      obtain ⟨f1, f2, f3, f4⟩ := ten_facts hg hN
      have F1 := hid f1
      have F2 := hid f2
      have F3 := hid f3
      have F4 := hid f4
      have h100 : a.size ≤ 100 := hg.1
      clear hg h0 hN f1 f2 f3 f4 ha
      go_enter Try.func10, Try.ntmps10
      go_wp2_with fail
      refine (H1.out _).mono ?_
      rintro e w1 ⟨rfl, b1⟩
      go_wp2_with fail
      refine (H2.out _).mono ?_
      rintro e w2 ⟨rfl, b2⟩
      go_wp2_with fail
      refine (nine_one w2).mono ?_
      rintro e w3 ⟨rfl, b3⟩
      have B3 := hid ((b1.trans (b2.mono b1.size)).trans (b3.mono (Nat.le_trans b1.size b2.size)))
      clear b1 b2 b3
      go_wp2_with fail
      all_goals
        go_ret
        refine ⟨?_, B3.out⟩
        first
        | rfl
        | exact absurd (congrArg ByteArray.toList F1.out) (by assumption)
        | exact absurd (congrArg ByteArray.toList F2.out) (by assumption)
        | exact absurd ((congrArg ByteArray.toList (F3.out (by omega))).trans toList_48) (by assumption)
        | (rw [F4.out (by omega)]; exact ret_bool (by simp))
  · have hne := errv_neq
    have hgd := errv_guard
    have hw : Wrong a ⟨#[49, 48]⟩ k := .inl hb
    have hk : (k != 0) = true := by simpa using hb.ne
    have H1 := nat_mul_bad hw ha (by unfold maxLen; decide)
    have H2 := nat_div_bad hw ha (by unfold maxLen; decide)
    rw [← errv_some hb.ne] at H1 H2
    have H1 := hid H1
    have H2 := hid H2
    clear hw hb
    go_enter Try.func10, Try.ntmps10
    go_wp2_with fail
    refine (H1.out _).mono ?_
    rintro e w1 ⟨rfl, b1⟩
    go_wp2_with fail
    refine (H2.out _).mono ?_
    rintro e w2 ⟨rfl, b2⟩
    go_wp2_with fail
    refine (nine_one w2).mono ?_
    rintro e w3 ⟨rfl, b3⟩
    have B3 := hid ((b1.trans (b2.mono b1.size)).trans (b3.mono (Nat.le_trans b1.size b2.size)))
    clear b1 b2 b3
    go_wp2_with fail
    go_ret
    exact ⟨rfl, B3.out⟩

end Go.Proofs.Ytckkbjnipacodaa

