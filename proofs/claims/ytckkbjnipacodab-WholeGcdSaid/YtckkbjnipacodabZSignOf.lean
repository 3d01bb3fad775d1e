/-
  THE SIGN OF A TEXT.
-/
import Derived.Test.YtckkbjnipacodabWholeAny
namespace Go.Proofs.Ytckkbjnipacodab
open Go.RowKit
open Num
set_option linter.unusedVariables false
set_option maxRecDepth 100000
set_option linter.unusedSimpArgs false

theorem ztxt_nat (n : Nat) : ztxt (n : Int) = txt n := by
  unfold ztxt
  rw [if_neg (by omega)]
  rfl
theorem ztxt_minus {s : ByteArray} {z : Int} (hs : s = ztxt z) (hz : z < 0) : 0 < s.size ∧ s.toList.isEmpty = false ∧ ¬ s.toList = [] ∧ (∀ h : 0 < s.size, (s[0].toNat : Int) = 45) ∧ s.extract 1 s.size = txt z.natAbs := by
  have hl : s.data.toList = 45 :: dtext z.natAbs := by rw [hs, ztxt_list, if_pos hz]
  have hn : s.data.toList.length = s.size := rfl
  have ht : s.toList = 45 :: dtext z.natAbs := by rw [ByteArray.toList_eq, hl]
  refine ⟨by rw [hl] at hn; simp at hn; omega, by rw [ht]; rfl, by rw [ht]; simp, fun h => ?_, ?_⟩
  · have h1 := head_at s h
    rw [hl] at h1
    simp only [List.head?_cons, Option.some.injEq] at h1
    rw [← h1]; rfl
  · have h1 := extract_end s 1
    rw [hl] at h1
    generalize s.extract 1 s.size = t at h1 ⊢
    obtain ⟨⟨t⟩⟩ := t
    simp only [List.drop_one, List.tail_cons] at h1
    rw [h1]; rfl
theorem ztxt_plain {s : ByteArray} {z : Int} (hs : s = ztxt z) (hz : 0 ≤ z) : 0 < s.size ∧ s.toList.isEmpty = false ∧ ¬ s.toList = [] ∧ (∀ h : 0 < s.size, ¬ (s[0].toNat : Int) = 45) ∧ s = txt z.natAbs := by
  have e : s = txt z.natAbs := by rw [hs, ztxt, if_neg (by omega)]
  have hl : s.data.toList = dtext z.natAbs := by rw [e, txt_list]
  have hn : s.data.toList.length = s.size := rfl
  have ht : s.toList = dtext z.natAbs := by rw [ByteArray.toList_eq, hl]
  have h0 := dtext_ne z.natAbs
  refine ⟨?_, by rw [ht]; simpa using h0, by rw [ht]; exact h0, fun h => ?_, e⟩
  · rw [← hn, hl]; exact List.length_pos_iff.2 h0
  · have h1 := head_at s h
    have h2 := head_dig (dtext_all z.natAbs)
    rw [← hl, h1] at h2
    intro h3
    rw [(u8_eq (n := 45) (by omega)).2 h3] at h2
    exact absurd h2 (by decide)

end Go.Proofs.Ytckkbjnipacodab

