import Derived.Test.YtokojbgpboccnaaBunProofSturmOwn3
import Derived.Test.YtokojbgpboccnaaBunProofSturmOwn11
import Derived.Lib.Walk
import Derived.Lib.Bytealg
/-
  strings.Cut AT A SLASH.
-/
namespace Go.Proofs.Ytokojbgpboccnaa
open Go.RowKit
open Num
set_option linter.unusedVariables false
set_option maxRecDepth 100000
set_option linter.unusedSimpArgs false

/-- What is ahead of the first slash, what is behind it, if there is one. -/
def cutB (l : List UInt8) : List UInt8 := l.takeWhile (· != 47)
def cutA (l : List UInt8) : List UInt8 := (l.dropWhile (· != 47)).tail
def hasSl (l : List UInt8) : Bool := !(l.dropWhile (· != 47)).isEmpty

theorem index_cut (l : List UInt8) : (hasSl l = false ∧ Lib.indexByte l 47 = -1 ∧ cutB l = l) ∨ (hasSl l = true ∧ Lib.indexByte l 47 = ((cutB l).length : Int) ∧ (cutB l).length + 1 ≤ l.length ∧ cutB l = l.take (cutB l).length ∧ cutA l = l.drop ((cutB l).length + 1)) := by
  induction l with
  | nil => exact .inl ⟨rfl, rfl, rfl⟩
  | cons b l ih =>
    by_cases hb : b = 47
    · subst hb
      right
      simp [hasSl, cutB, cutA, Lib.indexByte]
    · have h1 : (b != 47) = true := by simpa using hb
      have h2 : (b == 47) = false := by simpa using hb
      have e1 : hasSl (b :: l) = hasSl l := by simp [hasSl, List.dropWhile_cons, h1]
      have e2 : cutB (b :: l) = b :: cutB l := by simp [cutB, List.takeWhile_cons, h1]
      have e3 : cutA (b :: l) = cutA l := by simp [cutA, List.dropWhile_cons, h1]
      rw [e1, e2, e3]
      rcases ih with ⟨i1, i2, i3⟩ | ⟨i1, i2, i3, i4, i5⟩
      · refine .inl ⟨i1, ?_, by rw [i3]⟩
        simp [Lib.indexByte, h2, i2]
      · refine .inr ⟨i1, ?_, by simp; omega, ?_, by simpa using i5⟩
        · have hn : ¬ Lib.indexByte l 47 = -1 := by omega
          simp only [Lib.indexByte, h2]
          simp [hn, i2]
        · rw [List.length_cons, List.take_succ_cons, ← i4]

set_option maxHeartbeats 2000000 in
theorem index_slash (s : ByteArray) (w : World) :
    Calls Try.prog 67 #[.string s, .string ⟨#[47]⟩] w fun e w' => e = .returned (.int .i64 (Lib.indexByte s.data.toList 47)) ∧ w' = w := by
  go_enter Try.func67, Try.ntmps67
  go_wp2_with (go_at_call 78; refine (Try.index_byte _ _ _).mono ?_; rintro e w' ⟨rfl, rfl⟩)
  · have h : ([47] == s.toList) = true := by assumption
    go_ret
    refine ⟨?_, rfl⟩
    have e : s.data.toList = [47] := by rw [← Lib.toList_data]; exact (beq_iff_eq.1 h).symm
    rw [e]
    simp [Lib.indexByte]
  · go_ret
    exact ⟨rfl, rfl⟩

theorem extract_front (t : ByteArray) (a : Nat) : (t.extract 0 a).data.toList = t.data.toList.take a := by
  rw [ByteArray.data_extract, Array.toList_extract, List.extract]
  simp

set_option maxHeartbeats 1000000 in
theorem cut_lite_slash (s : ByteArray) (w : World) (hs : s.size ≤ maxLen) :
    Calls Try.prog 48 #[.string s, .string ⟨#[47]⟩] w fun e w' => ∃ a b, e = .returned (.tuple #[.string a, .string b, .bool (hasSl s.data.toList)]) ∧ a.data.toList = cutB s.data.toList ∧ (hasSl s.data.toList = true → b.data.toList = cutA s.data.toList) ∧ a.size ≤ s.size ∧ b.size ≤ s.size ∧ Below w.heap.size w w' := by
  have HI := index_slash s w
  have h1 : (⟨#[47]⟩ : ByteArray).size = 1 := rfl
  have hl : s.data.toList.length = s.size := rfl
  unfold maxLen at hs
  rcases index_cut s.data.toList with ⟨i1, i2, i3⟩ | ⟨i1, i2, i3, i4, i5⟩
  · rw [i2] at HI
    have HI := hid HI
    have H1 := hid i1
    have H3 := hid i3
    clear i1 i2 i3 hl
    go_enter Try.func48, Try.ntmps48
    go_wp2_with fail
    refine HI.out.mono ?_
    rintro e w' ⟨rfl, rfl⟩
    go_wp2_with fail
    go_ret3
    exact ⟨s, ⟨#[]⟩, by rw [H1.out]; rfl, H3.out.symm, (fun e => by rw [H1.out] at e; exact absurd e (by decide)), Nat.le_refl _, Nat.zero_le _, Below.refl _ _⟩
  · rw [i2] at HI
    rw [hl] at i3
    generalize hn : (cutB s.data.toList).length = n at *
    have HI := hid HI
    have H1 := hid i1
    have H4 := hid i4
    have H5 := hid i5
    have h2 : (0 : Int) ≤ (n : Int) := by omega
    have h3 : (n : Int) + 1 ≤ (s.size : Int) := by omega
    have h4 : IntKind.i64.wrap ((n : Int) + 1) = (n : Int) + 1 := IntWalk.i64_in _ (by omega)
    have h5 : (0 : Int) ≤ (n : Int) + 1 := by omega
    have h6 : ((n : Int) + 1).toNat = n + 1 := by omega
    have h7 : (n : Int) ≤ (s.size : Int) := by omega
    have h8 : ((n : Int)).toNat = n := by omega
    have S2 := hid hs
    clear i1 i2 i3 i4 i5 hl hs hn
    go_enter Try.func48, Try.ntmps48
    go_wp2_with fail
    refine HI.out.mono ?_
    rintro e w' ⟨rfl, rfl⟩
    go_wp2_with fail
    go_quiet (fail)
    go_wp2_with fail
    go_ret3
    exact ⟨s.extract 0 n, s.extract (n + 1) s.size, by rw [H1.out]; rfl, by rw [extract_front]; exact H4.out.symm, (fun _ => by rw [extract_end]; exact H5.out.symm), by rw [ByteArray.size_extract]; omega, by rw [size_extract_end]; omega, below_drewN (Below.refl _ _) _⟩

set_option maxHeartbeats 1000000 in
theorem cut_slash (s : ByteArray) (w : World) (hs : s.size ≤ maxLen) :
    Calls Try.prog 32 #[.string s, .string ⟨#[47]⟩] w fun e w' => ∃ a b, e = .returned (.tuple #[.string a, .string b, .bool (hasSl s.data.toList)]) ∧ a.data.toList = cutB s.data.toList ∧ (hasSl s.data.toList = true → b.data.toList = cutA s.data.toList) ∧ a.size ≤ s.size ∧ b.size ≤ s.size ∧ Below w.heap.size w w' := by
  have HC := hid (cut_lite_slash s w hs)
  clear hs
  go_enter Try.func32, Try.ntmps32
  go_wp2_with fail
  refine HC.out.mono ?_
  rintro e w1 ⟨a, b, rfl, h1, h2, h3, h4, hb⟩
  have R := hid (And.intro h1 (And.intro h2 (And.intro h3 (And.intro h4 hb))))
  clear h1 h2 h3 h4 hb HC
  go_wp2_with fail
  go_ret3
  obtain ⟨h1, h2, h3, h4, hb⟩ := R.out
  exact ⟨a, b, rfl, h1, h2, h3, h4, hb⟩

/-- Is a text one of a fraction? -/
def isRat (l : List UInt8) : Bool := if hasSl l then isWhl (cutB l) && isWhl (cutA l) && decide (1 < whlOf (cutA l)) && decide (Int.gcd (whlOf (cutB l)) (whlOf (cutA l)) = 1) else isWhl l
/-- The fraction of a text. -/
def ratOf (l : List UInt8) : Rat := if hasSl l then Rat.divInt (whlOf (cutB l)) (whlOf (cutA l)) else (whlOf l : Rat)

end Go.Proofs.Ytokojbgpboccnaa
