/-
  PACKAGE whole: Read.
-/
import Derived.Test.YtjeeepcnaaadmaaWholeOf
import Derived.Test.YtjeeepcnaaadmaaWholeMore
namespace Go.Proofs.Ytjeeepcnaaadmaa
open Go.RowKit
open Num
set_option linter.unusedVariables false
set_option maxRecDepth 100000
set_option linter.unusedSimpArgs false

/-- An integer that may be handed in. -/
def GoodZ (s : ByteArray) : Prop := s.size ≤ 100 ∧ isWhl s.data.toList = true
/-- What is wrong with a text. -/
def BadZ (s : ByteArray) (k : Int) : Prop := (100 < s.size ∧ k = 4) ∨ (s.size ≤ 100 ∧ isWhl s.data.toList = false ∧ k = 1)
theorem goodZ_or_bad (s : ByteArray) : GoodZ s ∨ ∃ k, BadZ s k := by
  by_cases h : s.size ≤ 100
  · cases hn : isWhl s.data.toList with
    | true => exact .inl ⟨h, hn⟩
    | false => exact .inr ⟨1, .inr ⟨h, hn, rfl⟩⟩
  · exact .inr ⟨4, .inl ⟨by omega, rfl⟩⟩
/-- The integer of a text. -/
def znum (s : ByteArray) : Int := whlOf s.data.toList

/-- Two results: an Integer in a box, an error in a slot. -/
def ZRes (w : World) (z : Int) (k : Nat) (e : Ending) (w' : World) : Prop := ∃ v, e = .returned (.tuple #[v, .nilIface]) ∧ Whl w' v z k ∧ Below w.heap.size w w'

set_option maxHeartbeats 1000000 in
theorem zread_bad {s : ByteArray} {k : Int} (h : BadZ s k) (w : World) (hs : s.size ≤ maxLen) :
    Calls Try.prog 39 #[.string s] w fun e w' => e = .returned (.tuple #[.agg #[.bool false, .slice none 0 0], errno k]) ∧ Below w.heap.size w w' := by
  obtain ⟨x0, bw, sz⟩ := boxes1 w false (.slice none 0 0) ⟨_, _, _, rfl⟩
  have X0 := hid x0
  have BW := hid bw
  rcases h with ⟨h, rfl⟩ | ⟨h, hn, rfl⟩
  · have h' : (100 : Int) < (s.size : Int) := by omega
    unfold maxLen at hs
    clear x0 bw sz
    go_enter Try.func39, Try.ntmps39
    go_wp2_with fail
    refine bodyPost_ret (res_cell_tmp rfl rfl rfl X0.out) rfl ?_
    exact ⟨rfl, BW.out⟩
  · have HP := hid (fun w => zparse_no s w (by omega) hn)
    have h' : (s.size : Int) ≤ 100 := by omega
    clear hn x0 bw sz
    go_enter Try.func39, Try.ntmps39
    go_wp2_with fail
    refine (HP.out _).mono ?_
    rintro e w1 ⟨rfl, hb⟩
    have x0' := X0.out.below hb X0.out.lt
    obtain ⟨c0, f0, c1, f1⟩ := x0'.stores
    have X1 := hid x0'
    have B1 := hid (BW.out.trans (hb.mono BW.out.size))
    clear hb x0' HP
    go_wp2_with fail
    obtain ⟨r1, r2, r3⟩ := X1.out.last B1.out (Nat.le_refl _) false none 0 0
    refine bodyPost_ret (res_cell_tmp rfl rfl rfl r1) rfl ?_
    exact ⟨rfl, r2⟩

set_option maxHeartbeats 1000000 in
theorem zread_good {s : ByteArray} (h : GoodZ s) (w : World) :
    Calls Try.prog 39 #[.string s] w fun e w' => ∃ v, e = .returned (.tuple #[v, .nilIface]) ∧ Whl w' v (znum s) 100 ∧ Below w.heap.size w w' := by
  obtain ⟨x0, bw, sz⟩ := boxes1 w false (.slice none 0 0) ⟨_, _, _, rfl⟩
  have X0 := hid x0
  have BW := hid bw
  obtain ⟨h, hn⟩ := h
  have HP := hid (fun w => zparse_yes s w (by omega) hn)
  have h' : (s.size : Int) ≤ 100 := by omega
  have H := hid h
  clear hn x0 bw sz h
  go_enter Try.func39, Try.ntmps39
  go_wp2_with fail
  refine (HP.out _).mono ?_
  rintro e w1 ⟨v, rfl, hv, hb⟩
  obtain ⟨s1, p, n, c, rfl⟩ := hv.opened
  have x0' := X0.out.below hb X0.out.lt
  obtain ⟨c0, f0, c1, f1⟩ := x0'.stores
  have X1 := hid x0'
  have B1 := hid (BW.out.trans (hb.mono BW.out.size))
  have HV := hid hv
  clear hv hb x0' HP
  go_wp2_with fail
  obtain ⟨r1, r2, r3⟩ := X1.out.last B1.out (Nat.le_refl _) s1 p n c
  refine bodyPost_ret (res_cell_tmp rfl rfl rfl r1) rfl ?_
  exact ⟨_, rfl, (r3 HV.out).mono H.out, r2⟩

/-- The error of two texts. -/
def WrongZ (a b : ByteArray) (k : Int) : Prop := BadZ a k ∨ (GoodZ a ∧ BadZ b k)
theorem rightZ_or_wrong (a b : ByteArray) : (GoodZ a ∧ GoodZ b) ∨ ∃ k, WrongZ a b k := by
  rcases goodZ_or_bad a with ha | ⟨k, ha⟩
  · rcases goodZ_or_bad b with hb | ⟨k, hb⟩
    · exact .inl ⟨ha, hb⟩
    · exact .inr ⟨k, .inr ⟨ha, hb⟩⟩
  · exact .inr ⟨k, .inl ha⟩

end Go.Proofs.Ytjeeepcnaaadmaa

