/-
  PACKAGE whole: Check.
-/
import Derived.Test.YtjeeepcnaaadmaaWholeRead
import Derived.Test.YtjeeepcnaaadmaaGcdNum
namespace Go.Proofs.Ytjeeepcnaaadmaa
open Go.RowKit
open Num
set_option linter.unusedVariables false
set_option maxRecDepth 100000
set_option linter.unusedSimpArgs false

set_option maxHeartbeats 400000 in
theorem zcheck_bad {a : ByteArray} {k : Int} (h : BadZ a k) (ha : a.size ≤ maxLen) (w : World) :
    Calls Try.prog 15 #[.string a] w fun e w' => e = .returned (errno k) ∧ Below w.heap.size w w' := by
  have HP := hid (zread_bad h w ha)
  clear h
  go_enter Try.func15, Try.ntmps15
  go_wp2_with fail
  refine HP.out.mono ?_
  rintro e w1 ⟨rfl, hb1⟩
  have HB1 := hid (hb1.trans (((Below.refl _ w1).alloc (Nat.le_refl _) (.cells #[.bool false, .slice none 0 0] 49)).mono hb1.size))
  clear hb1
  go_wp2_with fail
  go_ret
  exact ⟨rfl, HB1.out⟩

set_option maxHeartbeats 400000 in
theorem zcheck_good {a : ByteArray} (h : GoodZ a) (w : World) :
    Calls Try.prog 15 #[.string a] w fun e w' => e = .returned .nilIface ∧ Below w.heap.size w w' := by
  have HP := hid (zread_good h w)
  clear h
  go_enter Try.func15, Try.ntmps15
  go_wp2_with fail
  refine HP.out.mono ?_
  rintro e w1 ⟨v, rfl, hv, hb1⟩
  obtain ⟨s, p, n, c, rfl⟩ := hv.opened
  have HB1 := hid (hb1.trans (((Below.refl _ w1).alloc (Nat.le_refl _) (.cells #[.bool s, .slice p n c] 49)).mono hb1.size))
  clear hb1 hv
  go_wp2_with fail
  go_ret
  exact ⟨rfl, HB1.out⟩

end Go.Proofs.Ytjeeepcnaaadmaa

