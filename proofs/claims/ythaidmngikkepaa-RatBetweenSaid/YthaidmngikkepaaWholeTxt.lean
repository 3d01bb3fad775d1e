/-
  PACKAGE whole: ITS FUNCTIONS OF TEXTS.
-/
import Derived.Test.YthaidmngikkepaaWholeGcd2
namespace Go.Proofs.Ythaidmngikkepaa
open Go.RowKit
open Num
set_option linter.unusedVariables false
set_option maxRecDepth 100000
set_option linter.unusedSimpArgs false

theorem results_tmp4 {fn : Func} {t u v x : Tmp} (h : fn.results = #[.tmp t, .tmp u, .tmp v, .tmp x]) (tmps : Array Value) (P : Program) (w : World) :
    (results fn tmps).run P w = .ok (.tuple #[tmps.getD t undef, tmps.getD u undef, tmps.getD v undef, tmps.getD x undef]) w := by
  simp [results, h]

set_option maxHeartbeats 400000 in
theorem zcheck_bad {a : ByteArray} {k : Int} (h : BadZ a k) (ha : a.size ≤ maxLen) (w : World) :
    Calls Try.prog 17 #[.string a] w fun e w' => e = .returned (errno k) ∧ Below w.heap.size w w' := by
  have HP := hid (zread_bad h w ha)
  clear h
  go_enter Try.func17, Try.ntmps17
  go_wp2_with fail
  refine HP.out.mono ?_
  rintro e w1 ⟨rfl, hb1⟩
  have HB1 := hid (hb1.trans (((Below.refl _ w1).alloc (Nat.le_refl _) (.cells #[.bool false, .slice none 0 0] 49)).mono hb1.size))
  clear hb1
  go_wp2_with fail
  go_ret
  exact ⟨rfl, HB1.out⟩

set_option maxHeartbeats 400000 in
theorem zcheck_good {a : ByteArray} (h : GoodZ a) (w : World) :
    Calls Try.prog 17 #[.string a] w fun e w' => e = .returned .nilIface ∧ Below w.heap.size w w' := by
  have HP := hid (zread_good h w)
  clear h
  go_enter Try.func17, Try.ntmps17
  go_wp2_with fail
  refine HP.out.mono ?_
  rintro e w1 ⟨v, rfl, hv, hb1⟩
  obtain ⟨s, p, n, c, rfl⟩ := hv.opened
  have HB1 := hid (hb1.trans (((Below.refl _ w1).alloc (Nat.le_refl _) (.cells #[.bool s, .slice p n c] 49)).mono hb1.size))
  clear hb1 hv
  go_wp2_with fail
  go_ret
  exact ⟨rfl, HB1.out⟩

set_option maxHeartbeats 400000 in
theorem zmul_bad {a b : ByteArray} {k : Int} (h : WrongZ a b k) (ha : a.size ≤ maxLen) (hb : b.size ≤ maxLen) (w : World) :
    Calls Try.prog 26 #[.string a, .string b] w fun e w' => e = .returned (.tuple #[.string ⟨#[]⟩, errno k]) ∧ Below w.heap.size w w' := by
  have HP := hid (zpair_bad h ha hb w)
  clear h
  go_enter Try.func26, Try.ntmps26
  go_wp2_with fail
  refine HP.out.mono ?_
  rintro e w1 ⟨rfl, hb1⟩
  have HB1 := hid (hb1.trans (((Below.refl _ w1).alloc (Nat.le_refl _) (.cells #[.bool false, .slice none 0 0, .bool false, .slice none 0 0] 75)).mono hb1.size))
  clear hb1
  go_wp2_with fail
  go_ret2
  exact ⟨rfl, HB1.out⟩

set_option maxHeartbeats 1000000 in
theorem zmul_good {a b : ByteArray} (ha : GoodZ a) (hb : GoodZ b) (w : World) :
    Calls Try.prog 26 #[.string a, .string b] w fun e w' => e = .returned (.tuple #[.string (ztxt (znum a * znum b)), .nilIface]) ∧ Below w.heap.size w w' := by
  have HP := hid (zpair_good ha hb w)
  clear ha hb
  go_enter Try.func26, Try.ntmps26
  go_wp2_with fail
  refine HP.out.mono ?_
  rintro e w1 ⟨v, rfl, ⟨s, p, n, c, s', p', n', c', rfl, h1, h2⟩, hb1⟩
  have hb2 := (Below.refl _ w1).alloc (Nat.le_refl _) (.cells #[.bool s, .slice p n c, .bool s', .slice p' n' c'] 75)
  have HO := hid (mul_whl (h1.on hb2) (h2.on hb2) (by omega) (by omega))
  have HB1 := hid (hb1.trans (hb2.mono hb1.size))
  clear h1 h2 hb1 hb2
  go_wp2_with fail
  refine HO.out.mono ?_
  rintro e w2 ⟨v, rfl, hv, hb3⟩
  have HS := hid (string_whl hv (by omega))
  have HB3 := hid (HB1.out.trans (hb3.mono HB1.out.size))
  clear hv hb3
  go_wp2_with fail
  refine HS.out.mono ?_
  rintro e w3 ⟨rfl, hb4⟩
  have HB4 := hid (HB3.out.trans (hb4.mono HB3.out.size))
  clear hb4
  go_wp2_with fail
  go_ret2
  exact ⟨rfl, HB4.out⟩


end Go.Proofs.Ythaidmngikkepaa

