import Derived.Test.YtjeeepcnaaadmaaQMath
namespace Go.Proofs.Ytjeeepcnaaadmaa
open Go.RowKit
open Num
set_option linter.unusedVariables false
set_option maxRecDepth 100000
set_option linter.unusedSimpArgs false

theorem qhalves (w : World) :
    Calls Try.prog 16 #[.string ⟨#[49, 47, 50]⟩, .string ⟨#[49, 47, 50]⟩] w fun e w' => e = .returned (.tuple #[.string ⟨#[49, 47, 52]⟩, .nilIface]) ∧ Below w.heap.size w w' := by
  have h := qmul_good good_half good_half w
  have e1 := qtxt_qnum (s := ⟨#[49, 47, 52]⟩) (by decide +kernel)
  have e3 : qnum ⟨#[49, 47, 50]⟩ * qnum ⟨#[49, 47, 50]⟩ = qnum ⟨#[49, 47, 52]⟩ := by decide +kernel
  rw [e3, e1] at h
  exact h

set_option maxHeartbeats 400000 in
theorem half_true (w : World) :
    Calls Try.prog 17 #[] w fun e w' => e = .returned (.bool true) ∧ Below w.heap.size w w' := by
  have H := hid (qhalves w)
  go_enter Try.func17, Try.ntmps17
  go_wp2_with fail
  refine H.out.mono ?_
  rintro e w' ⟨rfl, hb⟩
  go_wp2_with fail
  go_ret
  exact ⟨rfl, hb⟩

end Go.Proofs.Ytjeeepcnaaadmaa

