import Derived.Test.YtckkbjnipacodaaNat
namespace Go.Proofs.Ytckkbjnipacodaa
open Go.RowKit
open Num
set_option linter.unusedVariables false
set_option maxRecDepth 100000
set_option linter.unusedSimpArgs false

/-- What a comparison leaves. -/
def LeftB (w : World) (g : Nat) (t : Bool) : Value → World → Prop := fun v w' => v = .nilIface ∧ One w' g (.bool t) 4 ∧ Below g w w'

set_option maxHeartbeats 400000 in
theorem less_work {w : World} {g : Nat} {u : Value} (hg : One w g u 4) (a b : Nat) : Works 42 #[.pointer (some ⟨g, 0, none⟩)] w a b (LeftB w g (decide (a < b))) := by
  intro w1 vx vy xs ys hb hx hy ha hb' l1 l2
  show Calls Try.prog 42 #[vx, vy, .pointer (some ⟨g, 0, none⟩)] w1 _
  have H1 := less_lim hx hy
  rw [ha, hb'] at H1
  have H1 := hid H1
  have hg0 := hg.lt
  have HG := hid hg
  have HBW := hid hb
  generalize decide (a < b) = t at *
  clear ha hb' hx hy hg hb
  go_enter Try.func42, Try.ntmps42
  go_wp2_with fail
  refine H1.out.mono ?_
  rintro e w2 ⟨rfl, nd, rfl⟩
  have HB3 := hid (below_drewN HBW.out nd)
  have hone := HG.out.below HB3.out hg0
  have c3 := hone.cell
  have f3 := hone.free
  have HO := hid hone
  clear hone
  go_wp2_with fail
  go_ret
  exact ⟨_, rfl, rfl, HO.out.set _, (HB3.out.mono (Nat.le_of_lt hg0)).setCell (Nat.le_refl _) _⟩

set_option maxHeartbeats 400000 in
theorem nat_less {a b : ByteArray} (ha : Good a) (hb : Good b) (w : World) :
    Calls Try.prog 18 #[.string a, .string b] w fun e w' => e = .returned (.tuple #[.bool (decide (num a < num b)), .nilIface]) ∧ Below w.heap.size w w' := by
  have hone := One.new w (.bool false) 4
  have H1 := hid (both_good ha hb 42 Try.call42 w.heap.size _ _ (less_work hone (num a) (num b)))
  clear hone ha hb
  go_enter Try.func18, Try.ntmps18
  go_wp2_with fail
  refine H1.out.mono ?_
  rintro e w1 ⟨v, rfl, rfl, ho, hb1⟩
  have c1 := ho.cell
  have HB1 := hid (((Below.refl _ w).alloc (Nat.le_refl _) _).trans hb1)
  clear ho hb1 H1
  go_wp2_with fail
  go_ret2
  exact ⟨rfl, HB1.out⟩

set_option maxHeartbeats 400000 in
theorem nat_less_bad {a b : ByteArray} {k : Int} (h : Wrong a b k) (ha : a.size ≤ maxLen) (hb : b.size ≤ maxLen) (w : World) :
    Calls Try.prog 18 #[.string a, .string b] w fun e w' => e = .returned (.tuple #[.bool false, errno k]) ∧ Below w.heap.size w w' := by
  have hone := One.new w (.bool false) 4
  have HO := hid hone
  have H1 := hid (fun f w => both_bad h ha hb f w)
  clear hone h
  go_enter Try.func18, Try.ntmps18
  go_wp2_with fail
  refine (H1.out _ _).mono ?_
  rintro e w1 ⟨rfl, hb1⟩
  have c1 := (HO.out.below hb1 (by simp)).cell
  have HB1 := hid (((Below.refl _ w).alloc (Nat.le_refl _) _).trans (hb1.mono (by simp)))
  clear hb1 H1
  go_wp2_with fail
  go_ret2
  exact ⟨rfl, HB1.out⟩

end Go.Proofs.Ytckkbjnipacodaa

