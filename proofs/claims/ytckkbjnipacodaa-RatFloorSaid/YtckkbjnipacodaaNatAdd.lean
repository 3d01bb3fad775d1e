import Derived.Test.YtckkbjnipacodaaNat
namespace Go.Proofs.Ytckkbjnipacodaa
open Go.RowKit
open Num
set_option linter.unusedVariables false
set_option maxRecDepth 100000
set_option linter.unusedSimpArgs false

set_option maxHeartbeats 400000 in
theorem add_work {w : World} {g : Nat} {u : Value} (hg : One w g u 9) (a b : Nat) : Works 32 #[.pointer (some ⟨g, 0, none⟩)] w a b (Left w g (txt (a + b))) := by
  intro w1 vx vy xs ys hb hx hy ha hb' l1 l2
  show Calls Try.prog 32 #[vx, vy, .pointer (some ⟨g, 0, none⟩)] w1 _
  have H1 := hid (add_lim hx hy (by omega) (by omega))
  have hv : val xs + val ys < B ^ 101 := pow_sum (few_limbs hx.1 l1) (few_limbs hy.1 l2)
  have HV := hid hv
  have HA := hid ha
  have HB := hid hb'
  have hg0 := hg.lt
  have HG := hid hg
  have HBW := hid hb
  clear hv ha hb' hx hy hg hb
  go_enter Try.func32, Try.ntmps32
  go_wp2_with fail
  refine H1.out.mono ?_
  rintro e w2 ⟨v, zs, rfl, hL, ht, hz, hb2⟩
  have H2 := string_lim hL (by have := length_le_of_val ht 101 (by rw [hz]; exact HV.out); omega)
  rw [hz, HA.out, HB.out] at H2
  have H2 := hid H2
  clear hL ht hz
  go_wp2_with fail
  refine H2.out.mono ?_
  rintro e w3 ⟨rfl, hb3⟩
  have HB3 := hid ((HBW.out.trans (hb2.mono HBW.out.size)).trans (hb3.mono (Nat.le_trans HBW.out.size hb2.size)))
  have hone := HG.out.below HB3.out hg0
  have c3 := hone.cell
  have f3 := hone.free
  have HO := hid hone
  clear hone hb3 hb2
  go_wp2_with fail
  go_ret
  exact ⟨_, rfl, rfl, HO.out.set _, (HB3.out.mono (Nat.le_of_lt hg0)).setCell (Nat.le_refl _) _⟩

set_option maxHeartbeats 400000 in
theorem nat_add {a b : ByteArray} (ha : Good a) (hb : Good b) (w : World) :
    Calls Try.prog 13 #[.string a, .string b] w fun e w' => e = .returned (.tuple #[.string (txt (num a + num b)), .nilIface]) ∧ Below w.heap.size w w' := by
  have hone := One.new w (.string ⟨#[]⟩) 9
  have H1 := hid (both_good ha hb 32 Try.call32 w.heap.size _ _ (add_work hone (num a) (num b)))
  clear hone ha hb
  go_enter Try.func13, Try.ntmps13
  go_wp2_with fail
  refine H1.out.mono ?_
  rintro e w1 ⟨v, rfl, rfl, ho, hb1⟩
  have c1 := ho.cell
  have HB1 := hid (((Below.refl _ w).alloc (Nat.le_refl _) _).trans hb1)
  clear ho hb1 H1
  go_wp2_with fail
  go_ret2
  exact ⟨rfl, HB1.out⟩

set_option maxHeartbeats 400000 in
theorem nat_add_bad {a b : ByteArray} {k : Int} (h : Wrong a b k) (ha : a.size ≤ maxLen) (hb : b.size ≤ maxLen) (w : World) :
    Calls Try.prog 13 #[.string a, .string b] w fun e w' => e = .returned (.tuple #[.string ⟨#[]⟩, errno k]) ∧ Below w.heap.size w w' := by
  have hone := One.new w (.string ⟨#[]⟩) 9
  have HO := hid hone
  have H1 := hid (fun f w => both_bad h ha hb f w)
  clear hone h
  go_enter Try.func13, Try.ntmps13
  go_wp2_with fail
  refine (H1.out _ _).mono ?_
  rintro e w1 ⟨rfl, hb1⟩
  have c1 := (HO.out.below hb1 (by simp)).cell
  have HB1 := hid (((Below.refl _ w).alloc (Nat.le_refl _) _).trans (hb1.mono (by simp)))
  clear hb1 H1
  go_wp2_with fail
  go_ret2
  exact ⟨rfl, HB1.out⟩

end Go.Proofs.Ytckkbjnipacodaa

