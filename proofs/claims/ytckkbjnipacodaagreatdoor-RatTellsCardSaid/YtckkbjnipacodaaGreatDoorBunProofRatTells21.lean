import Derived.Test.YtckkbjnipacodaaGreatDoorBunProofRatTells20
import Derived.Deep.RegionHeld3
/-
  RatTells: a case.
-/
namespace Go.Proofs.YtckkbjnipacodaaGreatDoor
open Go.RowKit
open Num4
open Num (dg isNat dval)
set_option linter.unusedVariables false
set_option maxRecDepth 100000
set_option linter.unusedSimpArgs false

set_option maxHeartbeats 32000000 in
theorem rtells_nn (a b : ByteArray) (sa : a.size ≤ maxLen) (sb : b.size ≤ maxLen) {k i j : Int} (ha : GoodQ a) (hb : GoodQ b) (hz : qnum b ≠ 0) (hwa : BadZ a i) (hwb : (GoodZ b ∧ j = 0) ∨ BadZ b j) (hi0 : i ≠ 0) (w : World) (hd : Door w) :
    Calls Tryz.prog 3 #[.string a, .string b] w fun e w' => e = .returned (.bool true) ∧ Below w.heap.size w w' := by
  have Hha := hid ha
  have Hhb := hid hb
  have Hhz := hid hz
  have Hhwa := hid hwa
  have Hhwb := hid hwb
  have HI0 := hid hi0
  have HDR := hid hd
  have B := hid (Below.refl w.heap.size w)
  have hib : (i == 0) = false := by simpa using hi0
  clear  ha hb hz hwa hwb hd
  go_enter Tryz.func3, Tryz.ntmps3
  go_wp2_with fail
  refine (halved_true w).mono ?_
  rintro e w1 ⟨rfl, hb⟩
  replace B := hid (B.out.trans (hb.mono B.out.size))
  clear hb 
  go_wp2_with fail
  refine (ratof_good Hha.out w1).mono ?_
  rintro e w2 ⟨v, rfl, hv, hb⟩
  obtain ⟨s1a, p1a, n1a, c1a, p1b, n1b, c1b, rfl⟩ := hv.opened
  obtain ⟨ht1, hu1⟩ := hv.two
  replace B := hid (B.out.trans (hb.mono B.out.size))
  have HN1 := hid ht1
  have HD1 := hid hu1
  clear hb hv ht1 hu1
  have hb3 := (Below.refl _ _).alloc (Nat.le_refl w2.heap.size) (.cells #[.bool s1a, .slice p1a n1a c1a, .slice p1b n1b c1b] 28)
  have hx4 := Qbx.new w2 s1a p1a n1a c1a p1b n1b c1b
  replace HN1 := hid (HN1.out.on hb3)
  replace HD1 := hid (HD1.out.on hb3)
  replace B := hid (B.out.trans (hb3.mono B.out.size))
  have X6 := hid hx4
  have hs5 : (w2.alloc (.cells #[.bool s1a, .slice p1a n1a c1a, .slice p1b n1b c1b] 28)).heap.size = w2.heap.size + 1 := by simp
  clear hb3 hx4
  obtain ⟨cc6a, cc6b, cc6c⟩ := X6.out.cells
  go_wp2_with fail
  generalize hW : w2.alloc (.cells #[.bool s1a, .slice p1a n1a c1a, .slice p1b n1b c1b] 28) = W7 at *
  clear hW
  refine (qcheck_good Hha.out W7).mono ?_
  rintro e w8 ⟨rfl, hb⟩
  replace X6 := hid (X6.out.below hb X6.out.lt)
  replace HN1 := hid (HN1.out.on hb)
  replace HD1 := hid (HD1.out.on hb)
  replace B := hid (B.out.trans (hb.mono B.out.size))
  clear cc6a cc6b cc6c
  clear hb 
  obtain ⟨cc9a, cc9b, cc9c⟩ := X6.out.cells
  go_wp2_with fail
  refine (same_nil w8 (HDR.out.below B.out)).mono ?_
  rintro e w10 ⟨rfl, hb⟩
  replace X6 := hid (X6.out.below hb X6.out.lt)
  replace HN1 := hid (HN1.out.on hb)
  replace HD1 := hid (HD1.out.on hb)
  replace B := hid (B.out.trans (hb.mono B.out.size))
  clear cc9a cc9b cc9c
  clear hb 
  obtain ⟨cc11a, cc11b, cc11c⟩ := X6.out.cells
  go_wp2_with fail
  refine (rfloor (QR.mk2 HN1.out HD1.out) (by omega) (by omega)).mono ?_
  rintro e w12 ⟨v, rfl, hv, hb⟩
  obtain ⟨s2, p2, n2, c2, rfl⟩ := hv.opened
  replace X6 := hid (X6.out.below hb X6.out.lt)
  replace HN1 := hid (HN1.out.on hb)
  replace HD1 := hid (HD1.out.on hb)
  replace B := hid (B.out.trans (hb.mono B.out.size))
  clear cc11a cc11b cc11c
  have HF := hid hv
  clear hb hv
  obtain ⟨cc13a, cc13b, cc13c⟩ := X6.out.cells
  go_wp2_with fail
  refine (rtextz HF.out (by omega)).mono ?_
  rintro e w14 ⟨rfl, hb⟩
  replace X6 := hid (X6.out.below hb X6.out.lt)
  replace HN1 := hid (HN1.out.on hb)
  replace HD1 := hid (HD1.out.on hb)
  replace HF := hid (HF.out.on hb)
  replace B := hid (B.out.trans (hb.mono B.out.size))
  clear cc13a cc13b cc13c
  clear hb 
  obtain ⟨cc15a, cc15b, cc15c⟩ := X6.out.cells
  go_wp2_with fail
  refine (qfloor_good Hha.out w14).mono ?_
  rintro e w16 ⟨rfl, hb⟩
  replace X6 := hid (X6.out.below hb X6.out.lt)
  replace HN1 := hid (HN1.out.on hb)
  replace HD1 := hid (HD1.out.on hb)
  replace HF := hid (HF.out.on hb)
  replace B := hid (B.out.trans (hb.mono B.out.size))
  clear cc15a cc15b cc15c
  clear hb 
  obtain ⟨cc17a, cc17b, cc17c⟩ := X6.out.cells
  go_wp2_with fail
  refine (same_nil w16 (HDR.out.below B.out)).mono ?_
  rintro e w18 ⟨rfl, hb⟩
  replace X6 := hid (X6.out.below hb X6.out.lt)
  replace HN1 := hid (HN1.out.on hb)
  replace HD1 := hid (HD1.out.on hb)
  replace HF := hid (HF.out.on hb)
  replace B := hid (B.out.trans (hb.mono B.out.size))
  clear cc17a cc17b cc17c
  clear hb 
  obtain ⟨cc19a, cc19b, cc19c⟩ := X6.out.cells
  go_wp2_with fail
  refine (rtwo3 (k := 0) Hha.out Hhb.out sa sb w18).mono ?_
  rintro e w20 ⟨v, u, rfl, hv, hu, hb⟩
  obtain ⟨s3a, p3a, n3a, c3a, p3b, n3b, c3b, rfl⟩ := hv.opened
  obtain ⟨s4a, p4a, n4a, c4a, p4b, n4b, c4b, rfl⟩ := hu.opened
  obtain ⟨ht3, hu3⟩ := hv.two
  obtain ⟨ht4, hu4⟩ := hu.two
  replace X6 := hid (X6.out.below hb X6.out.lt)
  replace HN1 := hid (HN1.out.on hb)
  replace HD1 := hid (HD1.out.on hb)
  replace HF := hid (HF.out.on hb)
  replace B := hid (B.out.trans (hb.mono B.out.size))
  clear cc19a cc19b cc19c
  have HN4 := hid ht4
  have HD4 := hid hu4
  clear hb hv hu ht3 hu3 ht4 hu4
  have hb21 := (Below.refl _ _).alloc (Nat.le_refl w20.heap.size) (.cells #[.bool s3a, .slice p3a n3a c3a, .slice p3b n3b c3b] 28)
  have hx22 := Qbx.new w20 s3a p3a n3a c3a p3b n3b c3b
  have L0 := hid X6.out.lt
  replace X6 := hid (X6.out.below hb21 X6.out.lt)
  replace HN1 := hid (HN1.out.on hb21)
  replace HD1 := hid (HD1.out.on hb21)
  replace HF := hid (HF.out.on hb21)
  replace HN4 := hid (HN4.out.on hb21)
  replace HD4 := hid (HD4.out.on hb21)
  replace B := hid (B.out.trans (hb21.mono B.out.size))
  have X13 := hid hx22
  have hs23 : (w20.alloc (.cells #[.bool s3a, .slice p3a n3a c3a, .slice p3b n3b c3b] 28)).heap.size = w20.heap.size + 1 := by simp
  clear hb21 hx22
  have hb24 := (Below.refl _ _).alloc (Nat.le_refl (w20.alloc (.cells #[.bool s3a, .slice p3a n3a c3a, .slice p3b n3b c3b] 28)).heap.size) (.cells #[.bool s4a, .slice p4a n4a c4a, .slice p4b n4b c4b] 28)
  have hx25 := Qbx.new (w20.alloc (.cells #[.bool s3a, .slice p3a n3a c3a, .slice p3b n3b c3b] 28)) s4a p4a n4a c4a p4b n4b c4b
  rw [hs23] at hx25
  replace X6 := hid (X6.out.below hb24 X6.out.lt)
  replace X13 := hid (X13.out.below hb24 X13.out.lt)
  replace HN1 := hid (HN1.out.on hb24)
  replace HD1 := hid (HD1.out.on hb24)
  replace HF := hid (HF.out.on hb24)
  replace HN4 := hid (HN4.out.on hb24)
  replace HD4 := hid (HD4.out.on hb24)
  replace B := hid (B.out.trans (hb24.mono B.out.size))
  have X14 := hid hx25
  have hs26 : ((w20.alloc (.cells #[.bool s3a, .slice p3a n3a c3a, .slice p3b n3b c3b] 28)).alloc (.cells #[.bool s4a, .slice p4a n4a c4a, .slice p4b n4b c4b] 28)).heap.size = w20.heap.size + 1 + 1 := by simp [hs23]
  clear hb24 hx25
  obtain ⟨cc27a, cc27b, cc27c⟩ := X6.out.cells
  obtain ⟨cc28a, cc28b, cc28c⟩ := X13.out.cells
  obtain ⟨cc29a, cc29b, cc29c⟩ := X14.out.cells
  go_wp2_with fail
  generalize hW : (w20.alloc (.cells #[.bool s3a, .slice p3a n3a c3a, .slice p3b n3b c3b] 28)).alloc (.cells #[.bool s4a, .slice p4a n4a c4a, .slice p4b n4b c4b] 28) = W30 at *
  clear hW
  refine (radd (QR.mk2 HN1.out HD1.out) (QR.mk2 HN4.out HD4.out) (by omega)).mono ?_
  rintro e w31 ⟨v, rfl, hv, hb⟩
  obtain ⟨s5a, p5a, n5a, c5a, p5b, n5b, c5b, rfl⟩ := hv.opened
  obtain ⟨ht5, hu5⟩ := hv.two
  replace X6 := hid (X6.out.below hb X6.out.lt)
  replace X13 := hid (X13.out.below hb X13.out.lt)
  replace X14 := hid (X14.out.below hb X14.out.lt)
  replace HN1 := hid (HN1.out.on hb)
  replace HD1 := hid (HD1.out.on hb)
  replace HF := hid (HF.out.on hb)
  replace HN4 := hid (HN4.out.on hb)
  replace HD4 := hid (HD4.out.on hb)
  replace B := hid (B.out.trans (hb.mono B.out.size))
  clear cc27a cc27b cc27c cc28a cc28b cc28c cc29a cc29b cc29c
  have HN5 := hid ht5
  have HD5 := hid hu5
  clear hb hv ht5 hu5
  obtain ⟨cc32a, cc32b, cc32c⟩ := X6.out.cells
  obtain ⟨cc33a, cc33b, cc33c⟩ := X13.out.cells
  obtain ⟨cc34a, cc34b, cc34c⟩ := X14.out.cells
  go_wp2_with fail
  refine (rqtext (QR.mk2 HN5.out HD5.out) (by omega)).mono ?_
  rintro e w35 ⟨rfl, hb⟩
  replace X6 := hid (X6.out.below hb X6.out.lt)
  replace X13 := hid (X13.out.below hb X13.out.lt)
  replace X14 := hid (X14.out.below hb X14.out.lt)
  replace HN1 := hid (HN1.out.on hb)
  replace HD1 := hid (HD1.out.on hb)
  replace HF := hid (HF.out.on hb)
  replace HN4 := hid (HN4.out.on hb)
  replace HD4 := hid (HD4.out.on hb)
  replace HN5 := hid (HN5.out.on hb)
  replace HD5 := hid (HD5.out.on hb)
  replace B := hid (B.out.trans (hb.mono B.out.size))
  clear cc32a cc32b cc32c cc33a cc33b cc33c cc34a cc34b cc34c
  clear hb 
  clear HN5
  clear HD5
  obtain ⟨cc36a, cc36b, cc36c⟩ := X6.out.cells
  obtain ⟨cc37a, cc37b, cc37c⟩ := X13.out.cells
  obtain ⟨cc38a, cc38b, cc38c⟩ := X14.out.cells
  go_wp2_with fail
  refine (rmul (QR.mk2 HN1.out HD1.out) (QR.mk2 HN4.out HD4.out) (by omega)).mono ?_
  rintro e w39 ⟨v, rfl, hv, hb⟩
  obtain ⟨s6a, p6a, n6a, c6a, p6b, n6b, c6b, rfl⟩ := hv.opened
  obtain ⟨ht6, hu6⟩ := hv.two
  replace X6 := hid (X6.out.below hb X6.out.lt)
  replace X13 := hid (X13.out.below hb X13.out.lt)
  replace X14 := hid (X14.out.below hb X14.out.lt)
  replace HN1 := hid (HN1.out.on hb)
  replace HD1 := hid (HD1.out.on hb)
  replace HF := hid (HF.out.on hb)
  replace HN4 := hid (HN4.out.on hb)
  replace HD4 := hid (HD4.out.on hb)
  replace B := hid (B.out.trans (hb.mono B.out.size))
  clear cc36a cc36b cc36c cc37a cc37b cc37c cc38a cc38b cc38c
  have HN6 := hid ht6
  have HD6 := hid hu6
  clear hb hv ht6 hu6
  obtain ⟨cc40a, cc40b, cc40c⟩ := X6.out.cells
  obtain ⟨cc41a, cc41b, cc41c⟩ := X13.out.cells
  obtain ⟨cc42a, cc42b, cc42c⟩ := X14.out.cells
  go_wp2_with fail
  refine (rqtext (QR.mk2 HN6.out HD6.out) (by omega)).mono ?_
  rintro e w43 ⟨rfl, hb⟩
  replace X6 := hid (X6.out.below hb X6.out.lt)
  replace X13 := hid (X13.out.below hb X13.out.lt)
  replace X14 := hid (X14.out.below hb X14.out.lt)
  replace HN1 := hid (HN1.out.on hb)
  replace HD1 := hid (HD1.out.on hb)
  replace HF := hid (HF.out.on hb)
  replace HN4 := hid (HN4.out.on hb)
  replace HD4 := hid (HD4.out.on hb)
  replace HN6 := hid (HN6.out.on hb)
  replace HD6 := hid (HD6.out.on hb)
  replace B := hid (B.out.trans (hb.mono B.out.size))
  clear cc40a cc40b cc40c cc41a cc41b cc41c cc42a cc42b cc42c
  clear hb 
  clear HN6
  clear HD6
  obtain ⟨cc44a, cc44b, cc44c⟩ := X6.out.cells
  obtain ⟨cc45a, cc45b, cc45c⟩ := X13.out.cells
  obtain ⟨cc46a, cc46b, cc46c⟩ := X14.out.cells
  go_wp2_with fail
  have hsn := rsgn (QR.mk2 HN4.out HD4.out) (by omega)
  have hs0 : ¬ (qnum b).num.sign = 0 := by rw [Int.sign_eq_zero_iff_zero, Rat.num_eq_zero]; exact Hhz.out
  refine (hsn).mono ?_
  rintro e w47 ⟨rfl, hb⟩
  replace X6 := hid (X6.out.below hb X6.out.lt)
  replace X13 := hid (X13.out.below hb X13.out.lt)
  replace X14 := hid (X14.out.below hb X14.out.lt)
  replace HN1 := hid (HN1.out.on hb)
  replace HD1 := hid (HD1.out.on hb)
  replace HF := hid (HF.out.on hb)
  replace HN4 := hid (HN4.out.on hb)
  replace HD4 := hid (HD4.out.on hb)
  replace B := hid (B.out.trans (hb.mono B.out.size))
  clear cc44a cc44b cc44c cc45a cc45b cc45c cc46a cc46b cc46c
  clear hb hsn
  obtain ⟨cc48a, cc48b, cc48c⟩ := X6.out.cells
  obtain ⟨cc49a, cc49b, cc49c⟩ := X13.out.cells
  obtain ⟨cc50a, cc50b, cc50c⟩ := X14.out.cells
  go_wp2_with fail
  refine (rdivq (QR.mk2 HN1.out HD1.out) (QR.mk2 HN4.out HD4.out) Hhz.out (by omega)).mono ?_
  rintro e w51 ⟨v, rfl, hv, hb⟩
  obtain ⟨s7a, p7a, n7a, c7a, p7b, n7b, c7b, rfl⟩ := hv.opened
  obtain ⟨ht7, hu7⟩ := hv.two
  replace X6 := hid (X6.out.below hb X6.out.lt)
  replace X13 := hid (X13.out.below hb X13.out.lt)
  replace X14 := hid (X14.out.below hb X14.out.lt)
  replace HN1 := hid (HN1.out.on hb)
  replace HD1 := hid (HD1.out.on hb)
  replace HF := hid (HF.out.on hb)
  replace HN4 := hid (HN4.out.on hb)
  replace HD4 := hid (HD4.out.on hb)
  replace B := hid (B.out.trans (hb.mono B.out.size))
  clear cc48a cc48b cc48c cc49a cc49b cc49c cc50a cc50b cc50c
  have HN7 := hid ht7
  have HD7 := hid hu7
  clear hb hv ht7 hu7
  obtain ⟨cc52a, cc52b, cc52c⟩ := X6.out.cells
  obtain ⟨cc53a, cc53b, cc53c⟩ := X13.out.cells
  obtain ⟨cc54a, cc54b, cc54c⟩ := X14.out.cells
  go_wp2_with fail
  refine (rqtext (QR.mk2 HN7.out HD7.out) (by omega)).mono ?_
  rintro e w55 ⟨rfl, hb⟩
  replace X6 := hid (X6.out.below hb X6.out.lt)
  replace X13 := hid (X13.out.below hb X13.out.lt)
  replace X14 := hid (X14.out.below hb X14.out.lt)
  replace HN1 := hid (HN1.out.on hb)
  replace HD1 := hid (HD1.out.on hb)
  replace HF := hid (HF.out.on hb)
  replace HN4 := hid (HN4.out.on hb)
  replace HD4 := hid (HD4.out.on hb)
  replace HN7 := hid (HN7.out.on hb)
  replace HD7 := hid (HD7.out.on hb)
  replace B := hid (B.out.trans (hb.mono B.out.size))
  clear cc52a cc52b cc52c cc53a cc53b cc53c cc54a cc54b cc54c
  clear hb 
  clear HN7
  clear HD7
  obtain ⟨cc56a, cc56b, cc56c⟩ := X6.out.cells
  obtain ⟨cc57a, cc57b, cc57c⟩ := X13.out.cells
  obtain ⟨cc58a, cc58b, cc58c⟩ := X14.out.cells
  go_wp2_with fail
  refine (rwholeof_bad Hhwa.out w55 sa).mono ?_
  rintro e w59 ⟨s8, p8, n8, c8, rfl, hb⟩
  replace X6 := hid (X6.out.below hb X6.out.lt)
  replace X13 := hid (X13.out.below hb X13.out.lt)
  replace X14 := hid (X14.out.below hb X14.out.lt)
  replace HN1 := hid (HN1.out.on hb)
  replace HD1 := hid (HD1.out.on hb)
  replace HF := hid (HF.out.on hb)
  replace HN4 := hid (HN4.out.on hb)
  replace HD4 := hid (HD4.out.on hb)
  replace B := hid (B.out.trans (hb.mono B.out.size))
  clear cc56a cc56b cc56c cc57a cc57b cc57c cc58a cc58b cc58c
  clear hb 
  have hb60 := (Below.refl _ _).alloc (Nat.le_refl w59.heap.size) (.cells #[.bool s8, .slice p8 n8 c8] 26)
  have hx61 := BoxR.new w59 s8 p8 n8 c8
  have L1 := hid X14.out.lt
  replace X6 := hid (X6.out.below hb60 X6.out.lt)
  replace X13 := hid (X13.out.below hb60 X13.out.lt)
  replace X14 := hid (X14.out.below hb60 X14.out.lt)
  replace HN1 := hid (HN1.out.on hb60)
  replace HD1 := hid (HD1.out.on hb60)
  replace HF := hid (HF.out.on hb60)
  replace HN4 := hid (HN4.out.on hb60)
  replace HD4 := hid (HD4.out.on hb60)
  replace B := hid (B.out.trans (hb60.mono B.out.size))
  have X19 := hid hx61
  have hs62 : (w59.alloc (.cells #[.bool s8, .slice p8 n8 c8] 26)).heap.size = w59.heap.size + 1 := by simp
  clear hb60 hx61
  obtain ⟨cc63a, cc63b, cc63c⟩ := X6.out.cells
  obtain ⟨cc64a, cc64b, cc64c⟩ := X13.out.cells
  obtain ⟨cc65a, cc65b, cc65c⟩ := X14.out.cells
  obtain ⟨cc66a, cc66b⟩ := X19.out.both
  go_wp2_with fail
  generalize hW : w59.alloc (.cells #[.bool s8, .slice p8 n8 c8] 26) = W67 at *
  clear hW
  refine (rwholeof_any Hhwb.out W67 sb).mono ?_
  rintro e w68 ⟨s9, p9, n9, c9, rfl, hb⟩
  replace X6 := hid (X6.out.below hb X6.out.lt)
  replace X13 := hid (X13.out.below hb X13.out.lt)
  replace X14 := hid (X14.out.below hb X14.out.lt)
  replace X19 := hid (X19.out.below hb X19.out.lt)
  replace HN1 := hid (HN1.out.on hb)
  replace HD1 := hid (HD1.out.on hb)
  replace HF := hid (HF.out.on hb)
  replace HN4 := hid (HN4.out.on hb)
  replace HD4 := hid (HD4.out.on hb)
  replace B := hid (B.out.trans (hb.mono B.out.size))
  clear cc63a cc63b cc63c cc64a cc64b cc64c cc65a cc65b cc65c cc66a cc66b
  clear hb 
  have hb69 := (Below.refl _ _).alloc (Nat.le_refl w68.heap.size) (.cells #[.bool s9, .slice p9 n9 c9] 26)
  have hx70 := BoxR.new w68 s9 p9 n9 c9
  have L2 := hid X19.out.lt
  replace X6 := hid (X6.out.below hb69 X6.out.lt)
  replace X13 := hid (X13.out.below hb69 X13.out.lt)
  replace X14 := hid (X14.out.below hb69 X14.out.lt)
  replace X19 := hid (X19.out.below hb69 X19.out.lt)
  replace HN1 := hid (HN1.out.on hb69)
  replace HD1 := hid (HD1.out.on hb69)
  replace HF := hid (HF.out.on hb69)
  replace HN4 := hid (HN4.out.on hb69)
  replace HD4 := hid (HD4.out.on hb69)
  replace B := hid (B.out.trans (hb69.mono B.out.size))
  have X21 := hid hx70
  have hs71 : (w68.alloc (.cells #[.bool s9, .slice p9 n9 c9] 26)).heap.size = w68.heap.size + 1 := by simp
  clear hb69 hx70
  obtain ⟨cc72a, cc72b, cc72c⟩ := X6.out.cells
  obtain ⟨cc73a, cc73b, cc73c⟩ := X13.out.cells
  obtain ⟨cc74a, cc74b, cc74c⟩ := X14.out.cells
  obtain ⟨cc75a, cc75b⟩ := X19.out.both
  obtain ⟨cc76a, cc76b⟩ := X21.out.both
  go_wp2_with fail
  generalize hW : w68.alloc (.cells #[.bool s9, .slice p9 n9 c9] 26) = W77 at *
  clear hW
  refine (two_some i j HI0.out W77).mono ?_
  rintro e w' ⟨rfl, rfl⟩
  obtain ⟨cc79a, cc79b, cc79c⟩ := X6.out.cells
  obtain ⟨cc80a, cc80b, cc80c⟩ := X13.out.cells
  obtain ⟨cc81a, cc81b, cc81c⟩ := X14.out.cells
  obtain ⟨cc82a, cc82b⟩ := X19.out.both
  obtain ⟨cc83a, cc83b⟩ := X21.out.both
  go_wp2_with fail
  refine (qadd_good Hha.out Hhb.out W77).mono ?_
  rintro e w84 ⟨rfl, hb⟩
  replace X6 := hid (X6.out.below hb X6.out.lt)
  replace X13 := hid (X13.out.below hb X13.out.lt)
  replace X14 := hid (X14.out.below hb X14.out.lt)
  replace X19 := hid (X19.out.below hb X19.out.lt)
  replace X21 := hid (X21.out.below hb X21.out.lt)
  replace HN1 := hid (HN1.out.on hb)
  replace HD1 := hid (HD1.out.on hb)
  replace HF := hid (HF.out.on hb)
  replace HN4 := hid (HN4.out.on hb)
  replace HD4 := hid (HD4.out.on hb)
  replace B := hid (B.out.trans (hb.mono B.out.size))
  clear cc72a cc72b cc72c cc73a cc73b cc73c cc74a cc74b cc74c cc75a cc75b cc76a cc76b cc79a cc79b cc79c cc80a cc80b cc80c cc81a cc81b cc81c cc82a cc82b cc83a cc83b
  clear hb 
  obtain ⟨cc85a, cc85b, cc85c⟩ := X6.out.cells
  obtain ⟨cc86a, cc86b, cc86c⟩ := X13.out.cells
  obtain ⟨cc87a, cc87b, cc87c⟩ := X14.out.cells
  obtain ⟨cc88a, cc88b⟩ := X19.out.both
  obtain ⟨cc89a, cc89b⟩ := X21.out.both
  go_wp2_with fail
  refine (same_nil w84 (HDR.out.below B.out)).mono ?_
  rintro e w90 ⟨rfl, hb⟩
  replace X6 := hid (X6.out.below hb X6.out.lt)
  replace X13 := hid (X13.out.below hb X13.out.lt)
  replace X14 := hid (X14.out.below hb X14.out.lt)
  replace X19 := hid (X19.out.below hb X19.out.lt)
  replace X21 := hid (X21.out.below hb X21.out.lt)
  replace HN1 := hid (HN1.out.on hb)
  replace HD1 := hid (HD1.out.on hb)
  replace HF := hid (HF.out.on hb)
  replace HN4 := hid (HN4.out.on hb)
  replace HD4 := hid (HD4.out.on hb)
  replace B := hid (B.out.trans (hb.mono B.out.size))
  clear cc85a cc85b cc85c cc86a cc86b cc86c cc87a cc87b cc87c cc88a cc88b cc89a cc89b
  clear hb 
  obtain ⟨cc91a, cc91b, cc91c⟩ := X6.out.cells
  obtain ⟨cc92a, cc92b, cc92c⟩ := X13.out.cells
  obtain ⟨cc93a, cc93b, cc93c⟩ := X14.out.cells
  obtain ⟨cc94a, cc94b⟩ := X19.out.both
  obtain ⟨cc95a, cc95b⟩ := X21.out.both
  go_wp2_with fail
  refine (qmul_good Hha.out Hhb.out w90).mono ?_
  rintro e w96 ⟨rfl, hb⟩
  replace X6 := hid (X6.out.below hb X6.out.lt)
  replace X13 := hid (X13.out.below hb X13.out.lt)
  replace X14 := hid (X14.out.below hb X14.out.lt)
  replace X19 := hid (X19.out.below hb X19.out.lt)
  replace X21 := hid (X21.out.below hb X21.out.lt)
  replace HN1 := hid (HN1.out.on hb)
  replace HD1 := hid (HD1.out.on hb)
  replace HF := hid (HF.out.on hb)
  replace HN4 := hid (HN4.out.on hb)
  replace HD4 := hid (HD4.out.on hb)
  replace B := hid (B.out.trans (hb.mono B.out.size))
  clear cc91a cc91b cc91c cc92a cc92b cc92c cc93a cc93b cc93c cc94a cc94b cc95a cc95b
  clear hb 
  obtain ⟨cc97a, cc97b, cc97c⟩ := X6.out.cells
  obtain ⟨cc98a, cc98b, cc98c⟩ := X13.out.cells
  obtain ⟨cc99a, cc99b, cc99c⟩ := X14.out.cells
  obtain ⟨cc100a, cc100b⟩ := X19.out.both
  obtain ⟨cc101a, cc101b⟩ := X21.out.both
  go_wp2_with fail
  refine (same_nil w96 (HDR.out.below B.out)).mono ?_
  rintro e w102 ⟨rfl, hb⟩
  replace X6 := hid (X6.out.below hb X6.out.lt)
  replace X13 := hid (X13.out.below hb X13.out.lt)
  replace X14 := hid (X14.out.below hb X14.out.lt)
  replace X19 := hid (X19.out.below hb X19.out.lt)
  replace X21 := hid (X21.out.below hb X21.out.lt)
  replace HN1 := hid (HN1.out.on hb)
  replace HD1 := hid (HD1.out.on hb)
  replace HF := hid (HF.out.on hb)
  replace HN4 := hid (HN4.out.on hb)
  replace HD4 := hid (HD4.out.on hb)
  replace B := hid (B.out.trans (hb.mono B.out.size))
  clear cc97a cc97b cc97c cc98a cc98b cc98c cc99a cc99b cc99c cc100a cc100b cc101a cc101b
  clear hb 
  obtain ⟨cc103a, cc103b, cc103c⟩ := X6.out.cells
  obtain ⟨cc104a, cc104b, cc104c⟩ := X13.out.cells
  obtain ⟨cc105a, cc105b, cc105c⟩ := X14.out.cells
  obtain ⟨cc106a, cc106b⟩ := X19.out.both
  obtain ⟨cc107a, cc107b⟩ := X21.out.both
  go_wp2_with fail
  refine (qdiv_good Hha.out Hhb.out Hhz.out w102).mono ?_
  rintro e w108 ⟨rfl, hb⟩
  replace X6 := hid (X6.out.below hb X6.out.lt)
  replace X13 := hid (X13.out.below hb X13.out.lt)
  replace X14 := hid (X14.out.below hb X14.out.lt)
  replace X19 := hid (X19.out.below hb X19.out.lt)
  replace X21 := hid (X21.out.below hb X21.out.lt)
  replace HN1 := hid (HN1.out.on hb)
  replace HD1 := hid (HD1.out.on hb)
  replace HF := hid (HF.out.on hb)
  replace HN4 := hid (HN4.out.on hb)
  replace HD4 := hid (HD4.out.on hb)
  replace B := hid (B.out.trans (hb.mono B.out.size))
  clear cc103a cc103b cc103c cc104a cc104b cc104c cc105a cc105b cc105c cc106a cc106b cc107a cc107b
  clear hb 
  obtain ⟨cc109a, cc109b, cc109c⟩ := X6.out.cells
  obtain ⟨cc110a, cc110b, cc110c⟩ := X13.out.cells
  obtain ⟨cc111a, cc111b, cc111c⟩ := X14.out.cells
  obtain ⟨cc112a, cc112b⟩ := X19.out.both
  obtain ⟨cc113a, cc113b⟩ := X21.out.both
  go_wp2_with fail
  refine (same_nil w108 (HDR.out.below B.out)).mono ?_
  rintro e w114 ⟨rfl, hb⟩
  replace X6 := hid (X6.out.below hb X6.out.lt)
  replace X13 := hid (X13.out.below hb X13.out.lt)
  replace X14 := hid (X14.out.below hb X14.out.lt)
  replace X19 := hid (X19.out.below hb X19.out.lt)
  replace X21 := hid (X21.out.below hb X21.out.lt)
  replace HN1 := hid (HN1.out.on hb)
  replace HD1 := hid (HD1.out.on hb)
  replace HF := hid (HF.out.on hb)
  replace HN4 := hid (HN4.out.on hb)
  replace HD4 := hid (HD4.out.on hb)
  replace B := hid (B.out.trans (hb.mono B.out.size))
  clear cc109a cc109b cc109c cc110a cc110b cc110c cc111a cc111b cc111c cc112a cc112b cc113a cc113b
  clear hb 
  obtain ⟨cc115a, cc115b, cc115c⟩ := X6.out.cells
  obtain ⟨cc116a, cc116b, cc116c⟩ := X13.out.cells
  obtain ⟨cc117a, cc117b, cc117c⟩ := X14.out.cells
  obtain ⟨cc118a, cc118b⟩ := X19.out.both
  obtain ⟨cc119a, cc119b⟩ := X21.out.both
  go_wp2_with fail
  have hls := qless_good Hha.out Hhb.out w114
  generalize hli : decide (qnum a < qnum b) = li at hls
  refine (hls).mono ?_
  rintro e w120 ⟨rfl, hb⟩
  replace X6 := hid (X6.out.below hb X6.out.lt)
  replace X13 := hid (X13.out.below hb X13.out.lt)
  replace X14 := hid (X14.out.below hb X14.out.lt)
  replace X19 := hid (X19.out.below hb X19.out.lt)
  replace X21 := hid (X21.out.below hb X21.out.lt)
  replace HN1 := hid (HN1.out.on hb)
  replace HD1 := hid (HD1.out.on hb)
  replace HF := hid (HF.out.on hb)
  replace HN4 := hid (HN4.out.on hb)
  replace HD4 := hid (HD4.out.on hb)
  replace B := hid (B.out.trans (hb.mono B.out.size))
  clear cc115a cc115b cc115c cc116a cc116b cc116c cc117a cc117b cc117c cc118a cc118b cc119a cc119b
  clear hb hls
  obtain ⟨cc121a, cc121b, cc121c⟩ := X6.out.cells
  obtain ⟨cc122a, cc122b, cc122c⟩ := X13.out.cells
  obtain ⟨cc123a, cc123b, cc123c⟩ := X14.out.cells
  obtain ⟨cc124a, cc124b⟩ := X19.out.both
  obtain ⟨cc125a, cc125b⟩ := X21.out.both
  go_wp2_with fail
  refine (same_nil w120 (HDR.out.below B.out)).mono ?_
  rintro e w126 ⟨rfl, hb⟩
  replace X6 := hid (X6.out.below hb X6.out.lt)
  replace X13 := hid (X13.out.below hb X13.out.lt)
  replace X14 := hid (X14.out.below hb X14.out.lt)
  replace X19 := hid (X19.out.below hb X19.out.lt)
  replace X21 := hid (X21.out.below hb X21.out.lt)
  replace HN1 := hid (HN1.out.on hb)
  replace HD1 := hid (HD1.out.on hb)
  replace HF := hid (HF.out.on hb)
  replace HN4 := hid (HN4.out.on hb)
  replace HD4 := hid (HD4.out.on hb)
  replace B := hid (B.out.trans (hb.mono B.out.size))
  clear cc121a cc121b cc121c cc122a cc122b cc122c cc123a cc123b cc123c cc124a cc124b cc125a cc125b
  clear hb 
  obtain ⟨cc127a, cc127b, cc127c⟩ := X6.out.cells
  obtain ⟨cc128a, cc128b, cc128c⟩ := X13.out.cells
  obtain ⟨cc129a, cc129b, cc129c⟩ := X14.out.cells
  obtain ⟨cc130a, cc130b⟩ := X19.out.both
  obtain ⟨cc131a, cc131b⟩ := X21.out.both
  go_wp2_with fail
  refine (qmake_bad (k := i) (.inl Hhwa.out) sa sb w126).mono ?_
  rintro e w132 ⟨rfl, hb⟩
  replace X6 := hid (X6.out.below hb X6.out.lt)
  replace X13 := hid (X13.out.below hb X13.out.lt)
  replace X14 := hid (X14.out.below hb X14.out.lt)
  replace X19 := hid (X19.out.below hb X19.out.lt)
  replace X21 := hid (X21.out.below hb X21.out.lt)
  replace HN1 := hid (HN1.out.on hb)
  replace HD1 := hid (HD1.out.on hb)
  replace HF := hid (HF.out.on hb)
  replace HN4 := hid (HN4.out.on hb)
  replace HD4 := hid (HD4.out.on hb)
  replace B := hid (B.out.trans (hb.mono B.out.size))
  clear cc127a cc127b cc127c cc128a cc128b cc128c cc129a cc129b cc129c cc130a cc130b cc131a cc131b
  clear hb 
  obtain ⟨cc133a, cc133b, cc133c⟩ := X6.out.cells
  obtain ⟨cc134a, cc134b, cc134c⟩ := X13.out.cells
  obtain ⟨cc135a, cc135b, cc135c⟩ := X14.out.cells
  obtain ⟨cc136a, cc136b⟩ := X19.out.both
  obtain ⟨cc137a, cc137b⟩ := X21.out.both
  go_wp2_with fail
  refine (same_no i HI0.out w132 (HDR.out.below B.out)).mono ?_
  rintro e w138 ⟨rfl, hb⟩
  replace X6 := hid (X6.out.below hb X6.out.lt)
  replace X13 := hid (X13.out.below hb X13.out.lt)
  replace X14 := hid (X14.out.below hb X14.out.lt)
  replace X19 := hid (X19.out.below hb X19.out.lt)
  replace X21 := hid (X21.out.below hb X21.out.lt)
  replace HN1 := hid (HN1.out.on hb)
  replace HD1 := hid (HD1.out.on hb)
  replace HF := hid (HF.out.on hb)
  replace HN4 := hid (HN4.out.on hb)
  replace HD4 := hid (HD4.out.on hb)
  replace B := hid (B.out.trans (hb.mono B.out.size))
  clear cc133a cc133b cc133c cc134a cc134b cc134c cc135a cc135b cc135c cc136a cc136b cc137a cc137b
  clear hb 
  obtain ⟨cc139a, cc139b, cc139c⟩ := X6.out.cells
  obtain ⟨cc140a, cc140b, cc140c⟩ := X13.out.cells
  obtain ⟨cc141a, cc141b, cc141c⟩ := X14.out.cells
  obtain ⟨cc142a, cc142b⟩ := X19.out.both
  obtain ⟨cc143a, cc143b⟩ := X21.out.both
  go_wp2_with fail
  have hcm := rcmp (QR.mk2 HN1.out HD1.out) (QR.mk2 HN4.out HD4.out) (by omega)
  refine (hcm).mono ?_
  rintro e w144 ⟨rfl, hb⟩
  replace X6 := hid (X6.out.below hb X6.out.lt)
  replace X13 := hid (X13.out.below hb X13.out.lt)
  replace X14 := hid (X14.out.below hb X14.out.lt)
  replace X19 := hid (X19.out.below hb X19.out.lt)
  replace X21 := hid (X21.out.below hb X21.out.lt)
  replace HN1 := hid (HN1.out.on hb)
  replace HD1 := hid (HD1.out.on hb)
  replace HF := hid (HF.out.on hb)
  replace HN4 := hid (HN4.out.on hb)
  replace HD4 := hid (HD4.out.on hb)
  replace B := hid (B.out.trans (hb.mono B.out.size))
  clear cc139a cc139b cc139c cc140a cc140b cc140c cc141a cc141b cc141c cc142a cc142b cc143a cc143b
  clear hb hcm
  go_wp2_with fail
  go_ret
  exact ⟨ret_bool (by rw [← hli, less_sub]; simp), B.out⟩

end Go.Proofs.YtckkbjnipacodaaGreatDoor

/-
  RatTells: a case.
-/
namespace Go.Proofs.YtckkbjnipacodaaGreatDoor
open Go.RowKit
open Num4
open Num (dg isNat dval)
set_option linter.unusedVariables false
set_option maxRecDepth 100000
set_option linter.unusedSimpArgs false

set_option maxHeartbeats 32000000 in
theorem rtells_nb (a b : ByteArray) (sa : a.size ≤ maxLen) (sb : b.size ≤ maxLen) {k i j : Int} (ha : GoodQ a) (hb : GoodQ b) (hz : qnum b ≠ 0) (hwa : GoodZ a) (hwb : BadZ b j) (hj0 : j ≠ 0) (w : World) (hd : Door w) :
    Calls Tryz.prog 3 #[.string a, .string b] w fun e w' => e = .returned (.bool true) ∧ Below w.heap.size w w' := by
  have Hha := hid ha
  have Hhb := hid hb
  have Hhz := hid hz
  have Hhwa := hid hwa
  have Hhwb := hid hwb
  have HJ0 := hid hj0
  have HDR := hid hd
  have B := hid (Below.refl w.heap.size w)
  have hjb : (j == 0) = false := by simpa using hj0
  clear  ha hb hz hwa hwb hd
  go_enter Tryz.func3, Tryz.ntmps3
  go_wp2_with fail
  refine (halved_true w).mono ?_
  rintro e w1 ⟨rfl, hb⟩
  replace B := hid (B.out.trans (hb.mono B.out.size))
  clear hb 
  go_wp2_with fail
  refine (ratof_good Hha.out w1).mono ?_
  rintro e w2 ⟨v, rfl, hv, hb⟩
  obtain ⟨s1a, p1a, n1a, c1a, p1b, n1b, c1b, rfl⟩ := hv.opened
  obtain ⟨ht1, hu1⟩ := hv.two
  replace B := hid (B.out.trans (hb.mono B.out.size))
  have HN1 := hid ht1
  have HD1 := hid hu1
  clear hb hv ht1 hu1
  have hb3 := (Below.refl _ _).alloc (Nat.le_refl w2.heap.size) (.cells #[.bool s1a, .slice p1a n1a c1a, .slice p1b n1b c1b] 28)
  have hx4 := Qbx.new w2 s1a p1a n1a c1a p1b n1b c1b
  replace HN1 := hid (HN1.out.on hb3)
  replace HD1 := hid (HD1.out.on hb3)
  replace B := hid (B.out.trans (hb3.mono B.out.size))
  have X6 := hid hx4
  have hs5 : (w2.alloc (.cells #[.bool s1a, .slice p1a n1a c1a, .slice p1b n1b c1b] 28)).heap.size = w2.heap.size + 1 := by simp
  clear hb3 hx4
  obtain ⟨cc6a, cc6b, cc6c⟩ := X6.out.cells
  go_wp2_with fail
  generalize hW : w2.alloc (.cells #[.bool s1a, .slice p1a n1a c1a, .slice p1b n1b c1b] 28) = W7 at *
  clear hW
  refine (qcheck_good Hha.out W7).mono ?_
  rintro e w8 ⟨rfl, hb⟩
  replace X6 := hid (X6.out.below hb X6.out.lt)
  replace HN1 := hid (HN1.out.on hb)
  replace HD1 := hid (HD1.out.on hb)
  replace B := hid (B.out.trans (hb.mono B.out.size))
  clear cc6a cc6b cc6c
  clear hb 
  obtain ⟨cc9a, cc9b, cc9c⟩ := X6.out.cells
  go_wp2_with fail
  refine (same_nil w8 (HDR.out.below B.out)).mono ?_
  rintro e w10 ⟨rfl, hb⟩
  replace X6 := hid (X6.out.below hb X6.out.lt)
  replace HN1 := hid (HN1.out.on hb)
  replace HD1 := hid (HD1.out.on hb)
  replace B := hid (B.out.trans (hb.mono B.out.size))
  clear cc9a cc9b cc9c
  clear hb 
  obtain ⟨cc11a, cc11b, cc11c⟩ := X6.out.cells
  go_wp2_with fail
  refine (rfloor (QR.mk2 HN1.out HD1.out) (by omega) (by omega)).mono ?_
  rintro e w12 ⟨v, rfl, hv, hb⟩
  obtain ⟨s2, p2, n2, c2, rfl⟩ := hv.opened
  replace X6 := hid (X6.out.below hb X6.out.lt)
  replace HN1 := hid (HN1.out.on hb)
  replace HD1 := hid (HD1.out.on hb)
  replace B := hid (B.out.trans (hb.mono B.out.size))
  clear cc11a cc11b cc11c
  have HF := hid hv
  clear hb hv
  obtain ⟨cc13a, cc13b, cc13c⟩ := X6.out.cells
  go_wp2_with fail
  refine (rtextz HF.out (by omega)).mono ?_
  rintro e w14 ⟨rfl, hb⟩
  replace X6 := hid (X6.out.below hb X6.out.lt)
  replace HN1 := hid (HN1.out.on hb)
  replace HD1 := hid (HD1.out.on hb)
  replace HF := hid (HF.out.on hb)
  replace B := hid (B.out.trans (hb.mono B.out.size))
  clear cc13a cc13b cc13c
  clear hb 
  obtain ⟨cc15a, cc15b, cc15c⟩ := X6.out.cells
  go_wp2_with fail
  refine (qfloor_good Hha.out w14).mono ?_
  rintro e w16 ⟨rfl, hb⟩
  replace X6 := hid (X6.out.below hb X6.out.lt)
  replace HN1 := hid (HN1.out.on hb)
  replace HD1 := hid (HD1.out.on hb)
  replace HF := hid (HF.out.on hb)
  replace B := hid (B.out.trans (hb.mono B.out.size))
  clear cc15a cc15b cc15c
  clear hb 
  obtain ⟨cc17a, cc17b, cc17c⟩ := X6.out.cells
  go_wp2_with fail
  refine (same_nil w16 (HDR.out.below B.out)).mono ?_
  rintro e w18 ⟨rfl, hb⟩
  replace X6 := hid (X6.out.below hb X6.out.lt)
  replace HN1 := hid (HN1.out.on hb)
  replace HD1 := hid (HD1.out.on hb)
  replace HF := hid (HF.out.on hb)
  replace B := hid (B.out.trans (hb.mono B.out.size))
  clear cc17a cc17b cc17c
  clear hb 
  obtain ⟨cc19a, cc19b, cc19c⟩ := X6.out.cells
  go_wp2_with fail
  refine (rtwo3 (k := 0) Hha.out Hhb.out sa sb w18).mono ?_
  rintro e w20 ⟨v, u, rfl, hv, hu, hb⟩
  obtain ⟨s3a, p3a, n3a, c3a, p3b, n3b, c3b, rfl⟩ := hv.opened
  obtain ⟨s4a, p4a, n4a, c4a, p4b, n4b, c4b, rfl⟩ := hu.opened
  obtain ⟨ht3, hu3⟩ := hv.two
  obtain ⟨ht4, hu4⟩ := hu.two
  replace X6 := hid (X6.out.below hb X6.out.lt)
  replace HN1 := hid (HN1.out.on hb)
  replace HD1 := hid (HD1.out.on hb)
  replace HF := hid (HF.out.on hb)
  replace B := hid (B.out.trans (hb.mono B.out.size))
  clear cc19a cc19b cc19c
  have HN4 := hid ht4
  have HD4 := hid hu4
  clear hb hv hu ht3 hu3 ht4 hu4
  have hb21 := (Below.refl _ _).alloc (Nat.le_refl w20.heap.size) (.cells #[.bool s3a, .slice p3a n3a c3a, .slice p3b n3b c3b] 28)
  have hx22 := Qbx.new w20 s3a p3a n3a c3a p3b n3b c3b
  have L0 := hid X6.out.lt
  replace X6 := hid (X6.out.below hb21 X6.out.lt)
  replace HN1 := hid (HN1.out.on hb21)
  replace HD1 := hid (HD1.out.on hb21)
  replace HF := hid (HF.out.on hb21)
  replace HN4 := hid (HN4.out.on hb21)
  replace HD4 := hid (HD4.out.on hb21)
  replace B := hid (B.out.trans (hb21.mono B.out.size))
  have X13 := hid hx22
  have hs23 : (w20.alloc (.cells #[.bool s3a, .slice p3a n3a c3a, .slice p3b n3b c3b] 28)).heap.size = w20.heap.size + 1 := by simp
  clear hb21 hx22
  have hb24 := (Below.refl _ _).alloc (Nat.le_refl (w20.alloc (.cells #[.bool s3a, .slice p3a n3a c3a, .slice p3b n3b c3b] 28)).heap.size) (.cells #[.bool s4a, .slice p4a n4a c4a, .slice p4b n4b c4b] 28)
  have hx25 := Qbx.new (w20.alloc (.cells #[.bool s3a, .slice p3a n3a c3a, .slice p3b n3b c3b] 28)) s4a p4a n4a c4a p4b n4b c4b
  rw [hs23] at hx25
  replace X6 := hid (X6.out.below hb24 X6.out.lt)
  replace X13 := hid (X13.out.below hb24 X13.out.lt)
  replace HN1 := hid (HN1.out.on hb24)
  replace HD1 := hid (HD1.out.on hb24)
  replace HF := hid (HF.out.on hb24)
  replace HN4 := hid (HN4.out.on hb24)
  replace HD4 := hid (HD4.out.on hb24)
  replace B := hid (B.out.trans (hb24.mono B.out.size))
  have X14 := hid hx25
  have hs26 : ((w20.alloc (.cells #[.bool s3a, .slice p3a n3a c3a, .slice p3b n3b c3b] 28)).alloc (.cells #[.bool s4a, .slice p4a n4a c4a, .slice p4b n4b c4b] 28)).heap.size = w20.heap.size + 1 + 1 := by simp [hs23]
  clear hb24 hx25
  obtain ⟨cc27a, cc27b, cc27c⟩ := X6.out.cells
  obtain ⟨cc28a, cc28b, cc28c⟩ := X13.out.cells
  obtain ⟨cc29a, cc29b, cc29c⟩ := X14.out.cells
  go_wp2_with fail
  generalize hW : (w20.alloc (.cells #[.bool s3a, .slice p3a n3a c3a, .slice p3b n3b c3b] 28)).alloc (.cells #[.bool s4a, .slice p4a n4a c4a, .slice p4b n4b c4b] 28) = W30 at *
  clear hW
  refine (radd (QR.mk2 HN1.out HD1.out) (QR.mk2 HN4.out HD4.out) (by omega)).mono ?_
  rintro e w31 ⟨v, rfl, hv, hb⟩
  obtain ⟨s5a, p5a, n5a, c5a, p5b, n5b, c5b, rfl⟩ := hv.opened
  obtain ⟨ht5, hu5⟩ := hv.two
  replace X6 := hid (X6.out.below hb X6.out.lt)
  replace X13 := hid (X13.out.below hb X13.out.lt)
  replace X14 := hid (X14.out.below hb X14.out.lt)
  replace HN1 := hid (HN1.out.on hb)
  replace HD1 := hid (HD1.out.on hb)
  replace HF := hid (HF.out.on hb)
  replace HN4 := hid (HN4.out.on hb)
  replace HD4 := hid (HD4.out.on hb)
  replace B := hid (B.out.trans (hb.mono B.out.size))
  clear cc27a cc27b cc27c cc28a cc28b cc28c cc29a cc29b cc29c
  have HN5 := hid ht5
  have HD5 := hid hu5
  clear hb hv ht5 hu5
  obtain ⟨cc32a, cc32b, cc32c⟩ := X6.out.cells
  obtain ⟨cc33a, cc33b, cc33c⟩ := X13.out.cells
  obtain ⟨cc34a, cc34b, cc34c⟩ := X14.out.cells
  go_wp2_with fail
  refine (rqtext (QR.mk2 HN5.out HD5.out) (by omega)).mono ?_
  rintro e w35 ⟨rfl, hb⟩
  replace X6 := hid (X6.out.below hb X6.out.lt)
  replace X13 := hid (X13.out.below hb X13.out.lt)
  replace X14 := hid (X14.out.below hb X14.out.lt)
  replace HN1 := hid (HN1.out.on hb)
  replace HD1 := hid (HD1.out.on hb)
  replace HF := hid (HF.out.on hb)
  replace HN4 := hid (HN4.out.on hb)
  replace HD4 := hid (HD4.out.on hb)
  replace HN5 := hid (HN5.out.on hb)
  replace HD5 := hid (HD5.out.on hb)
  replace B := hid (B.out.trans (hb.mono B.out.size))
  clear cc32a cc32b cc32c cc33a cc33b cc33c cc34a cc34b cc34c
  clear hb 
  clear HN5
  clear HD5
  obtain ⟨cc36a, cc36b, cc36c⟩ := X6.out.cells
  obtain ⟨cc37a, cc37b, cc37c⟩ := X13.out.cells
  obtain ⟨cc38a, cc38b, cc38c⟩ := X14.out.cells
  go_wp2_with fail
  refine (rmul (QR.mk2 HN1.out HD1.out) (QR.mk2 HN4.out HD4.out) (by omega)).mono ?_
  rintro e w39 ⟨v, rfl, hv, hb⟩
  obtain ⟨s6a, p6a, n6a, c6a, p6b, n6b, c6b, rfl⟩ := hv.opened
  obtain ⟨ht6, hu6⟩ := hv.two
  replace X6 := hid (X6.out.below hb X6.out.lt)
  replace X13 := hid (X13.out.below hb X13.out.lt)
  replace X14 := hid (X14.out.below hb X14.out.lt)
  replace HN1 := hid (HN1.out.on hb)
  replace HD1 := hid (HD1.out.on hb)
  replace HF := hid (HF.out.on hb)
  replace HN4 := hid (HN4.out.on hb)
  replace HD4 := hid (HD4.out.on hb)
  replace B := hid (B.out.trans (hb.mono B.out.size))
  clear cc36a cc36b cc36c cc37a cc37b cc37c cc38a cc38b cc38c
  have HN6 := hid ht6
  have HD6 := hid hu6
  clear hb hv ht6 hu6
  obtain ⟨cc40a, cc40b, cc40c⟩ := X6.out.cells
  obtain ⟨cc41a, cc41b, cc41c⟩ := X13.out.cells
  obtain ⟨cc42a, cc42b, cc42c⟩ := X14.out.cells
  go_wp2_with fail
  refine (rqtext (QR.mk2 HN6.out HD6.out) (by omega)).mono ?_
  rintro e w43 ⟨rfl, hb⟩
  replace X6 := hid (X6.out.below hb X6.out.lt)
  replace X13 := hid (X13.out.below hb X13.out.lt)
  replace X14 := hid (X14.out.below hb X14.out.lt)
  replace HN1 := hid (HN1.out.on hb)
  replace HD1 := hid (HD1.out.on hb)
  replace HF := hid (HF.out.on hb)
  replace HN4 := hid (HN4.out.on hb)
  replace HD4 := hid (HD4.out.on hb)
  replace HN6 := hid (HN6.out.on hb)
  replace HD6 := hid (HD6.out.on hb)
  replace B := hid (B.out.trans (hb.mono B.out.size))
  clear cc40a cc40b cc40c cc41a cc41b cc41c cc42a cc42b cc42c
  clear hb 
  clear HN6
  clear HD6
  obtain ⟨cc44a, cc44b, cc44c⟩ := X6.out.cells
  obtain ⟨cc45a, cc45b, cc45c⟩ := X13.out.cells
  obtain ⟨cc46a, cc46b, cc46c⟩ := X14.out.cells
  go_wp2_with fail
  have hsn := rsgn (QR.mk2 HN4.out HD4.out) (by omega)
  have hs0 : ¬ (qnum b).num.sign = 0 := by rw [Int.sign_eq_zero_iff_zero, Rat.num_eq_zero]; exact Hhz.out
  refine (hsn).mono ?_
  rintro e w47 ⟨rfl, hb⟩
  replace X6 := hid (X6.out.below hb X6.out.lt)
  replace X13 := hid (X13.out.below hb X13.out.lt)
  replace X14 := hid (X14.out.below hb X14.out.lt)
  replace HN1 := hid (HN1.out.on hb)
  replace HD1 := hid (HD1.out.on hb)
  replace HF := hid (HF.out.on hb)
  replace HN4 := hid (HN4.out.on hb)
  replace HD4 := hid (HD4.out.on hb)
  replace B := hid (B.out.trans (hb.mono B.out.size))
  clear cc44a cc44b cc44c cc45a cc45b cc45c cc46a cc46b cc46c
  clear hb hsn
  obtain ⟨cc48a, cc48b, cc48c⟩ := X6.out.cells
  obtain ⟨cc49a, cc49b, cc49c⟩ := X13.out.cells
  obtain ⟨cc50a, cc50b, cc50c⟩ := X14.out.cells
  go_wp2_with fail
  refine (rdivq (QR.mk2 HN1.out HD1.out) (QR.mk2 HN4.out HD4.out) Hhz.out (by omega)).mono ?_
  rintro e w51 ⟨v, rfl, hv, hb⟩
  obtain ⟨s7a, p7a, n7a, c7a, p7b, n7b, c7b, rfl⟩ := hv.opened
  obtain ⟨ht7, hu7⟩ := hv.two
  replace X6 := hid (X6.out.below hb X6.out.lt)
  replace X13 := hid (X13.out.below hb X13.out.lt)
  replace X14 := hid (X14.out.below hb X14.out.lt)
  replace HN1 := hid (HN1.out.on hb)
  replace HD1 := hid (HD1.out.on hb)
  replace HF := hid (HF.out.on hb)
  replace HN4 := hid (HN4.out.on hb)
  replace HD4 := hid (HD4.out.on hb)
  replace B := hid (B.out.trans (hb.mono B.out.size))
  clear cc48a cc48b cc48c cc49a cc49b cc49c cc50a cc50b cc50c
  have HN7 := hid ht7
  have HD7 := hid hu7
  clear hb hv ht7 hu7
  obtain ⟨cc52a, cc52b, cc52c⟩ := X6.out.cells
  obtain ⟨cc53a, cc53b, cc53c⟩ := X13.out.cells
  obtain ⟨cc54a, cc54b, cc54c⟩ := X14.out.cells
  go_wp2_with fail
  refine (rqtext (QR.mk2 HN7.out HD7.out) (by omega)).mono ?_
  rintro e w55 ⟨rfl, hb⟩
  replace X6 := hid (X6.out.below hb X6.out.lt)
  replace X13 := hid (X13.out.below hb X13.out.lt)
  replace X14 := hid (X14.out.below hb X14.out.lt)
  replace HN1 := hid (HN1.out.on hb)
  replace HD1 := hid (HD1.out.on hb)
  replace HF := hid (HF.out.on hb)
  replace HN4 := hid (HN4.out.on hb)
  replace HD4 := hid (HD4.out.on hb)
  replace HN7 := hid (HN7.out.on hb)
  replace HD7 := hid (HD7.out.on hb)
  replace B := hid (B.out.trans (hb.mono B.out.size))
  clear cc52a cc52b cc52c cc53a cc53b cc53c cc54a cc54b cc54c
  clear hb 
  clear HN7
  clear HD7
  obtain ⟨cc56a, cc56b, cc56c⟩ := X6.out.cells
  obtain ⟨cc57a, cc57b, cc57c⟩ := X13.out.cells
  obtain ⟨cc58a, cc58b, cc58c⟩ := X14.out.cells
  go_wp2_with fail
  refine (rwholeof_good Hhwa.out w55).mono ?_
  rintro e w59 ⟨v, rfl, hv, hb⟩
  obtain ⟨s8, p8, n8, c8, rfl⟩ := hv.opened
  replace X6 := hid (X6.out.below hb X6.out.lt)
  replace X13 := hid (X13.out.below hb X13.out.lt)
  replace X14 := hid (X14.out.below hb X14.out.lt)
  replace HN1 := hid (HN1.out.on hb)
  replace HD1 := hid (HD1.out.on hb)
  replace HF := hid (HF.out.on hb)
  replace HN4 := hid (HN4.out.on hb)
  replace HD4 := hid (HD4.out.on hb)
  replace B := hid (B.out.trans (hb.mono B.out.size))
  clear cc56a cc56b cc56c cc57a cc57b cc57c cc58a cc58b cc58c
  have HW8 := hid hv
  clear hb hv
  have hb60 := (Below.refl _ _).alloc (Nat.le_refl w59.heap.size) (.cells #[.bool s8, .slice p8 n8 c8] 26)
  have hx61 := BoxR.new w59 s8 p8 n8 c8
  have L1 := hid X14.out.lt
  replace X6 := hid (X6.out.below hb60 X6.out.lt)
  replace X13 := hid (X13.out.below hb60 X13.out.lt)
  replace X14 := hid (X14.out.below hb60 X14.out.lt)
  replace HN1 := hid (HN1.out.on hb60)
  replace HD1 := hid (HD1.out.on hb60)
  replace HF := hid (HF.out.on hb60)
  replace HN4 := hid (HN4.out.on hb60)
  replace HD4 := hid (HD4.out.on hb60)
  replace HW8 := hid (HW8.out.on hb60)
  replace B := hid (B.out.trans (hb60.mono B.out.size))
  have X19 := hid hx61
  have hs62 : (w59.alloc (.cells #[.bool s8, .slice p8 n8 c8] 26)).heap.size = w59.heap.size + 1 := by simp
  clear hb60 hx61
  obtain ⟨cc63a, cc63b, cc63c⟩ := X6.out.cells
  obtain ⟨cc64a, cc64b, cc64c⟩ := X13.out.cells
  obtain ⟨cc65a, cc65b, cc65c⟩ := X14.out.cells
  obtain ⟨cc66a, cc66b⟩ := X19.out.both
  go_wp2_with fail
  generalize hW : w59.alloc (.cells #[.bool s8, .slice p8 n8 c8] 26) = W67 at *
  clear hW
  refine (rwholeof_bad Hhwb.out W67 sb).mono ?_
  rintro e w68 ⟨s9, p9, n9, c9, rfl, hb⟩
  replace X6 := hid (X6.out.below hb X6.out.lt)
  replace X13 := hid (X13.out.below hb X13.out.lt)
  replace X14 := hid (X14.out.below hb X14.out.lt)
  replace X19 := hid (X19.out.below hb X19.out.lt)
  replace HN1 := hid (HN1.out.on hb)
  replace HD1 := hid (HD1.out.on hb)
  replace HF := hid (HF.out.on hb)
  replace HN4 := hid (HN4.out.on hb)
  replace HD4 := hid (HD4.out.on hb)
  replace HW8 := hid (HW8.out.on hb)
  replace B := hid (B.out.trans (hb.mono B.out.size))
  clear cc63a cc63b cc63c cc64a cc64b cc64c cc65a cc65b cc65c cc66a cc66b
  clear hb 
  have hb69 := (Below.refl _ _).alloc (Nat.le_refl w68.heap.size) (.cells #[.bool s9, .slice p9 n9 c9] 26)
  have hx70 := BoxR.new w68 s9 p9 n9 c9
  have L2 := hid X19.out.lt
  replace X6 := hid (X6.out.below hb69 X6.out.lt)
  replace X13 := hid (X13.out.below hb69 X13.out.lt)
  replace X14 := hid (X14.out.below hb69 X14.out.lt)
  replace X19 := hid (X19.out.below hb69 X19.out.lt)
  replace HN1 := hid (HN1.out.on hb69)
  replace HD1 := hid (HD1.out.on hb69)
  replace HF := hid (HF.out.on hb69)
  replace HN4 := hid (HN4.out.on hb69)
  replace HD4 := hid (HD4.out.on hb69)
  replace HW8 := hid (HW8.out.on hb69)
  replace B := hid (B.out.trans (hb69.mono B.out.size))
  have X21 := hid hx70
  have hs71 : (w68.alloc (.cells #[.bool s9, .slice p9 n9 c9] 26)).heap.size = w68.heap.size + 1 := by simp
  clear hb69 hx70
  obtain ⟨cc72a, cc72b, cc72c⟩ := X6.out.cells
  obtain ⟨cc73a, cc73b, cc73c⟩ := X13.out.cells
  obtain ⟨cc74a, cc74b, cc74c⟩ := X14.out.cells
  obtain ⟨cc75a, cc75b⟩ := X19.out.both
  obtain ⟨cc76a, cc76b⟩ := X21.out.both
  go_wp2_with fail
  generalize hW : w68.alloc (.cells #[.bool s9, .slice p9 n9 c9] 26) = W77 at *
  clear hW
  refine (two_zero j W77).mono ?_
  rintro e w' ⟨rfl, rfl⟩
  obtain ⟨cc79a, cc79b, cc79c⟩ := X6.out.cells
  obtain ⟨cc80a, cc80b, cc80c⟩ := X13.out.cells
  obtain ⟨cc81a, cc81b, cc81c⟩ := X14.out.cells
  obtain ⟨cc82a, cc82b⟩ := X19.out.both
  obtain ⟨cc83a, cc83b⟩ := X21.out.both
  go_wp2_with fail
  refine (qadd_good Hha.out Hhb.out W77).mono ?_
  rintro e w84 ⟨rfl, hb⟩
  replace X6 := hid (X6.out.below hb X6.out.lt)
  replace X13 := hid (X13.out.below hb X13.out.lt)
  replace X14 := hid (X14.out.below hb X14.out.lt)
  replace X19 := hid (X19.out.below hb X19.out.lt)
  replace X21 := hid (X21.out.below hb X21.out.lt)
  replace HN1 := hid (HN1.out.on hb)
  replace HD1 := hid (HD1.out.on hb)
  replace HF := hid (HF.out.on hb)
  replace HN4 := hid (HN4.out.on hb)
  replace HD4 := hid (HD4.out.on hb)
  replace HW8 := hid (HW8.out.on hb)
  replace B := hid (B.out.trans (hb.mono B.out.size))
  clear cc72a cc72b cc72c cc73a cc73b cc73c cc74a cc74b cc74c cc75a cc75b cc76a cc76b cc79a cc79b cc79c cc80a cc80b cc80c cc81a cc81b cc81c cc82a cc82b cc83a cc83b
  clear hb 
  obtain ⟨cc85a, cc85b, cc85c⟩ := X6.out.cells
  obtain ⟨cc86a, cc86b, cc86c⟩ := X13.out.cells
  obtain ⟨cc87a, cc87b, cc87c⟩ := X14.out.cells
  obtain ⟨cc88a, cc88b⟩ := X19.out.both
  obtain ⟨cc89a, cc89b⟩ := X21.out.both
  go_wp2_with fail
  refine (same_nil w84 (HDR.out.below B.out)).mono ?_
  rintro e w90 ⟨rfl, hb⟩
  replace X6 := hid (X6.out.below hb X6.out.lt)
  replace X13 := hid (X13.out.below hb X13.out.lt)
  replace X14 := hid (X14.out.below hb X14.out.lt)
  replace X19 := hid (X19.out.below hb X19.out.lt)
  replace X21 := hid (X21.out.below hb X21.out.lt)
  replace HN1 := hid (HN1.out.on hb)
  replace HD1 := hid (HD1.out.on hb)
  replace HF := hid (HF.out.on hb)
  replace HN4 := hid (HN4.out.on hb)
  replace HD4 := hid (HD4.out.on hb)
  replace HW8 := hid (HW8.out.on hb)
  replace B := hid (B.out.trans (hb.mono B.out.size))
  clear cc85a cc85b cc85c cc86a cc86b cc86c cc87a cc87b cc87c cc88a cc88b cc89a cc89b
  clear hb 
  obtain ⟨cc91a, cc91b, cc91c⟩ := X6.out.cells
  obtain ⟨cc92a, cc92b, cc92c⟩ := X13.out.cells
  obtain ⟨cc93a, cc93b, cc93c⟩ := X14.out.cells
  obtain ⟨cc94a, cc94b⟩ := X19.out.both
  obtain ⟨cc95a, cc95b⟩ := X21.out.both
  go_wp2_with fail
  refine (qmul_good Hha.out Hhb.out w90).mono ?_
  rintro e w96 ⟨rfl, hb⟩
  replace X6 := hid (X6.out.below hb X6.out.lt)
  replace X13 := hid (X13.out.below hb X13.out.lt)
  replace X14 := hid (X14.out.below hb X14.out.lt)
  replace X19 := hid (X19.out.below hb X19.out.lt)
  replace X21 := hid (X21.out.below hb X21.out.lt)
  replace HN1 := hid (HN1.out.on hb)
  replace HD1 := hid (HD1.out.on hb)
  replace HF := hid (HF.out.on hb)
  replace HN4 := hid (HN4.out.on hb)
  replace HD4 := hid (HD4.out.on hb)
  replace HW8 := hid (HW8.out.on hb)
  replace B := hid (B.out.trans (hb.mono B.out.size))
  clear cc91a cc91b cc91c cc92a cc92b cc92c cc93a cc93b cc93c cc94a cc94b cc95a cc95b
  clear hb 
  obtain ⟨cc97a, cc97b, cc97c⟩ := X6.out.cells
  obtain ⟨cc98a, cc98b, cc98c⟩ := X13.out.cells
  obtain ⟨cc99a, cc99b, cc99c⟩ := X14.out.cells
  obtain ⟨cc100a, cc100b⟩ := X19.out.both
  obtain ⟨cc101a, cc101b⟩ := X21.out.both
  go_wp2_with fail
  refine (same_nil w96 (HDR.out.below B.out)).mono ?_
  rintro e w102 ⟨rfl, hb⟩
  replace X6 := hid (X6.out.below hb X6.out.lt)
  replace X13 := hid (X13.out.below hb X13.out.lt)
  replace X14 := hid (X14.out.below hb X14.out.lt)
  replace X19 := hid (X19.out.below hb X19.out.lt)
  replace X21 := hid (X21.out.below hb X21.out.lt)
  replace HN1 := hid (HN1.out.on hb)
  replace HD1 := hid (HD1.out.on hb)
  replace HF := hid (HF.out.on hb)
  replace HN4 := hid (HN4.out.on hb)
  replace HD4 := hid (HD4.out.on hb)
  replace HW8 := hid (HW8.out.on hb)
  replace B := hid (B.out.trans (hb.mono B.out.size))
  clear cc97a cc97b cc97c cc98a cc98b cc98c cc99a cc99b cc99c cc100a cc100b cc101a cc101b
  clear hb 
  obtain ⟨cc103a, cc103b, cc103c⟩ := X6.out.cells
  obtain ⟨cc104a, cc104b, cc104c⟩ := X13.out.cells
  obtain ⟨cc105a, cc105b, cc105c⟩ := X14.out.cells
  obtain ⟨cc106a, cc106b⟩ := X19.out.both
  obtain ⟨cc107a, cc107b⟩ := X21.out.both
  go_wp2_with fail
  refine (qdiv_good Hha.out Hhb.out Hhz.out w102).mono ?_
  rintro e w108 ⟨rfl, hb⟩
  replace X6 := hid (X6.out.below hb X6.out.lt)
  replace X13 := hid (X13.out.below hb X13.out.lt)
  replace X14 := hid (X14.out.below hb X14.out.lt)
  replace X19 := hid (X19.out.below hb X19.out.lt)
  replace X21 := hid (X21.out.below hb X21.out.lt)
  replace HN1 := hid (HN1.out.on hb)
  replace HD1 := hid (HD1.out.on hb)
  replace HF := hid (HF.out.on hb)
  replace HN4 := hid (HN4.out.on hb)
  replace HD4 := hid (HD4.out.on hb)
  replace HW8 := hid (HW8.out.on hb)
  replace B := hid (B.out.trans (hb.mono B.out.size))
  clear cc103a cc103b cc103c cc104a cc104b cc104c cc105a cc105b cc105c cc106a cc106b cc107a cc107b
  clear hb 
  obtain ⟨cc109a, cc109b, cc109c⟩ := X6.out.cells
  obtain ⟨cc110a, cc110b, cc110c⟩ := X13.out.cells
  obtain ⟨cc111a, cc111b, cc111c⟩ := X14.out.cells
  obtain ⟨cc112a, cc112b⟩ := X19.out.both
  obtain ⟨cc113a, cc113b⟩ := X21.out.both
  go_wp2_with fail
  refine (same_nil w108 (HDR.out.below B.out)).mono ?_
  rintro e w114 ⟨rfl, hb⟩
  replace X6 := hid (X6.out.below hb X6.out.lt)
  replace X13 := hid (X13.out.below hb X13.out.lt)
  replace X14 := hid (X14.out.below hb X14.out.lt)
  replace X19 := hid (X19.out.below hb X19.out.lt)
  replace X21 := hid (X21.out.below hb X21.out.lt)
  replace HN1 := hid (HN1.out.on hb)
  replace HD1 := hid (HD1.out.on hb)
  replace HF := hid (HF.out.on hb)
  replace HN4 := hid (HN4.out.on hb)
  replace HD4 := hid (HD4.out.on hb)
  replace HW8 := hid (HW8.out.on hb)
  replace B := hid (B.out.trans (hb.mono B.out.size))
  clear cc109a cc109b cc109c cc110a cc110b cc110c cc111a cc111b cc111c cc112a cc112b cc113a cc113b
  clear hb 
  obtain ⟨cc115a, cc115b, cc115c⟩ := X6.out.cells
  obtain ⟨cc116a, cc116b, cc116c⟩ := X13.out.cells
  obtain ⟨cc117a, cc117b, cc117c⟩ := X14.out.cells
  obtain ⟨cc118a, cc118b⟩ := X19.out.both
  obtain ⟨cc119a, cc119b⟩ := X21.out.both
  go_wp2_with fail
  have hls := qless_good Hha.out Hhb.out w114
  generalize hli : decide (qnum a < qnum b) = li at hls
  refine (hls).mono ?_
  rintro e w120 ⟨rfl, hb⟩
  replace X6 := hid (X6.out.below hb X6.out.lt)
  replace X13 := hid (X13.out.below hb X13.out.lt)
  replace X14 := hid (X14.out.below hb X14.out.lt)
  replace X19 := hid (X19.out.below hb X19.out.lt)
  replace X21 := hid (X21.out.below hb X21.out.lt)
  replace HN1 := hid (HN1.out.on hb)
  replace HD1 := hid (HD1.out.on hb)
  replace HF := hid (HF.out.on hb)
  replace HN4 := hid (HN4.out.on hb)
  replace HD4 := hid (HD4.out.on hb)
  replace HW8 := hid (HW8.out.on hb)
  replace B := hid (B.out.trans (hb.mono B.out.size))
  clear cc115a cc115b cc115c cc116a cc116b cc116c cc117a cc117b cc117c cc118a cc118b cc119a cc119b
  clear hb hls
  obtain ⟨cc121a, cc121b, cc121c⟩ := X6.out.cells
  obtain ⟨cc122a, cc122b, cc122c⟩ := X13.out.cells
  obtain ⟨cc123a, cc123b, cc123c⟩ := X14.out.cells
  obtain ⟨cc124a, cc124b⟩ := X19.out.both
  obtain ⟨cc125a, cc125b⟩ := X21.out.both
  go_wp2_with fail
  refine (same_nil w120 (HDR.out.below B.out)).mono ?_
  rintro e w126 ⟨rfl, hb⟩
  replace X6 := hid (X6.out.below hb X6.out.lt)
  replace X13 := hid (X13.out.below hb X13.out.lt)
  replace X14 := hid (X14.out.below hb X14.out.lt)
  replace X19 := hid (X19.out.below hb X19.out.lt)
  replace X21 := hid (X21.out.below hb X21.out.lt)
  replace HN1 := hid (HN1.out.on hb)
  replace HD1 := hid (HD1.out.on hb)
  replace HF := hid (HF.out.on hb)
  replace HN4 := hid (HN4.out.on hb)
  replace HD4 := hid (HD4.out.on hb)
  replace HW8 := hid (HW8.out.on hb)
  replace B := hid (B.out.trans (hb.mono B.out.size))
  clear cc121a cc121b cc121c cc122a cc122b cc122c cc123a cc123b cc123c cc124a cc124b cc125a cc125b
  clear hb 
  obtain ⟨cc127a, cc127b, cc127c⟩ := X6.out.cells
  obtain ⟨cc128a, cc128b, cc128c⟩ := X13.out.cells
  obtain ⟨cc129a, cc129b, cc129c⟩ := X14.out.cells
  obtain ⟨cc130a, cc130b⟩ := X19.out.both
  obtain ⟨cc131a, cc131b⟩ := X21.out.both
  go_wp2_with fail
  refine (qmake_bad (k := j) (.inr ⟨Hhwa.out, Hhwb.out⟩) sa sb w126).mono ?_
  rintro e w132 ⟨rfl, hb⟩
  replace X6 := hid (X6.out.below hb X6.out.lt)
  replace X13 := hid (X13.out.below hb X13.out.lt)
  replace X14 := hid (X14.out.below hb X14.out.lt)
  replace X19 := hid (X19.out.below hb X19.out.lt)
  replace X21 := hid (X21.out.below hb X21.out.lt)
  replace HN1 := hid (HN1.out.on hb)
  replace HD1 := hid (HD1.out.on hb)
  replace HF := hid (HF.out.on hb)
  replace HN4 := hid (HN4.out.on hb)
  replace HD4 := hid (HD4.out.on hb)
  replace HW8 := hid (HW8.out.on hb)
  replace B := hid (B.out.trans (hb.mono B.out.size))
  clear cc127a cc127b cc127c cc128a cc128b cc128c cc129a cc129b cc129c cc130a cc130b cc131a cc131b
  clear hb 
  obtain ⟨cc133a, cc133b, cc133c⟩ := X6.out.cells
  obtain ⟨cc134a, cc134b, cc134c⟩ := X13.out.cells
  obtain ⟨cc135a, cc135b, cc135c⟩ := X14.out.cells
  obtain ⟨cc136a, cc136b⟩ := X19.out.both
  obtain ⟨cc137a, cc137b⟩ := X21.out.both
  go_wp2_with fail
  refine (same_no j HJ0.out w132 (HDR.out.below B.out)).mono ?_
  rintro e w138 ⟨rfl, hb⟩
  replace X6 := hid (X6.out.below hb X6.out.lt)
  replace X13 := hid (X13.out.below hb X13.out.lt)
  replace X14 := hid (X14.out.below hb X14.out.lt)
  replace X19 := hid (X19.out.below hb X19.out.lt)
  replace X21 := hid (X21.out.below hb X21.out.lt)
  replace HN1 := hid (HN1.out.on hb)
  replace HD1 := hid (HD1.out.on hb)
  replace HF := hid (HF.out.on hb)
  replace HN4 := hid (HN4.out.on hb)
  replace HD4 := hid (HD4.out.on hb)
  replace HW8 := hid (HW8.out.on hb)
  replace B := hid (B.out.trans (hb.mono B.out.size))
  clear cc133a cc133b cc133c cc134a cc134b cc134c cc135a cc135b cc135c cc136a cc136b cc137a cc137b
  clear hb 
  obtain ⟨cc139a, cc139b, cc139c⟩ := X6.out.cells
  obtain ⟨cc140a, cc140b, cc140c⟩ := X13.out.cells
  obtain ⟨cc141a, cc141b, cc141c⟩ := X14.out.cells
  obtain ⟨cc142a, cc142b⟩ := X19.out.both
  obtain ⟨cc143a, cc143b⟩ := X21.out.both
  go_wp2_with fail
  have hcm := rcmp (QR.mk2 HN1.out HD1.out) (QR.mk2 HN4.out HD4.out) (by omega)
  refine (hcm).mono ?_
  rintro e w144 ⟨rfl, hb⟩
  replace X6 := hid (X6.out.below hb X6.out.lt)
  replace X13 := hid (X13.out.below hb X13.out.lt)
  replace X14 := hid (X14.out.below hb X14.out.lt)
  replace X19 := hid (X19.out.below hb X19.out.lt)
  replace X21 := hid (X21.out.below hb X21.out.lt)
  replace HN1 := hid (HN1.out.on hb)
  replace HD1 := hid (HD1.out.on hb)
  replace HF := hid (HF.out.on hb)
  replace HN4 := hid (HN4.out.on hb)
  replace HD4 := hid (HD4.out.on hb)
  replace HW8 := hid (HW8.out.on hb)
  replace B := hid (B.out.trans (hb.mono B.out.size))
  clear cc139a cc139b cc139c cc140a cc140b cc140c cc141a cc141b cc141c cc142a cc142b cc143a cc143b
  clear hb hcm
  go_wp2_with fail
  go_ret
  exact ⟨ret_bool (by rw [← hli, less_sub]; simp), B.out⟩

end Go.Proofs.YtckkbjnipacodaaGreatDoor

/-
  RatTells: a case.
-/
namespace Go.Proofs.YtckkbjnipacodaaGreatDoor
open Go.RowKit
open Num4
open Num (dg isNat dval)
set_option linter.unusedVariables false
set_option maxRecDepth 100000
set_option linter.unusedSimpArgs false

set_option maxHeartbeats 32000000 in
theorem rtells_nm (a b : ByteArray) (sa : a.size ≤ maxLen) (sb : b.size ≤ maxLen) {k i j : Int} (ha : GoodQ a) (hb : GoodQ b) (hz : qnum b ≠ 0) (hwa : GoodZ a) (hwb : GoodZ b) (hs : znum b < 0) (w : World) (hd : Door w) :
    Calls Tryz.prog 3 #[.string a, .string b] w fun e w' => e = .returned (.bool true) ∧ Below w.heap.size w w' := by
  have Hha := hid ha
  have Hhb := hid hb
  have Hhz := hid hz
  have Hhwa := hid hwa
  have Hhwb := hid hwb
  have Hhs := hid hs
  have HDR := hid hd
  have B := hid (Below.refl w.heap.size w)
  clear  ha hb hz hwa hwb hs hd
  go_enter Tryz.func3, Tryz.ntmps3
  go_wp2_with fail
  refine (halved_true w).mono ?_
  rintro e w1 ⟨rfl, hb⟩
  replace B := hid (B.out.trans (hb.mono B.out.size))
  clear hb 
  go_wp2_with fail
  refine (ratof_good Hha.out w1).mono ?_
  rintro e w2 ⟨v, rfl, hv, hb⟩
  obtain ⟨s1a, p1a, n1a, c1a, p1b, n1b, c1b, rfl⟩ := hv.opened
  obtain ⟨ht1, hu1⟩ := hv.two
  replace B := hid (B.out.trans (hb.mono B.out.size))
  have HN1 := hid ht1
  have HD1 := hid hu1
  clear hb hv ht1 hu1
  have hb3 := (Below.refl _ _).alloc (Nat.le_refl w2.heap.size) (.cells #[.bool s1a, .slice p1a n1a c1a, .slice p1b n1b c1b] 28)
  have hx4 := Qbx.new w2 s1a p1a n1a c1a p1b n1b c1b
  replace HN1 := hid (HN1.out.on hb3)
  replace HD1 := hid (HD1.out.on hb3)
  replace B := hid (B.out.trans (hb3.mono B.out.size))
  have X6 := hid hx4
  have hs5 : (w2.alloc (.cells #[.bool s1a, .slice p1a n1a c1a, .slice p1b n1b c1b] 28)).heap.size = w2.heap.size + 1 := by simp
  clear hb3 hx4
  obtain ⟨cc6a, cc6b, cc6c⟩ := X6.out.cells
  go_wp2_with fail
  generalize hW : w2.alloc (.cells #[.bool s1a, .slice p1a n1a c1a, .slice p1b n1b c1b] 28) = W7 at *
  clear hW
  refine (qcheck_good Hha.out W7).mono ?_
  rintro e w8 ⟨rfl, hb⟩
  replace X6 := hid (X6.out.below hb X6.out.lt)
  replace HN1 := hid (HN1.out.on hb)
  replace HD1 := hid (HD1.out.on hb)
  replace B := hid (B.out.trans (hb.mono B.out.size))
  clear cc6a cc6b cc6c
  clear hb 
  obtain ⟨cc9a, cc9b, cc9c⟩ := X6.out.cells
  go_wp2_with fail
  refine (same_nil w8 (HDR.out.below B.out)).mono ?_
  rintro e w10 ⟨rfl, hb⟩
  replace X6 := hid (X6.out.below hb X6.out.lt)
  replace HN1 := hid (HN1.out.on hb)
  replace HD1 := hid (HD1.out.on hb)
  replace B := hid (B.out.trans (hb.mono B.out.size))
  clear cc9a cc9b cc9c
  clear hb 
  obtain ⟨cc11a, cc11b, cc11c⟩ := X6.out.cells
  go_wp2_with fail
  refine (rfloor (QR.mk2 HN1.out HD1.out) (by omega) (by omega)).mono ?_
  rintro e w12 ⟨v, rfl, hv, hb⟩
  obtain ⟨s2, p2, n2, c2, rfl⟩ := hv.opened
  replace X6 := hid (X6.out.below hb X6.out.lt)
  replace HN1 := hid (HN1.out.on hb)
  replace HD1 := hid (HD1.out.on hb)
  replace B := hid (B.out.trans (hb.mono B.out.size))
  clear cc11a cc11b cc11c
  have HF := hid hv
  clear hb hv
  obtain ⟨cc13a, cc13b, cc13c⟩ := X6.out.cells
  go_wp2_with fail
  refine (rtextz HF.out (by omega)).mono ?_
  rintro e w14 ⟨rfl, hb⟩
  replace X6 := hid (X6.out.below hb X6.out.lt)
  replace HN1 := hid (HN1.out.on hb)
  replace HD1 := hid (HD1.out.on hb)
  replace HF := hid (HF.out.on hb)
  replace B := hid (B.out.trans (hb.mono B.out.size))
  clear cc13a cc13b cc13c
  clear hb 
  obtain ⟨cc15a, cc15b, cc15c⟩ := X6.out.cells
  go_wp2_with fail
  refine (qfloor_good Hha.out w14).mono ?_
  rintro e w16 ⟨rfl, hb⟩
  replace X6 := hid (X6.out.below hb X6.out.lt)
  replace HN1 := hid (HN1.out.on hb)
  replace HD1 := hid (HD1.out.on hb)
  replace HF := hid (HF.out.on hb)
  replace B := hid (B.out.trans (hb.mono B.out.size))
  clear cc15a cc15b cc15c
  clear hb 
  obtain ⟨cc17a, cc17b, cc17c⟩ := X6.out.cells
  go_wp2_with fail
  refine (same_nil w16 (HDR.out.below B.out)).mono ?_
  rintro e w18 ⟨rfl, hb⟩
  replace X6 := hid (X6.out.below hb X6.out.lt)
  replace HN1 := hid (HN1.out.on hb)
  replace HD1 := hid (HD1.out.on hb)
  replace HF := hid (HF.out.on hb)
  replace B := hid (B.out.trans (hb.mono B.out.size))
  clear cc17a cc17b cc17c
  clear hb 
  obtain ⟨cc19a, cc19b, cc19c⟩ := X6.out.cells
  go_wp2_with fail
  refine (rtwo3 (k := 0) Hha.out Hhb.out sa sb w18).mono ?_
  rintro e w20 ⟨v, u, rfl, hv, hu, hb⟩
  obtain ⟨s3a, p3a, n3a, c3a, p3b, n3b, c3b, rfl⟩ := hv.opened
  obtain ⟨s4a, p4a, n4a, c4a, p4b, n4b, c4b, rfl⟩ := hu.opened
  obtain ⟨ht3, hu3⟩ := hv.two
  obtain ⟨ht4, hu4⟩ := hu.two
  replace X6 := hid (X6.out.below hb X6.out.lt)
  replace HN1 := hid (HN1.out.on hb)
  replace HD1 := hid (HD1.out.on hb)
  replace HF := hid (HF.out.on hb)
  replace B := hid (B.out.trans (hb.mono B.out.size))
  clear cc19a cc19b cc19c
  have HN4 := hid ht4
  have HD4 := hid hu4
  clear hb hv hu ht3 hu3 ht4 hu4
  have hb21 := (Below.refl _ _).alloc (Nat.le_refl w20.heap.size) (.cells #[.bool s3a, .slice p3a n3a c3a, .slice p3b n3b c3b] 28)
  have hx22 := Qbx.new w20 s3a p3a n3a c3a p3b n3b c3b
  have L0 := hid X6.out.lt
  replace X6 := hid (X6.out.below hb21 X6.out.lt)
  replace HN1 := hid (HN1.out.on hb21)
  replace HD1 := hid (HD1.out.on hb21)
  replace HF := hid (HF.out.on hb21)
  replace HN4 := hid (HN4.out.on hb21)
  replace HD4 := hid (HD4.out.on hb21)
  replace B := hid (B.out.trans (hb21.mono B.out.size))
  have X13 := hid hx22
  have hs23 : (w20.alloc (.cells #[.bool s3a, .slice p3a n3a c3a, .slice p3b n3b c3b] 28)).heap.size = w20.heap.size + 1 := by simp
  clear hb21 hx22
  have hb24 := (Below.refl _ _).alloc (Nat.le_refl (w20.alloc (.cells #[.bool s3a, .slice p3a n3a c3a, .slice p3b n3b c3b] 28)).heap.size) (.cells #[.bool s4a, .slice p4a n4a c4a, .slice p4b n4b c4b] 28)
  have hx25 := Qbx.new (w20.alloc (.cells #[.bool s3a, .slice p3a n3a c3a, .slice p3b n3b c3b] 28)) s4a p4a n4a c4a p4b n4b c4b
  rw [hs23] at hx25
  replace X6 := hid (X6.out.below hb24 X6.out.lt)
  replace X13 := hid (X13.out.below hb24 X13.out.lt)
  replace HN1 := hid (HN1.out.on hb24)
  replace HD1 := hid (HD1.out.on hb24)
  replace HF := hid (HF.out.on hb24)
  replace HN4 := hid (HN4.out.on hb24)
  replace HD4 := hid (HD4.out.on hb24)
  replace B := hid (B.out.trans (hb24.mono B.out.size))
  have X14 := hid hx25
  have hs26 : ((w20.alloc (.cells #[.bool s3a, .slice p3a n3a c3a, .slice p3b n3b c3b] 28)).alloc (.cells #[.bool s4a, .slice p4a n4a c4a, .slice p4b n4b c4b] 28)).heap.size = w20.heap.size + 1 + 1 := by simp [hs23]
  clear hb24 hx25
  obtain ⟨cc27a, cc27b, cc27c⟩ := X6.out.cells
  obtain ⟨cc28a, cc28b, cc28c⟩ := X13.out.cells
  obtain ⟨cc29a, cc29b, cc29c⟩ := X14.out.cells
  go_wp2_with fail
  generalize hW : (w20.alloc (.cells #[.bool s3a, .slice p3a n3a c3a, .slice p3b n3b c3b] 28)).alloc (.cells #[.bool s4a, .slice p4a n4a c4a, .slice p4b n4b c4b] 28) = W30 at *
  clear hW
  refine (radd (QR.mk2 HN1.out HD1.out) (QR.mk2 HN4.out HD4.out) (by omega)).mono ?_
  rintro e w31 ⟨v, rfl, hv, hb⟩
  obtain ⟨s5a, p5a, n5a, c5a, p5b, n5b, c5b, rfl⟩ := hv.opened
  obtain ⟨ht5, hu5⟩ := hv.two
  replace X6 := hid (X6.out.below hb X6.out.lt)
  replace X13 := hid (X13.out.below hb X13.out.lt)
  replace X14 := hid (X14.out.below hb X14.out.lt)
  replace HN1 := hid (HN1.out.on hb)
  replace HD1 := hid (HD1.out.on hb)
  replace HF := hid (HF.out.on hb)
  replace HN4 := hid (HN4.out.on hb)
  replace HD4 := hid (HD4.out.on hb)
  replace B := hid (B.out.trans (hb.mono B.out.size))
  clear cc27a cc27b cc27c cc28a cc28b cc28c cc29a cc29b cc29c
  have HN5 := hid ht5
  have HD5 := hid hu5
  clear hb hv ht5 hu5
  obtain ⟨cc32a, cc32b, cc32c⟩ := X6.out.cells
  obtain ⟨cc33a, cc33b, cc33c⟩ := X13.out.cells
  obtain ⟨cc34a, cc34b, cc34c⟩ := X14.out.cells
  go_wp2_with fail
  refine (rqtext (QR.mk2 HN5.out HD5.out) (by omega)).mono ?_
  rintro e w35 ⟨rfl, hb⟩
  replace X6 := hid (X6.out.below hb X6.out.lt)
  replace X13 := hid (X13.out.below hb X13.out.lt)
  replace X14 := hid (X14.out.below hb X14.out.lt)
  replace HN1 := hid (HN1.out.on hb)
  replace HD1 := hid (HD1.out.on hb)
  replace HF := hid (HF.out.on hb)
  replace HN4 := hid (HN4.out.on hb)
  replace HD4 := hid (HD4.out.on hb)
  replace HN5 := hid (HN5.out.on hb)
  replace HD5 := hid (HD5.out.on hb)
  replace B := hid (B.out.trans (hb.mono B.out.size))
  clear cc32a cc32b cc32c cc33a cc33b cc33c cc34a cc34b cc34c
  clear hb 
  clear HN5
  clear HD5
  obtain ⟨cc36a, cc36b, cc36c⟩ := X6.out.cells
  obtain ⟨cc37a, cc37b, cc37c⟩ := X13.out.cells
  obtain ⟨cc38a, cc38b, cc38c⟩ := X14.out.cells
  go_wp2_with fail
  refine (rmul (QR.mk2 HN1.out HD1.out) (QR.mk2 HN4.out HD4.out) (by omega)).mono ?_
  rintro e w39 ⟨v, rfl, hv, hb⟩
  obtain ⟨s6a, p6a, n6a, c6a, p6b, n6b, c6b, rfl⟩ := hv.opened
  obtain ⟨ht6, hu6⟩ := hv.two
  replace X6 := hid (X6.out.below hb X6.out.lt)
  replace X13 := hid (X13.out.below hb X13.out.lt)
  replace X14 := hid (X14.out.below hb X14.out.lt)
  replace HN1 := hid (HN1.out.on hb)
  replace HD1 := hid (HD1.out.on hb)
  replace HF := hid (HF.out.on hb)
  replace HN4 := hid (HN4.out.on hb)
  replace HD4 := hid (HD4.out.on hb)
  replace B := hid (B.out.trans (hb.mono B.out.size))
  clear cc36a cc36b cc36c cc37a cc37b cc37c cc38a cc38b cc38c
  have HN6 := hid ht6
  have HD6 := hid hu6
  clear hb hv ht6 hu6
  obtain ⟨cc40a, cc40b, cc40c⟩ := X6.out.cells
  obtain ⟨cc41a, cc41b, cc41c⟩ := X13.out.cells
  obtain ⟨cc42a, cc42b, cc42c⟩ := X14.out.cells
  go_wp2_with fail
  refine (rqtext (QR.mk2 HN6.out HD6.out) (by omega)).mono ?_
  rintro e w43 ⟨rfl, hb⟩
  replace X6 := hid (X6.out.below hb X6.out.lt)
  replace X13 := hid (X13.out.below hb X13.out.lt)
  replace X14 := hid (X14.out.below hb X14.out.lt)
  replace HN1 := hid (HN1.out.on hb)
  replace HD1 := hid (HD1.out.on hb)
  replace HF := hid (HF.out.on hb)
  replace HN4 := hid (HN4.out.on hb)
  replace HD4 := hid (HD4.out.on hb)
  replace HN6 := hid (HN6.out.on hb)
  replace HD6 := hid (HD6.out.on hb)
  replace B := hid (B.out.trans (hb.mono B.out.size))
  clear cc40a cc40b cc40c cc41a cc41b cc41c cc42a cc42b cc42c
  clear hb 
  clear HN6
  clear HD6
  obtain ⟨cc44a, cc44b, cc44c⟩ := X6.out.cells
  obtain ⟨cc45a, cc45b, cc45c⟩ := X13.out.cells
  obtain ⟨cc46a, cc46b, cc46c⟩ := X14.out.cells
  go_wp2_with fail
  have hsn := rsgn (QR.mk2 HN4.out HD4.out) (by omega)
  have hs0 : ¬ (qnum b).num.sign = 0 := by rw [Int.sign_eq_zero_iff_zero, Rat.num_eq_zero]; exact Hhz.out
  refine (hsn).mono ?_
  rintro e w47 ⟨rfl, hb⟩
  replace X6 := hid (X6.out.below hb X6.out.lt)
  replace X13 := hid (X13.out.below hb X13.out.lt)
  replace X14 := hid (X14.out.below hb X14.out.lt)
  replace HN1 := hid (HN1.out.on hb)
  replace HD1 := hid (HD1.out.on hb)
  replace HF := hid (HF.out.on hb)
  replace HN4 := hid (HN4.out.on hb)
  replace HD4 := hid (HD4.out.on hb)
  replace B := hid (B.out.trans (hb.mono B.out.size))
  clear cc44a cc44b cc44c cc45a cc45b cc45c cc46a cc46b cc46c
  clear hb hsn
  obtain ⟨cc48a, cc48b, cc48c⟩ := X6.out.cells
  obtain ⟨cc49a, cc49b, cc49c⟩ := X13.out.cells
  obtain ⟨cc50a, cc50b, cc50c⟩ := X14.out.cells
  go_wp2_with fail
  refine (rdivq (QR.mk2 HN1.out HD1.out) (QR.mk2 HN4.out HD4.out) Hhz.out (by omega)).mono ?_
  rintro e w51 ⟨v, rfl, hv, hb⟩
  obtain ⟨s7a, p7a, n7a, c7a, p7b, n7b, c7b, rfl⟩ := hv.opened
  obtain ⟨ht7, hu7⟩ := hv.two
  replace X6 := hid (X6.out.below hb X6.out.lt)
  replace X13 := hid (X13.out.below hb X13.out.lt)
  replace X14 := hid (X14.out.below hb X14.out.lt)
  replace HN1 := hid (HN1.out.on hb)
  replace HD1 := hid (HD1.out.on hb)
  replace HF := hid (HF.out.on hb)
  replace HN4 := hid (HN4.out.on hb)
  replace HD4 := hid (HD4.out.on hb)
  replace B := hid (B.out.trans (hb.mono B.out.size))
  clear cc48a cc48b cc48c cc49a cc49b cc49c cc50a cc50b cc50c
  have HN7 := hid ht7
  have HD7 := hid hu7
  clear hb hv ht7 hu7
  obtain ⟨cc52a, cc52b, cc52c⟩ := X6.out.cells
  obtain ⟨cc53a, cc53b, cc53c⟩ := X13.out.cells
  obtain ⟨cc54a, cc54b, cc54c⟩ := X14.out.cells
  go_wp2_with fail
  refine (rqtext (QR.mk2 HN7.out HD7.out) (by omega)).mono ?_
  rintro e w55 ⟨rfl, hb⟩
  replace X6 := hid (X6.out.below hb X6.out.lt)
  replace X13 := hid (X13.out.below hb X13.out.lt)
  replace X14 := hid (X14.out.below hb X14.out.lt)
  replace HN1 := hid (HN1.out.on hb)
  replace HD1 := hid (HD1.out.on hb)
  replace HF := hid (HF.out.on hb)
  replace HN4 := hid (HN4.out.on hb)
  replace HD4 := hid (HD4.out.on hb)
  replace HN7 := hid (HN7.out.on hb)
  replace HD7 := hid (HD7.out.on hb)
  replace B := hid (B.out.trans (hb.mono B.out.size))
  clear cc52a cc52b cc52c cc53a cc53b cc53c cc54a cc54b cc54c
  clear hb 
  clear HN7
  clear HD7
  obtain ⟨cc56a, cc56b, cc56c⟩ := X6.out.cells
  obtain ⟨cc57a, cc57b, cc57c⟩ := X13.out.cells
  obtain ⟨cc58a, cc58b, cc58c⟩ := X14.out.cells
  go_wp2_with fail
  refine (rwholeof_good Hhwa.out w55).mono ?_
  rintro e w59 ⟨v, rfl, hv, hb⟩
  obtain ⟨s8, p8, n8, c8, rfl⟩ := hv.opened
  replace X6 := hid (X6.out.below hb X6.out.lt)
  replace X13 := hid (X13.out.below hb X13.out.lt)
  replace X14 := hid (X14.out.below hb X14.out.lt)
  replace HN1 := hid (HN1.out.on hb)
  replace HD1 := hid (HD1.out.on hb)
  replace HF := hid (HF.out.on hb)
  replace HN4 := hid (HN4.out.on hb)
  replace HD4 := hid (HD4.out.on hb)
  replace B := hid (B.out.trans (hb.mono B.out.size))
  clear cc56a cc56b cc56c cc57a cc57b cc57c cc58a cc58b cc58c
  have HW8 := hid hv
  clear hb hv
  have hb60 := (Below.refl _ _).alloc (Nat.le_refl w59.heap.size) (.cells #[.bool s8, .slice p8 n8 c8] 26)
  have hx61 := BoxR.new w59 s8 p8 n8 c8
  have L1 := hid X14.out.lt
  replace X6 := hid (X6.out.below hb60 X6.out.lt)
  replace X13 := hid (X13.out.below hb60 X13.out.lt)
  replace X14 := hid (X14.out.below hb60 X14.out.lt)
  replace HN1 := hid (HN1.out.on hb60)
  replace HD1 := hid (HD1.out.on hb60)
  replace HF := hid (HF.out.on hb60)
  replace HN4 := hid (HN4.out.on hb60)
  replace HD4 := hid (HD4.out.on hb60)
  replace HW8 := hid (HW8.out.on hb60)
  replace B := hid (B.out.trans (hb60.mono B.out.size))
  have X19 := hid hx61
  have hs62 : (w59.alloc (.cells #[.bool s8, .slice p8 n8 c8] 26)).heap.size = w59.heap.size + 1 := by simp
  clear hb60 hx61
  obtain ⟨cc63a, cc63b, cc63c⟩ := X6.out.cells
  obtain ⟨cc64a, cc64b, cc64c⟩ := X13.out.cells
  obtain ⟨cc65a, cc65b, cc65c⟩ := X14.out.cells
  obtain ⟨cc66a, cc66b⟩ := X19.out.both
  go_wp2_with fail
  generalize hW : w59.alloc (.cells #[.bool s8, .slice p8 n8 c8] 26) = W67 at *
  clear hW
  refine (rwholeof_good Hhwb.out W67).mono ?_
  rintro e w68 ⟨v, rfl, hv, hb⟩
  obtain ⟨s9, p9, n9, c9, rfl⟩ := hv.opened
  replace X6 := hid (X6.out.below hb X6.out.lt)
  replace X13 := hid (X13.out.below hb X13.out.lt)
  replace X14 := hid (X14.out.below hb X14.out.lt)
  replace X19 := hid (X19.out.below hb X19.out.lt)
  replace HN1 := hid (HN1.out.on hb)
  replace HD1 := hid (HD1.out.on hb)
  replace HF := hid (HF.out.on hb)
  replace HN4 := hid (HN4.out.on hb)
  replace HD4 := hid (HD4.out.on hb)
  replace HW8 := hid (HW8.out.on hb)
  replace B := hid (B.out.trans (hb.mono B.out.size))
  clear cc63a cc63b cc63c cc64a cc64b cc64c cc65a cc65b cc65c cc66a cc66b
  have HW9 := hid hv
  clear hb hv
  have hb69 := (Below.refl _ _).alloc (Nat.le_refl w68.heap.size) (.cells #[.bool s9, .slice p9 n9 c9] 26)
  have hx70 := BoxR.new w68 s9 p9 n9 c9
  have L2 := hid X19.out.lt
  replace X6 := hid (X6.out.below hb69 X6.out.lt)
  replace X13 := hid (X13.out.below hb69 X13.out.lt)
  replace X14 := hid (X14.out.below hb69 X14.out.lt)
  replace X19 := hid (X19.out.below hb69 X19.out.lt)
  replace HN1 := hid (HN1.out.on hb69)
  replace HD1 := hid (HD1.out.on hb69)
  replace HF := hid (HF.out.on hb69)
  replace HN4 := hid (HN4.out.on hb69)
  replace HD4 := hid (HD4.out.on hb69)
  replace HW8 := hid (HW8.out.on hb69)
  replace HW9 := hid (HW9.out.on hb69)
  replace B := hid (B.out.trans (hb69.mono B.out.size))
  have X21 := hid hx70
  have hs71 : (w68.alloc (.cells #[.bool s9, .slice p9 n9 c9] 26)).heap.size = w68.heap.size + 1 := by simp
  clear hb69 hx70
  obtain ⟨cc72a, cc72b, cc72c⟩ := X6.out.cells
  obtain ⟨cc73a, cc73b, cc73c⟩ := X13.out.cells
  obtain ⟨cc74a, cc74b, cc74c⟩ := X14.out.cells
  obtain ⟨cc75a, cc75b⟩ := X19.out.both
  obtain ⟨cc76a, cc76b⟩ := X21.out.both
  go_wp2_with fail
  generalize hW : w68.alloc (.cells #[.bool s9, .slice p9 n9 c9] 26) = W77 at *
  clear hW
  refine (two_zero 0 W77).mono ?_
  rintro e w' ⟨rfl, rfl⟩
  have hn9 : ¬ (n9 : Int) = 0 := by have h1 := HW9.out.inside.1.len; have h2 := Hhs.out; omega
  have hs9 : s9 = true := by rw [HW9.out.inside.2]; exact decide_eq_true Hhs.out
  subst hs9
  obtain ⟨cc79a, cc79b, cc79c⟩ := X6.out.cells
  obtain ⟨cc80a, cc80b, cc80c⟩ := X13.out.cells
  obtain ⟨cc81a, cc81b, cc81c⟩ := X14.out.cells
  obtain ⟨cc82a, cc82b⟩ := X19.out.both
  obtain ⟨cc83a, cc83b⟩ := X21.out.both
  go_wp2_with fail
  obtain ⟨cc84a, cc84b⟩ := X19.out.both
  obtain ⟨cc85a, cc85b⟩ := X21.out.both
  replace X6 := hid X6.out.dr
  replace X13 := hid X13.out.dr
  replace X14 := hid X14.out.dr
  replace X19 := hid X19.out.dr
  replace X21 := hid X21.out.dr
  replace HN1 := hid HN1.out.drew
  replace HD1 := hid HD1.out.drew
  replace HF := hid HF.out.drew
  replace HN4 := hid HN4.out.drew
  replace HD4 := hid HD4.out.drew
  replace HW8 := hid HW8.out.drew
  replace HW9 := hid HW9.out.drew
  replace B := hid (Below.drew B.out)
  obtain ⟨cc86a, cc86b⟩ := X19.out.both
  obtain ⟨cc87a, cc87b⟩ := X21.out.both
  go_region_held3 (fun w' => w'.cell? ⟨w59.heap.size, 0, none⟩ = some (.bool s8) ∧ w'.cell? ⟨w59.heap.size, 1, none⟩ = some (.slice p8 n8 c8) ∧ w'.cell? ⟨w68.heap.size, 0, none⟩ = some (.bool true) ∧ w'.cell? ⟨w68.heap.size, 1, none⟩ = some (.slice p9 n9 c9)) (go_keep) (first
      | (have hm := mk88_1; clear hm; go_at_call 12; refine (rqtext (QR.mk2 HN5.out HD5.out) (by omega)).mono ?_; rintro e w95 ⟨rfl, hb⟩; replace X6 := hid (X6.out.below hb X6.out.lt); replace X13 := hid (X13.out.below hb X13.out.lt); replace X14 := hid (X14.out.below hb X14.out.lt); replace X19 := hid (X19.out.below hb X19.out.lt); replace X21 := hid (X21.out.below hb X21.out.lt); replace HN1 := hid (HN1.out.on hb); replace HD1 := hid (HD1.out.on hb); replace HF := hid (HF.out.on hb); replace HN4 := hid (HN4.out.on hb); replace HD4 := hid (HD4.out.on hb); replace HW8 := hid (HW8.out.on hb); replace HW9 := hid (HW9.out.on hb); replace HM := hid (HM.out.on hb); replace HN5 := hid (HN5.out.on hb); replace HD5 := hid (HD5.out.on hb); replace B := hid (B.out.trans (hb.mono B.out.size)); clear cc93a cc93b cc94a cc94b; clear hb ; obtain ⟨cc96a, cc96b⟩ := X19.out.both; obtain ⟨cc97a, cc97b⟩ := X21.out.both; have mk88_2 := hid True.intro)
      | (have hm := mk88_0; clear hm; go_at_call 19; refine (rover HM.out HW9.out.inside.1 (by have := Hhs.out; omega) (by omega)).mono ?_; rintro e w92 ⟨v, rfl, hv, hb⟩; obtain ⟨s5a, p5a, n5a, c5a, p5b, n5b, c5b, rfl⟩ := hv.opened; obtain ⟨ht5, hu5⟩ := hv.two; replace X6 := hid (X6.out.below hb X6.out.lt); replace X13 := hid (X13.out.below hb X13.out.lt); replace X14 := hid (X14.out.below hb X14.out.lt); replace X19 := hid (X19.out.below hb X19.out.lt); replace X21 := hid (X21.out.below hb X21.out.lt); replace HN1 := hid (HN1.out.on hb); replace HD1 := hid (HD1.out.on hb); replace HF := hid (HF.out.on hb); replace HN4 := hid (HN4.out.on hb); replace HD4 := hid (HD4.out.on hb); replace HW8 := hid (HW8.out.on hb); replace HW9 := hid (HW9.out.on hb); replace HM := hid (HM.out.on hb); replace B := hid (B.out.trans (hb.mono B.out.size)); clear cc90a cc90b cc91a cc91b; have HN5 := hid ht5; have HD5 := hid hu5; clear hb hv ht5 hu5; obtain ⟨cc93a, cc93b⟩ := X19.out.both; obtain ⟨cc94a, cc94b⟩ := X21.out.both; have mk88_1 := hid True.intro)
      | (go_at_call 20; refine (rneg_whl HW8.out).mono ?_; rintro e w89 ⟨v, rfl, hv, hb⟩; obtain ⟨s10, p10, n10, c10, rfl⟩ := hv.opened; replace X6 := hid (X6.out.below hb X6.out.lt); replace X13 := hid (X13.out.below hb X13.out.lt); replace X14 := hid (X14.out.below hb X14.out.lt); replace X19 := hid (X19.out.below hb X19.out.lt); replace X21 := hid (X21.out.below hb X21.out.lt); replace HN1 := hid (HN1.out.on hb); replace HD1 := hid (HD1.out.on hb); replace HF := hid (HF.out.on hb); replace HN4 := hid (HN4.out.on hb); replace HD4 := hid (HD4.out.on hb); replace HW8 := hid (HW8.out.on hb); replace HW9 := hid (HW9.out.on hb); replace B := hid (B.out.trans (hb.mono B.out.size)); clear cc72a cc72b cc72c cc73a cc73b cc73c cc74a cc74b cc74c cc75a cc75b cc76a cc76b cc79a cc79b cc79c cc80a cc80b cc80c cc81a cc81b cc81c cc82a cc82b cc83a cc83b cc84a cc84b cc85a cc85b cc86a cc86b cc87a cc87b; have HM := hid hv; clear hb hv; obtain ⟨cc90a, cc90b⟩ := X19.out.both; obtain ⟨cc91a, cc91b⟩ := X21.out.both; have mk88_0 := hid True.intro))
  obtain ⟨cc98a, cc98b, cc98c⟩ := X6.out.cells
  obtain ⟨cc99a, cc99b, cc99c⟩ := X13.out.cells
  obtain ⟨cc100a, cc100b, cc100c⟩ := X14.out.cells
  obtain ⟨cc101a, cc101b⟩ := X19.out.both
  obtain ⟨cc102a, cc102b⟩ := X21.out.both
  go_wp2_with fail
  refine (qadd_good Hha.out Hhb.out w95).mono ?_
  rintro e w103 ⟨rfl, hb⟩
  replace X6 := hid (X6.out.below hb X6.out.lt)
  replace X13 := hid (X13.out.below hb X13.out.lt)
  replace X14 := hid (X14.out.below hb X14.out.lt)
  replace X19 := hid (X19.out.below hb X19.out.lt)
  replace X21 := hid (X21.out.below hb X21.out.lt)
  replace HN1 := hid (HN1.out.on hb)
  replace HD1 := hid (HD1.out.on hb)
  replace HF := hid (HF.out.on hb)
  replace HN4 := hid (HN4.out.on hb)
  replace HD4 := hid (HD4.out.on hb)
  replace HW8 := hid (HW8.out.on hb)
  replace HW9 := hid (HW9.out.on hb)
  replace HM := hid (HM.out.on hb)
  replace HN5 := hid (HN5.out.on hb)
  replace HD5 := hid (HD5.out.on hb)
  replace B := hid (B.out.trans (hb.mono B.out.size))
  clear cc96a cc96b cc97a cc97b cc98a cc98b cc98c cc99a cc99b cc99c cc100a cc100b cc100c cc101a cc101b cc102a cc102b
  clear hb 
  obtain ⟨cc104a, cc104b, cc104c⟩ := X6.out.cells
  obtain ⟨cc105a, cc105b, cc105c⟩ := X13.out.cells
  obtain ⟨cc106a, cc106b, cc106c⟩ := X14.out.cells
  obtain ⟨cc107a, cc107b⟩ := X19.out.both
  obtain ⟨cc108a, cc108b⟩ := X21.out.both
  go_wp2_with fail
  refine (same_nil w103 (HDR.out.below B.out)).mono ?_
  rintro e w109 ⟨rfl, hb⟩
  replace X6 := hid (X6.out.below hb X6.out.lt)
  replace X13 := hid (X13.out.below hb X13.out.lt)
  replace X14 := hid (X14.out.below hb X14.out.lt)
  replace X19 := hid (X19.out.below hb X19.out.lt)
  replace X21 := hid (X21.out.below hb X21.out.lt)
  replace HN1 := hid (HN1.out.on hb)
  replace HD1 := hid (HD1.out.on hb)
  replace HF := hid (HF.out.on hb)
  replace HN4 := hid (HN4.out.on hb)
  replace HD4 := hid (HD4.out.on hb)
  replace HW8 := hid (HW8.out.on hb)
  replace HW9 := hid (HW9.out.on hb)
  replace HM := hid (HM.out.on hb)
  replace HN5 := hid (HN5.out.on hb)
  replace HD5 := hid (HD5.out.on hb)
  replace B := hid (B.out.trans (hb.mono B.out.size))
  clear cc104a cc104b cc104c cc105a cc105b cc105c cc106a cc106b cc106c cc107a cc107b cc108a cc108b
  clear hb 
  obtain ⟨cc110a, cc110b, cc110c⟩ := X6.out.cells
  obtain ⟨cc111a, cc111b, cc111c⟩ := X13.out.cells
  obtain ⟨cc112a, cc112b, cc112c⟩ := X14.out.cells
  obtain ⟨cc113a, cc113b⟩ := X19.out.both
  obtain ⟨cc114a, cc114b⟩ := X21.out.both
  go_wp2_with fail
  refine (qmul_good Hha.out Hhb.out w109).mono ?_
  rintro e w115 ⟨rfl, hb⟩
  replace X6 := hid (X6.out.below hb X6.out.lt)
  replace X13 := hid (X13.out.below hb X13.out.lt)
  replace X14 := hid (X14.out.below hb X14.out.lt)
  replace X19 := hid (X19.out.below hb X19.out.lt)
  replace X21 := hid (X21.out.below hb X21.out.lt)
  replace HN1 := hid (HN1.out.on hb)
  replace HD1 := hid (HD1.out.on hb)
  replace HF := hid (HF.out.on hb)
  replace HN4 := hid (HN4.out.on hb)
  replace HD4 := hid (HD4.out.on hb)
  replace HW8 := hid (HW8.out.on hb)
  replace HW9 := hid (HW9.out.on hb)
  replace HM := hid (HM.out.on hb)
  replace HN5 := hid (HN5.out.on hb)
  replace HD5 := hid (HD5.out.on hb)
  replace B := hid (B.out.trans (hb.mono B.out.size))
  clear cc110a cc110b cc110c cc111a cc111b cc111c cc112a cc112b cc112c cc113a cc113b cc114a cc114b
  clear hb 
  obtain ⟨cc116a, cc116b, cc116c⟩ := X6.out.cells
  obtain ⟨cc117a, cc117b, cc117c⟩ := X13.out.cells
  obtain ⟨cc118a, cc118b, cc118c⟩ := X14.out.cells
  obtain ⟨cc119a, cc119b⟩ := X19.out.both
  obtain ⟨cc120a, cc120b⟩ := X21.out.both
  go_wp2_with fail
  refine (same_nil w115 (HDR.out.below B.out)).mono ?_
  rintro e w121 ⟨rfl, hb⟩
  replace X6 := hid (X6.out.below hb X6.out.lt)
  replace X13 := hid (X13.out.below hb X13.out.lt)
  replace X14 := hid (X14.out.below hb X14.out.lt)
  replace X19 := hid (X19.out.below hb X19.out.lt)
  replace X21 := hid (X21.out.below hb X21.out.lt)
  replace HN1 := hid (HN1.out.on hb)
  replace HD1 := hid (HD1.out.on hb)
  replace HF := hid (HF.out.on hb)
  replace HN4 := hid (HN4.out.on hb)
  replace HD4 := hid (HD4.out.on hb)
  replace HW8 := hid (HW8.out.on hb)
  replace HW9 := hid (HW9.out.on hb)
  replace HM := hid (HM.out.on hb)
  replace HN5 := hid (HN5.out.on hb)
  replace HD5 := hid (HD5.out.on hb)
  replace B := hid (B.out.trans (hb.mono B.out.size))
  clear cc116a cc116b cc116c cc117a cc117b cc117c cc118a cc118b cc118c cc119a cc119b cc120a cc120b
  clear hb 
  obtain ⟨cc122a, cc122b, cc122c⟩ := X6.out.cells
  obtain ⟨cc123a, cc123b, cc123c⟩ := X13.out.cells
  obtain ⟨cc124a, cc124b, cc124c⟩ := X14.out.cells
  obtain ⟨cc125a, cc125b⟩ := X19.out.both
  obtain ⟨cc126a, cc126b⟩ := X21.out.both
  go_wp2_with fail
  refine (qdiv_good Hha.out Hhb.out Hhz.out w121).mono ?_
  rintro e w127 ⟨rfl, hb⟩
  replace X6 := hid (X6.out.below hb X6.out.lt)
  replace X13 := hid (X13.out.below hb X13.out.lt)
  replace X14 := hid (X14.out.below hb X14.out.lt)
  replace X19 := hid (X19.out.below hb X19.out.lt)
  replace X21 := hid (X21.out.below hb X21.out.lt)
  replace HN1 := hid (HN1.out.on hb)
  replace HD1 := hid (HD1.out.on hb)
  replace HF := hid (HF.out.on hb)
  replace HN4 := hid (HN4.out.on hb)
  replace HD4 := hid (HD4.out.on hb)
  replace HW8 := hid (HW8.out.on hb)
  replace HW9 := hid (HW9.out.on hb)
  replace HM := hid (HM.out.on hb)
  replace HN5 := hid (HN5.out.on hb)
  replace HD5 := hid (HD5.out.on hb)
  replace B := hid (B.out.trans (hb.mono B.out.size))
  clear cc122a cc122b cc122c cc123a cc123b cc123c cc124a cc124b cc124c cc125a cc125b cc126a cc126b
  clear hb 
  obtain ⟨cc128a, cc128b, cc128c⟩ := X6.out.cells
  obtain ⟨cc129a, cc129b, cc129c⟩ := X13.out.cells
  obtain ⟨cc130a, cc130b, cc130c⟩ := X14.out.cells
  obtain ⟨cc131a, cc131b⟩ := X19.out.both
  obtain ⟨cc132a, cc132b⟩ := X21.out.both
  go_wp2_with fail
  refine (same_nil w127 (HDR.out.below B.out)).mono ?_
  rintro e w133 ⟨rfl, hb⟩
  replace X6 := hid (X6.out.below hb X6.out.lt)
  replace X13 := hid (X13.out.below hb X13.out.lt)
  replace X14 := hid (X14.out.below hb X14.out.lt)
  replace X19 := hid (X19.out.below hb X19.out.lt)
  replace X21 := hid (X21.out.below hb X21.out.lt)
  replace HN1 := hid (HN1.out.on hb)
  replace HD1 := hid (HD1.out.on hb)
  replace HF := hid (HF.out.on hb)
  replace HN4 := hid (HN4.out.on hb)
  replace HD4 := hid (HD4.out.on hb)
  replace HW8 := hid (HW8.out.on hb)
  replace HW9 := hid (HW9.out.on hb)
  replace HM := hid (HM.out.on hb)
  replace HN5 := hid (HN5.out.on hb)
  replace HD5 := hid (HD5.out.on hb)
  replace B := hid (B.out.trans (hb.mono B.out.size))
  clear cc128a cc128b cc128c cc129a cc129b cc129c cc130a cc130b cc130c cc131a cc131b cc132a cc132b
  clear hb 
  obtain ⟨cc134a, cc134b, cc134c⟩ := X6.out.cells
  obtain ⟨cc135a, cc135b, cc135c⟩ := X13.out.cells
  obtain ⟨cc136a, cc136b, cc136c⟩ := X14.out.cells
  obtain ⟨cc137a, cc137b⟩ := X19.out.both
  obtain ⟨cc138a, cc138b⟩ := X21.out.both
  go_wp2_with fail
  have hls := qless_good Hha.out Hhb.out w133
  generalize hli : decide (qnum a < qnum b) = li at hls
  refine (hls).mono ?_
  rintro e w139 ⟨rfl, hb⟩
  replace X6 := hid (X6.out.below hb X6.out.lt)
  replace X13 := hid (X13.out.below hb X13.out.lt)
  replace X14 := hid (X14.out.below hb X14.out.lt)
  replace X19 := hid (X19.out.below hb X19.out.lt)
  replace X21 := hid (X21.out.below hb X21.out.lt)
  replace HN1 := hid (HN1.out.on hb)
  replace HD1 := hid (HD1.out.on hb)
  replace HF := hid (HF.out.on hb)
  replace HN4 := hid (HN4.out.on hb)
  replace HD4 := hid (HD4.out.on hb)
  replace HW8 := hid (HW8.out.on hb)
  replace HW9 := hid (HW9.out.on hb)
  replace HM := hid (HM.out.on hb)
  replace HN5 := hid (HN5.out.on hb)
  replace HD5 := hid (HD5.out.on hb)
  replace B := hid (B.out.trans (hb.mono B.out.size))
  clear cc134a cc134b cc134c cc135a cc135b cc135c cc136a cc136b cc136c cc137a cc137b cc138a cc138b
  clear hb hls
  obtain ⟨cc140a, cc140b, cc140c⟩ := X6.out.cells
  obtain ⟨cc141a, cc141b, cc141c⟩ := X13.out.cells
  obtain ⟨cc142a, cc142b, cc142c⟩ := X14.out.cells
  obtain ⟨cc143a, cc143b⟩ := X19.out.both
  obtain ⟨cc144a, cc144b⟩ := X21.out.both
  go_wp2_with fail
  refine (same_nil w139 (HDR.out.below B.out)).mono ?_
  rintro e w145 ⟨rfl, hb⟩
  replace X6 := hid (X6.out.below hb X6.out.lt)
  replace X13 := hid (X13.out.below hb X13.out.lt)
  replace X14 := hid (X14.out.below hb X14.out.lt)
  replace X19 := hid (X19.out.below hb X19.out.lt)
  replace X21 := hid (X21.out.below hb X21.out.lt)
  replace HN1 := hid (HN1.out.on hb)
  replace HD1 := hid (HD1.out.on hb)
  replace HF := hid (HF.out.on hb)
  replace HN4 := hid (HN4.out.on hb)
  replace HD4 := hid (HD4.out.on hb)
  replace HW8 := hid (HW8.out.on hb)
  replace HW9 := hid (HW9.out.on hb)
  replace HM := hid (HM.out.on hb)
  replace HN5 := hid (HN5.out.on hb)
  replace HD5 := hid (HD5.out.on hb)
  replace B := hid (B.out.trans (hb.mono B.out.size))
  clear cc140a cc140b cc140c cc141a cc141b cc141c cc142a cc142b cc142c cc143a cc143b cc144a cc144b
  clear hb 
  obtain ⟨cc146a, cc146b, cc146c⟩ := X6.out.cells
  obtain ⟨cc147a, cc147b, cc147c⟩ := X13.out.cells
  obtain ⟨cc148a, cc148b, cc148c⟩ := X14.out.cells
  obtain ⟨cc149a, cc149b⟩ := X19.out.both
  obtain ⟨cc150a, cc150b⟩ := X21.out.both
  go_wp2_with fail
  have hmk := qmake_good Hhwa.out Hhwb.out (by have := Hhs.out; omega) w145
  rw [made_neg Hhs.out] at hmk
  refine (hmk).mono ?_
  rintro e w151 ⟨rfl, hb⟩
  replace X6 := hid (X6.out.below hb X6.out.lt)
  replace X13 := hid (X13.out.below hb X13.out.lt)
  replace X14 := hid (X14.out.below hb X14.out.lt)
  replace X19 := hid (X19.out.below hb X19.out.lt)
  replace X21 := hid (X21.out.below hb X21.out.lt)
  replace HN1 := hid (HN1.out.on hb)
  replace HD1 := hid (HD1.out.on hb)
  replace HF := hid (HF.out.on hb)
  replace HN4 := hid (HN4.out.on hb)
  replace HD4 := hid (HD4.out.on hb)
  replace HW8 := hid (HW8.out.on hb)
  replace HW9 := hid (HW9.out.on hb)
  replace HM := hid (HM.out.on hb)
  replace HN5 := hid (HN5.out.on hb)
  replace HD5 := hid (HD5.out.on hb)
  replace B := hid (B.out.trans (hb.mono B.out.size))
  clear cc146a cc146b cc146c cc147a cc147b cc147c cc148a cc148b cc148c cc149a cc149b cc150a cc150b
  clear hb hmk
  obtain ⟨cc152a, cc152b, cc152c⟩ := X6.out.cells
  obtain ⟨cc153a, cc153b, cc153c⟩ := X13.out.cells
  obtain ⟨cc154a, cc154b, cc154c⟩ := X14.out.cells
  obtain ⟨cc155a, cc155b⟩ := X19.out.both
  obtain ⟨cc156a, cc156b⟩ := X21.out.both
  go_wp2_with fail
  refine (same_nil w151 (HDR.out.below B.out)).mono ?_
  rintro e w157 ⟨rfl, hb⟩
  replace X6 := hid (X6.out.below hb X6.out.lt)
  replace X13 := hid (X13.out.below hb X13.out.lt)
  replace X14 := hid (X14.out.below hb X14.out.lt)
  replace X19 := hid (X19.out.below hb X19.out.lt)
  replace X21 := hid (X21.out.below hb X21.out.lt)
  replace HN1 := hid (HN1.out.on hb)
  replace HD1 := hid (HD1.out.on hb)
  replace HF := hid (HF.out.on hb)
  replace HN4 := hid (HN4.out.on hb)
  replace HD4 := hid (HD4.out.on hb)
  replace HW8 := hid (HW8.out.on hb)
  replace HW9 := hid (HW9.out.on hb)
  replace HM := hid (HM.out.on hb)
  replace HN5 := hid (HN5.out.on hb)
  replace HD5 := hid (HD5.out.on hb)
  replace B := hid (B.out.trans (hb.mono B.out.size))
  clear cc152a cc152b cc152c cc153a cc153b cc153c cc154a cc154b cc154c cc155a cc155b cc156a cc156b
  clear hb 
  obtain ⟨cc158a, cc158b, cc158c⟩ := X6.out.cells
  obtain ⟨cc159a, cc159b, cc159c⟩ := X13.out.cells
  obtain ⟨cc160a, cc160b, cc160c⟩ := X14.out.cells
  obtain ⟨cc161a, cc161b⟩ := X19.out.both
  obtain ⟨cc162a, cc162b⟩ := X21.out.both
  go_wp2_with fail
  have hcm := rcmp (QR.mk2 HN1.out HD1.out) (QR.mk2 HN4.out HD4.out) (by omega)
  refine (hcm).mono ?_
  rintro e w163 ⟨rfl, hb⟩
  replace X6 := hid (X6.out.below hb X6.out.lt)
  replace X13 := hid (X13.out.below hb X13.out.lt)
  replace X14 := hid (X14.out.below hb X14.out.lt)
  replace X19 := hid (X19.out.below hb X19.out.lt)
  replace X21 := hid (X21.out.below hb X21.out.lt)
  replace HN1 := hid (HN1.out.on hb)
  replace HD1 := hid (HD1.out.on hb)
  replace HF := hid (HF.out.on hb)
  replace HN4 := hid (HN4.out.on hb)
  replace HD4 := hid (HD4.out.on hb)
  replace HW8 := hid (HW8.out.on hb)
  replace HW9 := hid (HW9.out.on hb)
  replace HM := hid (HM.out.on hb)
  replace HN5 := hid (HN5.out.on hb)
  replace HD5 := hid (HD5.out.on hb)
  replace B := hid (B.out.trans (hb.mono B.out.size))
  clear cc158a cc158b cc158c cc159a cc159b cc159c cc160a cc160b cc160c cc161a cc161b cc162a cc162b
  clear hb hcm
  go_wp2_with fail
  go_ret
  exact ⟨ret_bool (by rw [← hli, less_sub]; simp), B.out⟩

end Go.Proofs.YtckkbjnipacodaaGreatDoor

/-
  RatTells: a case.
-/
namespace Go.Proofs.YtckkbjnipacodaaGreatDoor
open Go.RowKit
open Num4
open Num (dg isNat dval)
set_option linter.unusedVariables false
set_option maxRecDepth 100000
set_option linter.unusedSimpArgs false

set_option maxHeartbeats 32000000 in
theorem rtells_np (a b : ByteArray) (sa : a.size ≤ maxLen) (sb : b.size ≤ maxLen) {k i j : Int} (ha : GoodQ a) (hb : GoodQ b) (hz : qnum b ≠ 0) (hwa : GoodZ a) (hwb : GoodZ b) (hs : 0 < znum b) (w : World) (hd : Door w) :
    Calls Tryz.prog 3 #[.string a, .string b] w fun e w' => e = .returned (.bool true) ∧ Below w.heap.size w w' := by
  have Hha := hid ha
  have Hhb := hid hb
  have Hhz := hid hz
  have Hhwa := hid hwa
  have Hhwb := hid hwb
  have Hhs := hid hs
  have HDR := hid hd
  have B := hid (Below.refl w.heap.size w)
  clear  ha hb hz hwa hwb hs hd
  go_enter Tryz.func3, Tryz.ntmps3
  go_wp2_with fail
  refine (halved_true w).mono ?_
  rintro e w1 ⟨rfl, hb⟩
  replace B := hid (B.out.trans (hb.mono B.out.size))
  clear hb 
  go_wp2_with fail
  refine (ratof_good Hha.out w1).mono ?_
  rintro e w2 ⟨v, rfl, hv, hb⟩
  obtain ⟨s1a, p1a, n1a, c1a, p1b, n1b, c1b, rfl⟩ := hv.opened
  obtain ⟨ht1, hu1⟩ := hv.two
  replace B := hid (B.out.trans (hb.mono B.out.size))
  have HN1 := hid ht1
  have HD1 := hid hu1
  clear hb hv ht1 hu1
  have hb3 := (Below.refl _ _).alloc (Nat.le_refl w2.heap.size) (.cells #[.bool s1a, .slice p1a n1a c1a, .slice p1b n1b c1b] 28)
  have hx4 := Qbx.new w2 s1a p1a n1a c1a p1b n1b c1b
  replace HN1 := hid (HN1.out.on hb3)
  replace HD1 := hid (HD1.out.on hb3)
  replace B := hid (B.out.trans (hb3.mono B.out.size))
  have X6 := hid hx4
  have hs5 : (w2.alloc (.cells #[.bool s1a, .slice p1a n1a c1a, .slice p1b n1b c1b] 28)).heap.size = w2.heap.size + 1 := by simp
  clear hb3 hx4
  obtain ⟨cc6a, cc6b, cc6c⟩ := X6.out.cells
  go_wp2_with fail
  generalize hW : w2.alloc (.cells #[.bool s1a, .slice p1a n1a c1a, .slice p1b n1b c1b] 28) = W7 at *
  clear hW
  refine (qcheck_good Hha.out W7).mono ?_
  rintro e w8 ⟨rfl, hb⟩
  replace X6 := hid (X6.out.below hb X6.out.lt)
  replace HN1 := hid (HN1.out.on hb)
  replace HD1 := hid (HD1.out.on hb)
  replace B := hid (B.out.trans (hb.mono B.out.size))
  clear cc6a cc6b cc6c
  clear hb 
  obtain ⟨cc9a, cc9b, cc9c⟩ := X6.out.cells
  go_wp2_with fail
  refine (same_nil w8 (HDR.out.below B.out)).mono ?_
  rintro e w10 ⟨rfl, hb⟩
  replace X6 := hid (X6.out.below hb X6.out.lt)
  replace HN1 := hid (HN1.out.on hb)
  replace HD1 := hid (HD1.out.on hb)
  replace B := hid (B.out.trans (hb.mono B.out.size))
  clear cc9a cc9b cc9c
  clear hb 
  obtain ⟨cc11a, cc11b, cc11c⟩ := X6.out.cells
  go_wp2_with fail
  refine (rfloor (QR.mk2 HN1.out HD1.out) (by omega) (by omega)).mono ?_
  rintro e w12 ⟨v, rfl, hv, hb⟩
  obtain ⟨s2, p2, n2, c2, rfl⟩ := hv.opened
  replace X6 := hid (X6.out.below hb X6.out.lt)
  replace HN1 := hid (HN1.out.on hb)
  replace HD1 := hid (HD1.out.on hb)
  replace B := hid (B.out.trans (hb.mono B.out.size))
  clear cc11a cc11b cc11c
  have HF := hid hv
  clear hb hv
  obtain ⟨cc13a, cc13b, cc13c⟩ := X6.out.cells
  go_wp2_with fail
  refine (rtextz HF.out (by omega)).mono ?_
  rintro e w14 ⟨rfl, hb⟩
  replace X6 := hid (X6.out.below hb X6.out.lt)
  replace HN1 := hid (HN1.out.on hb)
  replace HD1 := hid (HD1.out.on hb)
  replace HF := hid (HF.out.on hb)
  replace B := hid (B.out.trans (hb.mono B.out.size))
  clear cc13a cc13b cc13c
  clear hb 
  obtain ⟨cc15a, cc15b, cc15c⟩ := X6.out.cells
  go_wp2_with fail
  refine (qfloor_good Hha.out w14).mono ?_
  rintro e w16 ⟨rfl, hb⟩
  replace X6 := hid (X6.out.below hb X6.out.lt)
  replace HN1 := hid (HN1.out.on hb)
  replace HD1 := hid (HD1.out.on hb)
  replace HF := hid (HF.out.on hb)
  replace B := hid (B.out.trans (hb.mono B.out.size))
  clear cc15a cc15b cc15c
  clear hb 
  obtain ⟨cc17a, cc17b, cc17c⟩ := X6.out.cells
  go_wp2_with fail
  refine (same_nil w16 (HDR.out.below B.out)).mono ?_
  rintro e w18 ⟨rfl, hb⟩
  replace X6 := hid (X6.out.below hb X6.out.lt)
  replace HN1 := hid (HN1.out.on hb)
  replace HD1 := hid (HD1.out.on hb)
  replace HF := hid (HF.out.on hb)
  replace B := hid (B.out.trans (hb.mono B.out.size))
  clear cc17a cc17b cc17c
  clear hb 
  obtain ⟨cc19a, cc19b, cc19c⟩ := X6.out.cells
  go_wp2_with fail
  refine (rtwo3 (k := 0) Hha.out Hhb.out sa sb w18).mono ?_
  rintro e w20 ⟨v, u, rfl, hv, hu, hb⟩
  obtain ⟨s3a, p3a, n3a, c3a, p3b, n3b, c3b, rfl⟩ := hv.opened
  obtain ⟨s4a, p4a, n4a, c4a, p4b, n4b, c4b, rfl⟩ := hu.opened
  obtain ⟨ht3, hu3⟩ := hv.two
  obtain ⟨ht4, hu4⟩ := hu.two
  replace X6 := hid (X6.out.below hb X6.out.lt)
  replace HN1 := hid (HN1.out.on hb)
  replace HD1 := hid (HD1.out.on hb)
  replace HF := hid (HF.out.on hb)
  replace B := hid (B.out.trans (hb.mono B.out.size))
  clear cc19a cc19b cc19c
  have HN4 := hid ht4
  have HD4 := hid hu4
  clear hb hv hu ht3 hu3 ht4 hu4
  have hb21 := (Below.refl _ _).alloc (Nat.le_refl w20.heap.size) (.cells #[.bool s3a, .slice p3a n3a c3a, .slice p3b n3b c3b] 28)
  have hx22 := Qbx.new w20 s3a p3a n3a c3a p3b n3b c3b
  have L0 := hid X6.out.lt
  replace X6 := hid (X6.out.below hb21 X6.out.lt)
  replace HN1 := hid (HN1.out.on hb21)
  replace HD1 := hid (HD1.out.on hb21)
  replace HF := hid (HF.out.on hb21)
  replace HN4 := hid (HN4.out.on hb21)
  replace HD4 := hid (HD4.out.on hb21)
  replace B := hid (B.out.trans (hb21.mono B.out.size))
  have X13 := hid hx22
  have hs23 : (w20.alloc (.cells #[.bool s3a, .slice p3a n3a c3a, .slice p3b n3b c3b] 28)).heap.size = w20.heap.size + 1 := by simp
  clear hb21 hx22
  have hb24 := (Below.refl _ _).alloc (Nat.le_refl (w20.alloc (.cells #[.bool s3a, .slice p3a n3a c3a, .slice p3b n3b c3b] 28)).heap.size) (.cells #[.bool s4a, .slice p4a n4a c4a, .slice p4b n4b c4b] 28)
  have hx25 := Qbx.new (w20.alloc (.cells #[.bool s3a, .slice p3a n3a c3a, .slice p3b n3b c3b] 28)) s4a p4a n4a c4a p4b n4b c4b
  rw [hs23] at hx25
  replace X6 := hid (X6.out.below hb24 X6.out.lt)
  replace X13 := hid (X13.out.below hb24 X13.out.lt)
  replace HN1 := hid (HN1.out.on hb24)
  replace HD1 := hid (HD1.out.on hb24)
  replace HF := hid (HF.out.on hb24)
  replace HN4 := hid (HN4.out.on hb24)
  replace HD4 := hid (HD4.out.on hb24)
  replace B := hid (B.out.trans (hb24.mono B.out.size))
  have X14 := hid hx25
  have hs26 : ((w20.alloc (.cells #[.bool s3a, .slice p3a n3a c3a, .slice p3b n3b c3b] 28)).alloc (.cells #[.bool s4a, .slice p4a n4a c4a, .slice p4b n4b c4b] 28)).heap.size = w20.heap.size + 1 + 1 := by simp [hs23]
  clear hb24 hx25
  obtain ⟨cc27a, cc27b, cc27c⟩ := X6.out.cells
  obtain ⟨cc28a, cc28b, cc28c⟩ := X13.out.cells
  obtain ⟨cc29a, cc29b, cc29c⟩ := X14.out.cells
  go_wp2_with fail
  generalize hW : (w20.alloc (.cells #[.bool s3a, .slice p3a n3a c3a, .slice p3b n3b c3b] 28)).alloc (.cells #[.bool s4a, .slice p4a n4a c4a, .slice p4b n4b c4b] 28) = W30 at *
  clear hW
  refine (radd (QR.mk2 HN1.out HD1.out) (QR.mk2 HN4.out HD4.out) (by omega)).mono ?_
  rintro e w31 ⟨v, rfl, hv, hb⟩
  obtain ⟨s5a, p5a, n5a, c5a, p5b, n5b, c5b, rfl⟩ := hv.opened
  obtain ⟨ht5, hu5⟩ := hv.two
  replace X6 := hid (X6.out.below hb X6.out.lt)
  replace X13 := hid (X13.out.below hb X13.out.lt)
  replace X14 := hid (X14.out.below hb X14.out.lt)
  replace HN1 := hid (HN1.out.on hb)
  replace HD1 := hid (HD1.out.on hb)
  replace HF := hid (HF.out.on hb)
  replace HN4 := hid (HN4.out.on hb)
  replace HD4 := hid (HD4.out.on hb)
  replace B := hid (B.out.trans (hb.mono B.out.size))
  clear cc27a cc27b cc27c cc28a cc28b cc28c cc29a cc29b cc29c
  have HN5 := hid ht5
  have HD5 := hid hu5
  clear hb hv ht5 hu5
  obtain ⟨cc32a, cc32b, cc32c⟩ := X6.out.cells
  obtain ⟨cc33a, cc33b, cc33c⟩ := X13.out.cells
  obtain ⟨cc34a, cc34b, cc34c⟩ := X14.out.cells
  go_wp2_with fail
  refine (rqtext (QR.mk2 HN5.out HD5.out) (by omega)).mono ?_
  rintro e w35 ⟨rfl, hb⟩
  replace X6 := hid (X6.out.below hb X6.out.lt)
  replace X13 := hid (X13.out.below hb X13.out.lt)
  replace X14 := hid (X14.out.below hb X14.out.lt)
  replace HN1 := hid (HN1.out.on hb)
  replace HD1 := hid (HD1.out.on hb)
  replace HF := hid (HF.out.on hb)
  replace HN4 := hid (HN4.out.on hb)
  replace HD4 := hid (HD4.out.on hb)
  replace HN5 := hid (HN5.out.on hb)
  replace HD5 := hid (HD5.out.on hb)
  replace B := hid (B.out.trans (hb.mono B.out.size))
  clear cc32a cc32b cc32c cc33a cc33b cc33c cc34a cc34b cc34c
  clear hb 
  clear HN5
  clear HD5
  obtain ⟨cc36a, cc36b, cc36c⟩ := X6.out.cells
  obtain ⟨cc37a, cc37b, cc37c⟩ := X13.out.cells
  obtain ⟨cc38a, cc38b, cc38c⟩ := X14.out.cells
  go_wp2_with fail
  refine (rmul (QR.mk2 HN1.out HD1.out) (QR.mk2 HN4.out HD4.out) (by omega)).mono ?_
  rintro e w39 ⟨v, rfl, hv, hb⟩
  obtain ⟨s6a, p6a, n6a, c6a, p6b, n6b, c6b, rfl⟩ := hv.opened
  obtain ⟨ht6, hu6⟩ := hv.two
  replace X6 := hid (X6.out.below hb X6.out.lt)
  replace X13 := hid (X13.out.below hb X13.out.lt)
  replace X14 := hid (X14.out.below hb X14.out.lt)
  replace HN1 := hid (HN1.out.on hb)
  replace HD1 := hid (HD1.out.on hb)
  replace HF := hid (HF.out.on hb)
  replace HN4 := hid (HN4.out.on hb)
  replace HD4 := hid (HD4.out.on hb)
  replace B := hid (B.out.trans (hb.mono B.out.size))
  clear cc36a cc36b cc36c cc37a cc37b cc37c cc38a cc38b cc38c
  have HN6 := hid ht6
  have HD6 := hid hu6
  clear hb hv ht6 hu6
  obtain ⟨cc40a, cc40b, cc40c⟩ := X6.out.cells
  obtain ⟨cc41a, cc41b, cc41c⟩ := X13.out.cells
  obtain ⟨cc42a, cc42b, cc42c⟩ := X14.out.cells
  go_wp2_with fail
  refine (rqtext (QR.mk2 HN6.out HD6.out) (by omega)).mono ?_
  rintro e w43 ⟨rfl, hb⟩
  replace X6 := hid (X6.out.below hb X6.out.lt)
  replace X13 := hid (X13.out.below hb X13.out.lt)
  replace X14 := hid (X14.out.below hb X14.out.lt)
  replace HN1 := hid (HN1.out.on hb)
  replace HD1 := hid (HD1.out.on hb)
  replace HF := hid (HF.out.on hb)
  replace HN4 := hid (HN4.out.on hb)
  replace HD4 := hid (HD4.out.on hb)
  replace HN6 := hid (HN6.out.on hb)
  replace HD6 := hid (HD6.out.on hb)
  replace B := hid (B.out.trans (hb.mono B.out.size))
  clear cc40a cc40b cc40c cc41a cc41b cc41c cc42a cc42b cc42c
  clear hb 
  clear HN6
  clear HD6
  obtain ⟨cc44a, cc44b, cc44c⟩ := X6.out.cells
  obtain ⟨cc45a, cc45b, cc45c⟩ := X13.out.cells
  obtain ⟨cc46a, cc46b, cc46c⟩ := X14.out.cells
  go_wp2_with fail
  have hsn := rsgn (QR.mk2 HN4.out HD4.out) (by omega)
  have hs0 : ¬ (qnum b).num.sign = 0 := by rw [Int.sign_eq_zero_iff_zero, Rat.num_eq_zero]; exact Hhz.out
  refine (hsn).mono ?_
  rintro e w47 ⟨rfl, hb⟩
  replace X6 := hid (X6.out.below hb X6.out.lt)
  replace X13 := hid (X13.out.below hb X13.out.lt)
  replace X14 := hid (X14.out.below hb X14.out.lt)
  replace HN1 := hid (HN1.out.on hb)
  replace HD1 := hid (HD1.out.on hb)
  replace HF := hid (HF.out.on hb)
  replace HN4 := hid (HN4.out.on hb)
  replace HD4 := hid (HD4.out.on hb)
  replace B := hid (B.out.trans (hb.mono B.out.size))
  clear cc44a cc44b cc44c cc45a cc45b cc45c cc46a cc46b cc46c
  clear hb hsn
  obtain ⟨cc48a, cc48b, cc48c⟩ := X6.out.cells
  obtain ⟨cc49a, cc49b, cc49c⟩ := X13.out.cells
  obtain ⟨cc50a, cc50b, cc50c⟩ := X14.out.cells
  go_wp2_with fail
  refine (rdivq (QR.mk2 HN1.out HD1.out) (QR.mk2 HN4.out HD4.out) Hhz.out (by omega)).mono ?_
  rintro e w51 ⟨v, rfl, hv, hb⟩
  obtain ⟨s7a, p7a, n7a, c7a, p7b, n7b, c7b, rfl⟩ := hv.opened
  obtain ⟨ht7, hu7⟩ := hv.two
  replace X6 := hid (X6.out.below hb X6.out.lt)
  replace X13 := hid (X13.out.below hb X13.out.lt)
  replace X14 := hid (X14.out.below hb X14.out.lt)
  replace HN1 := hid (HN1.out.on hb)
  replace HD1 := hid (HD1.out.on hb)
  replace HF := hid (HF.out.on hb)
  replace HN4 := hid (HN4.out.on hb)
  replace HD4 := hid (HD4.out.on hb)
  replace B := hid (B.out.trans (hb.mono B.out.size))
  clear cc48a cc48b cc48c cc49a cc49b cc49c cc50a cc50b cc50c
  have HN7 := hid ht7
  have HD7 := hid hu7
  clear hb hv ht7 hu7
  obtain ⟨cc52a, cc52b, cc52c⟩ := X6.out.cells
  obtain ⟨cc53a, cc53b, cc53c⟩ := X13.out.cells
  obtain ⟨cc54a, cc54b, cc54c⟩ := X14.out.cells
  go_wp2_with fail
  refine (rqtext (QR.mk2 HN7.out HD7.out) (by omega)).mono ?_
  rintro e w55 ⟨rfl, hb⟩
  replace X6 := hid (X6.out.below hb X6.out.lt)
  replace X13 := hid (X13.out.below hb X13.out.lt)
  replace X14 := hid (X14.out.below hb X14.out.lt)
  replace HN1 := hid (HN1.out.on hb)
  replace HD1 := hid (HD1.out.on hb)
  replace HF := hid (HF.out.on hb)
  replace HN4 := hid (HN4.out.on hb)
  replace HD4 := hid (HD4.out.on hb)
  replace HN7 := hid (HN7.out.on hb)
  replace HD7 := hid (HD7.out.on hb)
  replace B := hid (B.out.trans (hb.mono B.out.size))
  clear cc52a cc52b cc52c cc53a cc53b cc53c cc54a cc54b cc54c
  clear hb 
  clear HN7
  clear HD7
  obtain ⟨cc56a, cc56b, cc56c⟩ := X6.out.cells
  obtain ⟨cc57a, cc57b, cc57c⟩ := X13.out.cells
  obtain ⟨cc58a, cc58b, cc58c⟩ := X14.out.cells
  go_wp2_with fail
  refine (rwholeof_good Hhwa.out w55).mono ?_
  rintro e w59 ⟨v, rfl, hv, hb⟩
  obtain ⟨s8, p8, n8, c8, rfl⟩ := hv.opened
  replace X6 := hid (X6.out.below hb X6.out.lt)
  replace X13 := hid (X13.out.below hb X13.out.lt)
  replace X14 := hid (X14.out.below hb X14.out.lt)
  replace HN1 := hid (HN1.out.on hb)
  replace HD1 := hid (HD1.out.on hb)
  replace HF := hid (HF.out.on hb)
  replace HN4 := hid (HN4.out.on hb)
  replace HD4 := hid (HD4.out.on hb)
  replace B := hid (B.out.trans (hb.mono B.out.size))
  clear cc56a cc56b cc56c cc57a cc57b cc57c cc58a cc58b cc58c
  have HW8 := hid hv
  clear hb hv
  have hb60 := (Below.refl _ _).alloc (Nat.le_refl w59.heap.size) (.cells #[.bool s8, .slice p8 n8 c8] 26)
  have hx61 := BoxR.new w59 s8 p8 n8 c8
  have L1 := hid X14.out.lt
  replace X6 := hid (X6.out.below hb60 X6.out.lt)
  replace X13 := hid (X13.out.below hb60 X13.out.lt)
  replace X14 := hid (X14.out.below hb60 X14.out.lt)
  replace HN1 := hid (HN1.out.on hb60)
  replace HD1 := hid (HD1.out.on hb60)
  replace HF := hid (HF.out.on hb60)
  replace HN4 := hid (HN4.out.on hb60)
  replace HD4 := hid (HD4.out.on hb60)
  replace HW8 := hid (HW8.out.on hb60)
  replace B := hid (B.out.trans (hb60.mono B.out.size))
  have X19 := hid hx61
  have hs62 : (w59.alloc (.cells #[.bool s8, .slice p8 n8 c8] 26)).heap.size = w59.heap.size + 1 := by simp
  clear hb60 hx61
  obtain ⟨cc63a, cc63b, cc63c⟩ := X6.out.cells
  obtain ⟨cc64a, cc64b, cc64c⟩ := X13.out.cells
  obtain ⟨cc65a, cc65b, cc65c⟩ := X14.out.cells
  obtain ⟨cc66a, cc66b⟩ := X19.out.both
  go_wp2_with fail
  generalize hW : w59.alloc (.cells #[.bool s8, .slice p8 n8 c8] 26) = W67 at *
  clear hW
  refine (rwholeof_good Hhwb.out W67).mono ?_
  rintro e w68 ⟨v, rfl, hv, hb⟩
  obtain ⟨s9, p9, n9, c9, rfl⟩ := hv.opened
  replace X6 := hid (X6.out.below hb X6.out.lt)
  replace X13 := hid (X13.out.below hb X13.out.lt)
  replace X14 := hid (X14.out.below hb X14.out.lt)
  replace X19 := hid (X19.out.below hb X19.out.lt)
  replace HN1 := hid (HN1.out.on hb)
  replace HD1 := hid (HD1.out.on hb)
  replace HF := hid (HF.out.on hb)
  replace HN4 := hid (HN4.out.on hb)
  replace HD4 := hid (HD4.out.on hb)
  replace HW8 := hid (HW8.out.on hb)
  replace B := hid (B.out.trans (hb.mono B.out.size))
  clear cc63a cc63b cc63c cc64a cc64b cc64c cc65a cc65b cc65c cc66a cc66b
  have HW9 := hid hv
  clear hb hv
  have hb69 := (Below.refl _ _).alloc (Nat.le_refl w68.heap.size) (.cells #[.bool s9, .slice p9 n9 c9] 26)
  have hx70 := BoxR.new w68 s9 p9 n9 c9
  have L2 := hid X19.out.lt
  replace X6 := hid (X6.out.below hb69 X6.out.lt)
  replace X13 := hid (X13.out.below hb69 X13.out.lt)
  replace X14 := hid (X14.out.below hb69 X14.out.lt)
  replace X19 := hid (X19.out.below hb69 X19.out.lt)
  replace HN1 := hid (HN1.out.on hb69)
  replace HD1 := hid (HD1.out.on hb69)
  replace HF := hid (HF.out.on hb69)
  replace HN4 := hid (HN4.out.on hb69)
  replace HD4 := hid (HD4.out.on hb69)
  replace HW8 := hid (HW8.out.on hb69)
  replace HW9 := hid (HW9.out.on hb69)
  replace B := hid (B.out.trans (hb69.mono B.out.size))
  have X21 := hid hx70
  have hs71 : (w68.alloc (.cells #[.bool s9, .slice p9 n9 c9] 26)).heap.size = w68.heap.size + 1 := by simp
  clear hb69 hx70
  obtain ⟨cc72a, cc72b, cc72c⟩ := X6.out.cells
  obtain ⟨cc73a, cc73b, cc73c⟩ := X13.out.cells
  obtain ⟨cc74a, cc74b, cc74c⟩ := X14.out.cells
  obtain ⟨cc75a, cc75b⟩ := X19.out.both
  obtain ⟨cc76a, cc76b⟩ := X21.out.both
  go_wp2_with fail
  generalize hW : w68.alloc (.cells #[.bool s9, .slice p9 n9 c9] 26) = W77 at *
  clear hW
  refine (two_zero 0 W77).mono ?_
  rintro e w' ⟨rfl, rfl⟩
  have hn9 : ¬ (n9 : Int) = 0 := by have h1 := HW9.out.inside.1.len; have h2 := Hhs.out; omega
  have hs9 : s9 = false := by rw [HW9.out.inside.2]; exact decide_eq_false (by have := Hhs.out; omega)
  subst hs9
  obtain ⟨cc79a, cc79b, cc79c⟩ := X6.out.cells
  obtain ⟨cc80a, cc80b, cc80c⟩ := X13.out.cells
  obtain ⟨cc81a, cc81b, cc81c⟩ := X14.out.cells
  obtain ⟨cc82a, cc82b⟩ := X19.out.both
  obtain ⟨cc83a, cc83b⟩ := X21.out.both
  go_wp2_with fail
  refine (rover HW8.out HW9.out.inside.1 (by have := Hhs.out; omega) (by omega)).mono ?_
  rintro e w84 ⟨v, rfl, hv, hb⟩
  obtain ⟨s5a, p5a, n5a, c5a, p5b, n5b, c5b, rfl⟩ := hv.opened
  obtain ⟨ht5, hu5⟩ := hv.two
  replace X6 := hid (X6.out.below hb X6.out.lt)
  replace X13 := hid (X13.out.below hb X13.out.lt)
  replace X14 := hid (X14.out.below hb X14.out.lt)
  replace X19 := hid (X19.out.below hb X19.out.lt)
  replace X21 := hid (X21.out.below hb X21.out.lt)
  replace HN1 := hid (HN1.out.on hb)
  replace HD1 := hid (HD1.out.on hb)
  replace HF := hid (HF.out.on hb)
  replace HN4 := hid (HN4.out.on hb)
  replace HD4 := hid (HD4.out.on hb)
  replace HW8 := hid (HW8.out.on hb)
  replace HW9 := hid (HW9.out.on hb)
  replace B := hid (B.out.trans (hb.mono B.out.size))
  clear cc72a cc72b cc72c cc73a cc73b cc73c cc74a cc74b cc74c cc75a cc75b cc76a cc76b cc79a cc79b cc79c cc80a cc80b cc80c cc81a cc81b cc81c cc82a cc82b cc83a cc83b
  have HN5 := hid ht5
  have HD5 := hid hu5
  clear hb hv ht5 hu5
  obtain ⟨cc85a, cc85b, cc85c⟩ := X6.out.cells
  obtain ⟨cc86a, cc86b, cc86c⟩ := X13.out.cells
  obtain ⟨cc87a, cc87b, cc87c⟩ := X14.out.cells
  obtain ⟨cc88a, cc88b⟩ := X19.out.both
  obtain ⟨cc89a, cc89b⟩ := X21.out.both
  go_wp2_with fail
  refine (rqtext (QR.mk2 HN5.out HD5.out) (by omega)).mono ?_
  rintro e w90 ⟨rfl, hb⟩
  replace X6 := hid (X6.out.below hb X6.out.lt)
  replace X13 := hid (X13.out.below hb X13.out.lt)
  replace X14 := hid (X14.out.below hb X14.out.lt)
  replace X19 := hid (X19.out.below hb X19.out.lt)
  replace X21 := hid (X21.out.below hb X21.out.lt)
  replace HN1 := hid (HN1.out.on hb)
  replace HD1 := hid (HD1.out.on hb)
  replace HF := hid (HF.out.on hb)
  replace HN4 := hid (HN4.out.on hb)
  replace HD4 := hid (HD4.out.on hb)
  replace HW8 := hid (HW8.out.on hb)
  replace HW9 := hid (HW9.out.on hb)
  replace HN5 := hid (HN5.out.on hb)
  replace HD5 := hid (HD5.out.on hb)
  replace B := hid (B.out.trans (hb.mono B.out.size))
  clear cc85a cc85b cc85c cc86a cc86b cc86c cc87a cc87b cc87c cc88a cc88b cc89a cc89b
  clear hb 
  clear HN5
  clear HD5
  obtain ⟨cc91a, cc91b, cc91c⟩ := X6.out.cells
  obtain ⟨cc92a, cc92b, cc92c⟩ := X13.out.cells
  obtain ⟨cc93a, cc93b, cc93c⟩ := X14.out.cells
  obtain ⟨cc94a, cc94b⟩ := X19.out.both
  obtain ⟨cc95a, cc95b⟩ := X21.out.both
  go_wp2_with fail
  refine (qadd_good Hha.out Hhb.out w90).mono ?_
  rintro e w96 ⟨rfl, hb⟩
  replace X6 := hid (X6.out.below hb X6.out.lt)
  replace X13 := hid (X13.out.below hb X13.out.lt)
  replace X14 := hid (X14.out.below hb X14.out.lt)
  replace X19 := hid (X19.out.below hb X19.out.lt)
  replace X21 := hid (X21.out.below hb X21.out.lt)
  replace HN1 := hid (HN1.out.on hb)
  replace HD1 := hid (HD1.out.on hb)
  replace HF := hid (HF.out.on hb)
  replace HN4 := hid (HN4.out.on hb)
  replace HD4 := hid (HD4.out.on hb)
  replace HW8 := hid (HW8.out.on hb)
  replace HW9 := hid (HW9.out.on hb)
  replace B := hid (B.out.trans (hb.mono B.out.size))
  clear cc91a cc91b cc91c cc92a cc92b cc92c cc93a cc93b cc93c cc94a cc94b cc95a cc95b
  clear hb 
  obtain ⟨cc97a, cc97b, cc97c⟩ := X6.out.cells
  obtain ⟨cc98a, cc98b, cc98c⟩ := X13.out.cells
  obtain ⟨cc99a, cc99b, cc99c⟩ := X14.out.cells
  obtain ⟨cc100a, cc100b⟩ := X19.out.both
  obtain ⟨cc101a, cc101b⟩ := X21.out.both
  go_wp2_with fail
  refine (same_nil w96 (HDR.out.below B.out)).mono ?_
  rintro e w102 ⟨rfl, hb⟩
  replace X6 := hid (X6.out.below hb X6.out.lt)
  replace X13 := hid (X13.out.below hb X13.out.lt)
  replace X14 := hid (X14.out.below hb X14.out.lt)
  replace X19 := hid (X19.out.below hb X19.out.lt)
  replace X21 := hid (X21.out.below hb X21.out.lt)
  replace HN1 := hid (HN1.out.on hb)
  replace HD1 := hid (HD1.out.on hb)
  replace HF := hid (HF.out.on hb)
  replace HN4 := hid (HN4.out.on hb)
  replace HD4 := hid (HD4.out.on hb)
  replace HW8 := hid (HW8.out.on hb)
  replace HW9 := hid (HW9.out.on hb)
  replace B := hid (B.out.trans (hb.mono B.out.size))
  clear cc97a cc97b cc97c cc98a cc98b cc98c cc99a cc99b cc99c cc100a cc100b cc101a cc101b
  clear hb 
  obtain ⟨cc103a, cc103b, cc103c⟩ := X6.out.cells
  obtain ⟨cc104a, cc104b, cc104c⟩ := X13.out.cells
  obtain ⟨cc105a, cc105b, cc105c⟩ := X14.out.cells
  obtain ⟨cc106a, cc106b⟩ := X19.out.both
  obtain ⟨cc107a, cc107b⟩ := X21.out.both
  go_wp2_with fail
  refine (qmul_good Hha.out Hhb.out w102).mono ?_
  rintro e w108 ⟨rfl, hb⟩
  replace X6 := hid (X6.out.below hb X6.out.lt)
  replace X13 := hid (X13.out.below hb X13.out.lt)
  replace X14 := hid (X14.out.below hb X14.out.lt)
  replace X19 := hid (X19.out.below hb X19.out.lt)
  replace X21 := hid (X21.out.below hb X21.out.lt)
  replace HN1 := hid (HN1.out.on hb)
  replace HD1 := hid (HD1.out.on hb)
  replace HF := hid (HF.out.on hb)
  replace HN4 := hid (HN4.out.on hb)
  replace HD4 := hid (HD4.out.on hb)
  replace HW8 := hid (HW8.out.on hb)
  replace HW9 := hid (HW9.out.on hb)
  replace B := hid (B.out.trans (hb.mono B.out.size))
  clear cc103a cc103b cc103c cc104a cc104b cc104c cc105a cc105b cc105c cc106a cc106b cc107a cc107b
  clear hb 
  obtain ⟨cc109a, cc109b, cc109c⟩ := X6.out.cells
  obtain ⟨cc110a, cc110b, cc110c⟩ := X13.out.cells
  obtain ⟨cc111a, cc111b, cc111c⟩ := X14.out.cells
  obtain ⟨cc112a, cc112b⟩ := X19.out.both
  obtain ⟨cc113a, cc113b⟩ := X21.out.both
  go_wp2_with fail
  refine (same_nil w108 (HDR.out.below B.out)).mono ?_
  rintro e w114 ⟨rfl, hb⟩
  replace X6 := hid (X6.out.below hb X6.out.lt)
  replace X13 := hid (X13.out.below hb X13.out.lt)
  replace X14 := hid (X14.out.below hb X14.out.lt)
  replace X19 := hid (X19.out.below hb X19.out.lt)
  replace X21 := hid (X21.out.below hb X21.out.lt)
  replace HN1 := hid (HN1.out.on hb)
  replace HD1 := hid (HD1.out.on hb)
  replace HF := hid (HF.out.on hb)
  replace HN4 := hid (HN4.out.on hb)
  replace HD4 := hid (HD4.out.on hb)
  replace HW8 := hid (HW8.out.on hb)
  replace HW9 := hid (HW9.out.on hb)
  replace B := hid (B.out.trans (hb.mono B.out.size))
  clear cc109a cc109b cc109c cc110a cc110b cc110c cc111a cc111b cc111c cc112a cc112b cc113a cc113b
  clear hb 
  obtain ⟨cc115a, cc115b, cc115c⟩ := X6.out.cells
  obtain ⟨cc116a, cc116b, cc116c⟩ := X13.out.cells
  obtain ⟨cc117a, cc117b, cc117c⟩ := X14.out.cells
  obtain ⟨cc118a, cc118b⟩ := X19.out.both
  obtain ⟨cc119a, cc119b⟩ := X21.out.both
  go_wp2_with fail
  refine (qdiv_good Hha.out Hhb.out Hhz.out w114).mono ?_
  rintro e w120 ⟨rfl, hb⟩
  replace X6 := hid (X6.out.below hb X6.out.lt)
  replace X13 := hid (X13.out.below hb X13.out.lt)
  replace X14 := hid (X14.out.below hb X14.out.lt)
  replace X19 := hid (X19.out.below hb X19.out.lt)
  replace X21 := hid (X21.out.below hb X21.out.lt)
  replace HN1 := hid (HN1.out.on hb)
  replace HD1 := hid (HD1.out.on hb)
  replace HF := hid (HF.out.on hb)
  replace HN4 := hid (HN4.out.on hb)
  replace HD4 := hid (HD4.out.on hb)
  replace HW8 := hid (HW8.out.on hb)
  replace HW9 := hid (HW9.out.on hb)
  replace B := hid (B.out.trans (hb.mono B.out.size))
  clear cc115a cc115b cc115c cc116a cc116b cc116c cc117a cc117b cc117c cc118a cc118b cc119a cc119b
  clear hb 
  obtain ⟨cc121a, cc121b, cc121c⟩ := X6.out.cells
  obtain ⟨cc122a, cc122b, cc122c⟩ := X13.out.cells
  obtain ⟨cc123a, cc123b, cc123c⟩ := X14.out.cells
  obtain ⟨cc124a, cc124b⟩ := X19.out.both
  obtain ⟨cc125a, cc125b⟩ := X21.out.both
  go_wp2_with fail
  refine (same_nil w120 (HDR.out.below B.out)).mono ?_
  rintro e w126 ⟨rfl, hb⟩
  replace X6 := hid (X6.out.below hb X6.out.lt)
  replace X13 := hid (X13.out.below hb X13.out.lt)
  replace X14 := hid (X14.out.below hb X14.out.lt)
  replace X19 := hid (X19.out.below hb X19.out.lt)
  replace X21 := hid (X21.out.below hb X21.out.lt)
  replace HN1 := hid (HN1.out.on hb)
  replace HD1 := hid (HD1.out.on hb)
  replace HF := hid (HF.out.on hb)
  replace HN4 := hid (HN4.out.on hb)
  replace HD4 := hid (HD4.out.on hb)
  replace HW8 := hid (HW8.out.on hb)
  replace HW9 := hid (HW9.out.on hb)
  replace B := hid (B.out.trans (hb.mono B.out.size))
  clear cc121a cc121b cc121c cc122a cc122b cc122c cc123a cc123b cc123c cc124a cc124b cc125a cc125b
  clear hb 
  obtain ⟨cc127a, cc127b, cc127c⟩ := X6.out.cells
  obtain ⟨cc128a, cc128b, cc128c⟩ := X13.out.cells
  obtain ⟨cc129a, cc129b, cc129c⟩ := X14.out.cells
  obtain ⟨cc130a, cc130b⟩ := X19.out.both
  obtain ⟨cc131a, cc131b⟩ := X21.out.both
  go_wp2_with fail
  have hls := qless_good Hha.out Hhb.out w126
  generalize hli : decide (qnum a < qnum b) = li at hls
  refine (hls).mono ?_
  rintro e w132 ⟨rfl, hb⟩
  replace X6 := hid (X6.out.below hb X6.out.lt)
  replace X13 := hid (X13.out.below hb X13.out.lt)
  replace X14 := hid (X14.out.below hb X14.out.lt)
  replace X19 := hid (X19.out.below hb X19.out.lt)
  replace X21 := hid (X21.out.below hb X21.out.lt)
  replace HN1 := hid (HN1.out.on hb)
  replace HD1 := hid (HD1.out.on hb)
  replace HF := hid (HF.out.on hb)
  replace HN4 := hid (HN4.out.on hb)
  replace HD4 := hid (HD4.out.on hb)
  replace HW8 := hid (HW8.out.on hb)
  replace HW9 := hid (HW9.out.on hb)
  replace B := hid (B.out.trans (hb.mono B.out.size))
  clear cc127a cc127b cc127c cc128a cc128b cc128c cc129a cc129b cc129c cc130a cc130b cc131a cc131b
  clear hb hls
  obtain ⟨cc133a, cc133b, cc133c⟩ := X6.out.cells
  obtain ⟨cc134a, cc134b, cc134c⟩ := X13.out.cells
  obtain ⟨cc135a, cc135b, cc135c⟩ := X14.out.cells
  obtain ⟨cc136a, cc136b⟩ := X19.out.both
  obtain ⟨cc137a, cc137b⟩ := X21.out.both
  go_wp2_with fail
  refine (same_nil w132 (HDR.out.below B.out)).mono ?_
  rintro e w138 ⟨rfl, hb⟩
  replace X6 := hid (X6.out.below hb X6.out.lt)
  replace X13 := hid (X13.out.below hb X13.out.lt)
  replace X14 := hid (X14.out.below hb X14.out.lt)
  replace X19 := hid (X19.out.below hb X19.out.lt)
  replace X21 := hid (X21.out.below hb X21.out.lt)
  replace HN1 := hid (HN1.out.on hb)
  replace HD1 := hid (HD1.out.on hb)
  replace HF := hid (HF.out.on hb)
  replace HN4 := hid (HN4.out.on hb)
  replace HD4 := hid (HD4.out.on hb)
  replace HW8 := hid (HW8.out.on hb)
  replace HW9 := hid (HW9.out.on hb)
  replace B := hid (B.out.trans (hb.mono B.out.size))
  clear cc133a cc133b cc133c cc134a cc134b cc134c cc135a cc135b cc135c cc136a cc136b cc137a cc137b
  clear hb 
  obtain ⟨cc139a, cc139b, cc139c⟩ := X6.out.cells
  obtain ⟨cc140a, cc140b, cc140c⟩ := X13.out.cells
  obtain ⟨cc141a, cc141b, cc141c⟩ := X14.out.cells
  obtain ⟨cc142a, cc142b⟩ := X19.out.both
  obtain ⟨cc143a, cc143b⟩ := X21.out.both
  go_wp2_with fail
  have hmk := qmake_good Hhwa.out Hhwb.out (by have := Hhs.out; omega) w138
  rw [made_pos Hhs.out] at hmk
  refine (hmk).mono ?_
  rintro e w144 ⟨rfl, hb⟩
  replace X6 := hid (X6.out.below hb X6.out.lt)
  replace X13 := hid (X13.out.below hb X13.out.lt)
  replace X14 := hid (X14.out.below hb X14.out.lt)
  replace X19 := hid (X19.out.below hb X19.out.lt)
  replace X21 := hid (X21.out.below hb X21.out.lt)
  replace HN1 := hid (HN1.out.on hb)
  replace HD1 := hid (HD1.out.on hb)
  replace HF := hid (HF.out.on hb)
  replace HN4 := hid (HN4.out.on hb)
  replace HD4 := hid (HD4.out.on hb)
  replace HW8 := hid (HW8.out.on hb)
  replace HW9 := hid (HW9.out.on hb)
  replace B := hid (B.out.trans (hb.mono B.out.size))
  clear cc139a cc139b cc139c cc140a cc140b cc140c cc141a cc141b cc141c cc142a cc142b cc143a cc143b
  clear hb hmk
  obtain ⟨cc145a, cc145b, cc145c⟩ := X6.out.cells
  obtain ⟨cc146a, cc146b, cc146c⟩ := X13.out.cells
  obtain ⟨cc147a, cc147b, cc147c⟩ := X14.out.cells
  obtain ⟨cc148a, cc148b⟩ := X19.out.both
  obtain ⟨cc149a, cc149b⟩ := X21.out.both
  go_wp2_with fail
  refine (same_nil w144 (HDR.out.below B.out)).mono ?_
  rintro e w150 ⟨rfl, hb⟩
  replace X6 := hid (X6.out.below hb X6.out.lt)
  replace X13 := hid (X13.out.below hb X13.out.lt)
  replace X14 := hid (X14.out.below hb X14.out.lt)
  replace X19 := hid (X19.out.below hb X19.out.lt)
  replace X21 := hid (X21.out.below hb X21.out.lt)
  replace HN1 := hid (HN1.out.on hb)
  replace HD1 := hid (HD1.out.on hb)
  replace HF := hid (HF.out.on hb)
  replace HN4 := hid (HN4.out.on hb)
  replace HD4 := hid (HD4.out.on hb)
  replace HW8 := hid (HW8.out.on hb)
  replace HW9 := hid (HW9.out.on hb)
  replace B := hid (B.out.trans (hb.mono B.out.size))
  clear cc145a cc145b cc145c cc146a cc146b cc146c cc147a cc147b cc147c cc148a cc148b cc149a cc149b
  clear hb 
  obtain ⟨cc151a, cc151b, cc151c⟩ := X6.out.cells
  obtain ⟨cc152a, cc152b, cc152c⟩ := X13.out.cells
  obtain ⟨cc153a, cc153b, cc153c⟩ := X14.out.cells
  obtain ⟨cc154a, cc154b⟩ := X19.out.both
  obtain ⟨cc155a, cc155b⟩ := X21.out.both
  go_wp2_with fail
  have hcm := rcmp (QR.mk2 HN1.out HD1.out) (QR.mk2 HN4.out HD4.out) (by omega)
  refine (hcm).mono ?_
  rintro e w156 ⟨rfl, hb⟩
  replace X6 := hid (X6.out.below hb X6.out.lt)
  replace X13 := hid (X13.out.below hb X13.out.lt)
  replace X14 := hid (X14.out.below hb X14.out.lt)
  replace X19 := hid (X19.out.below hb X19.out.lt)
  replace X21 := hid (X21.out.below hb X21.out.lt)
  replace HN1 := hid (HN1.out.on hb)
  replace HD1 := hid (HD1.out.on hb)
  replace HF := hid (HF.out.on hb)
  replace HN4 := hid (HN4.out.on hb)
  replace HD4 := hid (HD4.out.on hb)
  replace HW8 := hid (HW8.out.on hb)
  replace HW9 := hid (HW9.out.on hb)
  replace B := hid (B.out.trans (hb.mono B.out.size))
  clear cc151a cc151b cc151c cc152a cc152b cc152c cc153a cc153b cc153c cc154a cc154b cc155a cc155b
  clear hb hcm
  go_wp2_with fail
  go_ret
  exact ⟨ret_bool (by rw [← hli, less_sub]; simp), B.out⟩

end Go.Proofs.YtckkbjnipacodaaGreatDoor

/-
  RatTells.
-/
namespace Go.Proofs.YtckkbjnipacodaaGreatDoor
open Go.RowKit
open Num4
open Num (dg isNat dval)
set_option linter.unusedVariables false
set_option maxRecDepth 100000
set_option linter.unusedSimpArgs false

theorem rtells_walk (a b : ByteArray) (sa : a.size ≤ maxLen) (sb : b.size ≤ maxLen) (w : World) (hd : Door w) :
    Calls Tryz.prog 3 #[.string a, .string b] w fun e w' => e = .returned (.bool true) ∧ Below w.heap.size w w' := by
  obtain ⟨j, hj⟩ : ∃ j, (GoodZ b ∧ j = 0) ∨ BadZ b j := by
    rcases goodZ_or_bad b with h | ⟨k, h⟩
    · exact ⟨0, .inl ⟨h, rfl⟩⟩
    · exact ⟨k, .inr h⟩
  rcases goodQ_or_bad a with ha | ⟨k, ha⟩
  · rcases goodQ_or_bad b with hb | ⟨k, hb⟩
    · by_cases hz : qnum b = 0
      · obtain ⟨hwb, hs⟩ := zero_whole hb hz
        rcases goodZ_or_bad a with hwa | ⟨i, hwa⟩
        · exact rtells_zw (k := 0) (i := 0) (j := 0) a b sa sb ha hb hz hwa hwb hs w hd
        · exact rtells_zn (k := 0) (i := i) (j := j) a b sa sb ha hb hz hwa hj hwa.ne' w hd
      · rcases goodZ_or_bad a with hwa | ⟨i, hwa⟩
        · rcases goodZ_or_bad b with hwb | ⟨m, hwb⟩
          · rcases (show znum b < 0 ∨ 0 < znum b by have := whole_zero hwb hz; omega) with hs | hs
            · exact rtells_nm (k := 0) (i := 0) (j := 0) a b sa sb ha hb hz hwa hwb hs w hd
            · exact rtells_np (k := 0) (i := 0) (j := 0) a b sa sb ha hb hz hwa hwb hs w hd
          · exact rtells_nb (k := 0) (i := 0) (j := m) a b sa sb ha hb hz hwa hwb hwb.ne' w hd
        · exact rtells_nn (k := 0) (i := i) (j := j) a b sa sb ha hb hz hwa hj hwa.ne' w hd
    · rcases goodZ_or_bad a with hwa | ⟨i, hwa⟩
      · exact rtells_c2w (k := k) (i := 0) (j := k) a b sa sb ha hb hwa hb.badZ hb.ne hb.ne w hd
      · exact rtells_c2n (k := k) (i := i) (j := j) a b sa sb ha hb hwa hj hb.ne hwa.ne' w hd
  · exact rtells_c1 (k := k) (i := k) (j := j) a b sa sb ha ha.badZ hj ha.ne ha.ne w hd

end Go.Proofs.YtckkbjnipacodaaGreatDoor
