import Derived.Test.YtjeeepcnaaadmaaGreatDoorBunProofRatTells20
import Derived.Deep.RegionHeld3
/-
  RatTells: a case.
-/
namespace Go.Proofs.YtjeeepcnaaadmaaGreatDoor
open Go.RowKit
open Num4
open Num (dg isNat dval)
set_option linter.unusedVariables false
set_option maxRecDepth 100000
set_option linter.unusedSimpArgs false

set_option maxHeartbeats 32000000 in
theorem rtells_np (a b : ByteArray) (sa : a.size ≤ maxLen) (sb : b.size ≤ maxLen) {k i j : Int} (ha : GoodQ a) (hb : GoodQ b) (hz : qnum b ≠ 0) (hwa : GoodZ a) (hwb : GoodZ b) (hs : 0 < znum b) (w : World) (hd : Door w) :
    Calls Tryz.prog 3 #[.string a, .string b] w fun e w' => e = .returned (.bool true) ∧ Below w.heap.size w w' := by
  have Hha := hid ha
  have Hhb := hid hb
  have Hhz := hid hz
  have Hhwa := hid hwa
  have Hhwb := hid hwb
  have Hhs := hid hs
  have HDR := hid hd
  have B := hid (Below.refl w.heap.size w)
  clear  ha hb hz hwa hwb hs hd
  go_enter Tryz.func3, Tryz.ntmps3
  go_wp2_with fail
  refine (halved_true w).mono ?_
  rintro e w1 ⟨rfl, hb⟩
  replace B := bb B hb
  clear hb 
  go_wp2_with fail
  refine (ratof_good Hha.out w1).mono ?_
  rintro e w2 ⟨v, rfl, hv, hb⟩
  obtain ⟨s1a, p1a, n1a, c1a, p1b, n1b, c1b, rfl⟩ := hv.opened
  obtain ⟨ht1, hu1⟩ := hv.two
  replace B := bb B hb
  have HN1 := hid ht1
  have HD1 := hid hu1
  clear hb hv ht1 hu1
  have hb3 := (Below.refl _ _).alloc (Nat.le_refl w2.heap.size) (.cells #[.bool s1a, .slice p1a n1a c1a, .slice p1b n1b c1b] 28)
  have hx4 := Qbx.new w2 s1a p1a n1a c1a p1b n1b c1b
  replace HN1 := wr HN1 hb3
  replace HD1 := wr HD1 hb3
  replace B := bb B hb3
  have X6 := hid hx4
  have hs5 : (w2.alloc (.cells #[.bool s1a, .slice p1a n1a c1a, .slice p1b n1b c1b] 28)).heap.size = w2.heap.size + 1 := by simp
  clear hb3 hx4
  obtain ⟨cc6a, cc6b, cc6c⟩ := X6.out.cells
  go_wp2_with fail
  generalize hW : w2.alloc (.cells #[.bool s1a, .slice p1a n1a c1a, .slice p1b n1b c1b] 28) = W7 at *
  clear hW
  refine (qcheck_good Hha.out W7).mono ?_
  rintro e w8 ⟨rfl, hb⟩
  replace X6 := qx X6 hb
  replace HN1 := wr HN1 hb
  replace HD1 := wr HD1 hb
  replace B := bb B hb
  clear cc6a cc6b cc6c
  clear hb 
  obtain ⟨cc9a, cc9b, cc9c⟩ := X6.out.cells
  go_wp2_with fail
  refine (same_nil w8 (HDR.out.below B.out)).mono ?_
  rintro e w10 ⟨rfl, hb⟩
  replace X6 := qx X6 hb
  replace HN1 := wr HN1 hb
  replace HD1 := wr HD1 hb
  replace B := bb B hb
  clear cc9a cc9b cc9c
  clear hb 
  obtain ⟨cc11a, cc11b, cc11c⟩ := X6.out.cells
  go_wp2_with fail
  refine (rfloor (QR.mk2 HN1.out HD1.out) (by omega) (by omega)).mono ?_
  rintro e w12 ⟨v, rfl, hv, hb⟩
  obtain ⟨s2, p2, n2, c2, rfl⟩ := hv.opened
  replace X6 := qx X6 hb
  replace HN1 := wr HN1 hb
  replace HD1 := wr HD1 hb
  replace B := bb B hb
  clear cc11a cc11b cc11c
  have HF := hid hv
  clear hb hv
  obtain ⟨cc13a, cc13b, cc13c⟩ := X6.out.cells
  go_wp2_with fail
  refine (rtextz HF.out (by omega)).mono ?_
  rintro e w14 ⟨rfl, hb⟩
  replace X6 := qx X6 hb
  replace HN1 := wr HN1 hb
  replace HD1 := wr HD1 hb
  replace B := bb B hb
  clear cc13a cc13b cc13c
  clear hb 
  obtain ⟨cc15a, cc15b, cc15c⟩ := X6.out.cells
  go_wp2_with fail
  refine (qfloor_good Hha.out w14).mono ?_
  rintro e w16 ⟨rfl, hb⟩
  replace X6 := qx X6 hb
  replace HN1 := wr HN1 hb
  replace HD1 := wr HD1 hb
  replace B := bb B hb
  clear cc15a cc15b cc15c
  clear hb 
  obtain ⟨cc17a, cc17b, cc17c⟩ := X6.out.cells
  go_wp2_with fail
  refine (same_nil w16 (HDR.out.below B.out)).mono ?_
  rintro e w18 ⟨rfl, hb⟩
  replace X6 := qx X6 hb
  replace HN1 := wr HN1 hb
  replace HD1 := wr HD1 hb
  replace B := bb B hb
  clear cc17a cc17b cc17c
  clear hb 
  obtain ⟨cc19a, cc19b, cc19c⟩ := X6.out.cells
  go_wp2_with fail
  refine (rtwo3 (k := 0) Hha.out Hhb.out sa sb w18).mono ?_
  rintro e w20 ⟨v, u, rfl, hv, hu, hb⟩
  obtain ⟨s3a, p3a, n3a, c3a, p3b, n3b, c3b, rfl⟩ := hv.opened
  obtain ⟨s4a, p4a, n4a, c4a, p4b, n4b, c4b, rfl⟩ := hu.opened
  obtain ⟨ht3, hu3⟩ := hv.two
  obtain ⟨ht4, hu4⟩ := hu.two
  replace X6 := qx X6 hb
  replace HN1 := wr HN1 hb
  replace HD1 := wr HD1 hb
  replace B := bb B hb
  clear cc19a cc19b cc19c
  have HN4 := hid ht4
  have HD4 := hid hu4
  clear hb hv hu ht3 hu3 ht4 hu4
  have hb21 := (Below.refl _ _).alloc (Nat.le_refl w20.heap.size) (.cells #[.bool s3a, .slice p3a n3a c3a, .slice p3b n3b c3b] 28)
  have hx22 := Qbx.new w20 s3a p3a n3a c3a p3b n3b c3b
  have L0 := hid X6.out.lt
  replace X6 := qx X6 hb21
  replace HN1 := wr HN1 hb21
  replace HD1 := wr HD1 hb21
  replace HN4 := wr HN4 hb21
  replace HD4 := wr HD4 hb21
  replace B := bb B hb21
  have X13 := hid hx22
  have hs23 : (w20.alloc (.cells #[.bool s3a, .slice p3a n3a c3a, .slice p3b n3b c3b] 28)).heap.size = w20.heap.size + 1 := by simp
  clear hb21 hx22
  have hb24 := (Below.refl _ _).alloc (Nat.le_refl (w20.alloc (.cells #[.bool s3a, .slice p3a n3a c3a, .slice p3b n3b c3b] 28)).heap.size) (.cells #[.bool s4a, .slice p4a n4a c4a, .slice p4b n4b c4b] 28)
  have hx25 := Qbx.new (w20.alloc (.cells #[.bool s3a, .slice p3a n3a c3a, .slice p3b n3b c3b] 28)) s4a p4a n4a c4a p4b n4b c4b
  rw [hs23] at hx25
  replace X6 := qx X6 hb24
  replace X13 := qx X13 hb24
  replace HN1 := wr HN1 hb24
  replace HD1 := wr HD1 hb24
  replace HN4 := wr HN4 hb24
  replace HD4 := wr HD4 hb24
  replace B := bb B hb24
  have X14 := hid hx25
  have hs26 : ((w20.alloc (.cells #[.bool s3a, .slice p3a n3a c3a, .slice p3b n3b c3b] 28)).alloc (.cells #[.bool s4a, .slice p4a n4a c4a, .slice p4b n4b c4b] 28)).heap.size = w20.heap.size + 1 + 1 := by simp [hs23]
  clear hb24 hx25
  obtain ⟨cc27a, cc27b, cc27c⟩ := X6.out.cells
  obtain ⟨cc28a, cc28b, cc28c⟩ := X13.out.cells
  obtain ⟨cc29a, cc29b, cc29c⟩ := X14.out.cells
  go_wp2_with fail
  generalize hW : (w20.alloc (.cells #[.bool s3a, .slice p3a n3a c3a, .slice p3b n3b c3b] 28)).alloc (.cells #[.bool s4a, .slice p4a n4a c4a, .slice p4b n4b c4b] 28) = W30 at *
  clear hW
  refine (radd (QR.mk2 HN1.out HD1.out) (QR.mk2 HN4.out HD4.out) (by omega)).mono ?_
  rintro e w31 ⟨v, rfl, hv, hb⟩
  obtain ⟨s5a, p5a, n5a, c5a, p5b, n5b, c5b, rfl⟩ := hv.opened
  obtain ⟨ht5, hu5⟩ := hv.two
  replace X6 := qx X6 hb
  replace X14 := qx X14 hb
  replace HN1 := wr HN1 hb
  replace HD1 := wr HD1 hb
  replace HN4 := wr HN4 hb
  replace HD4 := wr HD4 hb
  replace B := bb B hb
  clear cc27a cc27b cc27c cc28a cc28b cc28c cc29a cc29b cc29c
  have HN5 := hid ht5
  have HD5 := hid hu5
  clear hb hv ht5 hu5
  obtain ⟨cc32a, cc32b, cc32c⟩ := X6.out.cells
  obtain ⟨cc33a, cc33b, cc33c⟩ := X14.out.cells
  go_wp2_with fail
  refine (rqtext (QR.mk2 HN5.out HD5.out) (by omega)).mono ?_
  rintro e w34 ⟨rfl, hb⟩
  replace X6 := qx X6 hb
  replace X14 := qx X14 hb
  replace HN1 := wr HN1 hb
  replace HD1 := wr HD1 hb
  replace HN4 := wr HN4 hb
  replace HD4 := wr HD4 hb
  replace HN5 := wr HN5 hb
  replace HD5 := wr HD5 hb
  replace B := bb B hb
  clear cc32a cc32b cc32c cc33a cc33b cc33c
  clear hb 
  clear HN5
  clear HD5
  obtain ⟨cc35a, cc35b, cc35c⟩ := X6.out.cells
  obtain ⟨cc36a, cc36b, cc36c⟩ := X14.out.cells
  go_wp2_with fail
  refine (rmul (QR.mk2 HN1.out HD1.out) (QR.mk2 HN4.out HD4.out) (by omega)).mono ?_
  rintro e w37 ⟨v, rfl, hv, hb⟩
  obtain ⟨s6a, p6a, n6a, c6a, p6b, n6b, c6b, rfl⟩ := hv.opened
  obtain ⟨ht6, hu6⟩ := hv.two
  replace X6 := qx X6 hb
  replace X14 := qx X14 hb
  replace HN1 := wr HN1 hb
  replace HD1 := wr HD1 hb
  replace HN4 := wr HN4 hb
  replace HD4 := wr HD4 hb
  replace B := bb B hb
  clear cc35a cc35b cc35c cc36a cc36b cc36c
  have HN6 := hid ht6
  have HD6 := hid hu6
  clear hb hv ht6 hu6
  obtain ⟨cc38a, cc38b, cc38c⟩ := X6.out.cells
  obtain ⟨cc39a, cc39b, cc39c⟩ := X14.out.cells
  go_wp2_with fail
  refine (rqtext (QR.mk2 HN6.out HD6.out) (by omega)).mono ?_
  rintro e w40 ⟨rfl, hb⟩
  replace X6 := qx X6 hb
  replace X14 := qx X14 hb
  replace HN1 := wr HN1 hb
  replace HD1 := wr HD1 hb
  replace HN4 := wr HN4 hb
  replace HD4 := wr HD4 hb
  replace B := bb B hb
  clear cc38a cc38b cc38c cc39a cc39b cc39c
  clear hb 
  clear HN6
  clear HD6
  obtain ⟨cc41a, cc41b, cc41c⟩ := X6.out.cells
  obtain ⟨cc42a, cc42b, cc42c⟩ := X14.out.cells
  go_wp2_with fail
  have hsn := rsgn (QR.mk2 HN4.out HD4.out) (by omega)
  have hs0 : ¬ (qnum b).num.sign = 0 := by rw [Int.sign_eq_zero_iff_zero, Rat.num_eq_zero]; exact Hhz.out
  refine (hsn).mono ?_
  rintro e w43 ⟨rfl, hb⟩
  replace X6 := qx X6 hb
  replace X14 := qx X14 hb
  replace HN1 := wr HN1 hb
  replace HD1 := wr HD1 hb
  replace HN4 := wr HN4 hb
  replace HD4 := wr HD4 hb
  replace B := bb B hb
  clear cc41a cc41b cc41c cc42a cc42b cc42c
  clear hb hsn
  obtain ⟨cc44a, cc44b, cc44c⟩ := X6.out.cells
  obtain ⟨cc45a, cc45b, cc45c⟩ := X14.out.cells
  go_wp2_with fail
  refine (rdivq (QR.mk2 HN1.out HD1.out) (QR.mk2 HN4.out HD4.out) Hhz.out (by omega)).mono ?_
  rintro e w46 ⟨v, rfl, hv, hb⟩
  obtain ⟨s7a, p7a, n7a, c7a, p7b, n7b, c7b, rfl⟩ := hv.opened
  obtain ⟨ht7, hu7⟩ := hv.two
  replace X6 := qx X6 hb
  replace X14 := qx X14 hb
  replace HN1 := wr HN1 hb
  replace HD1 := wr HD1 hb
  replace HN4 := wr HN4 hb
  replace HD4 := wr HD4 hb
  replace B := bb B hb
  clear cc44a cc44b cc44c cc45a cc45b cc45c
  have HN7 := hid ht7
  have HD7 := hid hu7
  clear hb hv ht7 hu7
  obtain ⟨cc47a, cc47b, cc47c⟩ := X6.out.cells
  obtain ⟨cc48a, cc48b, cc48c⟩ := X14.out.cells
  go_wp2_with fail
  refine (rqtext (QR.mk2 HN7.out HD7.out) (by omega)).mono ?_
  rintro e w49 ⟨rfl, hb⟩
  replace X6 := qx X6 hb
  replace X14 := qx X14 hb
  replace HN1 := wr HN1 hb
  replace HD1 := wr HD1 hb
  replace HN4 := wr HN4 hb
  replace HD4 := wr HD4 hb
  replace B := bb B hb
  clear cc47a cc47b cc47c cc48a cc48b cc48c
  clear hb 
  clear HN7
  clear HD7
  obtain ⟨cc50a, cc50b, cc50c⟩ := X6.out.cells
  obtain ⟨cc51a, cc51b, cc51c⟩ := X14.out.cells
  go_wp2_with fail
  refine (rwholeof_good Hhwa.out w49).mono ?_
  rintro e w52 ⟨v, rfl, hv, hb⟩
  obtain ⟨s8, p8, n8, c8, rfl⟩ := hv.opened
  replace X6 := qx X6 hb
  replace X14 := qx X14 hb
  replace HN1 := wr HN1 hb
  replace HD1 := wr HD1 hb
  replace HN4 := wr HN4 hb
  replace HD4 := wr HD4 hb
  replace B := bb B hb
  clear cc50a cc50b cc50c cc51a cc51b cc51c
  have HW8 := hid hv
  clear hb hv
  have hb53 := (Below.refl _ _).alloc (Nat.le_refl w52.heap.size) (.cells #[.bool s8, .slice p8 n8 c8] 26)
  have hx54 := BoxR.new w52 s8 p8 n8 c8
  have L1 := hid X14.out.lt
  replace X6 := qx X6 hb53
  replace X14 := qx X14 hb53
  replace HN1 := wr HN1 hb53
  replace HD1 := wr HD1 hb53
  replace HN4 := wr HN4 hb53
  replace HD4 := wr HD4 hb53
  replace HW8 := wr HW8 hb53
  replace B := bb B hb53
  have X19 := hid hx54
  have hs55 : (w52.alloc (.cells #[.bool s8, .slice p8 n8 c8] 26)).heap.size = w52.heap.size + 1 := by simp
  clear hb53 hx54
  obtain ⟨cc56a, cc56b, cc56c⟩ := X6.out.cells
  obtain ⟨cc57a, cc57b, cc57c⟩ := X14.out.cells
  obtain ⟨cc58a, cc58b⟩ := X19.out.both
  go_wp2_with fail
  generalize hW : w52.alloc (.cells #[.bool s8, .slice p8 n8 c8] 26) = W59 at *
  clear hW
  refine (rwholeof_good Hhwb.out W59).mono ?_
  rintro e w60 ⟨v, rfl, hv, hb⟩
  obtain ⟨s9, p9, n9, c9, rfl⟩ := hv.opened
  replace X6 := qx X6 hb
  replace X14 := qx X14 hb
  replace X19 := br X19 hb
  replace HN1 := wr HN1 hb
  replace HD1 := wr HD1 hb
  replace HN4 := wr HN4 hb
  replace HD4 := wr HD4 hb
  replace HW8 := wr HW8 hb
  replace B := bb B hb
  clear cc56a cc56b cc56c cc57a cc57b cc57c cc58a cc58b
  have HW9 := hid hv
  clear hb hv
  have hb61 := (Below.refl _ _).alloc (Nat.le_refl w60.heap.size) (.cells #[.bool s9, .slice p9 n9 c9] 26)
  have hx62 := BoxR.new w60 s9 p9 n9 c9
  have L2 := hid X19.out.lt
  replace X6 := qx X6 hb61
  replace X14 := qx X14 hb61
  replace X19 := br X19 hb61
  replace HN1 := wr HN1 hb61
  replace HD1 := wr HD1 hb61
  replace HN4 := wr HN4 hb61
  replace HD4 := wr HD4 hb61
  replace HW8 := wr HW8 hb61
  replace HW9 := wr HW9 hb61
  replace B := bb B hb61
  have X21 := hid hx62
  have hs63 : (w60.alloc (.cells #[.bool s9, .slice p9 n9 c9] 26)).heap.size = w60.heap.size + 1 := by simp
  clear hb61 hx62
  obtain ⟨cc64a, cc64b, cc64c⟩ := X6.out.cells
  obtain ⟨cc65a, cc65b, cc65c⟩ := X14.out.cells
  obtain ⟨cc66a, cc66b⟩ := X19.out.both
  obtain ⟨cc67a, cc67b⟩ := X21.out.both
  go_wp2_with fail
  generalize hW : w60.alloc (.cells #[.bool s9, .slice p9 n9 c9] 26) = W68 at *
  clear hW
  refine (two_zero 0 W68).mono ?_
  rintro e w' ⟨rfl, rfl⟩
  have hn9 : ¬ (n9 : Int) = 0 := by have h1 := HW9.out.inside.1.len; have h2 := Hhs.out; omega
  have hs9 : s9 = false := by rw [HW9.out.inside.2]; exact decide_eq_false (by have := Hhs.out; omega)
  subst hs9
  obtain ⟨cc70a, cc70b, cc70c⟩ := X6.out.cells
  obtain ⟨cc71a, cc71b, cc71c⟩ := X14.out.cells
  obtain ⟨cc72a, cc72b⟩ := X19.out.both
  obtain ⟨cc73a, cc73b⟩ := X21.out.both
  go_wp2_with fail
  refine (rover HW8.out HW9.out.inside.1 (by have := Hhs.out; omega) (by omega)).mono ?_
  rintro e w74 ⟨v, rfl, hv, hb⟩
  obtain ⟨s5a, p5a, n5a, c5a, p5b, n5b, c5b, rfl⟩ := hv.opened
  obtain ⟨ht5, hu5⟩ := hv.two
  replace X6 := qx X6 hb
  replace X14 := qx X14 hb
  replace X19 := br X19 hb
  replace X21 := br X21 hb
  replace HN1 := wr HN1 hb
  replace HD1 := wr HD1 hb
  replace HN4 := wr HN4 hb
  replace HD4 := wr HD4 hb
  replace B := bb B hb
  clear cc64a cc64b cc64c cc65a cc65b cc65c cc66a cc66b cc67a cc67b cc70a cc70b cc70c cc71a cc71b cc71c cc72a cc72b cc73a cc73b
  have HN5 := hid ht5
  have HD5 := hid hu5
  clear hb hv ht5 hu5
  obtain ⟨cc75a, cc75b, cc75c⟩ := X6.out.cells
  obtain ⟨cc76a, cc76b, cc76c⟩ := X14.out.cells
  obtain ⟨cc77a, cc77b⟩ := X19.out.both
  obtain ⟨cc78a, cc78b⟩ := X21.out.both
  go_wp2_with fail
  refine (rqtext (QR.mk2 HN5.out HD5.out) (by omega)).mono ?_
  rintro e w79 ⟨rfl, hb⟩
  replace X6 := qx X6 hb
  replace X14 := qx X14 hb
  replace X19 := br X19 hb
  replace X21 := br X21 hb
  replace HN1 := wr HN1 hb
  replace HD1 := wr HD1 hb
  replace HN4 := wr HN4 hb
  replace HD4 := wr HD4 hb
  replace B := bb B hb
  clear cc75a cc75b cc75c cc76a cc76b cc76c cc77a cc77b cc78a cc78b
  clear hb 
  clear HN5
  clear HD5
  obtain ⟨cc80a, cc80b, cc80c⟩ := X6.out.cells
  obtain ⟨cc81a, cc81b, cc81c⟩ := X14.out.cells
  obtain ⟨cc82a, cc82b⟩ := X19.out.both
  obtain ⟨cc83a, cc83b⟩ := X21.out.both
  go_wp2_with fail
  refine (qadd_good Hha.out Hhb.out w79).mono ?_
  rintro e w84 ⟨rfl, hb⟩
  replace X6 := qx X6 hb
  replace X14 := qx X14 hb
  replace HN1 := wr HN1 hb
  replace HD1 := wr HD1 hb
  replace HN4 := wr HN4 hb
  replace HD4 := wr HD4 hb
  replace B := bb B hb
  clear cc80a cc80b cc80c cc81a cc81b cc81c cc82a cc82b cc83a cc83b
  clear hb 
  obtain ⟨cc85a, cc85b, cc85c⟩ := X6.out.cells
  obtain ⟨cc86a, cc86b, cc86c⟩ := X14.out.cells
  go_wp2_with fail
  refine (same_nil w84 (HDR.out.below B.out)).mono ?_
  rintro e w87 ⟨rfl, hb⟩
  replace X6 := qx X6 hb
  replace X14 := qx X14 hb
  replace HN1 := wr HN1 hb
  replace HD1 := wr HD1 hb
  replace HN4 := wr HN4 hb
  replace HD4 := wr HD4 hb
  replace B := bb B hb
  clear cc85a cc85b cc85c cc86a cc86b cc86c
  clear hb 
  obtain ⟨cc88a, cc88b, cc88c⟩ := X6.out.cells
  obtain ⟨cc89a, cc89b, cc89c⟩ := X14.out.cells
  go_wp2_with fail
  refine (qmul_good Hha.out Hhb.out w87).mono ?_
  rintro e w90 ⟨rfl, hb⟩
  replace X6 := qx X6 hb
  replace X14 := qx X14 hb
  replace HN1 := wr HN1 hb
  replace HD1 := wr HD1 hb
  replace HN4 := wr HN4 hb
  replace HD4 := wr HD4 hb
  replace B := bb B hb
  clear cc88a cc88b cc88c cc89a cc89b cc89c
  clear hb 
  obtain ⟨cc91a, cc91b, cc91c⟩ := X6.out.cells
  obtain ⟨cc92a, cc92b, cc92c⟩ := X14.out.cells
  go_wp2_with fail
  refine (same_nil w90 (HDR.out.below B.out)).mono ?_
  rintro e w93 ⟨rfl, hb⟩
  replace X6 := qx X6 hb
  replace X14 := qx X14 hb
  replace HN1 := wr HN1 hb
  replace HD1 := wr HD1 hb
  replace HN4 := wr HN4 hb
  replace HD4 := wr HD4 hb
  replace B := bb B hb
  clear cc91a cc91b cc91c cc92a cc92b cc92c
  clear hb 
  obtain ⟨cc94a, cc94b, cc94c⟩ := X6.out.cells
  obtain ⟨cc95a, cc95b, cc95c⟩ := X14.out.cells
  go_wp2_with fail
  refine (qdiv_good Hha.out Hhb.out Hhz.out w93).mono ?_
  rintro e w96 ⟨rfl, hb⟩
  replace X6 := qx X6 hb
  replace X14 := qx X14 hb
  replace HN1 := wr HN1 hb
  replace HD1 := wr HD1 hb
  replace HN4 := wr HN4 hb
  replace HD4 := wr HD4 hb
  replace B := bb B hb
  clear cc94a cc94b cc94c cc95a cc95b cc95c
  clear hb 
  obtain ⟨cc97a, cc97b, cc97c⟩ := X6.out.cells
  obtain ⟨cc98a, cc98b, cc98c⟩ := X14.out.cells
  go_wp2_with fail
  refine (same_nil w96 (HDR.out.below B.out)).mono ?_
  rintro e w99 ⟨rfl, hb⟩
  replace X6 := qx X6 hb
  replace X14 := qx X14 hb
  replace HN1 := wr HN1 hb
  replace HD1 := wr HD1 hb
  replace HN4 := wr HN4 hb
  replace HD4 := wr HD4 hb
  replace B := bb B hb
  clear cc97a cc97b cc97c cc98a cc98b cc98c
  clear hb 
  obtain ⟨cc100a, cc100b, cc100c⟩ := X6.out.cells
  obtain ⟨cc101a, cc101b, cc101c⟩ := X14.out.cells
  go_wp2_with fail
  have hls := qless_good Hha.out Hhb.out w99
  generalize hli : decide (qnum a < qnum b) = li at hls
  refine (hls).mono ?_
  rintro e w102 ⟨rfl, hb⟩
  replace X6 := qx X6 hb
  replace X14 := qx X14 hb
  replace HN1 := wr HN1 hb
  replace HD1 := wr HD1 hb
  replace HN4 := wr HN4 hb
  replace HD4 := wr HD4 hb
  replace B := bb B hb
  clear cc100a cc100b cc100c cc101a cc101b cc101c
  clear hb hls
  obtain ⟨cc103a, cc103b, cc103c⟩ := X6.out.cells
  obtain ⟨cc104a, cc104b, cc104c⟩ := X14.out.cells
  go_wp2_with fail
  refine (same_nil w102 (HDR.out.below B.out)).mono ?_
  rintro e w105 ⟨rfl, hb⟩
  replace X6 := qx X6 hb
  replace X14 := qx X14 hb
  replace HN1 := wr HN1 hb
  replace HD1 := wr HD1 hb
  replace HN4 := wr HN4 hb
  replace HD4 := wr HD4 hb
  replace B := bb B hb
  clear cc103a cc103b cc103c cc104a cc104b cc104c
  clear hb 
  obtain ⟨cc106a, cc106b, cc106c⟩ := X6.out.cells
  obtain ⟨cc107a, cc107b, cc107c⟩ := X14.out.cells
  go_wp2_with fail
  have hmk := qmake_good Hhwa.out Hhwb.out (by have := Hhs.out; omega) w105
  rw [made_pos Hhs.out] at hmk
  refine (hmk).mono ?_
  rintro e w108 ⟨rfl, hb⟩
  replace X6 := qx X6 hb
  replace X14 := qx X14 hb
  replace HN1 := wr HN1 hb
  replace HD1 := wr HD1 hb
  replace HN4 := wr HN4 hb
  replace HD4 := wr HD4 hb
  replace B := bb B hb
  clear cc106a cc106b cc106c cc107a cc107b cc107c
  clear hb hmk
  obtain ⟨cc109a, cc109b, cc109c⟩ := X6.out.cells
  obtain ⟨cc110a, cc110b, cc110c⟩ := X14.out.cells
  go_wp2_with fail
  refine (same_nil w108 (HDR.out.below B.out)).mono ?_
  rintro e w111 ⟨rfl, hb⟩
  replace X6 := qx X6 hb
  replace X14 := qx X14 hb
  replace HN1 := wr HN1 hb
  replace HD1 := wr HD1 hb
  replace HN4 := wr HN4 hb
  replace HD4 := wr HD4 hb
  replace B := bb B hb
  clear cc109a cc109b cc109c cc110a cc110b cc110c
  clear hb 
  obtain ⟨cc112a, cc112b, cc112c⟩ := X6.out.cells
  obtain ⟨cc113a, cc113b, cc113c⟩ := X14.out.cells
  go_wp2_with fail
  have hcm := rcmp (QR.mk2 HN1.out HD1.out) (QR.mk2 HN4.out HD4.out) (by omega)
  refine (hcm).mono ?_
  rintro e w114 ⟨rfl, hb⟩
  replace B := bb B hb
  clear cc112a cc112b cc112c cc113a cc113b cc113c
  clear hb hcm
  go_wp2_with fail
  go_ret
  exact ⟨ret_bool (by rw [← hli, less_sub]; simp), B.out⟩

end Go.Proofs.YtjeeepcnaaadmaaGreatDoor

/-
  RatTells.
-/
namespace Go.Proofs.YtjeeepcnaaadmaaGreatDoor
open Go.RowKit
open Num4
open Num (dg isNat dval)
set_option linter.unusedVariables false
set_option maxRecDepth 100000
set_option linter.unusedSimpArgs false

theorem rtells_walk (a b : ByteArray) (sa : a.size ≤ maxLen) (sb : b.size ≤ maxLen) (w : World) (hd : Door w) :
    Calls Tryz.prog 3 #[.string a, .string b] w fun e w' => e = .returned (.bool true) ∧ Below w.heap.size w w' := by
  obtain ⟨j, hj⟩ : ∃ j, (GoodZ b ∧ j = 0) ∨ BadZ b j := by
    rcases goodZ_or_bad b with h | ⟨k, h⟩
    · exact ⟨0, .inl ⟨h, rfl⟩⟩
    · exact ⟨k, .inr h⟩
  rcases goodQ_or_bad a with ha | ⟨k, ha⟩
  · rcases goodQ_or_bad b with hb | ⟨k, hb⟩
    · by_cases hz : qnum b = 0
      · obtain ⟨hwb, hs⟩ := zero_whole hb hz
        rcases goodZ_or_bad a with hwa | ⟨i, hwa⟩
        · exact rtells_zw (k := 0) (i := 0) (j := 0) a b sa sb ha hb hz hwa hwb hs w hd
        · exact rtells_zn (k := 0) (i := i) (j := j) a b sa sb ha hb hz hwa hj hwa.ne' w hd
      · rcases goodZ_or_bad a with hwa | ⟨i, hwa⟩
        · rcases goodZ_or_bad b with hwb | ⟨m, hwb⟩
          · rcases (show znum b < 0 ∨ 0 < znum b by have := whole_zero hwb hz; omega) with hs | hs
            · exact rtells_nm (k := 0) (i := 0) (j := 0) a b sa sb ha hb hz hwa hwb hs w hd
            · exact rtells_np (k := 0) (i := 0) (j := 0) a b sa sb ha hb hz hwa hwb hs w hd
          · exact rtells_nb (k := 0) (i := 0) (j := m) a b sa sb ha hb hz hwa hwb hwb.ne' w hd
        · exact rtells_nn (k := 0) (i := i) (j := j) a b sa sb ha hb hz hwa hj hwa.ne' w hd
    · rcases goodZ_or_bad a with hwa | ⟨i, hwa⟩
      · exact rtells_c2w (k := k) (i := 0) (j := k) a b sa sb ha hb hwa hb.badZ hb.ne hb.ne w hd
      · exact rtells_c2n (k := k) (i := i) (j := j) a b sa sb ha hb hwa hj hb.ne hwa.ne' w hd
  · exact rtells_c1 (k := k) (i := k) (j := j) a b sa sb ha ha.badZ hj ha.ne ha.ne w hd

end Go.Proofs.YtjeeepcnaaadmaaGreatDoor
