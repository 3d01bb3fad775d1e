/-
  PACKAGE rat: Mul.
-/
import Derived.Test.YtjeeepcnaaadmaaRatStr
namespace Go.Proofs.Ytjeeepcnaaadmaa
open Go.RowKit
open Num
set_option linter.unusedVariables false
set_option maxRecDepth 100000
set_option linter.unusedSimpArgs false

set_option maxHeartbeats 4000000 in
theorem mulq_rtl {w : World} {v u : Value} {q r : Rat} {k : Nat} (h : Rtl w v q k) (h' : Rtl w u r k) (hk1 : 1 ≤ k) (hk : k ≤ 68719476736) :
    Calls Try.prog 40 #[v, u] w fun e w' => ∃ v, e = .returned v ∧ Rtl w' v (q * r) (k + k + 1) ∧ Below w.heap.size w w' := by
  obtain ⟨s1a, p1a, n1a, c1a, s1b, p1b, n1b, c1b, rfl⟩ := h.opened
  obtain ⟨ht1, d1, hu1, hd1⟩ := h.two
  have HD1 := hid hd1
  obtain ⟨s2a, p2a, n2a, c2a, s2b, p2b, n2b, c2b, rfl⟩ := h'.opened
  obtain ⟨ht2, d2, hu2, hd2⟩ := h'.two
  have HD2 := hid hd2
  have HK := hid hk
  have HK1 := hid hk1
  have B := hid (Below.refl w.heap.size w)
  have HT1 := hid ht1
  have HU1 := hid hu1
  have HT2 := hid ht2
  have HU2 := hid hu2
  have hb1 := (Below.refl _ _).alloc (Nat.le_refl w.heap.size) (.cells #[.bool s1a, .slice p1a n1a c1a, .bool s1b, .slice p1b n1b c1b] 51)
  have hx2 := Nbx.new w s1a s1b (.slice p1a n1a c1a) (.slice p1b n1b c1b)
  replace HT1 := wl HT1 hb1
  replace HU1 := wl HU1 hb1
  replace HT2 := wl HT2 hb1
  replace HU2 := wl HU2 hb1
  replace B := bb B hb1
  have X1 := hid hx2
  have hs3 : (w.alloc (.cells #[.bool s1a, .slice p1a n1a c1a, .bool s1b, .slice p1b n1b c1b] 51)).heap.size = w.heap.size + 1 := by simp
  clear hb1 hx2
  have hb4 := (Below.refl _ _).alloc (Nat.le_refl (w.alloc (.cells #[.bool s1a, .slice p1a n1a c1a, .bool s1b, .slice p1b n1b c1b] 51)).heap.size) (.cells #[.bool s2a, .slice p2a n2a c2a, .bool s2b, .slice p2b n2b c2b] 51)
  have hx5 := Nbx.new (w.alloc (.cells #[.bool s1a, .slice p1a n1a c1a, .bool s1b, .slice p1b n1b c1b] 51)) s2a s2b (.slice p2a n2a c2a) (.slice p2b n2b c2b)
  rw [hs3] at hx5
  replace X1 := nx X1 hb4
  replace HT1 := wl HT1 hb4
  replace HU1 := wl HU1 hb4
  replace HT2 := wl HT2 hb4
  replace HU2 := wl HU2 hb4
  replace B := bb B hb4
  have X2 := hid hx5
  have hs6 : ((w.alloc (.cells #[.bool s1a, .slice p1a n1a c1a, .bool s1b, .slice p1b n1b c1b] 51)).alloc (.cells #[.bool s2a, .slice p2a n2a c2a, .bool s2b, .slice p2b n2b c2b] 51)).heap.size = w.heap.size + 1 + 1 := by simp [hs3]
  clear hb4 hx5
  have hb7 := (Below.refl _ _).alloc (Nat.le_refl ((w.alloc (.cells #[.bool s1a, .slice p1a n1a c1a, .bool s1b, .slice p1b n1b c1b] 51)).alloc (.cells #[.bool s2a, .slice p2a n2a c2a, .bool s2b, .slice p2b n2b c2b] 51)).heap.size) (.cells #[.bool false, .slice none 0 0, .bool false, .slice none 0 0] 51)
  have hx8 := Nbx.new ((w.alloc (.cells #[.bool s1a, .slice p1a n1a c1a, .bool s1b, .slice p1b n1b c1b] 51)).alloc (.cells #[.bool s2a, .slice p2a n2a c2a, .bool s2b, .slice p2b n2b c2b] 51)) false false (.slice none 0 0) (.slice none 0 0)
  rw [hs6] at hx8
  replace X1 := nx X1 hb7
  replace X2 := nx X2 hb7
  replace HT1 := wl HT1 hb7
  replace HU1 := wl HU1 hb7
  replace HT2 := wl HT2 hb7
  replace HU2 := wl HU2 hb7
  replace B := bb B hb7
  have XQ := hid hx8
  have hs9 : (((w.alloc (.cells #[.bool s1a, .slice p1a n1a c1a, .bool s1b, .slice p1b n1b c1b] 51)).alloc (.cells #[.bool s2a, .slice p2a n2a c2a, .bool s2b, .slice p2b n2b c2b] 51)).alloc (.cells #[.bool false, .slice none 0 0, .bool false, .slice none 0 0] 51)).heap.size = w.heap.size + 1 + 1 + 1 := by simp [hs6]
  clear hb7 hx8
  clear hs9 h h' ht1 hu1 ht2 hu2 hd1 hd2 hk hk1
  go_enter Try.func40, Try.ntmps40
  obtain ⟨cc10a, cc10b, cc10c, cc10d⟩ := X1.out.cells
  obtain ⟨cc11a, cc11b, cc11c, cc11d⟩ := X2.out.cells
  obtain ⟨cc12a, cc12b, cc12c, cc12d⟩ := XQ.out.cells
  go_wp2_with fail
  generalize hW : ((w.alloc (.cells #[.bool s1a, .slice p1a n1a c1a, .bool s1b, .slice p1b n1b c1b] 51)).alloc (.cells #[.bool s2a, .slice p2a n2a c2a, .bool s2b, .slice p2b n2b c2b] 51)).alloc (.cells #[.bool false, .slice none 0 0, .bool false, .slice none 0 0] 51) = W13 at *
  clear hW
  refine (parts_rtl (Rtl.mk2 HT1.out HU1.out HD1.out) HK1.out).mono ?_
  rintro e w14 ⟨v, u, rfl, hv, hu, hb⟩
  obtain ⟨s3, p3, n3, c3, rfl⟩ := hv.opened
  obtain ⟨s4, p4, n4, c4, rfl⟩ := hu.opened
  replace X2 := nx X2 hb
  replace XQ := nx XQ hb
  replace HT1 := wl HT1 hb
  replace HU1 := wl HU1 hb
  replace HT2 := wl HT2 hb
  replace HU2 := wl HU2 hb
  replace B := bb B hb
  clear cc10a cc10b cc10c cc10d cc11a cc11b cc11c cc11d cc12a cc12b cc12c cc12d
  have HA := hid hv
  have HB := hid hu
  clear hb hv hu
  have hb15 := (Below.refl _ _).alloc (Nat.le_refl w14.heap.size) (.cells #[.bool s3, .slice p3 n3 c3] 49)
  have hx16 := Box.new w14 s3 p3 n3 c3
  have L0 := hid XQ.out.lt
  replace X2 := nx X2 hb15
  replace XQ := nx XQ hb15
  replace HT1 := wl HT1 hb15
  replace HU1 := wl HU1 hb15
  replace HT2 := wl HT2 hb15
  replace HU2 := wl HU2 hb15
  replace HA := wl HA hb15
  replace HB := wl HB hb15
  replace B := bb B hb15
  have XA := hid hx16
  have hs17 : (w14.alloc (.cells #[.bool s3, .slice p3 n3 c3] 49)).heap.size = w14.heap.size + 1 := by simp
  clear hb15 hx16
  have hb18 := (Below.refl _ _).alloc (Nat.le_refl (w14.alloc (.cells #[.bool s3, .slice p3 n3 c3] 49)).heap.size) (.cells #[.bool s4, .slice p4 n4 c4] 49)
  have hx19 := Box.new (w14.alloc (.cells #[.bool s3, .slice p3 n3 c3] 49)) s4 p4 n4 c4
  rw [hs17] at hx19
  replace X2 := nx X2 hb18
  replace XQ := nx XQ hb18
  replace XA := bx XA hb18
  replace HT1 := wl HT1 hb18
  replace HU1 := wl HU1 hb18
  replace HT2 := wl HT2 hb18
  replace HU2 := wl HU2 hb18
  replace HA := wl HA hb18
  replace HB := wl HB hb18
  replace B := bb B hb18
  have XB := hid hx19
  have hs20 : ((w14.alloc (.cells #[.bool s3, .slice p3 n3 c3] 49)).alloc (.cells #[.bool s4, .slice p4 n4 c4] 49)).heap.size = w14.heap.size + 1 + 1 := by simp [hs17]
  clear hb18 hx19
  obtain ⟨cc21a, cc21b, cc21c, cc21d⟩ := X2.out.cells
  obtain ⟨cc22a, cc22b, cc22c, cc22d⟩ := XQ.out.cells
  obtain ⟨cc23a, cc23b⟩ := XA.out.both
  obtain ⟨cc24a, cc24b⟩ := XB.out.both
  go_wp2_with fail
  generalize hW : (w14.alloc (.cells #[.bool s3, .slice p3 n3 c3] 49)).alloc (.cells #[.bool s4, .slice p4 n4 c4] 49) = W25 at *
  clear hW
  refine (parts_rtl (Rtl.mk2 HT2.out HU2.out HD2.out) HK1.out).mono ?_
  rintro e w26 ⟨v, u, rfl, hv, hu, hb⟩
  obtain ⟨s5, p5, n5, c5, rfl⟩ := hv.opened
  obtain ⟨s6, p6, n6, c6, rfl⟩ := hu.opened
  replace XQ := nx XQ hb
  replace XA := bx XA hb
  replace XB := bx XB hb
  replace HT1 := wl HT1 hb
  replace HU1 := wl HU1 hb
  replace HT2 := wl HT2 hb
  replace HU2 := wl HU2 hb
  replace HA := wl HA hb
  replace HB := wl HB hb
  replace B := bb B hb
  clear cc21a cc21b cc21c cc21d cc22a cc22b cc22c cc22d cc23a cc23b cc24a cc24b
  have HC := hid hv
  have HE := hid hu
  clear hb hv hu
  have hb27 := (Below.refl _ _).alloc (Nat.le_refl w26.heap.size) (.cells #[.bool s5, .slice p5 n5 c5] 49)
  have hx28 := Box.new w26 s5 p5 n5 c5
  have L1 := hid XB.out.lt
  replace XQ := nx XQ hb27
  replace XA := bx XA hb27
  replace XB := bx XB hb27
  replace HT1 := wl HT1 hb27
  replace HU1 := wl HU1 hb27
  replace HT2 := wl HT2 hb27
  replace HU2 := wl HU2 hb27
  replace HA := wl HA hb27
  replace HB := wl HB hb27
  replace HC := wl HC hb27
  replace HE := wl HE hb27
  replace B := bb B hb27
  have XC := hid hx28
  have hs29 : (w26.alloc (.cells #[.bool s5, .slice p5 n5 c5] 49)).heap.size = w26.heap.size + 1 := by simp
  clear hb27 hx28
  have hb30 := (Below.refl _ _).alloc (Nat.le_refl (w26.alloc (.cells #[.bool s5, .slice p5 n5 c5] 49)).heap.size) (.cells #[.bool s6, .slice p6 n6 c6] 49)
  have hx31 := Box.new (w26.alloc (.cells #[.bool s5, .slice p5 n5 c5] 49)) s6 p6 n6 c6
  rw [hs29] at hx31
  replace XQ := nx XQ hb30
  replace XA := bx XA hb30
  replace XB := bx XB hb30
  replace XC := bx XC hb30
  replace HT1 := wl HT1 hb30
  replace HU1 := wl HU1 hb30
  replace HT2 := wl HT2 hb30
  replace HU2 := wl HU2 hb30
  replace HA := wl HA hb30
  replace HB := wl HB hb30
  replace HC := wl HC hb30
  replace HE := wl HE hb30
  replace B := bb B hb30
  have XD := hid hx31
  have hs32 : ((w26.alloc (.cells #[.bool s5, .slice p5 n5 c5] 49)).alloc (.cells #[.bool s6, .slice p6 n6 c6] 49)).heap.size = w26.heap.size + 1 + 1 := by simp [hs29]
  clear hb30 hx31
  obtain ⟨cc33a, cc33b, cc33c, cc33d⟩ := XQ.out.cells
  obtain ⟨cc34a, cc34b⟩ := XA.out.both
  obtain ⟨cc35a, cc35b⟩ := XB.out.both
  obtain ⟨cc36a, cc36b⟩ := XC.out.both
  obtain ⟨cc37a, cc37b⟩ := XD.out.both
  go_wp2_with fail
  generalize hW : (w26.alloc (.cells #[.bool s5, .slice p5 n5 c5] 49)).alloc (.cells #[.bool s6, .slice p6 n6 c6] 49) = W38 at *
  clear hW
  obtain ⟨cc39a, cc39b⟩ := XA.out.both
  obtain ⟨cc40a, cc40b⟩ := XB.out.both
  obtain ⟨cc41a, cc41b⟩ := XC.out.both
  obtain ⟨cc42a, cc42b⟩ := XD.out.both
  replace XQ := hid XQ.out.dr
  replace XA := hid XA.out.dr
  replace XB := hid XB.out.dr
  replace XC := hid XC.out.dr
  replace XD := hid XD.out.dr
  replace HT1 := hid HT1.out.drew
  replace HU1 := hid HU1.out.drew
  replace HT2 := hid HT2.out.drew
  replace HU2 := hid HU2.out.drew
  replace HA := hid HA.out.drew
  replace HB := hid HB.out.drew
  replace HC := hid HC.out.drew
  replace HE := hid HE.out.drew
  replace B := hid (Below.drew B.out)
  obtain ⟨cc43a, cc43b⟩ := XA.out.both
  obtain ⟨cc44a, cc44b⟩ := XB.out.both
  obtain ⟨cc45a, cc45b⟩ := XC.out.both
  obtain ⟨cc46a, cc46b⟩ := XD.out.both
  go_region_held3 (fun w' => w'.cell? ⟨w14.heap.size, 0, none⟩ = some (.bool s3) ∧ w'.cell? ⟨w14.heap.size, 1, none⟩ = some (.slice p3 n3 c3) ∧ w'.cell? ⟨w14.heap.size + 1, 0, none⟩ = some (.bool s4) ∧ w'.cell? ⟨w14.heap.size + 1, 1, none⟩ = some (.slice p4 n4 c4) ∧ w'.cell? ⟨w26.heap.size, 0, none⟩ = some (.bool s5) ∧ w'.cell? ⟨w26.heap.size, 1, none⟩ = some (.slice p5 n5 c5) ∧ w'.cell? ⟨w26.heap.size + 1, 0, none⟩ = some (.bool s6) ∧ w'.cell? ⟨w26.heap.size + 1, 1, none⟩ = some (.slice p6 n6 c6)) (go_keep) (first
    | (have hm := mk47_1; clear hm; go_at_call 61; refine (reduced_rtl (k := k + k + 1) (P1.out.mono (by omega)) (P2.out.mono (by omega)) (Int.mul_ne_zero (den_ne _) (den_ne _)) (by have := HK.out; omega)).mono ?_; rintro e w58 ⟨v, rfl, hv, hb⟩; obtain ⟨s9a, p9a, n9a, c9a, s9b, p9b, n9b, c9b, rfl⟩ := hv.opened; obtain ⟨ht9, d9, hu9, hd9⟩ := hv.two; have HD9 := hid hd9; replace XQ := nx XQ hb; replace XA := bx XA hb; replace XB := bx XB hb; replace XC := bx XC hb; replace XD := bx XD hb; replace HT1 := wl HT1 hb; replace HU1 := wl HU1 hb; replace HT2 := wl HT2 hb; replace HU2 := wl HU2 hb; replace HA := wl HA hb; replace HB := wl HB hb; replace HC := wl HC hb; replace HE := wl HE hb; replace P1 := wl P1 hb; replace P2 := wl P2 hb; replace B := bb B hb; clear cc54a cc54b cc55a cc55b cc56a cc56b cc57a cc57b; have HT9 := hid ht9; have HU9 := hid hu9; clear hb hv ht9 hu9 hd9; obtain ⟨cc59a, cc59b⟩ := XA.out.both; obtain ⟨cc60a, cc60b⟩ := XB.out.both; obtain ⟨cc61a, cc61b⟩ := XC.out.both; obtain ⟨cc62a, cc62b⟩ := XD.out.both; obtain ⟨⟨cc63a, cc63b⟩, ⟨cc63c, cc63d⟩, ⟨cc63e, cc63f⟩, cc63g, cc63h⟩ := XQ.out.stores; obtain ⟨r64a, r64b, r64c⟩ := XQ.out.last B.out (by have := L0.out; have := L1.out; omega) s9a s9b p9a p9b n9a n9b c9a c9b; replace XA := hid ((((XA.out.other (g2 := w.heap.size + 1 + 1) (by have := L0.out; have := L1.out; omega) 0 (.bool s9a)).other (g2 := w.heap.size + 1 + 1) (by have := L0.out; have := L1.out; omega) 1 (.slice p9a n9a c9a)).other (g2 := w.heap.size + 1 + 1) (by have := L0.out; have := L1.out; omega) 2 (.bool s9b)).other (g2 := w.heap.size + 1 + 1) (by have := L0.out; have := L1.out; omega) 3 (.slice p9b n9b c9b)); replace XB := hid ((((XB.out.other (g2 := w.heap.size + 1 + 1) (by have := L0.out; have := L1.out; omega) 0 (.bool s9a)).other (g2 := w.heap.size + 1 + 1) (by have := L0.out; have := L1.out; omega) 1 (.slice p9a n9a c9a)).other (g2 := w.heap.size + 1 + 1) (by have := L0.out; have := L1.out; omega) 2 (.bool s9b)).other (g2 := w.heap.size + 1 + 1) (by have := L0.out; have := L1.out; omega) 3 (.slice p9b n9b c9b)); replace XC := hid ((((XC.out.other (g2 := w.heap.size + 1 + 1) (by have := L0.out; have := L1.out; omega) 0 (.bool s9a)).other (g2 := w.heap.size + 1 + 1) (by have := L0.out; have := L1.out; omega) 1 (.slice p9a n9a c9a)).other (g2 := w.heap.size + 1 + 1) (by have := L0.out; have := L1.out; omega) 2 (.bool s9b)).other (g2 := w.heap.size + 1 + 1) (by have := L0.out; have := L1.out; omega) 3 (.slice p9b n9b c9b)); replace XD := hid ((((XD.out.other (g2 := w.heap.size + 1 + 1) (by have := L0.out; have := L1.out; omega) 0 (.bool s9a)).other (g2 := w.heap.size + 1 + 1) (by have := L0.out; have := L1.out; omega) 1 (.slice p9a n9a c9a)).other (g2 := w.heap.size + 1 + 1) (by have := L0.out; have := L1.out; omega) 2 (.bool s9b)).other (g2 := w.heap.size + 1 + 1) (by have := L0.out; have := L1.out; omega) 3 (.slice p9b n9b c9b)); replace HT1 := hid (r64c HT1.out); replace HU1 := hid (r64c HU1.out); replace HT2 := hid (r64c HT2.out); replace HU2 := hid (r64c HU2.out); replace HA := hid (r64c HA.out); replace HB := hid (r64c HB.out); replace HC := hid (r64c HC.out); replace HE := hid (r64c HE.out); replace P1 := hid (r64c P1.out); replace P2 := hid (r64c P2.out); replace HT9 := hid (r64c HT9.out); replace HU9 := hid (r64c HU9.out); replace XQ := hid r64a; replace B := hid r64b; clear r64a r64b r64c; obtain ⟨cc65a, cc65b⟩ := XA.out.both; obtain ⟨cc66a, cc66b⟩ := XB.out.both; obtain ⟨cc67a, cc67b⟩ := XC.out.both; obtain ⟨cc68a, cc68b⟩ := XD.out.both; have mk47_2 := hid True.intro)
    | (have hm := mk47_0; clear hm; go_at_call 62; refine (mul_whl HB.out HE.out (by have := HK.out; omega) (by have := HK.out; omega)).mono ?_; rintro e w53 ⟨v, rfl, hv, hb⟩; obtain ⟨s12, p12, n12, c12, rfl⟩ := hv.opened; replace XQ := nx XQ hb; replace XA := bx XA hb; replace XB := bx XB hb; replace XC := bx XC hb; replace XD := bx XD hb; replace HT1 := wl HT1 hb; replace HU1 := wl HU1 hb; replace HT2 := wl HT2 hb; replace HU2 := wl HU2 hb; replace HA := wl HA hb; replace HB := wl HB hb; replace HC := wl HC hb; replace HE := wl HE hb; replace P1 := wl P1 hb; replace B := bb B hb; clear cc49a cc49b cc50a cc50b cc51a cc51b cc52a cc52b; have P2 := hid hv; clear hb hv; obtain ⟨cc54a, cc54b⟩ := XA.out.both; obtain ⟨cc55a, cc55b⟩ := XB.out.both; obtain ⟨cc56a, cc56b⟩ := XC.out.both; obtain ⟨cc57a, cc57b⟩ := XD.out.both; have mk47_1 := hid True.intro)
    | (go_at_call 62; refine (mul_whl HA.out HC.out (by have := HK.out; omega) (by have := HK.out; omega)).mono ?_; rintro e w48 ⟨v, rfl, hv, hb⟩; obtain ⟨s11, p11, n11, c11, rfl⟩ := hv.opened; replace XQ := nx XQ hb; replace XA := bx XA hb; replace XB := bx XB hb; replace XC := bx XC hb; replace XD := bx XD hb; replace HT1 := wl HT1 hb; replace HU1 := wl HU1 hb; replace HT2 := wl HT2 hb; replace HU2 := wl HU2 hb; replace HA := wl HA hb; replace HB := wl HB hb; replace HC := wl HC hb; replace HE := wl HE hb; replace B := bb B hb; clear cc33a cc33b cc33c cc33d cc34a cc34b cc35a cc35b cc36a cc36b cc37a cc37b cc39a cc39b cc40a cc40b cc41a cc41b cc42a cc42b cc43a cc43b cc44a cc44b cc45a cc45b cc46a cc46b; have P1 := hid hv; clear hb hv; obtain ⟨cc49a, cc49b⟩ := XA.out.both; obtain ⟨cc50a, cc50b⟩ := XB.out.both; obtain ⟨cc51a, cc51b⟩ := XC.out.both; obtain ⟨cc52a, cc52b⟩ := XD.out.both; have mk47_0 := hid True.intro))
  go_wp2_with fail
  refine bodyPost_ret (res_num rfl rfl XQ.out) rfl ?_
  exact ⟨_, rfl, (by rw [mul_parts]; exact Rtl.mk2 HT9.out HU9.out HD9.out), B.out⟩

end Go.Proofs.Ytjeeepcnaaadmaa

