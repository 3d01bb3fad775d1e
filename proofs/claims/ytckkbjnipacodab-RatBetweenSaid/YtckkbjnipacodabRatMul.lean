/-
  PACKAGE rat: Mul.
-/
import Derived.Test.YtckkbjnipacodabRatStr
namespace Go.Proofs.Ytckkbjnipacodab
open Go.RowKit
open Num
set_option linter.unusedVariables false
set_option maxRecDepth 100000
set_option linter.unusedSimpArgs false

set_option maxHeartbeats 4000000 in
theorem mulq_rtl {w : World} {v u : Value} {q r : Rat} {k : Nat} (h : Rtl w v q k) (h' : Rtl w u r k) (hk1 : 1 ≤ k) (hk : k ≤ 68719476736) :
    Calls Try.prog 26 #[v, u] w fun e w' => ∃ v, e = .returned v ∧ Rtl w' v (q * r) (k + k + 1) ∧ Below w.heap.size w w' := by
  obtain ⟨s1a, p1a, n1a, c1a, s1b, p1b, n1b, c1b, rfl⟩ := h.opened
  obtain ⟨ht1, d1, hu1, hd1⟩ := h.two
  have HD1 := hid hd1
  obtain ⟨s2a, p2a, n2a, c2a, s2b, p2b, n2b, c2b, rfl⟩ := h'.opened
  obtain ⟨ht2, d2, hu2, hd2⟩ := h'.two
  have HD2 := hid hd2
  have HK := hid hk
  have HK1 := hid hk1
  have B := hid (Below.refl w.heap.size w)
  have HT1 := hid ht1
  have HU1 := hid hu1
  have HT2 := hid ht2
  have HU2 := hid hu2
  have hb1 := (Below.refl _ _).alloc (Nat.le_refl w.heap.size) (.cells #[.bool s1a, .slice p1a n1a c1a, .bool s1b, .slice p1b n1b c1b] 52)
  have hx2 := Nbx.new w s1a s1b (.slice p1a n1a c1a) (.slice p1b n1b c1b)
  replace HT1 := hid (HT1.out.on hb1)
  replace HU1 := hid (HU1.out.on hb1)
  replace HT2 := hid (HT2.out.on hb1)
  replace HU2 := hid (HU2.out.on hb1)
  replace B := hid (B.out.trans (hb1.mono B.out.size))
  have X1 := hid hx2
  have hs3 : (w.alloc (.cells #[.bool s1a, .slice p1a n1a c1a, .bool s1b, .slice p1b n1b c1b] 52)).heap.size = w.heap.size + 1 := by simp
  clear hb1 hx2
  have hb4 := (Below.refl _ _).alloc (Nat.le_refl (w.alloc (.cells #[.bool s1a, .slice p1a n1a c1a, .bool s1b, .slice p1b n1b c1b] 52)).heap.size) (.cells #[.bool s2a, .slice p2a n2a c2a, .bool s2b, .slice p2b n2b c2b] 52)
  have hx5 := Nbx.new (w.alloc (.cells #[.bool s1a, .slice p1a n1a c1a, .bool s1b, .slice p1b n1b c1b] 52)) s2a s2b (.slice p2a n2a c2a) (.slice p2b n2b c2b)
  rw [hs3] at hx5
  replace X1 := hid (X1.out.below hb4 X1.out.lt)
  replace HT1 := hid (HT1.out.on hb4)
  replace HU1 := hid (HU1.out.on hb4)
  replace HT2 := hid (HT2.out.on hb4)
  replace HU2 := hid (HU2.out.on hb4)
  replace B := hid (B.out.trans (hb4.mono B.out.size))
  have X2 := hid hx5
  have hs6 : ((w.alloc (.cells #[.bool s1a, .slice p1a n1a c1a, .bool s1b, .slice p1b n1b c1b] 52)).alloc (.cells #[.bool s2a, .slice p2a n2a c2a, .bool s2b, .slice p2b n2b c2b] 52)).heap.size = w.heap.size + 1 + 1 := by simp [hs3]
  clear hb4 hx5
  have hb7 := (Below.refl _ _).alloc (Nat.le_refl ((w.alloc (.cells #[.bool s1a, .slice p1a n1a c1a, .bool s1b, .slice p1b n1b c1b] 52)).alloc (.cells #[.bool s2a, .slice p2a n2a c2a, .bool s2b, .slice p2b n2b c2b] 52)).heap.size) (.cells #[.bool false, .slice none 0 0, .bool false, .slice none 0 0] 52)
  have hx8 := Nbx.new ((w.alloc (.cells #[.bool s1a, .slice p1a n1a c1a, .bool s1b, .slice p1b n1b c1b] 52)).alloc (.cells #[.bool s2a, .slice p2a n2a c2a, .bool s2b, .slice p2b n2b c2b] 52)) false false (.slice none 0 0) (.slice none 0 0)
  rw [hs6] at hx8
  replace X1 := hid (X1.out.below hb7 X1.out.lt)
  replace X2 := hid (X2.out.below hb7 X2.out.lt)
  replace HT1 := hid (HT1.out.on hb7)
  replace HU1 := hid (HU1.out.on hb7)
  replace HT2 := hid (HT2.out.on hb7)
  replace HU2 := hid (HU2.out.on hb7)
  replace B := hid (B.out.trans (hb7.mono B.out.size))
  have XQ := hid hx8
  have hs9 : (((w.alloc (.cells #[.bool s1a, .slice p1a n1a c1a, .bool s1b, .slice p1b n1b c1b] 52)).alloc (.cells #[.bool s2a, .slice p2a n2a c2a, .bool s2b, .slice p2b n2b c2b] 52)).alloc (.cells #[.bool false, .slice none 0 0, .bool false, .slice none 0 0] 52)).heap.size = w.heap.size + 1 + 1 + 1 := by simp [hs6]
  clear hb7 hx8
  clear hs9 h h' ht1 hu1 ht2 hu2 hd1 hd2 hk hk1
  go_enter Try.func26, Try.ntmps26
  obtain ⟨cc10a, cc10b, cc10c, cc10d⟩ := X1.out.cells
  obtain ⟨cc11a, cc11b, cc11c, cc11d⟩ := X2.out.cells
  obtain ⟨cc12a, cc12b, cc12c, cc12d⟩ := XQ.out.cells
  go_wp2_with fail
  generalize hW : ((w.alloc (.cells #[.bool s1a, .slice p1a n1a c1a, .bool s1b, .slice p1b n1b c1b] 52)).alloc (.cells #[.bool s2a, .slice p2a n2a c2a, .bool s2b, .slice p2b n2b c2b] 52)).alloc (.cells #[.bool false, .slice none 0 0, .bool false, .slice none 0 0] 52) = W13 at *
  clear hW
  refine (parts_rtl (Rtl.mk2 HT1.out HU1.out HD1.out) HK1.out).mono ?_
  rintro e w14 ⟨v, u, rfl, hv, hu, hb⟩
  obtain ⟨s3, p3, n3, c3, rfl⟩ := hv.opened
  obtain ⟨s4, p4, n4, c4, rfl⟩ := hu.opened
  replace X1 := hid (X1.out.below hb X1.out.lt)
  replace X2 := hid (X2.out.below hb X2.out.lt)
  replace XQ := hid (XQ.out.below hb XQ.out.lt)
  replace HT1 := hid (HT1.out.on hb)
  replace HU1 := hid (HU1.out.on hb)
  replace HT2 := hid (HT2.out.on hb)
  replace HU2 := hid (HU2.out.on hb)
  replace B := hid (B.out.trans (hb.mono B.out.size))
  clear cc10a cc10b cc10c cc10d cc11a cc11b cc11c cc11d cc12a cc12b cc12c cc12d
  have HA := hid hv
  have HB := hid hu
  clear hb hv hu
  have hb15 := (Below.refl _ _).alloc (Nat.le_refl w14.heap.size) (.cells #[.bool s3, .slice p3 n3 c3] 38)
  have hx16 := Box.new w14 s3 p3 n3 c3
  have L0 := hid XQ.out.lt
  replace X1 := hid (X1.out.below hb15 X1.out.lt)
  replace X2 := hid (X2.out.below hb15 X2.out.lt)
  replace XQ := hid (XQ.out.below hb15 XQ.out.lt)
  replace HT1 := hid (HT1.out.on hb15)
  replace HU1 := hid (HU1.out.on hb15)
  replace HT2 := hid (HT2.out.on hb15)
  replace HU2 := hid (HU2.out.on hb15)
  replace HA := hid (HA.out.on hb15)
  replace HB := hid (HB.out.on hb15)
  replace B := hid (B.out.trans (hb15.mono B.out.size))
  have XA := hid hx16
  have hs17 : (w14.alloc (.cells #[.bool s3, .slice p3 n3 c3] 38)).heap.size = w14.heap.size + 1 := by simp
  clear hb15 hx16
  have hb18 := (Below.refl _ _).alloc (Nat.le_refl (w14.alloc (.cells #[.bool s3, .slice p3 n3 c3] 38)).heap.size) (.cells #[.bool s4, .slice p4 n4 c4] 38)
  have hx19 := Box.new (w14.alloc (.cells #[.bool s3, .slice p3 n3 c3] 38)) s4 p4 n4 c4
  rw [hs17] at hx19
  replace X1 := hid (X1.out.below hb18 X1.out.lt)
  replace X2 := hid (X2.out.below hb18 X2.out.lt)
  replace XQ := hid (XQ.out.below hb18 XQ.out.lt)
  replace XA := hid (XA.out.below hb18 XA.out.lt)
  replace HT1 := hid (HT1.out.on hb18)
  replace HU1 := hid (HU1.out.on hb18)
  replace HT2 := hid (HT2.out.on hb18)
  replace HU2 := hid (HU2.out.on hb18)
  replace HA := hid (HA.out.on hb18)
  replace HB := hid (HB.out.on hb18)
  replace B := hid (B.out.trans (hb18.mono B.out.size))
  have XB := hid hx19
  have hs20 : ((w14.alloc (.cells #[.bool s3, .slice p3 n3 c3] 38)).alloc (.cells #[.bool s4, .slice p4 n4 c4] 38)).heap.size = w14.heap.size + 1 + 1 := by simp [hs17]
  clear hb18 hx19
  obtain ⟨cc21a, cc21b, cc21c, cc21d⟩ := X1.out.cells
  obtain ⟨cc22a, cc22b, cc22c, cc22d⟩ := X2.out.cells
  obtain ⟨cc23a, cc23b, cc23c, cc23d⟩ := XQ.out.cells
  obtain ⟨cc24a, cc24b⟩ := XA.out.both
  obtain ⟨cc25a, cc25b⟩ := XB.out.both
  go_wp2_with fail
  generalize hW : (w14.alloc (.cells #[.bool s3, .slice p3 n3 c3] 38)).alloc (.cells #[.bool s4, .slice p4 n4 c4] 38) = W26 at *
  clear hW
  refine (parts_rtl (Rtl.mk2 HT2.out HU2.out HD2.out) HK1.out).mono ?_
  rintro e w27 ⟨v, u, rfl, hv, hu, hb⟩
  obtain ⟨s5, p5, n5, c5, rfl⟩ := hv.opened
  obtain ⟨s6, p6, n6, c6, rfl⟩ := hu.opened
  replace X1 := hid (X1.out.below hb X1.out.lt)
  replace X2 := hid (X2.out.below hb X2.out.lt)
  replace XQ := hid (XQ.out.below hb XQ.out.lt)
  replace XA := hid (XA.out.below hb XA.out.lt)
  replace XB := hid (XB.out.below hb XB.out.lt)
  replace HT1 := hid (HT1.out.on hb)
  replace HU1 := hid (HU1.out.on hb)
  replace HT2 := hid (HT2.out.on hb)
  replace HU2 := hid (HU2.out.on hb)
  replace HA := hid (HA.out.on hb)
  replace HB := hid (HB.out.on hb)
  replace B := hid (B.out.trans (hb.mono B.out.size))
  clear cc21a cc21b cc21c cc21d cc22a cc22b cc22c cc22d cc23a cc23b cc23c cc23d cc24a cc24b cc25a cc25b
  have HC := hid hv
  have HE := hid hu
  clear hb hv hu
  have hb28 := (Below.refl _ _).alloc (Nat.le_refl w27.heap.size) (.cells #[.bool s5, .slice p5 n5 c5] 38)
  have hx29 := Box.new w27 s5 p5 n5 c5
  have L1 := hid XB.out.lt
  replace X1 := hid (X1.out.below hb28 X1.out.lt)
  replace X2 := hid (X2.out.below hb28 X2.out.lt)
  replace XQ := hid (XQ.out.below hb28 XQ.out.lt)
  replace XA := hid (XA.out.below hb28 XA.out.lt)
  replace XB := hid (XB.out.below hb28 XB.out.lt)
  replace HT1 := hid (HT1.out.on hb28)
  replace HU1 := hid (HU1.out.on hb28)
  replace HT2 := hid (HT2.out.on hb28)
  replace HU2 := hid (HU2.out.on hb28)
  replace HA := hid (HA.out.on hb28)
  replace HB := hid (HB.out.on hb28)
  replace HC := hid (HC.out.on hb28)
  replace HE := hid (HE.out.on hb28)
  replace B := hid (B.out.trans (hb28.mono B.out.size))
  have XC := hid hx29
  have hs30 : (w27.alloc (.cells #[.bool s5, .slice p5 n5 c5] 38)).heap.size = w27.heap.size + 1 := by simp
  clear hb28 hx29
  have hb31 := (Below.refl _ _).alloc (Nat.le_refl (w27.alloc (.cells #[.bool s5, .slice p5 n5 c5] 38)).heap.size) (.cells #[.bool s6, .slice p6 n6 c6] 38)
  have hx32 := Box.new (w27.alloc (.cells #[.bool s5, .slice p5 n5 c5] 38)) s6 p6 n6 c6
  rw [hs30] at hx32
  replace X1 := hid (X1.out.below hb31 X1.out.lt)
  replace X2 := hid (X2.out.below hb31 X2.out.lt)
  replace XQ := hid (XQ.out.below hb31 XQ.out.lt)
  replace XA := hid (XA.out.below hb31 XA.out.lt)
  replace XB := hid (XB.out.below hb31 XB.out.lt)
  replace XC := hid (XC.out.below hb31 XC.out.lt)
  replace HT1 := hid (HT1.out.on hb31)
  replace HU1 := hid (HU1.out.on hb31)
  replace HT2 := hid (HT2.out.on hb31)
  replace HU2 := hid (HU2.out.on hb31)
  replace HA := hid (HA.out.on hb31)
  replace HB := hid (HB.out.on hb31)
  replace HC := hid (HC.out.on hb31)
  replace HE := hid (HE.out.on hb31)
  replace B := hid (B.out.trans (hb31.mono B.out.size))
  have XD := hid hx32
  have hs33 : ((w27.alloc (.cells #[.bool s5, .slice p5 n5 c5] 38)).alloc (.cells #[.bool s6, .slice p6 n6 c6] 38)).heap.size = w27.heap.size + 1 + 1 := by simp [hs30]
  clear hb31 hx32
  obtain ⟨cc34a, cc34b, cc34c, cc34d⟩ := X1.out.cells
  obtain ⟨cc35a, cc35b, cc35c, cc35d⟩ := X2.out.cells
  obtain ⟨cc36a, cc36b, cc36c, cc36d⟩ := XQ.out.cells
  obtain ⟨cc37a, cc37b⟩ := XA.out.both
  obtain ⟨cc38a, cc38b⟩ := XB.out.both
  obtain ⟨cc39a, cc39b⟩ := XC.out.both
  obtain ⟨cc40a, cc40b⟩ := XD.out.both
  go_wp2_with fail
  generalize hW : (w27.alloc (.cells #[.bool s5, .slice p5 n5 c5] 38)).alloc (.cells #[.bool s6, .slice p6 n6 c6] 38) = W41 at *
  clear hW
  obtain ⟨cc42a, cc42b⟩ := XA.out.both
  obtain ⟨cc43a, cc43b⟩ := XB.out.both
  obtain ⟨cc44a, cc44b⟩ := XC.out.both
  obtain ⟨cc45a, cc45b⟩ := XD.out.both
  replace X1 := hid X1.out.dr
  replace X2 := hid X2.out.dr
  replace XQ := hid XQ.out.dr
  replace XA := hid XA.out.dr
  replace XB := hid XB.out.dr
  replace XC := hid XC.out.dr
  replace XD := hid XD.out.dr
  replace HT1 := hid HT1.out.drew
  replace HU1 := hid HU1.out.drew
  replace HT2 := hid HT2.out.drew
  replace HU2 := hid HU2.out.drew
  replace HA := hid HA.out.drew
  replace HB := hid HB.out.drew
  replace HC := hid HC.out.drew
  replace HE := hid HE.out.drew
  replace B := hid (Below.drew B.out)
  obtain ⟨cc46a, cc46b⟩ := XA.out.both
  obtain ⟨cc47a, cc47b⟩ := XB.out.both
  obtain ⟨cc48a, cc48b⟩ := XC.out.both
  obtain ⟨cc49a, cc49b⟩ := XD.out.both
  go_region_held3 (fun w' => w'.cell? ⟨w14.heap.size, 0, none⟩ = some (.bool s3) ∧ w'.cell? ⟨w14.heap.size, 1, none⟩ = some (.slice p3 n3 c3) ∧ w'.cell? ⟨w14.heap.size + 1, 0, none⟩ = some (.bool s4) ∧ w'.cell? ⟨w14.heap.size + 1, 1, none⟩ = some (.slice p4 n4 c4) ∧ w'.cell? ⟨w27.heap.size, 0, none⟩ = some (.bool s5) ∧ w'.cell? ⟨w27.heap.size, 1, none⟩ = some (.slice p5 n5 c5) ∧ w'.cell? ⟨w27.heap.size + 1, 0, none⟩ = some (.bool s6) ∧ w'.cell? ⟨w27.heap.size + 1, 1, none⟩ = some (.slice p6 n6 c6)) (go_keep) (first
      | (have hm := mk50_1; clear hm; go_at_call 41; refine (reduced_rtl (k := k + k + 1) (P1.out.mono (by omega)) (P2.out.mono (by omega)) (Int.mul_ne_zero (den_ne _) (den_ne _)) (by have := HK.out; omega)).mono ?_; rintro e w61 ⟨v, rfl, hv, hb⟩; obtain ⟨s9a, p9a, n9a, c9a, s9b, p9b, n9b, c9b, rfl⟩ := hv.opened; obtain ⟨ht9, d9, hu9, hd9⟩ := hv.two; have HD9 := hid hd9; replace X1 := hid (X1.out.below hb X1.out.lt); replace X2 := hid (X2.out.below hb X2.out.lt); replace XQ := hid (XQ.out.below hb XQ.out.lt); replace XA := hid (XA.out.below hb XA.out.lt); replace XB := hid (XB.out.below hb XB.out.lt); replace XC := hid (XC.out.below hb XC.out.lt); replace XD := hid (XD.out.below hb XD.out.lt); replace HT1 := hid (HT1.out.on hb); replace HU1 := hid (HU1.out.on hb); replace HT2 := hid (HT2.out.on hb); replace HU2 := hid (HU2.out.on hb); replace HA := hid (HA.out.on hb); replace HB := hid (HB.out.on hb); replace HC := hid (HC.out.on hb); replace HE := hid (HE.out.on hb); replace P1 := hid (P1.out.on hb); replace P2 := hid (P2.out.on hb); replace B := hid (B.out.trans (hb.mono B.out.size)); clear cc57a cc57b cc58a cc58b cc59a cc59b cc60a cc60b; have HT9 := hid ht9; have HU9 := hid hu9; clear hb hv ht9 hu9 hd9; obtain ⟨cc62a, cc62b⟩ := XA.out.both; obtain ⟨cc63a, cc63b⟩ := XB.out.both; obtain ⟨cc64a, cc64b⟩ := XC.out.both; obtain ⟨cc65a, cc65b⟩ := XD.out.both; obtain ⟨⟨cc66a, cc66b⟩, ⟨cc66c, cc66d⟩, ⟨cc66e, cc66f⟩, cc66g, cc66h⟩ := XQ.out.stores; obtain ⟨r67a, r67b, r67c⟩ := XQ.out.last B.out (by have := L0.out; have := L1.out; omega) s9a s9b p9a p9b n9a n9b c9a c9b; replace X1 := hid ((((X1.out.other (g2 := w.heap.size + 1 + 1) (by have := L0.out; have := L1.out; omega) 0 (.bool s9a)).other (g2 := w.heap.size + 1 + 1) (by have := L0.out; have := L1.out; omega) 1 (.slice p9a n9a c9a)).other (g2 := w.heap.size + 1 + 1) (by have := L0.out; have := L1.out; omega) 2 (.bool s9b)).other (g2 := w.heap.size + 1 + 1) (by have := L0.out; have := L1.out; omega) 3 (.slice p9b n9b c9b)); replace X2 := hid ((((X2.out.other (g2 := w.heap.size + 1 + 1) (by have := L0.out; have := L1.out; omega) 0 (.bool s9a)).other (g2 := w.heap.size + 1 + 1) (by have := L0.out; have := L1.out; omega) 1 (.slice p9a n9a c9a)).other (g2 := w.heap.size + 1 + 1) (by have := L0.out; have := L1.out; omega) 2 (.bool s9b)).other (g2 := w.heap.size + 1 + 1) (by have := L0.out; have := L1.out; omega) 3 (.slice p9b n9b c9b)); replace XA := hid ((((XA.out.other (g2 := w.heap.size + 1 + 1) (by have := L0.out; have := L1.out; omega) 0 (.bool s9a)).other (g2 := w.heap.size + 1 + 1) (by have := L0.out; have := L1.out; omega) 1 (.slice p9a n9a c9a)).other (g2 := w.heap.size + 1 + 1) (by have := L0.out; have := L1.out; omega) 2 (.bool s9b)).other (g2 := w.heap.size + 1 + 1) (by have := L0.out; have := L1.out; omega) 3 (.slice p9b n9b c9b)); replace XB := hid ((((XB.out.other (g2 := w.heap.size + 1 + 1) (by have := L0.out; have := L1.out; omega) 0 (.bool s9a)).other (g2 := w.heap.size + 1 + 1) (by have := L0.out; have := L1.out; omega) 1 (.slice p9a n9a c9a)).other (g2 := w.heap.size + 1 + 1) (by have := L0.out; have := L1.out; omega) 2 (.bool s9b)).other (g2 := w.heap.size + 1 + 1) (by have := L0.out; have := L1.out; omega) 3 (.slice p9b n9b c9b)); replace XC := hid ((((XC.out.other (g2 := w.heap.size + 1 + 1) (by have := L0.out; have := L1.out; omega) 0 (.bool s9a)).other (g2 := w.heap.size + 1 + 1) (by have := L0.out; have := L1.out; omega) 1 (.slice p9a n9a c9a)).other (g2 := w.heap.size + 1 + 1) (by have := L0.out; have := L1.out; omega) 2 (.bool s9b)).other (g2 := w.heap.size + 1 + 1) (by have := L0.out; have := L1.out; omega) 3 (.slice p9b n9b c9b)); replace XD := hid ((((XD.out.other (g2 := w.heap.size + 1 + 1) (by have := L0.out; have := L1.out; omega) 0 (.bool s9a)).other (g2 := w.heap.size + 1 + 1) (by have := L0.out; have := L1.out; omega) 1 (.slice p9a n9a c9a)).other (g2 := w.heap.size + 1 + 1) (by have := L0.out; have := L1.out; omega) 2 (.bool s9b)).other (g2 := w.heap.size + 1 + 1) (by have := L0.out; have := L1.out; omega) 3 (.slice p9b n9b c9b)); replace HT1 := hid (r67c HT1.out); replace HU1 := hid (r67c HU1.out); replace HT2 := hid (r67c HT2.out); replace HU2 := hid (r67c HU2.out); replace HA := hid (r67c HA.out); replace HB := hid (r67c HB.out); replace HC := hid (r67c HC.out); replace HE := hid (r67c HE.out); replace P1 := hid (r67c P1.out); replace P2 := hid (r67c P2.out); replace HT9 := hid (r67c HT9.out); replace HU9 := hid (r67c HU9.out); replace XQ := hid r67a; replace B := hid r67b; clear r67a r67b r67c; obtain ⟨cc68a, cc68b⟩ := XA.out.both; obtain ⟨cc69a, cc69b⟩ := XB.out.both; obtain ⟨cc70a, cc70b⟩ := XC.out.both; obtain ⟨cc71a, cc71b⟩ := XD.out.both; have mk50_2 := hid True.intro)
      | (have hm := mk50_0; clear hm; go_at_call 17; refine (mul_whl HB.out HE.out (by have := HK.out; omega) (by have := HK.out; omega)).mono ?_; rintro e w56 ⟨v, rfl, hv, hb⟩; obtain ⟨s12, p12, n12, c12, rfl⟩ := hv.opened; replace X1 := hid (X1.out.below hb X1.out.lt); replace X2 := hid (X2.out.below hb X2.out.lt); replace XQ := hid (XQ.out.below hb XQ.out.lt); replace XA := hid (XA.out.below hb XA.out.lt); replace XB := hid (XB.out.below hb XB.out.lt); replace XC := hid (XC.out.below hb XC.out.lt); replace XD := hid (XD.out.below hb XD.out.lt); replace HT1 := hid (HT1.out.on hb); replace HU1 := hid (HU1.out.on hb); replace HT2 := hid (HT2.out.on hb); replace HU2 := hid (HU2.out.on hb); replace HA := hid (HA.out.on hb); replace HB := hid (HB.out.on hb); replace HC := hid (HC.out.on hb); replace HE := hid (HE.out.on hb); replace P1 := hid (P1.out.on hb); replace B := hid (B.out.trans (hb.mono B.out.size)); clear cc52a cc52b cc53a cc53b cc54a cc54b cc55a cc55b; have P2 := hid hv; clear hb hv; obtain ⟨cc57a, cc57b⟩ := XA.out.both; obtain ⟨cc58a, cc58b⟩ := XB.out.both; obtain ⟨cc59a, cc59b⟩ := XC.out.both; obtain ⟨cc60a, cc60b⟩ := XD.out.both; have mk50_1 := hid True.intro)
      | (go_at_call 17; refine (mul_whl HA.out HC.out (by have := HK.out; omega) (by have := HK.out; omega)).mono ?_; rintro e w51 ⟨v, rfl, hv, hb⟩; obtain ⟨s11, p11, n11, c11, rfl⟩ := hv.opened; replace X1 := hid (X1.out.below hb X1.out.lt); replace X2 := hid (X2.out.below hb X2.out.lt); replace XQ := hid (XQ.out.below hb XQ.out.lt); replace XA := hid (XA.out.below hb XA.out.lt); replace XB := hid (XB.out.below hb XB.out.lt); replace XC := hid (XC.out.below hb XC.out.lt); replace XD := hid (XD.out.below hb XD.out.lt); replace HT1 := hid (HT1.out.on hb); replace HU1 := hid (HU1.out.on hb); replace HT2 := hid (HT2.out.on hb); replace HU2 := hid (HU2.out.on hb); replace HA := hid (HA.out.on hb); replace HB := hid (HB.out.on hb); replace HC := hid (HC.out.on hb); replace HE := hid (HE.out.on hb); replace B := hid (B.out.trans (hb.mono B.out.size)); clear cc34a cc34b cc34c cc34d cc35a cc35b cc35c cc35d cc36a cc36b cc36c cc36d cc37a cc37b cc38a cc38b cc39a cc39b cc40a cc40b cc42a cc42b cc43a cc43b cc44a cc44b cc45a cc45b cc46a cc46b cc47a cc47b cc48a cc48b cc49a cc49b; have P1 := hid hv; clear hb hv; obtain ⟨cc52a, cc52b⟩ := XA.out.both; obtain ⟨cc53a, cc53b⟩ := XB.out.both; obtain ⟨cc54a, cc54b⟩ := XC.out.both; obtain ⟨cc55a, cc55b⟩ := XD.out.both; have mk50_0 := hid True.intro))
  go_wp2_with fail
  refine bodyPost_ret (res_num rfl rfl XQ.out) rfl ?_
  exact ⟨_, rfl, (by rw [mul_parts]; exact Rtl.mk2 HT9.out HU9.out HD9.out), B.out⟩

end Go.Proofs.Ytckkbjnipacodab

