/-
  PACKAGE rat: Less, Floor.
-/
import Derived.Test.YtckkbjnipacodabRatStr
namespace Go.Proofs.Ytckkbjnipacodab
open Go.RowKit
open Num
set_option linter.unusedVariables false
set_option maxRecDepth 100000
set_option linter.unusedSimpArgs false

set_option maxHeartbeats 4000000 in
theorem lessq_rtl {w : World} {v u : Value} {q r : Rat} {k : Nat} (h : Rtl w v q k) (h' : Rtl w u r k) (hk1 : 1 ≤ k) (hk : k ≤ 68719476736) :
    Calls Try.prog 27 #[v, u] w fun e w' => e = .returned (.bool (decide (q < r))) ∧ Below w.heap.size w w' := by
  have HL := hid (show decide (q < r) = decide (q.num * r.den < r.num * q.den) from decide_eq_decide.2 (Rat.lt_iff q r))
  obtain ⟨s1a, p1a, n1a, c1a, s1b, p1b, n1b, c1b, rfl⟩ := h.opened
  obtain ⟨ht1, d1, hu1, hd1⟩ := h.two
  have HD1 := hid hd1
  obtain ⟨s2a, p2a, n2a, c2a, s2b, p2b, n2b, c2b, rfl⟩ := h'.opened
  obtain ⟨ht2, d2, hu2, hd2⟩ := h'.two
  have HD2 := hid hd2
  have HK := hid hk
  have HK1 := hid hk1
  have B := hid (Below.refl w.heap.size w)
  have HT1 := hid ht1
  have HU1 := hid hu1
  have HT2 := hid ht2
  have HU2 := hid hu2
  have hb1 := (Below.refl _ _).alloc (Nat.le_refl w.heap.size) (.cells #[.bool s1a, .slice p1a n1a c1a, .bool s1b, .slice p1b n1b c1b] 52)
  have hx2 := Nbx.new w s1a s1b (.slice p1a n1a c1a) (.slice p1b n1b c1b)
  replace HT1 := hid (HT1.out.on hb1)
  replace HU1 := hid (HU1.out.on hb1)
  replace HT2 := hid (HT2.out.on hb1)
  replace HU2 := hid (HU2.out.on hb1)
  replace B := hid (B.out.trans (hb1.mono B.out.size))
  have X1 := hid hx2
  have hs3 : (w.alloc (.cells #[.bool s1a, .slice p1a n1a c1a, .bool s1b, .slice p1b n1b c1b] 52)).heap.size = w.heap.size + 1 := by simp
  clear hb1 hx2
  have hb4 := (Below.refl _ _).alloc (Nat.le_refl (w.alloc (.cells #[.bool s1a, .slice p1a n1a c1a, .bool s1b, .slice p1b n1b c1b] 52)).heap.size) (.cells #[.bool s2a, .slice p2a n2a c2a, .bool s2b, .slice p2b n2b c2b] 52)
  have hx5 := Nbx.new (w.alloc (.cells #[.bool s1a, .slice p1a n1a c1a, .bool s1b, .slice p1b n1b c1b] 52)) s2a s2b (.slice p2a n2a c2a) (.slice p2b n2b c2b)
  rw [hs3] at hx5
  replace X1 := hid (X1.out.below hb4 X1.out.lt)
  replace HT1 := hid (HT1.out.on hb4)
  replace HU1 := hid (HU1.out.on hb4)
  replace HT2 := hid (HT2.out.on hb4)
  replace HU2 := hid (HU2.out.on hb4)
  replace B := hid (B.out.trans (hb4.mono B.out.size))
  have X2 := hid hx5
  have hs6 : ((w.alloc (.cells #[.bool s1a, .slice p1a n1a c1a, .bool s1b, .slice p1b n1b c1b] 52)).alloc (.cells #[.bool s2a, .slice p2a n2a c2a, .bool s2b, .slice p2b n2b c2b] 52)).heap.size = w.heap.size + 1 + 1 := by simp [hs3]
  clear hb4 hx5
  clear hs6 h h' ht1 hu1 ht2 hu2 hd1 hd2 hk hk1
  go_enter Try.func27, Try.ntmps27
  obtain ⟨cc7a, cc7b, cc7c, cc7d⟩ := X1.out.cells
  obtain ⟨cc8a, cc8b, cc8c, cc8d⟩ := X2.out.cells
  go_wp2_with fail
  generalize hW : (w.alloc (.cells #[.bool s1a, .slice p1a n1a c1a, .bool s1b, .slice p1b n1b c1b] 52)).alloc (.cells #[.bool s2a, .slice p2a n2a c2a, .bool s2b, .slice p2b n2b c2b] 52) = W9 at *
  clear hW
  refine (parts_rtl (Rtl.mk2 HT1.out HU1.out HD1.out) HK1.out).mono ?_
  rintro e w10 ⟨v, u, rfl, hv, hu, hb⟩
  obtain ⟨s3, p3, n3, c3, rfl⟩ := hv.opened
  obtain ⟨s4, p4, n4, c4, rfl⟩ := hu.opened
  replace X1 := hid (X1.out.below hb X1.out.lt)
  replace X2 := hid (X2.out.below hb X2.out.lt)
  replace HT1 := hid (HT1.out.on hb)
  replace HU1 := hid (HU1.out.on hb)
  replace HT2 := hid (HT2.out.on hb)
  replace HU2 := hid (HU2.out.on hb)
  replace B := hid (B.out.trans (hb.mono B.out.size))
  clear cc7a cc7b cc7c cc7d cc8a cc8b cc8c cc8d
  have HA := hid hv
  have HB := hid hu
  clear hb hv hu
  have hb11 := (Below.refl _ _).alloc (Nat.le_refl w10.heap.size) (.cells #[.bool s3, .slice p3 n3 c3] 38)
  have hx12 := Box.new w10 s3 p3 n3 c3
  have L0 := hid X2.out.lt
  replace X1 := hid (X1.out.below hb11 X1.out.lt)
  replace X2 := hid (X2.out.below hb11 X2.out.lt)
  replace HT1 := hid (HT1.out.on hb11)
  replace HU1 := hid (HU1.out.on hb11)
  replace HT2 := hid (HT2.out.on hb11)
  replace HU2 := hid (HU2.out.on hb11)
  replace HA := hid (HA.out.on hb11)
  replace HB := hid (HB.out.on hb11)
  replace B := hid (B.out.trans (hb11.mono B.out.size))
  have XA := hid hx12
  have hs13 : (w10.alloc (.cells #[.bool s3, .slice p3 n3 c3] 38)).heap.size = w10.heap.size + 1 := by simp
  clear hb11 hx12
  have hb14 := (Below.refl _ _).alloc (Nat.le_refl (w10.alloc (.cells #[.bool s3, .slice p3 n3 c3] 38)).heap.size) (.cells #[.bool s4, .slice p4 n4 c4] 38)
  have hx15 := Box.new (w10.alloc (.cells #[.bool s3, .slice p3 n3 c3] 38)) s4 p4 n4 c4
  rw [hs13] at hx15
  replace X1 := hid (X1.out.below hb14 X1.out.lt)
  replace X2 := hid (X2.out.below hb14 X2.out.lt)
  replace XA := hid (XA.out.below hb14 XA.out.lt)
  replace HT1 := hid (HT1.out.on hb14)
  replace HU1 := hid (HU1.out.on hb14)
  replace HT2 := hid (HT2.out.on hb14)
  replace HU2 := hid (HU2.out.on hb14)
  replace HA := hid (HA.out.on hb14)
  replace HB := hid (HB.out.on hb14)
  replace B := hid (B.out.trans (hb14.mono B.out.size))
  have XB := hid hx15
  have hs16 : ((w10.alloc (.cells #[.bool s3, .slice p3 n3 c3] 38)).alloc (.cells #[.bool s4, .slice p4 n4 c4] 38)).heap.size = w10.heap.size + 1 + 1 := by simp [hs13]
  clear hb14 hx15
  obtain ⟨cc17a, cc17b, cc17c, cc17d⟩ := X1.out.cells
  obtain ⟨cc18a, cc18b, cc18c, cc18d⟩ := X2.out.cells
  obtain ⟨cc19a, cc19b⟩ := XA.out.both
  obtain ⟨cc20a, cc20b⟩ := XB.out.both
  go_wp2_with fail
  generalize hW : (w10.alloc (.cells #[.bool s3, .slice p3 n3 c3] 38)).alloc (.cells #[.bool s4, .slice p4 n4 c4] 38) = W21 at *
  clear hW
  refine (parts_rtl (Rtl.mk2 HT2.out HU2.out HD2.out) HK1.out).mono ?_
  rintro e w22 ⟨v, u, rfl, hv, hu, hb⟩
  obtain ⟨s5, p5, n5, c5, rfl⟩ := hv.opened
  obtain ⟨s6, p6, n6, c6, rfl⟩ := hu.opened
  replace X1 := hid (X1.out.below hb X1.out.lt)
  replace X2 := hid (X2.out.below hb X2.out.lt)
  replace XA := hid (XA.out.below hb XA.out.lt)
  replace XB := hid (XB.out.below hb XB.out.lt)
  replace HT1 := hid (HT1.out.on hb)
  replace HU1 := hid (HU1.out.on hb)
  replace HT2 := hid (HT2.out.on hb)
  replace HU2 := hid (HU2.out.on hb)
  replace HA := hid (HA.out.on hb)
  replace HB := hid (HB.out.on hb)
  replace B := hid (B.out.trans (hb.mono B.out.size))
  clear cc17a cc17b cc17c cc17d cc18a cc18b cc18c cc18d cc19a cc19b cc20a cc20b
  have HC := hid hv
  have HE := hid hu
  clear hb hv hu
  have hb23 := (Below.refl _ _).alloc (Nat.le_refl w22.heap.size) (.cells #[.bool s5, .slice p5 n5 c5] 38)
  have hx24 := Box.new w22 s5 p5 n5 c5
  have L1 := hid XB.out.lt
  replace X1 := hid (X1.out.below hb23 X1.out.lt)
  replace X2 := hid (X2.out.below hb23 X2.out.lt)
  replace XA := hid (XA.out.below hb23 XA.out.lt)
  replace XB := hid (XB.out.below hb23 XB.out.lt)
  replace HT1 := hid (HT1.out.on hb23)
  replace HU1 := hid (HU1.out.on hb23)
  replace HT2 := hid (HT2.out.on hb23)
  replace HU2 := hid (HU2.out.on hb23)
  replace HA := hid (HA.out.on hb23)
  replace HB := hid (HB.out.on hb23)
  replace HC := hid (HC.out.on hb23)
  replace HE := hid (HE.out.on hb23)
  replace B := hid (B.out.trans (hb23.mono B.out.size))
  have XC := hid hx24
  have hs25 : (w22.alloc (.cells #[.bool s5, .slice p5 n5 c5] 38)).heap.size = w22.heap.size + 1 := by simp
  clear hb23 hx24
  have hb26 := (Below.refl _ _).alloc (Nat.le_refl (w22.alloc (.cells #[.bool s5, .slice p5 n5 c5] 38)).heap.size) (.cells #[.bool s6, .slice p6 n6 c6] 38)
  have hx27 := Box.new (w22.alloc (.cells #[.bool s5, .slice p5 n5 c5] 38)) s6 p6 n6 c6
  rw [hs25] at hx27
  replace X1 := hid (X1.out.below hb26 X1.out.lt)
  replace X2 := hid (X2.out.below hb26 X2.out.lt)
  replace XA := hid (XA.out.below hb26 XA.out.lt)
  replace XB := hid (XB.out.below hb26 XB.out.lt)
  replace XC := hid (XC.out.below hb26 XC.out.lt)
  replace HT1 := hid (HT1.out.on hb26)
  replace HU1 := hid (HU1.out.on hb26)
  replace HT2 := hid (HT2.out.on hb26)
  replace HU2 := hid (HU2.out.on hb26)
  replace HA := hid (HA.out.on hb26)
  replace HB := hid (HB.out.on hb26)
  replace HC := hid (HC.out.on hb26)
  replace HE := hid (HE.out.on hb26)
  replace B := hid (B.out.trans (hb26.mono B.out.size))
  have XD := hid hx27
  have hs28 : ((w22.alloc (.cells #[.bool s5, .slice p5 n5 c5] 38)).alloc (.cells #[.bool s6, .slice p6 n6 c6] 38)).heap.size = w22.heap.size + 1 + 1 := by simp [hs25]
  clear hb26 hx27
  obtain ⟨cc29a, cc29b, cc29c, cc29d⟩ := X1.out.cells
  obtain ⟨cc30a, cc30b, cc30c, cc30d⟩ := X2.out.cells
  obtain ⟨cc31a, cc31b⟩ := XA.out.both
  obtain ⟨cc32a, cc32b⟩ := XB.out.both
  obtain ⟨cc33a, cc33b⟩ := XC.out.both
  obtain ⟨cc34a, cc34b⟩ := XD.out.both
  go_wp2_with fail
  generalize hW : (w22.alloc (.cells #[.bool s5, .slice p5 n5 c5] 38)).alloc (.cells #[.bool s6, .slice p6 n6 c6] 38) = W35 at *
  clear hW
  obtain ⟨cc36a, cc36b⟩ := XA.out.both
  obtain ⟨cc37a, cc37b⟩ := XB.out.both
  obtain ⟨cc38a, cc38b⟩ := XC.out.both
  obtain ⟨cc39a, cc39b⟩ := XD.out.both
  replace X1 := hid X1.out.dr
  replace X2 := hid X2.out.dr
  replace XA := hid XA.out.dr
  replace XB := hid XB.out.dr
  replace XC := hid XC.out.dr
  replace XD := hid XD.out.dr
  replace HT1 := hid HT1.out.drew
  replace HU1 := hid HU1.out.drew
  replace HT2 := hid HT2.out.drew
  replace HU2 := hid HU2.out.drew
  replace HA := hid HA.out.drew
  replace HB := hid HB.out.drew
  replace HC := hid HC.out.drew
  replace HE := hid HE.out.drew
  replace B := hid (Below.drew B.out)
  obtain ⟨cc40a, cc40b⟩ := XA.out.both
  obtain ⟨cc41a, cc41b⟩ := XB.out.both
  obtain ⟨cc42a, cc42b⟩ := XC.out.both
  obtain ⟨cc43a, cc43b⟩ := XD.out.both
  go_region_held3 (fun w' => w'.cell? ⟨w10.heap.size, 0, none⟩ = some (.bool s3) ∧ w'.cell? ⟨w10.heap.size, 1, none⟩ = some (.slice p3 n3 c3) ∧ w'.cell? ⟨w10.heap.size + 1, 0, none⟩ = some (.bool s4) ∧ w'.cell? ⟨w10.heap.size + 1, 1, none⟩ = some (.slice p4 n4 c4) ∧ w'.cell? ⟨w22.heap.size, 0, none⟩ = some (.bool s5) ∧ w'.cell? ⟨w22.heap.size, 1, none⟩ = some (.slice p5 n5 c5) ∧ w'.cell? ⟨w22.heap.size + 1, 0, none⟩ = some (.bool s6) ∧ w'.cell? ⟨w22.heap.size + 1, 1, none⟩ = some (.slice p6 n6 c6)) (go_keep) (first
      | (have hm := mk44_1; clear hm; go_at_call 45; refine (zless_whl P1.out P2.out (by have := HK.out; omega) (by have := HK.out; omega)).mono ?_; rintro e w55 ⟨rfl, hb⟩; replace X1 := hid (X1.out.below hb X1.out.lt); replace X2 := hid (X2.out.below hb X2.out.lt); replace XA := hid (XA.out.below hb XA.out.lt); replace XB := hid (XB.out.below hb XB.out.lt); replace XC := hid (XC.out.below hb XC.out.lt); replace XD := hid (XD.out.below hb XD.out.lt); replace HT1 := hid (HT1.out.on hb); replace HU1 := hid (HU1.out.on hb); replace HT2 := hid (HT2.out.on hb); replace HU2 := hid (HU2.out.on hb); replace HA := hid (HA.out.on hb); replace HB := hid (HB.out.on hb); replace HC := hid (HC.out.on hb); replace HE := hid (HE.out.on hb); replace P1 := hid (P1.out.on hb); replace P2 := hid (P2.out.on hb); replace B := hid (B.out.trans (hb.mono B.out.size)); clear cc51a cc51b cc52a cc52b cc53a cc53b cc54a cc54b; clear hb ; obtain ⟨cc56a, cc56b⟩ := XA.out.both; obtain ⟨cc57a, cc57b⟩ := XB.out.both; obtain ⟨cc58a, cc58b⟩ := XC.out.both; obtain ⟨cc59a, cc59b⟩ := XD.out.both; have mk44_2 := hid True.intro)
      | (have hm := mk44_0; clear hm; go_at_call 17; refine (mul_whl HC.out HB.out (by have := HK.out; omega) (by have := HK.out; omega)).mono ?_; rintro e w50 ⟨v, rfl, hv, hb⟩; obtain ⟨s12, p12, n12, c12, rfl⟩ := hv.opened; replace X1 := hid (X1.out.below hb X1.out.lt); replace X2 := hid (X2.out.below hb X2.out.lt); replace XA := hid (XA.out.below hb XA.out.lt); replace XB := hid (XB.out.below hb XB.out.lt); replace XC := hid (XC.out.below hb XC.out.lt); replace XD := hid (XD.out.below hb XD.out.lt); replace HT1 := hid (HT1.out.on hb); replace HU1 := hid (HU1.out.on hb); replace HT2 := hid (HT2.out.on hb); replace HU2 := hid (HU2.out.on hb); replace HA := hid (HA.out.on hb); replace HB := hid (HB.out.on hb); replace HC := hid (HC.out.on hb); replace HE := hid (HE.out.on hb); replace P1 := hid (P1.out.on hb); replace B := hid (B.out.trans (hb.mono B.out.size)); clear cc46a cc46b cc47a cc47b cc48a cc48b cc49a cc49b; have P2 := hid hv; clear hb hv; obtain ⟨cc51a, cc51b⟩ := XA.out.both; obtain ⟨cc52a, cc52b⟩ := XB.out.both; obtain ⟨cc53a, cc53b⟩ := XC.out.both; obtain ⟨cc54a, cc54b⟩ := XD.out.both; have mk44_1 := hid True.intro)
      | (go_at_call 17; refine (mul_whl HA.out HE.out (by have := HK.out; omega) (by have := HK.out; omega)).mono ?_; rintro e w45 ⟨v, rfl, hv, hb⟩; obtain ⟨s11, p11, n11, c11, rfl⟩ := hv.opened; replace X1 := hid (X1.out.below hb X1.out.lt); replace X2 := hid (X2.out.below hb X2.out.lt); replace XA := hid (XA.out.below hb XA.out.lt); replace XB := hid (XB.out.below hb XB.out.lt); replace XC := hid (XC.out.below hb XC.out.lt); replace XD := hid (XD.out.below hb XD.out.lt); replace HT1 := hid (HT1.out.on hb); replace HU1 := hid (HU1.out.on hb); replace HT2 := hid (HT2.out.on hb); replace HU2 := hid (HU2.out.on hb); replace HA := hid (HA.out.on hb); replace HB := hid (HB.out.on hb); replace HC := hid (HC.out.on hb); replace HE := hid (HE.out.on hb); replace B := hid (B.out.trans (hb.mono B.out.size)); clear cc29a cc29b cc29c cc29d cc30a cc30b cc30c cc30d cc31a cc31b cc32a cc32b cc33a cc33b cc34a cc34b cc36a cc36b cc37a cc37b cc38a cc38b cc39a cc39b cc40a cc40b cc41a cc41b cc42a cc42b cc43a cc43b; have P1 := hid hv; clear hb hv; obtain ⟨cc46a, cc46b⟩ := XA.out.both; obtain ⟨cc47a, cc47b⟩ := XB.out.both; obtain ⟨cc48a, cc48b⟩ := XC.out.both; obtain ⟨cc49a, cc49b⟩ := XD.out.both; have mk44_0 := hid True.intro))
  go_wp2_with fail
  go_ret
  exact ⟨ret_bool HL.out.symm, B.out⟩

end Go.Proofs.Ytckkbjnipacodab

