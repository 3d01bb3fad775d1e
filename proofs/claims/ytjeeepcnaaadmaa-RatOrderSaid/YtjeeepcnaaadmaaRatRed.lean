/-
  PACKAGE rat: reduced.
-/
import Derived.Test.YtjeeepcnaaadmaaRat
namespace Go.Proofs.Ytjeeepcnaaadmaa
open Go.RowKit
open Num
set_option linter.unusedVariables false
set_option maxRecDepth 100000
set_option linter.unusedSimpArgs false

set_option maxHeartbeats 1000000 in
theorem reduced_plus {w : World} {v u : Value} {z y : Int} {k : Nat} (h : Whl w v z k) (h' : Whl w u y k) (hy : 0 < y) (hk : k ≤ 549755813888) :
    Calls Try.prog 61 #[v, u] w fun e w' => ∃ v, e = .returned v ∧ Rtl w' v (Rat.divInt z y) k ∧ Below w.heap.size w w' := by
  obtain ⟨s1, p1, n1, c1, rfl⟩ := h.opened
  obtain ⟨s2, p2, n2, c2, rfl⟩ := h'.opened
  have HK := hid hk
  have H0 := hid hy
  have HD := hid (divInt_parts z y (by omega))
  have YG := Int.sign_eq_one_of_pos hy
  rw [if_neg (by omega)] at HD
  have HG0 := hid (show (Int.gcd z y : Int) ≠ 0 by have := Int.gcd_pos_of_ne_zero_right z (show y ≠ 0 by omega); omega)
  have B := hid (Below.refl w.heap.size w)
  have HZ := hid h
  have HY := hid h'
  have hb1 := (Below.refl _ _).alloc (Nat.le_refl w.heap.size) (.cells #[.bool s1, .slice p1 n1 c1] 49)
  have hx2 := Box.new w s1 p1 n1 c1
  replace HZ := wl HZ hb1
  replace HY := wl HY hb1
  replace B := bb B hb1
  have X1 := hid hx2
  have hs3 : (w.alloc (.cells #[.bool s1, .slice p1 n1 c1] 49)).heap.size = w.heap.size + 1 := by simp
  clear hb1 hx2
  have hb4 := (Below.refl _ _).alloc (Nat.le_refl (w.alloc (.cells #[.bool s1, .slice p1 n1 c1] 49)).heap.size) (.cells #[.bool s2, .slice p2 n2 c2] 49)
  have hx5 := Box.new (w.alloc (.cells #[.bool s1, .slice p1 n1 c1] 49)) s2 p2 n2 c2
  rw [hs3] at hx5
  replace X1 := bx X1 hb4
  replace HZ := wl HZ hb4
  replace HY := wl HY hb4
  replace B := bb B hb4
  have X2 := hid hx5
  have hs6 : ((w.alloc (.cells #[.bool s1, .slice p1 n1 c1] 49)).alloc (.cells #[.bool s2, .slice p2 n2 c2] 49)).heap.size = w.heap.size + 1 + 1 := by simp [hs3]
  clear hb4 hx5
  have hb7 := (Below.refl _ _).alloc (Nat.le_refl ((w.alloc (.cells #[.bool s1, .slice p1 n1 c1] 49)).alloc (.cells #[.bool s2, .slice p2 n2 c2] 49)).heap.size) (.cells #[.bool false, .slice none 0 0, .bool false, .slice none 0 0] 51)
  have hx8 := Nbx.new ((w.alloc (.cells #[.bool s1, .slice p1 n1 c1] 49)).alloc (.cells #[.bool s2, .slice p2 n2 c2] 49)) false false (.slice none 0 0) (.slice none 0 0)
  rw [hs6] at hx8
  replace X1 := bx X1 hb7
  replace X2 := bx X2 hb7
  replace HZ := wl HZ hb7
  replace HY := wl HY hb7
  replace B := bb B hb7
  have XQ := hid hx8
  have hs9 : (((w.alloc (.cells #[.bool s1, .slice p1 n1 c1] 49)).alloc (.cells #[.bool s2, .slice p2 n2 c2] 49)).alloc (.cells #[.bool false, .slice none 0 0, .bool false, .slice none 0 0] 51)).heap.size = w.heap.size + 1 + 1 + 1 := by simp [hs6]
  clear hb7 hx8
  clear hs9 h h' hk hy
  go_enter Try.func61, Try.ntmps61
  go_wp2_with fail
  generalize hW : ((w.alloc (.cells #[.bool s1, .slice p1 n1 c1] 49)).alloc (.cells #[.bool s2, .slice p2 n2 c2] 49)).alloc (.cells #[.bool false, .slice none 0 0, .bool false, .slice none 0 0] 51) = W10 at *
  clear hW
  refine (zgcd_whl HZ.out HY.out HK.out).mono ?_
  rintro e w11 ⟨v, rfl, hv, hb⟩
  obtain ⟨s3, p3, n3, c3, rfl⟩ := hv.opened
  replace X1 := bx X1 hb
  replace X2 := bx X2 hb
  replace XQ := nx XQ hb
  replace HZ := wl HZ hb
  replace HY := wl HY hb
  replace B := bb B hb
  have HG := hid hv
  clear hb hv
  have hb12 := (Below.refl _ _).alloc (Nat.le_refl w11.heap.size) (.cells #[.bool s3, .slice p3 n3 c3] 49)
  have hx13 := Box.new w11 s3 p3 n3 c3
  have L0 := hid XQ.out.lt
  replace X1 := bx X1 hb12
  replace X2 := bx X2 hb12
  replace XQ := nx XQ hb12
  replace HZ := wl HZ hb12
  replace HY := wl HY hb12
  replace HG := wl HG hb12
  replace B := bb B hb12
  have X3 := hid hx13
  have hs14 : (w11.alloc (.cells #[.bool s3, .slice p3 n3 c3] 49)).heap.size = w11.heap.size + 1 := by simp
  clear hb12 hx13
  obtain ⟨cc15a, cc15b⟩ := X1.out.both
  obtain ⟨cc16a, cc16b⟩ := X2.out.both
  obtain ⟨cc17a, cc17b, cc17c, cc17d⟩ := XQ.out.cells
  obtain ⟨cc18a, cc18b⟩ := X3.out.both
  go_wp2_with fail
  generalize hW : w11.alloc (.cells #[.bool s3, .slice p3 n3 c3] 49) = W19 at *
  clear hW
  have HS := sgn_whl HY.out
  rw [YG] at HS
  refine (HS).mono ?_
  rintro e w20 ⟨rfl, hb⟩
  replace X1 := bx X1 hb
  replace X2 := bx X2 hb
  replace XQ := nx XQ hb
  replace X3 := bx X3 hb
  replace HZ := wl HZ hb
  replace HY := wl HY hb
  replace HG := wl HG hb
  replace B := bb B hb
  clear cc15a cc15b cc16a cc16b cc17a cc17b cc17c cc17d cc18a cc18b
  clear hb 
  obtain ⟨cc21a, cc21b⟩ := X1.out.both
  obtain ⟨cc22a, cc22b⟩ := X2.out.both
  obtain ⟨cc23a, cc23b, cc23c, cc23d⟩ := XQ.out.cells
  obtain ⟨cc24a, cc24b⟩ := X3.out.both
  go_wp2_with fail
  refine (div_whl HZ.out HG.out (by have := HG0.out; omega) (by have := HK.out; omega) (by have := HK.out; omega)).mono ?_
  rintro e w25 ⟨v, u, rfl, hv, hu, hb⟩
  obtain ⟨s5, p5, n5, c5, rfl⟩ := hv.opened
  obtain ⟨s6, p6, n6, c6, rfl⟩ := hu.opened
  replace X1 := bx X1 hb
  replace X2 := bx X2 hb
  replace XQ := nx XQ hb
  replace X3 := bx X3 hb
  replace HZ := wl HZ hb
  replace HY := wl HY hb
  replace HG := wl HG hb
  replace B := bb B hb
  clear cc21a cc21b cc22a cc22b cc23a cc23b cc23c cc23d cc24a cc24b
  have HT := hid hv
  clear hb hv hu
  obtain ⟨cc26a, cc26b, cc26c, cc26d⟩ := X1.out.stores
  obtain ⟨r27a, r27b, r27c⟩ := X1.out.last B.out (by have := L0.out; omega) s5 p5 n5 c5
  replace X2 := hid ((X2.out.other (g2 := w.heap.size) (by have := L0.out; omega) 0 (.bool s5)).other (g2 := w.heap.size) (by have := L0.out; omega) 1 (.slice p5 n5 c5))
  replace XQ := hid ((XQ.out.other (g2 := w.heap.size) (by have := L0.out; omega) 0 (.bool s5)).other (g2 := w.heap.size) (by have := L0.out; omega) 1 (.slice p5 n5 c5))
  replace X3 := hid ((X3.out.other (g2 := w.heap.size) (by have := L0.out; omega) 0 (.bool s5)).other (g2 := w.heap.size) (by have := L0.out; omega) 1 (.slice p5 n5 c5))
  replace HZ := hid (r27c HZ.out)
  replace HY := hid (r27c HY.out)
  replace HG := hid (r27c HG.out)
  replace HT := hid (r27c HT.out)
  replace X1 := hid r27a
  replace B := hid r27b
  clear r27a r27b r27c
  obtain ⟨cc28a, cc28b⟩ := X1.out.both
  obtain ⟨cc29a, cc29b⟩ := X2.out.both
  obtain ⟨cc30a, cc30b, cc30c, cc30d⟩ := XQ.out.cells
  obtain ⟨cc31a, cc31b⟩ := X3.out.both
  go_wp2_with fail
  generalize hW : (w25.setCell ⟨w.heap.size, 0, none⟩ (.bool s5)).setCell ⟨w.heap.size, 1, none⟩ (.slice p5 n5 c5) = W32 at *
  clear hW
  refine (div_whl HY.out HG.out (by have := HG0.out; omega) (by have := HK.out; omega) (by have := HK.out; omega)).mono ?_
  rintro e w33 ⟨v, u, rfl, hv, hu, hb⟩
  obtain ⟨s7, p7, n7, c7, rfl⟩ := hv.opened
  obtain ⟨s8, p8, n8, c8, rfl⟩ := hu.opened
  replace X1 := bx X1 hb
  replace X2 := bx X2 hb
  replace XQ := nx XQ hb
  replace X3 := bx X3 hb
  replace HZ := wl HZ hb
  replace HY := wl HY hb
  replace HG := wl HG hb
  replace HT := wl HT hb
  replace B := bb B hb
  clear cc26a cc26b cc26c cc26d cc28a cc28b cc29a cc29b cc30a cc30b cc30c cc30d cc31a cc31b
  have HU := hid hv
  clear hb hv hu
  obtain ⟨cc34a, cc34b, cc34c, cc34d⟩ := X2.out.stores
  obtain ⟨r35a, r35b, r35c⟩ := X2.out.last B.out (by have := L0.out; omega) s7 p7 n7 c7
  replace X1 := hid ((X1.out.other (g2 := w.heap.size + 1) (by have := L0.out; omega) 0 (.bool s7)).other (g2 := w.heap.size + 1) (by have := L0.out; omega) 1 (.slice p7 n7 c7))
  replace XQ := hid ((XQ.out.other (g2 := w.heap.size + 1) (by have := L0.out; omega) 0 (.bool s7)).other (g2 := w.heap.size + 1) (by have := L0.out; omega) 1 (.slice p7 n7 c7))
  replace X3 := hid ((X3.out.other (g2 := w.heap.size + 1) (by have := L0.out; omega) 0 (.bool s7)).other (g2 := w.heap.size + 1) (by have := L0.out; omega) 1 (.slice p7 n7 c7))
  replace HZ := hid (r35c HZ.out)
  replace HY := hid (r35c HY.out)
  replace HG := hid (r35c HG.out)
  replace HT := hid (r35c HT.out)
  replace HU := hid (r35c HU.out)
  replace X2 := hid r35a
  replace B := hid r35b
  clear r35a r35b r35c
  obtain ⟨cc36a, cc36b⟩ := X1.out.both
  obtain ⟨cc37a, cc37b⟩ := X2.out.both
  obtain ⟨cc38a, cc38b, cc38c, cc38d⟩ := XQ.out.cells
  obtain ⟨cc39a, cc39b⟩ := X3.out.both
  obtain ⟨⟨cc40a, cc40b⟩, ⟨cc40c, cc40d⟩, ⟨cc40e, cc40f⟩, cc40g, cc40h⟩ := XQ.out.stores
  obtain ⟨r41a, r41b, r41c⟩ := XQ.out.last B.out (by have := L0.out; omega) s5 s7 p5 p7 n5 n7 c5 c7
  replace X1 := hid ((((X1.out.other (g2 := w.heap.size + 1 + 1) (by have := L0.out; omega) 0 (.bool s5)).other (g2 := w.heap.size + 1 + 1) (by have := L0.out; omega) 1 (.slice p5 n5 c5)).other (g2 := w.heap.size + 1 + 1) (by have := L0.out; omega) 2 (.bool s7)).other (g2 := w.heap.size + 1 + 1) (by have := L0.out; omega) 3 (.slice p7 n7 c7))
  replace X2 := hid ((((X2.out.other (g2 := w.heap.size + 1 + 1) (by have := L0.out; omega) 0 (.bool s5)).other (g2 := w.heap.size + 1 + 1) (by have := L0.out; omega) 1 (.slice p5 n5 c5)).other (g2 := w.heap.size + 1 + 1) (by have := L0.out; omega) 2 (.bool s7)).other (g2 := w.heap.size + 1 + 1) (by have := L0.out; omega) 3 (.slice p7 n7 c7))
  replace X3 := hid ((((X3.out.other (g2 := w.heap.size + 1 + 1) (by have := L0.out; omega) 0 (.bool s5)).other (g2 := w.heap.size + 1 + 1) (by have := L0.out; omega) 1 (.slice p5 n5 c5)).other (g2 := w.heap.size + 1 + 1) (by have := L0.out; omega) 2 (.bool s7)).other (g2 := w.heap.size + 1 + 1) (by have := L0.out; omega) 3 (.slice p7 n7 c7))
  replace HZ := hid (r41c HZ.out)
  replace HY := hid (r41c HY.out)
  replace HG := hid (r41c HG.out)
  replace HT := hid (r41c HT.out)
  replace HU := hid (r41c HU.out)
  replace XQ := hid r41a
  replace B := hid r41b
  clear r41a r41b r41c
  go_wp2_with fail
  refine bodyPost_ret (res_num rfl rfl XQ.out) rfl ?_
  obtain ⟨e1, e2⟩ := HD.out
  have t1 := (HT.out.fit k (Nat.lt_of_le_of_lt (natAbs_ediv_le _ _) HZ.out.lt))
  have t2 := (HU.out.fit k (Nat.lt_of_le_of_lt (natAbs_ediv_le _ _) HY.out.lt))
  rw [← e1] at t1
  rw [← e2] at t2
  exact ⟨_, rfl, ⟨_, _, _, _, _, _, _, _, rfl, t1, _, t2, .inl rfl⟩, B.out⟩

set_option maxHeartbeats 1000000 in
theorem reduced_minus {w : World} {v u : Value} {z y : Int} {k : Nat} (h : Whl w v z k) (h' : Whl w u y k) (hy : y < 0) (hk : k ≤ 549755813888) :
    Calls Try.prog 61 #[v, u] w fun e w' => ∃ v, e = .returned v ∧ Rtl w' v (Rat.divInt z y) k ∧ Below w.heap.size w w' := by
  obtain ⟨s1, p1, n1, c1, rfl⟩ := h.opened
  obtain ⟨s2, p2, n2, c2, rfl⟩ := h'.opened
  have HK := hid hk
  have H0 := hid hy
  have HD := hid (divInt_parts z y (by omega))
  have YG := Int.sign_eq_neg_one_of_neg hy
  rw [if_pos (by omega)] at HD
  have HG0 := hid (show (Int.gcd z y : Int) ≠ 0 by have := Int.gcd_pos_of_ne_zero_right z (show y ≠ 0 by omega); omega)
  have B := hid (Below.refl w.heap.size w)
  have HZ := hid h
  have HY := hid h'
  have hb1 := (Below.refl _ _).alloc (Nat.le_refl w.heap.size) (.cells #[.bool s1, .slice p1 n1 c1] 49)
  have hx2 := Box.new w s1 p1 n1 c1
  replace HZ := wl HZ hb1
  replace HY := wl HY hb1
  replace B := bb B hb1
  have X1 := hid hx2
  have hs3 : (w.alloc (.cells #[.bool s1, .slice p1 n1 c1] 49)).heap.size = w.heap.size + 1 := by simp
  clear hb1 hx2
  have hb4 := (Below.refl _ _).alloc (Nat.le_refl (w.alloc (.cells #[.bool s1, .slice p1 n1 c1] 49)).heap.size) (.cells #[.bool s2, .slice p2 n2 c2] 49)
  have hx5 := Box.new (w.alloc (.cells #[.bool s1, .slice p1 n1 c1] 49)) s2 p2 n2 c2
  rw [hs3] at hx5
  replace X1 := bx X1 hb4
  replace HZ := wl HZ hb4
  replace HY := wl HY hb4
  replace B := bb B hb4
  have X2 := hid hx5
  have hs6 : ((w.alloc (.cells #[.bool s1, .slice p1 n1 c1] 49)).alloc (.cells #[.bool s2, .slice p2 n2 c2] 49)).heap.size = w.heap.size + 1 + 1 := by simp [hs3]
  clear hb4 hx5
  have hb7 := (Below.refl _ _).alloc (Nat.le_refl ((w.alloc (.cells #[.bool s1, .slice p1 n1 c1] 49)).alloc (.cells #[.bool s2, .slice p2 n2 c2] 49)).heap.size) (.cells #[.bool false, .slice none 0 0, .bool false, .slice none 0 0] 51)
  have hx8 := Nbx.new ((w.alloc (.cells #[.bool s1, .slice p1 n1 c1] 49)).alloc (.cells #[.bool s2, .slice p2 n2 c2] 49)) false false (.slice none 0 0) (.slice none 0 0)
  rw [hs6] at hx8
  replace X1 := bx X1 hb7
  replace X2 := bx X2 hb7
  replace HZ := wl HZ hb7
  replace HY := wl HY hb7
  replace B := bb B hb7
  have XQ := hid hx8
  have hs9 : (((w.alloc (.cells #[.bool s1, .slice p1 n1 c1] 49)).alloc (.cells #[.bool s2, .slice p2 n2 c2] 49)).alloc (.cells #[.bool false, .slice none 0 0, .bool false, .slice none 0 0] 51)).heap.size = w.heap.size + 1 + 1 + 1 := by simp [hs6]
  clear hb7 hx8
  clear hs9 h h' hk hy
  go_enter Try.func61, Try.ntmps61
  go_wp2_with fail
  generalize hW : ((w.alloc (.cells #[.bool s1, .slice p1 n1 c1] 49)).alloc (.cells #[.bool s2, .slice p2 n2 c2] 49)).alloc (.cells #[.bool false, .slice none 0 0, .bool false, .slice none 0 0] 51) = W10 at *
  clear hW
  refine (zgcd_whl HZ.out HY.out HK.out).mono ?_
  rintro e w11 ⟨v, rfl, hv, hb⟩
  obtain ⟨s3, p3, n3, c3, rfl⟩ := hv.opened
  replace X1 := bx X1 hb
  replace X2 := bx X2 hb
  replace XQ := nx XQ hb
  replace HZ := wl HZ hb
  replace HY := wl HY hb
  replace B := bb B hb
  have HG := hid hv
  clear hb hv
  have hb12 := (Below.refl _ _).alloc (Nat.le_refl w11.heap.size) (.cells #[.bool s3, .slice p3 n3 c3] 49)
  have hx13 := Box.new w11 s3 p3 n3 c3
  have L0 := hid XQ.out.lt
  replace X1 := bx X1 hb12
  replace X2 := bx X2 hb12
  replace XQ := nx XQ hb12
  replace HZ := wl HZ hb12
  replace HY := wl HY hb12
  replace HG := wl HG hb12
  replace B := bb B hb12
  have X3 := hid hx13
  have hs14 : (w11.alloc (.cells #[.bool s3, .slice p3 n3 c3] 49)).heap.size = w11.heap.size + 1 := by simp
  clear hb12 hx13
  obtain ⟨cc15a, cc15b⟩ := X1.out.both
  obtain ⟨cc16a, cc16b⟩ := X2.out.both
  obtain ⟨cc17a, cc17b, cc17c, cc17d⟩ := XQ.out.cells
  obtain ⟨cc18a, cc18b⟩ := X3.out.both
  go_wp2_with fail
  generalize hW : w11.alloc (.cells #[.bool s3, .slice p3 n3 c3] 49) = W19 at *
  clear hW
  have HS := sgn_whl HY.out
  rw [YG] at HS
  refine (HS).mono ?_
  rintro e w20 ⟨rfl, hb⟩
  replace X1 := bx X1 hb
  replace X2 := bx X2 hb
  replace XQ := nx XQ hb
  replace X3 := bx X3 hb
  replace HZ := wl HZ hb
  replace HY := wl HY hb
  replace HG := wl HG hb
  replace B := bb B hb
  clear cc15a cc15b cc16a cc16b cc17a cc17b cc17c cc17d cc18a cc18b
  clear hb 
  obtain ⟨cc21a, cc21b⟩ := X1.out.both
  obtain ⟨cc22a, cc22b⟩ := X2.out.both
  obtain ⟨cc23a, cc23b, cc23c, cc23d⟩ := XQ.out.cells
  obtain ⟨cc24a, cc24b⟩ := X3.out.both
  go_wp2_with fail
  refine (neg_whl HG.out).mono ?_
  rintro e w25 ⟨v, rfl, hv, hb⟩
  obtain ⟨s4, p4, n4, c4, rfl⟩ := hv.opened
  replace X1 := bx X1 hb
  replace X2 := bx X2 hb
  replace XQ := nx XQ hb
  replace X3 := bx X3 hb
  replace HZ := wl HZ hb
  replace HY := wl HY hb
  replace HG := wl HG hb
  replace B := bb B hb
  clear cc21a cc21b cc22a cc22b cc23a cc23b cc23c cc23d cc24a cc24b
  have HN := hid hv
  clear hb hv
  obtain ⟨cc26a, cc26b, cc26c, cc26d⟩ := X3.out.stores
  obtain ⟨r27a, r27b, r27c⟩ := X3.out.last B.out (by have := L0.out; omega) s4 p4 n4 c4
  replace X1 := hid ((X1.out.other (g2 := w11.heap.size) (by have := L0.out; omega) 0 (.bool s4)).other (g2 := w11.heap.size) (by have := L0.out; omega) 1 (.slice p4 n4 c4))
  replace X2 := hid ((X2.out.other (g2 := w11.heap.size) (by have := L0.out; omega) 0 (.bool s4)).other (g2 := w11.heap.size) (by have := L0.out; omega) 1 (.slice p4 n4 c4))
  replace XQ := hid ((XQ.out.other (g2 := w11.heap.size) (by have := L0.out; omega) 0 (.bool s4)).other (g2 := w11.heap.size) (by have := L0.out; omega) 1 (.slice p4 n4 c4))
  replace HZ := hid (r27c HZ.out)
  replace HY := hid (r27c HY.out)
  replace HG := hid (r27c HG.out)
  replace HN := hid (r27c HN.out)
  replace X3 := hid r27a
  replace B := hid r27b
  clear r27a r27b r27c
  obtain ⟨cc28a, cc28b⟩ := X1.out.both
  obtain ⟨cc29a, cc29b⟩ := X2.out.both
  obtain ⟨cc30a, cc30b, cc30c, cc30d⟩ := XQ.out.cells
  obtain ⟨cc31a, cc31b⟩ := X3.out.both
  go_wp2_with fail
  generalize hW : (w25.setCell ⟨w11.heap.size, 0, none⟩ (.bool s4)).setCell ⟨w11.heap.size, 1, none⟩ (.slice p4 n4 c4) = W32 at *
  clear hW
  refine (div_whl HZ.out HN.out (by have := HG0.out; omega) (by have := HK.out; omega) (by have := HK.out; omega)).mono ?_
  rintro e w33 ⟨v, u, rfl, hv, hu, hb⟩
  obtain ⟨s5, p5, n5, c5, rfl⟩ := hv.opened
  obtain ⟨s6, p6, n6, c6, rfl⟩ := hu.opened
  replace X1 := bx X1 hb
  replace X2 := bx X2 hb
  replace XQ := nx XQ hb
  replace X3 := bx X3 hb
  replace HZ := wl HZ hb
  replace HY := wl HY hb
  replace HG := wl HG hb
  replace HN := wl HN hb
  replace B := bb B hb
  clear cc26a cc26b cc26c cc26d cc28a cc28b cc29a cc29b cc30a cc30b cc30c cc30d cc31a cc31b
  have HT := hid hv
  clear hb hv hu
  obtain ⟨cc34a, cc34b, cc34c, cc34d⟩ := X1.out.stores
  obtain ⟨r35a, r35b, r35c⟩ := X1.out.last B.out (by have := L0.out; omega) s5 p5 n5 c5
  replace X2 := hid ((X2.out.other (g2 := w.heap.size) (by have := L0.out; omega) 0 (.bool s5)).other (g2 := w.heap.size) (by have := L0.out; omega) 1 (.slice p5 n5 c5))
  replace XQ := hid ((XQ.out.other (g2 := w.heap.size) (by have := L0.out; omega) 0 (.bool s5)).other (g2 := w.heap.size) (by have := L0.out; omega) 1 (.slice p5 n5 c5))
  replace X3 := hid ((X3.out.other (g2 := w.heap.size) (by have := L0.out; omega) 0 (.bool s5)).other (g2 := w.heap.size) (by have := L0.out; omega) 1 (.slice p5 n5 c5))
  replace HZ := hid (r35c HZ.out)
  replace HY := hid (r35c HY.out)
  replace HG := hid (r35c HG.out)
  replace HN := hid (r35c HN.out)
  replace HT := hid (r35c HT.out)
  replace X1 := hid r35a
  replace B := hid r35b
  clear r35a r35b r35c
  obtain ⟨cc36a, cc36b⟩ := X1.out.both
  obtain ⟨cc37a, cc37b⟩ := X2.out.both
  obtain ⟨cc38a, cc38b, cc38c, cc38d⟩ := XQ.out.cells
  obtain ⟨cc39a, cc39b⟩ := X3.out.both
  go_wp2_with fail
  generalize hW : (w33.setCell ⟨w.heap.size, 0, none⟩ (.bool s5)).setCell ⟨w.heap.size, 1, none⟩ (.slice p5 n5 c5) = W40 at *
  clear hW
  refine (div_whl HY.out HN.out (by have := HG0.out; omega) (by have := HK.out; omega) (by have := HK.out; omega)).mono ?_
  rintro e w41 ⟨v, u, rfl, hv, hu, hb⟩
  obtain ⟨s7, p7, n7, c7, rfl⟩ := hv.opened
  obtain ⟨s8, p8, n8, c8, rfl⟩ := hu.opened
  replace X1 := bx X1 hb
  replace X2 := bx X2 hb
  replace XQ := nx XQ hb
  replace X3 := bx X3 hb
  replace HZ := wl HZ hb
  replace HY := wl HY hb
  replace HG := wl HG hb
  replace HN := wl HN hb
  replace HT := wl HT hb
  replace B := bb B hb
  clear cc34a cc34b cc34c cc34d cc36a cc36b cc37a cc37b cc38a cc38b cc38c cc38d cc39a cc39b
  have HU := hid hv
  clear hb hv hu
  obtain ⟨cc42a, cc42b, cc42c, cc42d⟩ := X2.out.stores
  obtain ⟨r43a, r43b, r43c⟩ := X2.out.last B.out (by have := L0.out; omega) s7 p7 n7 c7
  replace X1 := hid ((X1.out.other (g2 := w.heap.size + 1) (by have := L0.out; omega) 0 (.bool s7)).other (g2 := w.heap.size + 1) (by have := L0.out; omega) 1 (.slice p7 n7 c7))
  replace XQ := hid ((XQ.out.other (g2 := w.heap.size + 1) (by have := L0.out; omega) 0 (.bool s7)).other (g2 := w.heap.size + 1) (by have := L0.out; omega) 1 (.slice p7 n7 c7))
  replace X3 := hid ((X3.out.other (g2 := w.heap.size + 1) (by have := L0.out; omega) 0 (.bool s7)).other (g2 := w.heap.size + 1) (by have := L0.out; omega) 1 (.slice p7 n7 c7))
  replace HZ := hid (r43c HZ.out)
  replace HY := hid (r43c HY.out)
  replace HG := hid (r43c HG.out)
  replace HN := hid (r43c HN.out)
  replace HT := hid (r43c HT.out)
  replace HU := hid (r43c HU.out)
  replace X2 := hid r43a
  replace B := hid r43b
  clear r43a r43b r43c
  obtain ⟨cc44a, cc44b⟩ := X1.out.both
  obtain ⟨cc45a, cc45b⟩ := X2.out.both
  obtain ⟨cc46a, cc46b, cc46c, cc46d⟩ := XQ.out.cells
  obtain ⟨cc47a, cc47b⟩ := X3.out.both
  obtain ⟨⟨cc48a, cc48b⟩, ⟨cc48c, cc48d⟩, ⟨cc48e, cc48f⟩, cc48g, cc48h⟩ := XQ.out.stores
  obtain ⟨r49a, r49b, r49c⟩ := XQ.out.last B.out (by have := L0.out; omega) s5 s7 p5 p7 n5 n7 c5 c7
  replace X1 := hid ((((X1.out.other (g2 := w.heap.size + 1 + 1) (by have := L0.out; omega) 0 (.bool s5)).other (g2 := w.heap.size + 1 + 1) (by have := L0.out; omega) 1 (.slice p5 n5 c5)).other (g2 := w.heap.size + 1 + 1) (by have := L0.out; omega) 2 (.bool s7)).other (g2 := w.heap.size + 1 + 1) (by have := L0.out; omega) 3 (.slice p7 n7 c7))
  replace X2 := hid ((((X2.out.other (g2 := w.heap.size + 1 + 1) (by have := L0.out; omega) 0 (.bool s5)).other (g2 := w.heap.size + 1 + 1) (by have := L0.out; omega) 1 (.slice p5 n5 c5)).other (g2 := w.heap.size + 1 + 1) (by have := L0.out; omega) 2 (.bool s7)).other (g2 := w.heap.size + 1 + 1) (by have := L0.out; omega) 3 (.slice p7 n7 c7))
  replace X3 := hid ((((X3.out.other (g2 := w.heap.size + 1 + 1) (by have := L0.out; omega) 0 (.bool s5)).other (g2 := w.heap.size + 1 + 1) (by have := L0.out; omega) 1 (.slice p5 n5 c5)).other (g2 := w.heap.size + 1 + 1) (by have := L0.out; omega) 2 (.bool s7)).other (g2 := w.heap.size + 1 + 1) (by have := L0.out; omega) 3 (.slice p7 n7 c7))
  replace HZ := hid (r49c HZ.out)
  replace HY := hid (r49c HY.out)
  replace HG := hid (r49c HG.out)
  replace HN := hid (r49c HN.out)
  replace HT := hid (r49c HT.out)
  replace HU := hid (r49c HU.out)
  replace XQ := hid r49a
  replace B := hid r49b
  clear r49a r49b r49c
  go_wp2_with fail
  refine bodyPost_ret (res_num rfl rfl XQ.out) rfl ?_
  obtain ⟨e1, e2⟩ := HD.out
  have t1 := (HT.out.fit k (Nat.lt_of_le_of_lt (natAbs_ediv_le _ _) HZ.out.lt))
  have t2 := (HU.out.fit k (Nat.lt_of_le_of_lt (natAbs_ediv_le _ _) HY.out.lt))
  rw [← e1] at t1
  rw [← e2] at t2
  exact ⟨_, rfl, ⟨_, _, _, _, _, _, _, _, rfl, t1, _, t2, .inl rfl⟩, B.out⟩

theorem reduced_rtl {w : World} {v u : Value} {z y : Int} {k : Nat} (h : Whl w v z k) (h' : Whl w u y k) (hy : y ≠ 0) (hk : k ≤ 549755813888) :
    Calls Try.prog 61 #[v, u] w fun e w' => ∃ v, e = .returned v ∧ Rtl w' v (Rat.divInt z y) k ∧ Below w.heap.size w w' := by
  by_cases h0 : y < 0
  · exact reduced_minus h h' h0 hk
  · exact reduced_plus h h' (by omega) hk

end Go.Proofs.Ytjeeepcnaaadmaa

