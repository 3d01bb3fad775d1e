/-
  PACKAGE rat: Compare, Less, Floor.
-/
import Derived.Test.YtjeeepcnaaadmaaRatStr
namespace Go.Proofs.Ytjeeepcnaaadmaa
open Go.RowKit
open Num
set_option linter.unusedVariables false
set_option maxRecDepth 100000
set_option linter.unusedSimpArgs false

/-- The sign of one less another one. -/
def cmpi (q r : Rat) : Int := (q.num * (r.den : Int) - r.num * (q.den : Int)).sign
theorem cmpi_lt (q r : Rat) : cmpi q r < 0 ↔ q < r := by
  rw [Rat.lt_iff, cmpi]
  rcases Int.lt_trichotomy (q.num * (r.den : Int) - r.num * (q.den : Int)) 0 with h | h | h
  · rw [Int.sign_eq_neg_one_of_neg h]; constructor <;> intro _ <;> omega
  · rw [h]; constructor <;> intro h2
    · cases h2
    · omega
  · rw [Int.sign_eq_one_of_pos h]; constructor <;> intro h2 <;> omega
theorem cmpi_swap (q r : Rat) : cmpi q r = -cmpi r q := by
  rw [cmpi, cmpi, ← Int.sign_neg]
  congr 1
  omega
theorem cmpi_gt (q r : Rat) : 0 < cmpi q r ↔ r < q := by
  rw [← cmpi_lt r q, cmpi_swap q r]
  omega
theorem cmpi_small (q r : Rat) : -1 ≤ cmpi q r ∧ cmpi q r ≤ 1 := by
  rcases Int.lt_trichotomy (q.num * (r.den : Int) - r.num * (q.den : Int)) 0 with h | h | h
  · rw [cmpi, Int.sign_eq_neg_one_of_neg h]; decide
  · rw [cmpi, h]; decide
  · rw [cmpi, Int.sign_eq_one_of_pos h]; decide
set_option maxHeartbeats 4000000 in
theorem cmpq_rtl {w : World} {v u : Value} {q r : Rat} {k : Nat} (h : Rtl w v q k) (h' : Rtl w u r k) (hk1 : 1 ≤ k) (hk : k ≤ 68719476736) :
    Calls Try.prog 59 #[v, u] w fun e w' => e = .returned (.int .i64 (cmpi q r)) ∧ Below w.heap.size w w' := by
  obtain ⟨s1a, p1a, n1a, c1a, s1b, p1b, n1b, c1b, rfl⟩ := h.opened
  obtain ⟨ht1, d1, hu1, hd1⟩ := h.two
  have HD1 := hid hd1
  obtain ⟨s2a, p2a, n2a, c2a, s2b, p2b, n2b, c2b, rfl⟩ := h'.opened
  obtain ⟨ht2, d2, hu2, hd2⟩ := h'.two
  have HD2 := hid hd2
  have HK := hid hk
  have HK1 := hid hk1
  have B := hid (Below.refl w.heap.size w)
  have HT1 := hid ht1
  have HU1 := hid hu1
  have HT2 := hid ht2
  have HU2 := hid hu2
  have hb1 := (Below.refl _ _).alloc (Nat.le_refl w.heap.size) (.cells #[.bool s1a, .slice p1a n1a c1a, .bool s1b, .slice p1b n1b c1b] 51)
  have hx2 := Nbx.new w s1a s1b (.slice p1a n1a c1a) (.slice p1b n1b c1b)
  replace HT1 := wl HT1 hb1
  replace HU1 := wl HU1 hb1
  replace HT2 := wl HT2 hb1
  replace HU2 := wl HU2 hb1
  replace B := bb B hb1
  have X1 := hid hx2
  have hs3 : (w.alloc (.cells #[.bool s1a, .slice p1a n1a c1a, .bool s1b, .slice p1b n1b c1b] 51)).heap.size = w.heap.size + 1 := by simp
  clear hb1 hx2
  have hb4 := (Below.refl _ _).alloc (Nat.le_refl (w.alloc (.cells #[.bool s1a, .slice p1a n1a c1a, .bool s1b, .slice p1b n1b c1b] 51)).heap.size) (.cells #[.bool s2a, .slice p2a n2a c2a, .bool s2b, .slice p2b n2b c2b] 51)
  have hx5 := Nbx.new (w.alloc (.cells #[.bool s1a, .slice p1a n1a c1a, .bool s1b, .slice p1b n1b c1b] 51)) s2a s2b (.slice p2a n2a c2a) (.slice p2b n2b c2b)
  rw [hs3] at hx5
  replace X1 := nx X1 hb4
  replace HT1 := wl HT1 hb4
  replace HU1 := wl HU1 hb4
  replace HT2 := wl HT2 hb4
  replace HU2 := wl HU2 hb4
  replace B := bb B hb4
  have X2 := hid hx5
  have hs6 : ((w.alloc (.cells #[.bool s1a, .slice p1a n1a c1a, .bool s1b, .slice p1b n1b c1b] 51)).alloc (.cells #[.bool s2a, .slice p2a n2a c2a, .bool s2b, .slice p2b n2b c2b] 51)).heap.size = w.heap.size + 1 + 1 := by simp [hs3]
  clear hb4 hx5
  clear hs6 h h' ht1 hu1 ht2 hu2 hd1 hd2 hk hk1
  go_enter Try.func59, Try.ntmps59
  obtain ⟨cc7a, cc7b, cc7c, cc7d⟩ := X1.out.cells
  obtain ⟨cc8a, cc8b, cc8c, cc8d⟩ := X2.out.cells
  go_wp2_with fail
  generalize hW : (w.alloc (.cells #[.bool s1a, .slice p1a n1a c1a, .bool s1b, .slice p1b n1b c1b] 51)).alloc (.cells #[.bool s2a, .slice p2a n2a c2a, .bool s2b, .slice p2b n2b c2b] 51) = W9 at *
  clear hW
  refine (parts_rtl (Rtl.mk2 HT1.out HU1.out HD1.out) HK1.out).mono ?_
  rintro e w10 ⟨v, u, rfl, hv, hu, hb⟩
  obtain ⟨s3, p3, n3, c3, rfl⟩ := hv.opened
  obtain ⟨s4, p4, n4, c4, rfl⟩ := hu.opened
  replace X2 := nx X2 hb
  replace HT1 := wl HT1 hb
  replace HU1 := wl HU1 hb
  replace HT2 := wl HT2 hb
  replace HU2 := wl HU2 hb
  replace B := bb B hb
  clear cc7a cc7b cc7c cc7d cc8a cc8b cc8c cc8d
  have HA := hid hv
  have HB := hid hu
  clear hb hv hu
  have hb11 := (Below.refl _ _).alloc (Nat.le_refl w10.heap.size) (.cells #[.bool s3, .slice p3 n3 c3] 49)
  have hx12 := Box.new w10 s3 p3 n3 c3
  have L0 := hid X2.out.lt
  replace X2 := nx X2 hb11
  replace HT1 := wl HT1 hb11
  replace HU1 := wl HU1 hb11
  replace HT2 := wl HT2 hb11
  replace HU2 := wl HU2 hb11
  replace HA := wl HA hb11
  replace HB := wl HB hb11
  replace B := bb B hb11
  have XA := hid hx12
  have hs13 : (w10.alloc (.cells #[.bool s3, .slice p3 n3 c3] 49)).heap.size = w10.heap.size + 1 := by simp
  clear hb11 hx12
  have hb14 := (Below.refl _ _).alloc (Nat.le_refl (w10.alloc (.cells #[.bool s3, .slice p3 n3 c3] 49)).heap.size) (.cells #[.bool s4, .slice p4 n4 c4] 49)
  have hx15 := Box.new (w10.alloc (.cells #[.bool s3, .slice p3 n3 c3] 49)) s4 p4 n4 c4
  rw [hs13] at hx15
  replace X2 := nx X2 hb14
  replace XA := bx XA hb14
  replace HT1 := wl HT1 hb14
  replace HU1 := wl HU1 hb14
  replace HT2 := wl HT2 hb14
  replace HU2 := wl HU2 hb14
  replace HA := wl HA hb14
  replace HB := wl HB hb14
  replace B := bb B hb14
  have XB := hid hx15
  have hs16 : ((w10.alloc (.cells #[.bool s3, .slice p3 n3 c3] 49)).alloc (.cells #[.bool s4, .slice p4 n4 c4] 49)).heap.size = w10.heap.size + 1 + 1 := by simp [hs13]
  clear hb14 hx15
  obtain ⟨cc17a, cc17b, cc17c, cc17d⟩ := X2.out.cells
  obtain ⟨cc18a, cc18b⟩ := XA.out.both
  obtain ⟨cc19a, cc19b⟩ := XB.out.both
  go_wp2_with fail
  generalize hW : (w10.alloc (.cells #[.bool s3, .slice p3 n3 c3] 49)).alloc (.cells #[.bool s4, .slice p4 n4 c4] 49) = W20 at *
  clear hW
  refine (parts_rtl (Rtl.mk2 HT2.out HU2.out HD2.out) HK1.out).mono ?_
  rintro e w21 ⟨v, u, rfl, hv, hu, hb⟩
  obtain ⟨s5, p5, n5, c5, rfl⟩ := hv.opened
  obtain ⟨s6, p6, n6, c6, rfl⟩ := hu.opened
  replace XA := bx XA hb
  replace XB := bx XB hb
  replace HT1 := wl HT1 hb
  replace HU1 := wl HU1 hb
  replace HT2 := wl HT2 hb
  replace HU2 := wl HU2 hb
  replace HA := wl HA hb
  replace HB := wl HB hb
  replace B := bb B hb
  clear cc17a cc17b cc17c cc17d cc18a cc18b cc19a cc19b
  have HC := hid hv
  have HE := hid hu
  clear hb hv hu
  have hb22 := (Below.refl _ _).alloc (Nat.le_refl w21.heap.size) (.cells #[.bool s5, .slice p5 n5 c5] 49)
  have hx23 := Box.new w21 s5 p5 n5 c5
  have L1 := hid XB.out.lt
  replace XA := bx XA hb22
  replace XB := bx XB hb22
  replace HT1 := wl HT1 hb22
  replace HU1 := wl HU1 hb22
  replace HT2 := wl HT2 hb22
  replace HU2 := wl HU2 hb22
  replace HA := wl HA hb22
  replace HB := wl HB hb22
  replace HC := wl HC hb22
  replace HE := wl HE hb22
  replace B := bb B hb22
  have XC := hid hx23
  have hs24 : (w21.alloc (.cells #[.bool s5, .slice p5 n5 c5] 49)).heap.size = w21.heap.size + 1 := by simp
  clear hb22 hx23
  have hb25 := (Below.refl _ _).alloc (Nat.le_refl (w21.alloc (.cells #[.bool s5, .slice p5 n5 c5] 49)).heap.size) (.cells #[.bool s6, .slice p6 n6 c6] 49)
  have hx26 := Box.new (w21.alloc (.cells #[.bool s5, .slice p5 n5 c5] 49)) s6 p6 n6 c6
  rw [hs24] at hx26
  replace XA := bx XA hb25
  replace XB := bx XB hb25
  replace XC := bx XC hb25
  replace HT1 := wl HT1 hb25
  replace HU1 := wl HU1 hb25
  replace HT2 := wl HT2 hb25
  replace HU2 := wl HU2 hb25
  replace HA := wl HA hb25
  replace HB := wl HB hb25
  replace HC := wl HC hb25
  replace HE := wl HE hb25
  replace B := bb B hb25
  have XD := hid hx26
  have hs27 : ((w21.alloc (.cells #[.bool s5, .slice p5 n5 c5] 49)).alloc (.cells #[.bool s6, .slice p6 n6 c6] 49)).heap.size = w21.heap.size + 1 + 1 := by simp [hs24]
  clear hb25 hx26
  obtain ⟨cc28a, cc28b⟩ := XA.out.both
  obtain ⟨cc29a, cc29b⟩ := XB.out.both
  obtain ⟨cc30a, cc30b⟩ := XC.out.both
  obtain ⟨cc31a, cc31b⟩ := XD.out.both
  go_wp2_with fail
  generalize hW : (w21.alloc (.cells #[.bool s5, .slice p5 n5 c5] 49)).alloc (.cells #[.bool s6, .slice p6 n6 c6] 49) = W32 at *
  clear hW
  obtain ⟨cc33a, cc33b⟩ := XA.out.both
  obtain ⟨cc34a, cc34b⟩ := XB.out.both
  obtain ⟨cc35a, cc35b⟩ := XC.out.both
  obtain ⟨cc36a, cc36b⟩ := XD.out.both
  replace XA := hid XA.out.dr
  replace XB := hid XB.out.dr
  replace XC := hid XC.out.dr
  replace XD := hid XD.out.dr
  replace HT1 := hid HT1.out.drew
  replace HU1 := hid HU1.out.drew
  replace HT2 := hid HT2.out.drew
  replace HU2 := hid HU2.out.drew
  replace HA := hid HA.out.drew
  replace HB := hid HB.out.drew
  replace HC := hid HC.out.drew
  replace HE := hid HE.out.drew
  replace B := hid (Below.drew B.out)
  obtain ⟨cc37a, cc37b⟩ := XA.out.both
  obtain ⟨cc38a, cc38b⟩ := XB.out.both
  obtain ⟨cc39a, cc39b⟩ := XC.out.both
  obtain ⟨cc40a, cc40b⟩ := XD.out.both
  go_region_held3 (fun w' => w'.cell? ⟨w10.heap.size, 0, none⟩ = some (.bool s3) ∧ w'.cell? ⟨w10.heap.size, 1, none⟩ = some (.slice p3 n3 c3) ∧ w'.cell? ⟨w10.heap.size + 1, 0, none⟩ = some (.bool s4) ∧ w'.cell? ⟨w10.heap.size + 1, 1, none⟩ = some (.slice p4 n4 c4) ∧ w'.cell? ⟨w21.heap.size, 0, none⟩ = some (.bool s5) ∧ w'.cell? ⟨w21.heap.size, 1, none⟩ = some (.slice p5 n5 c5) ∧ w'.cell? ⟨w21.heap.size + 1, 0, none⟩ = some (.bool s6) ∧ w'.cell? ⟨w21.heap.size + 1, 1, none⟩ = some (.slice p6 n6 c6)) (go_keep) (first
    | (have hm := mk41_2; clear hm; go_at_call 52; refine (sgn_whl S1.out).mono ?_; rintro e w57 ⟨rfl, hb⟩; replace XA := bx XA hb; replace XB := bx XB hb; replace XC := bx XC hb; replace XD := bx XD hb; replace B := bb B hb; clear cc53a cc53b cc54a cc54b cc55a cc55b cc56a cc56b; clear hb ; obtain ⟨cc58a, cc58b⟩ := XA.out.both; obtain ⟨cc59a, cc59b⟩ := XB.out.both; obtain ⟨cc60a, cc60b⟩ := XC.out.both; obtain ⟨cc61a, cc61b⟩ := XD.out.both; have mk41_3 := hid True.intro)
    | (have hm := mk41_1; clear hm; go_at_call 80; refine (sub_whl P1.out P2.out (by have := HK.out; omega) (by have := HK.out; omega)).mono ?_; rintro e w52 ⟨v, rfl, hv, hb⟩; obtain ⟨s7, p7, n7, c7, rfl⟩ := hv.opened; replace XA := bx XA hb; replace XB := bx XB hb; replace XC := bx XC hb; replace XD := bx XD hb; replace B := bb B hb; clear cc48a cc48b cc49a cc49b cc50a cc50b cc51a cc51b; have S1 := hid hv; clear hb hv; obtain ⟨cc53a, cc53b⟩ := XA.out.both; obtain ⟨cc54a, cc54b⟩ := XB.out.both; obtain ⟨cc55a, cc55b⟩ := XC.out.both; obtain ⟨cc56a, cc56b⟩ := XD.out.both; have mk41_2 := hid True.intro)
    | (have hm := mk41_0; clear hm; go_at_call 62; refine (mul_whl HC.out HB.out (by have := HK.out; omega) (by have := HK.out; omega)).mono ?_; rintro e w47 ⟨v, rfl, hv, hb⟩; obtain ⟨s12, p12, n12, c12, rfl⟩ := hv.opened; replace XA := bx XA hb; replace XB := bx XB hb; replace XC := bx XC hb; replace XD := bx XD hb; replace P1 := wl P1 hb; replace B := bb B hb; clear cc43a cc43b cc44a cc44b cc45a cc45b cc46a cc46b; have P2 := hid hv; clear hb hv; obtain ⟨cc48a, cc48b⟩ := XA.out.both; obtain ⟨cc49a, cc49b⟩ := XB.out.both; obtain ⟨cc50a, cc50b⟩ := XC.out.both; obtain ⟨cc51a, cc51b⟩ := XD.out.both; have mk41_1 := hid True.intro)
    | (go_at_call 62; refine (mul_whl HA.out HE.out (by have := HK.out; omega) (by have := HK.out; omega)).mono ?_; rintro e w42 ⟨v, rfl, hv, hb⟩; obtain ⟨s11, p11, n11, c11, rfl⟩ := hv.opened; replace XA := bx XA hb; replace XB := bx XB hb; replace XC := bx XC hb; replace XD := bx XD hb; replace HB := wl HB hb; replace HC := wl HC hb; replace B := bb B hb; clear cc28a cc28b cc29a cc29b cc30a cc30b cc31a cc31b cc33a cc33b cc34a cc34b cc35a cc35b cc36a cc36b cc37a cc37b cc38a cc38b cc39a cc39b cc40a cc40b; have P1 := hid hv; clear hb hv; obtain ⟨cc43a, cc43b⟩ := XA.out.both; obtain ⟨cc44a, cc44b⟩ := XB.out.both; obtain ⟨cc45a, cc45b⟩ := XC.out.both; obtain ⟨cc46a, cc46b⟩ := XD.out.both; have mk41_0 := hid True.intro))
  go_wp2_with fail
  go_ret
  exact ⟨rfl, B.out⟩

set_option maxHeartbeats 4000000 in
theorem lessq_rtl {w : World} {v u : Value} {q r : Rat} {k : Nat} (h : Rtl w v q k) (h' : Rtl w u r k) (hk1 : 1 ≤ k) (hk : k ≤ 68719476736) :
    Calls Try.prog 33 #[v, u] w fun e w' => e = .returned (.bool (decide (q < r))) ∧ Below w.heap.size w w' := by
  obtain ⟨s1a, p1a, n1a, c1a, s1b, p1b, n1b, c1b, rfl⟩ := h.opened
  obtain ⟨ht1, d1, hu1, hd1⟩ := h.two
  have HD1 := hid hd1
  obtain ⟨s2a, p2a, n2a, c2a, s2b, p2b, n2b, c2b, rfl⟩ := h'.opened
  obtain ⟨ht2, d2, hu2, hd2⟩ := h'.two
  have HD2 := hid hd2
  have HK := hid hk
  have HK1 := hid hk1
  have HL := hid (show decide (cmpi q r < 0) = decide (q < r) from decide_eq_decide.2 (cmpi_lt q r))
  have B := hid (Below.refl w.heap.size w)
  have HT1 := hid ht1
  have HU1 := hid hu1
  have HT2 := hid ht2
  have HU2 := hid hu2
  have hb1 := (Below.refl _ _).alloc (Nat.le_refl w.heap.size) (.cells #[.bool s1a, .slice p1a n1a c1a, .bool s1b, .slice p1b n1b c1b] 51)
  have hx2 := Nbx.new w s1a s1b (.slice p1a n1a c1a) (.slice p1b n1b c1b)
  replace HT1 := wl HT1 hb1
  replace HU1 := wl HU1 hb1
  replace HT2 := wl HT2 hb1
  replace HU2 := wl HU2 hb1
  replace B := bb B hb1
  have X1 := hid hx2
  have hs3 : (w.alloc (.cells #[.bool s1a, .slice p1a n1a c1a, .bool s1b, .slice p1b n1b c1b] 51)).heap.size = w.heap.size + 1 := by simp
  clear hb1 hx2
  have hb4 := (Below.refl _ _).alloc (Nat.le_refl (w.alloc (.cells #[.bool s1a, .slice p1a n1a c1a, .bool s1b, .slice p1b n1b c1b] 51)).heap.size) (.cells #[.bool s2a, .slice p2a n2a c2a, .bool s2b, .slice p2b n2b c2b] 51)
  have hx5 := Nbx.new (w.alloc (.cells #[.bool s1a, .slice p1a n1a c1a, .bool s1b, .slice p1b n1b c1b] 51)) s2a s2b (.slice p2a n2a c2a) (.slice p2b n2b c2b)
  rw [hs3] at hx5
  replace X1 := nx X1 hb4
  replace HT1 := wl HT1 hb4
  replace HU1 := wl HU1 hb4
  replace HT2 := wl HT2 hb4
  replace HU2 := wl HU2 hb4
  replace B := bb B hb4
  have X2 := hid hx5
  have hs6 : ((w.alloc (.cells #[.bool s1a, .slice p1a n1a c1a, .bool s1b, .slice p1b n1b c1b] 51)).alloc (.cells #[.bool s2a, .slice p2a n2a c2a, .bool s2b, .slice p2b n2b c2b] 51)).heap.size = w.heap.size + 1 + 1 := by simp [hs3]
  clear hb4 hx5
  clear hs6 h h' ht1 hu1 ht2 hu2 hd1 hd2 hk hk1
  go_enter Try.func33, Try.ntmps33
  obtain ⟨cc7a, cc7b, cc7c, cc7d⟩ := X1.out.cells
  obtain ⟨cc8a, cc8b, cc8c, cc8d⟩ := X2.out.cells
  go_wp2_with fail
  generalize hW : (w.alloc (.cells #[.bool s1a, .slice p1a n1a c1a, .bool s1b, .slice p1b n1b c1b] 51)).alloc (.cells #[.bool s2a, .slice p2a n2a c2a, .bool s2b, .slice p2b n2b c2b] 51) = W9 at *
  clear hW
  refine (cmpq_rtl (Rtl.mk2 HT1.out HU1.out HD1.out) (Rtl.mk2 HT2.out HU2.out HD2.out) HK1.out HK.out).mono ?_
  rintro e w10 ⟨rfl, hb⟩
  replace B := bb B hb
  clear cc7a cc7b cc7c cc7d cc8a cc8b cc8c cc8d
  clear hb 
  go_wp2_with fail
  go_ret
  exact ⟨ret_bool HL.out, B.out⟩

set_option maxHeartbeats 2000000 in
theorem floorq_rtl {w : World} {v : Value} {q : Rat} {k : Nat} (h : Rtl w v q k) (hk1 : 1 ≤ k) (hk : k ≤ 68719476736) :
    Calls Try.prog 37 #[v] w fun e w' => ∃ v, e = .returned v ∧ Whl w' v q.floor (k + 1) ∧ Below w.heap.size w w' := by
  obtain ⟨s1a, p1a, n1a, c1a, s1b, p1b, n1b, c1b, rfl⟩ := h.opened
  obtain ⟨ht1, d1, hu1, hd1⟩ := h.two
  have HD1 := hid hd1
  have HK := hid hk
  have HK1 := hid hk1
  have B := hid (Below.refl w.heap.size w)
  have HT1 := hid ht1
  have HU1 := hid hu1
  have hb1 := (Below.refl _ _).alloc (Nat.le_refl w.heap.size) (.cells #[.bool s1a, .slice p1a n1a c1a, .bool s1b, .slice p1b n1b c1b] 51)
  have hx2 := Nbx.new w s1a s1b (.slice p1a n1a c1a) (.slice p1b n1b c1b)
  replace HT1 := wl HT1 hb1
  replace HU1 := wl HU1 hb1
  replace B := bb B hb1
  have X1 := hid hx2
  have hs3 : (w.alloc (.cells #[.bool s1a, .slice p1a n1a c1a, .bool s1b, .slice p1b n1b c1b] 51)).heap.size = w.heap.size + 1 := by simp
  clear hb1 hx2
  have hb4 := (Below.refl _ _).alloc (Nat.le_refl (w.alloc (.cells #[.bool s1a, .slice p1a n1a c1a, .bool s1b, .slice p1b n1b c1b] 51)).heap.size) (.cells #[.bool false, .slice none 0 0] 49)
  have hx5 := Box.new (w.alloc (.cells #[.bool s1a, .slice p1a n1a c1a, .bool s1b, .slice p1b n1b c1b] 51)) false none 0 0
  rw [hs3] at hx5
  replace X1 := nx X1 hb4
  replace HT1 := wl HT1 hb4
  replace HU1 := wl HU1 hb4
  replace B := bb B hb4
  have R1 := hid hx5
  have hs6 : ((w.alloc (.cells #[.bool s1a, .slice p1a n1a c1a, .bool s1b, .slice p1b n1b c1b] 51)).alloc (.cells #[.bool false, .slice none 0 0] 49)).heap.size = w.heap.size + 1 + 1 := by simp [hs3]
  clear hb4 hx5
  clear hs6 h ht1 hu1 hd1 hk hk1
  go_enter Try.func37, Try.ntmps37
  obtain ⟨cc7a, cc7b, cc7c, cc7d⟩ := X1.out.cells
  obtain ⟨cc8a, cc8b⟩ := R1.out.both
  go_wp2_with fail
  generalize hW : (w.alloc (.cells #[.bool s1a, .slice p1a n1a c1a, .bool s1b, .slice p1b n1b c1b] 51)).alloc (.cells #[.bool false, .slice none 0 0] 49) = W9 at *
  clear hW
  refine (parts_rtl (Rtl.mk2 HT1.out HU1.out HD1.out) HK1.out).mono ?_
  rintro e w10 ⟨v, u, rfl, hv, hu, hb⟩
  obtain ⟨s3, p3, n3, c3, rfl⟩ := hv.opened
  obtain ⟨s4, p4, n4, c4, rfl⟩ := hu.opened
  replace R1 := bx R1 hb
  replace HT1 := wl HT1 hb
  replace HU1 := wl HU1 hb
  replace B := bb B hb
  clear cc7a cc7b cc7c cc7d cc8a cc8b
  have HA := hid hv
  have HB := hid hu
  clear hb hv hu
  have hb11 := (Below.refl _ _).alloc (Nat.le_refl w10.heap.size) (.cells #[.bool s3, .slice p3 n3 c3] 49)
  have hx12 := Box.new w10 s3 p3 n3 c3
  have L0 := hid R1.out.lt
  replace R1 := bx R1 hb11
  replace HT1 := wl HT1 hb11
  replace HU1 := wl HU1 hb11
  replace HA := wl HA hb11
  replace HB := wl HB hb11
  replace B := bb B hb11
  have XA := hid hx12
  have hs13 : (w10.alloc (.cells #[.bool s3, .slice p3 n3 c3] 49)).heap.size = w10.heap.size + 1 := by simp
  clear hb11 hx12
  have hb14 := (Below.refl _ _).alloc (Nat.le_refl (w10.alloc (.cells #[.bool s3, .slice p3 n3 c3] 49)).heap.size) (.cells #[.bool s4, .slice p4 n4 c4] 49)
  have hx15 := Box.new (w10.alloc (.cells #[.bool s3, .slice p3 n3 c3] 49)) s4 p4 n4 c4
  rw [hs13] at hx15
  replace R1 := bx R1 hb14
  replace XA := bx XA hb14
  replace HT1 := wl HT1 hb14
  replace HU1 := wl HU1 hb14
  replace HA := wl HA hb14
  replace HB := wl HB hb14
  replace B := bb B hb14
  have XB := hid hx15
  have hs16 : ((w10.alloc (.cells #[.bool s3, .slice p3 n3 c3] 49)).alloc (.cells #[.bool s4, .slice p4 n4 c4] 49)).heap.size = w10.heap.size + 1 + 1 := by simp [hs13]
  clear hb14 hx15
  obtain ⟨cc17a, cc17b⟩ := R1.out.both
  obtain ⟨cc18a, cc18b⟩ := XA.out.both
  obtain ⟨cc19a, cc19b⟩ := XB.out.both
  go_wp2_with fail
  generalize hW : (w10.alloc (.cells #[.bool s3, .slice p3 n3 c3] 49)).alloc (.cells #[.bool s4, .slice p4 n4 c4] 49) = W20 at *
  clear hW
  refine (div_whl HA.out HB.out (den_ne q) (by have := HK.out; omega) (by have := HK.out; omega)).mono ?_
  rintro e w21 ⟨v, u, rfl, hv, hu, hb⟩
  obtain ⟨s5, p5, n5, c5, rfl⟩ := hv.opened
  obtain ⟨s6, p6, n6, c6, rfl⟩ := hu.opened
  replace R1 := bx R1 hb
  replace XA := bx XA hb
  replace XB := bx XB hb
  replace HT1 := wl HT1 hb
  replace HU1 := wl HU1 hb
  replace HA := wl HA hb
  replace HB := wl HB hb
  replace B := bb B hb
  clear cc17a cc17b cc18a cc18b cc19a cc19b
  have HC := hid hv
  have HE := hid hu
  clear hb hv hu
  have hb22 := (Below.refl _ _).alloc (Nat.le_refl w21.heap.size) (.cells #[.bool s5, .slice p5 n5 c5] 49)
  have hx23 := Box.new w21 s5 p5 n5 c5
  have L1 := hid XB.out.lt
  replace R1 := bx R1 hb22
  replace XA := bx XA hb22
  replace XB := bx XB hb22
  replace HT1 := wl HT1 hb22
  replace HU1 := wl HU1 hb22
  replace HA := wl HA hb22
  replace HB := wl HB hb22
  replace HC := wl HC hb22
  replace HE := wl HE hb22
  replace B := bb B hb22
  have XC := hid hx23
  have hs24 : (w21.alloc (.cells #[.bool s5, .slice p5 n5 c5] 49)).heap.size = w21.heap.size + 1 := by simp
  clear hb22 hx23
  have hb25 := (Below.refl _ _).alloc (Nat.le_refl (w21.alloc (.cells #[.bool s5, .slice p5 n5 c5] 49)).heap.size) (.cells #[.bool s6, .slice p6 n6 c6] 49)
  have hx26 := Box.new (w21.alloc (.cells #[.bool s5, .slice p5 n5 c5] 49)) s6 p6 n6 c6
  rw [hs24] at hx26
  replace R1 := bx R1 hb25
  replace XA := bx XA hb25
  replace XB := bx XB hb25
  replace XC := bx XC hb25
  replace HT1 := wl HT1 hb25
  replace HU1 := wl HU1 hb25
  replace HA := wl HA hb25
  replace HB := wl HB hb25
  replace HC := wl HC hb25
  replace HE := wl HE hb25
  replace B := bb B hb25
  have XD := hid hx26
  have hs27 : ((w21.alloc (.cells #[.bool s5, .slice p5 n5 c5] 49)).alloc (.cells #[.bool s6, .slice p6 n6 c6] 49)).heap.size = w21.heap.size + 1 + 1 := by simp [hs24]
  clear hb25 hx26
  obtain ⟨cc28a, cc28b⟩ := R1.out.both
  obtain ⟨cc29a, cc29b⟩ := XA.out.both
  obtain ⟨cc30a, cc30b⟩ := XB.out.both
  obtain ⟨cc31a, cc31b⟩ := XC.out.both
  obtain ⟨cc32a, cc32b⟩ := XD.out.both
  obtain ⟨cc33a, cc33b, cc33c, cc33d⟩ := R1.out.stores
  obtain ⟨r34a, r34b, r34c⟩ := R1.out.last B.out (by have := L0.out; have := L1.out; omega) s5 p5 n5 c5
  replace XA := hid ((XA.out.other (g2 := w.heap.size + 1) (by have := L0.out; have := L1.out; omega) 0 (.bool s5)).other (g2 := w.heap.size + 1) (by have := L0.out; have := L1.out; omega) 1 (.slice p5 n5 c5))
  replace XB := hid ((XB.out.other (g2 := w.heap.size + 1) (by have := L0.out; have := L1.out; omega) 0 (.bool s5)).other (g2 := w.heap.size + 1) (by have := L0.out; have := L1.out; omega) 1 (.slice p5 n5 c5))
  replace XC := hid ((XC.out.other (g2 := w.heap.size + 1) (by have := L0.out; have := L1.out; omega) 0 (.bool s5)).other (g2 := w.heap.size + 1) (by have := L0.out; have := L1.out; omega) 1 (.slice p5 n5 c5))
  replace XD := hid ((XD.out.other (g2 := w.heap.size + 1) (by have := L0.out; have := L1.out; omega) 0 (.bool s5)).other (g2 := w.heap.size + 1) (by have := L0.out; have := L1.out; omega) 1 (.slice p5 n5 c5))
  replace HT1 := hid (r34c HT1.out)
  replace HU1 := hid (r34c HU1.out)
  replace HA := hid (r34c HA.out)
  replace HB := hid (r34c HB.out)
  replace HC := hid (r34c HC.out)
  replace HE := hid (r34c HE.out)
  replace R1 := hid r34a
  replace B := hid r34b
  clear r34a r34b r34c
  go_wp2_with fail
  refine bodyPost_ret (res_one rfl rfl R1.out) rfl ?_
  exact ⟨_, rfl, (by rw [Rat.floor_def]; exact HC.out), B.out⟩

end Go.Proofs.Ytjeeepcnaaadmaa

