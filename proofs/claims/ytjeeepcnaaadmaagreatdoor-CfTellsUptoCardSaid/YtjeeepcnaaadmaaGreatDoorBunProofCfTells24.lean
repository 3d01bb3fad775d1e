import Derived.Test.YtjeeepcnaaadmaaGreatDoorBunProofCfTells23
import Derived.Deep.LoopGhost
import Derived.Test.YtjeeepcnaaadmaaGreatDoorBunProofCfTells18
import Derived.Test.YtjeeepcnaaadmaaGreatDoorBunProofCfTells11
/-
  PACKAGE cf: neighbours.
-/
namespace Go.Proofs.YtjeeepcnaaadmaaGreatDoor
open Go.RowKit
open Num
set_option linter.unusedVariables false
set_option maxRecDepth 100000
set_option linter.unusedSimpArgs false

theorem res_nn {fn : Func} {t t' : Tmp} {tmps : Array Value} {w : World} {g g' : Nat} {s s' a a' : Bool} {sv sv' av av' : Value} (hf : fn.results = #[.cell t 83, .cell t' 83]) (ht : tmps.getD t undef = .pointer (some ⟨g, 0, none⟩)) (ht' : tmps.getD t' undef = .pointer (some ⟨g', 0, none⟩)) (h2 : Nbx w g s sv s' sv') (h2' : Nbx w g' a av a' av') :
    (results fn tmps).run Tryz.prog w = .ok (.tuple #[.agg #[.bool s, sv, .bool s', sv'], .agg #[.bool a, av, .bool a', av']]) w := by
  have h1 := at_addr (P := Tryz.prog) (w := w) ht
  have h1' := at_addr (P := Tryz.prog) (w := w) ht'
  have h3 := load_num h2
  have h3' := load_num h2'
  simp only [Array.getD_eq_getD_getElem?] at h1 h1'
  simp [results, hf, Sem.run_bind, h1, h3, h1', h3']

theorem Rtl.fit {w : World} {v : Value} {q : Rat} {k : Nat} (m : Nat) (h : Rtl w v q k) (hn : q.num.natAbs < B ^ m) (hd : q.den < B ^ m) : Rtl w v q m := by
  obtain ⟨s, p, n, c, s', p', n', c', h1, h2, d, h3, h4⟩ := h
  refine ⟨s, p, n, c, s', p', n', c', h1, h2.fit m hn, d, h3.fit m ?_, h4⟩
  rcases h4 with rfl | ⟨rfl, _⟩
  · simpa using hd
  · exact Nat.lt_of_le_of_lt (Nat.zero_le _) hd
theorem Rtl.num_lt {w : World} {v : Value} {q : Rat} {k : Nat} (h : Rtl w v q k) : q.num.natAbs < B ^ k := by
  obtain ⟨s, p, n, c, s', p', n', c', h1, h2, _⟩ := h
  exact h2.lt
/-- What lies near x, with a denominator of m or less, has few limbs. -/
theorem near_fits {x r : Rat} {k m : Nat} (hx : x.floor.natAbs < B ^ (k + 1)) (h1 : (x.floor : Rat) ≤ r) (h2 : r ≤ (x.floor : Rat) + 1) (hd : r.den ≤ m) (hm : m ≤ 2000) : r.num.natAbs < B ^ (k + 2) ∧ r.den < B ^ (k + 2) := by
  have h3 := num_between h1 h2
  have h4 : (x.floor.natAbs + 1) * r.den ≤ B ^ (k + 1) * 2000 := Nat.mul_le_mul (by omega) (by omega)
  have h5 : 1 ≤ B ^ (k + 1) := Nat.pow_pos B_pos
  have h6 : B ^ (k + 1) * 2000 < B ^ (k + 2) := by
    rw [show k + 2 = k + 1 + 1 by omega, Nat.pow_succ B (k + 1)]
    exact Nat.mul_lt_mul_of_pos_left (by decide) h5
  omega

theorem near_fit_one {w : World} {v : Value} {x : Rat} {k : Nat} (hx : x.floor.natAbs < B ^ (k + 1)) (h : Rtl w v ((x.floor : Rat) + (1 : Int)) (k + 1 + (k + 1) + 1)) : Rtl w v ((x.floor : Rat) + 1) (k + 2) := by
  have e : (x.floor : Rat) + ((1 : Int) : Rat) = (x.floor : Rat) + 1 := by simp
  rw [e] at h
  have h2 := near_fits hx (show (x.floor : Rat) ≤ (x.floor : Rat) + 1 by grind) Rat.le_refl (m := 1) (by rw [(Adj.start x.floor).2.2]; omega) (by omega)
  exact h.fit _ h2.1 h2.2

set_option maxHeartbeats 8000000 in
theorem neighbours_rtl {w : World} {v u : Value} {x : Rat} {k m : Nat} (h : Rtl w v x k) (h' : Whl w u (m : Int) 100) (hk1 : 1 ≤ k) (hk : k ≤ 4294967296) (hm : 1 ≤ m ∧ m ≤ 1000) :
    Calls Tryz.prog 76 #[v, u] w fun e w' => ∃ v u l r, e = .returned (.tuple #[v, u]) ∧ Rtl w' v l (k + 2) ∧ Rtl w' u r (k + 2) ∧ (Adj l r ∧ m < l.den + r.den ∧ l.den ≤ m ∧ r.den ≤ m ∧ l ≤ x ∧ x < r) ∧ Below w.heap.size w w' := by
  obtain ⟨s1a, p1a, n1a, c1a, s1b, p1b, n1b, c1b, rfl⟩ := h.opened
  obtain ⟨ht1, d1, hu1, hd1⟩ := h.two
  have HD1 := hid hd1
  obtain ⟨s2, p2, n2, c2, rfl⟩ := h'.opened
  have HK := hid hk
  have HK1 := hid hk1
  have HM2 := hid hm
  have B := hid (Below.refl w.heap.size w)
  have HT1 := hid ht1
  have HU1 := hid hu1
  have HM := hid h'
  have hb1 := (Below.refl _ _).alloc (Nat.le_refl w.heap.size) (.cells #[.bool s1a, .slice p1a n1a c1a, .bool s1b, .slice p1b n1b c1b] 83)
  have hx2 := Nbx.new w s1a s1b (.slice p1a n1a c1a) (.slice p1b n1b c1b)
  replace HT1 := wl HT1 hb1
  replace HU1 := wl HU1 hb1
  replace HM := wl HM hb1
  replace B := bb B hb1
  have X1 := hid hx2
  have hs3 : (w.alloc (.cells #[.bool s1a, .slice p1a n1a c1a, .bool s1b, .slice p1b n1b c1b] 83)).heap.size = w.heap.size + 1 := by simp
  clear hb1 hx2
  have hb4 := (Below.refl _ _).alloc (Nat.le_refl (w.alloc (.cells #[.bool s1a, .slice p1a n1a c1a, .bool s1b, .slice p1b n1b c1b] 83)).heap.size) (.cells #[.bool s2, .slice p2 n2 c2] 81)
  have hx5 := Box.new (w.alloc (.cells #[.bool s1a, .slice p1a n1a c1a, .bool s1b, .slice p1b n1b c1b] 83)) s2 p2 n2 c2
  rw [hs3] at hx5
  replace X1 := nx X1 hb4
  replace HT1 := wl HT1 hb4
  replace HU1 := wl HU1 hb4
  replace HM := wl HM hb4
  replace B := bb B hb4
  have X2 := hid hx5
  have hs6 : ((w.alloc (.cells #[.bool s1a, .slice p1a n1a c1a, .bool s1b, .slice p1b n1b c1b] 83)).alloc (.cells #[.bool s2, .slice p2 n2 c2] 81)).heap.size = w.heap.size + 1 + 1 := by simp [hs3]
  clear hb4 hx5
  have hb7 := (Below.refl _ _).alloc (Nat.le_refl ((w.alloc (.cells #[.bool s1a, .slice p1a n1a c1a, .bool s1b, .slice p1b n1b c1b] 83)).alloc (.cells #[.bool s2, .slice p2 n2 c2] 81)).heap.size) (.cells #[.bool false, .slice none 0 0, .bool false, .slice none 0 0] 83)
  have hx8 := Nbx.new ((w.alloc (.cells #[.bool s1a, .slice p1a n1a c1a, .bool s1b, .slice p1b n1b c1b] 83)).alloc (.cells #[.bool s2, .slice p2 n2 c2] 81)) false false (.slice none 0 0) (.slice none 0 0)
  rw [hs6] at hx8
  replace X1 := nx X1 hb7
  replace X2 := bx X2 hb7
  replace HT1 := wl HT1 hb7
  replace HU1 := wl HU1 hb7
  replace HM := wl HM hb7
  replace B := bb B hb7
  have XL := hid hx8
  have hs9 : (((w.alloc (.cells #[.bool s1a, .slice p1a n1a c1a, .bool s1b, .slice p1b n1b c1b] 83)).alloc (.cells #[.bool s2, .slice p2 n2 c2] 81)).alloc (.cells #[.bool false, .slice none 0 0, .bool false, .slice none 0 0] 83)).heap.size = w.heap.size + 1 + 1 + 1 := by simp [hs6]
  clear hb7 hx8
  have hb10 := (Below.refl _ _).alloc (Nat.le_refl (((w.alloc (.cells #[.bool s1a, .slice p1a n1a c1a, .bool s1b, .slice p1b n1b c1b] 83)).alloc (.cells #[.bool s2, .slice p2 n2 c2] 81)).alloc (.cells #[.bool false, .slice none 0 0, .bool false, .slice none 0 0] 83)).heap.size) (.cells #[.bool false, .slice none 0 0, .bool false, .slice none 0 0] 83)
  have hx11 := Nbx.new (((w.alloc (.cells #[.bool s1a, .slice p1a n1a c1a, .bool s1b, .slice p1b n1b c1b] 83)).alloc (.cells #[.bool s2, .slice p2 n2 c2] 81)).alloc (.cells #[.bool false, .slice none 0 0, .bool false, .slice none 0 0] 83)) false false (.slice none 0 0) (.slice none 0 0)
  rw [hs9] at hx11
  replace X1 := nx X1 hb10
  replace X2 := bx X2 hb10
  replace XL := nx XL hb10
  replace HT1 := wl HT1 hb10
  replace HU1 := wl HU1 hb10
  replace HM := wl HM hb10
  replace B := bb B hb10
  have XH := hid hx11
  have hs12 : ((((w.alloc (.cells #[.bool s1a, .slice p1a n1a c1a, .bool s1b, .slice p1b n1b c1b] 83)).alloc (.cells #[.bool s2, .slice p2 n2 c2] 81)).alloc (.cells #[.bool false, .slice none 0 0, .bool false, .slice none 0 0] 83)).alloc (.cells #[.bool false, .slice none 0 0, .bool false, .slice none 0 0] 83)).heap.size = w.heap.size + 1 + 1 + 1 + 1 := by simp [hs9]
  clear hb10 hx11
  clear hs12 h h' ht1 hu1 hd1 hk hk1 hm
  go_enter Tryz.func76, Tryz.ntmps76
  obtain ⟨cc13a, cc13b, cc13c, cc13d⟩ := X1.out.cells
  obtain ⟨cc14a, cc14b⟩ := X2.out.both
  obtain ⟨cc15a, cc15b, cc15c, cc15d⟩ := XL.out.cells
  obtain ⟨cc16a, cc16b, cc16c, cc16d⟩ := XH.out.cells
  go_wp2_with fail
  generalize hW : (((w.alloc (.cells #[.bool s1a, .slice p1a n1a c1a, .bool s1b, .slice p1b n1b c1b] 83)).alloc (.cells #[.bool s2, .slice p2 n2 c2] 81)).alloc (.cells #[.bool false, .slice none 0 0, .bool false, .slice none 0 0] 83)).alloc (.cells #[.bool false, .slice none 0 0, .bool false, .slice none 0 0] 83) = W17 at *
  clear hW
  refine (floorq_rtl (Rtl.mk2 HT1.out HU1.out HD1.out) HK1.out (by have := HK.out; omega)).mono ?_
  rintro e w18 ⟨v, rfl, hv, hb⟩
  obtain ⟨s3, p3, n3, c3, rfl⟩ := hv.opened
  have HFL := hid hv.lt
  replace X1 := nx X1 hb
  replace X2 := bx X2 hb
  replace XL := nx XL hb
  replace XH := nx XH hb
  replace HT1 := wl HT1 hb
  replace HU1 := wl HU1 hb
  replace HM := wl HM hb
  replace B := bb B hb
  clear cc13a cc13b cc13c cc13d cc14a cc14b cc15a cc15b cc15c cc15d cc16a cc16b cc16c cc16d
  have HF := hid hv
  clear hb hv
  go_wp2_with fail
  refine (wholeq HF.out).mono ?_
  rintro e w19 ⟨v, rfl, hv, hb⟩
  obtain ⟨s4a, p4a, n4a, c4a, s4b, p4b, n4b, c4b, rfl⟩ := hv.opened
  obtain ⟨ht4, d4, hu4, hd4⟩ := hv.two
  have HD4 := hid hd4
  replace X1 := nx X1 hb
  replace X2 := bx X2 hb
  replace XL := nx XL hb
  replace XH := nx XH hb
  replace HT1 := wl HT1 hb
  replace HU1 := wl HU1 hb
  replace HM := wl HM hb
  replace B := bb B hb
  have HT4 := hid ht4
  have HU4 := hid hu4
  clear hb hv ht4 hu4 hd4
  obtain ⟨cc20a, cc20b, cc20c, cc20d⟩ := X1.out.cells
  obtain ⟨cc21a, cc21b⟩ := X2.out.both
  obtain ⟨cc22a, cc22b, cc22c, cc22d⟩ := XL.out.cells
  obtain ⟨cc23a, cc23b, cc23c, cc23d⟩ := XH.out.cells
  obtain ⟨⟨cc24a, cc24b⟩, ⟨cc24c, cc24d⟩, ⟨cc24e, cc24f⟩, cc24g, cc24h⟩ := XL.out.stores
  obtain ⟨r25a, r25b, r25c⟩ := XL.out.last B.out (by omega) s4a s4b p4a p4b n4a n4b c4a c4b
  replace X1 := hid ((((X1.out.other (g2 := w.heap.size + 1 + 1) (by omega) 0 (.bool s4a)).other (g2 := w.heap.size + 1 + 1) (by omega) 1 (.slice p4a n4a c4a)).other (g2 := w.heap.size + 1 + 1) (by omega) 2 (.bool s4b)).other (g2 := w.heap.size + 1 + 1) (by omega) 3 (.slice p4b n4b c4b))
  replace X2 := hid ((((X2.out.other (g2 := w.heap.size + 1 + 1) (by omega) 0 (.bool s4a)).other (g2 := w.heap.size + 1 + 1) (by omega) 1 (.slice p4a n4a c4a)).other (g2 := w.heap.size + 1 + 1) (by omega) 2 (.bool s4b)).other (g2 := w.heap.size + 1 + 1) (by omega) 3 (.slice p4b n4b c4b))
  replace XH := hid ((((XH.out.other (g2 := w.heap.size + 1 + 1) (by omega) 0 (.bool s4a)).other (g2 := w.heap.size + 1 + 1) (by omega) 1 (.slice p4a n4a c4a)).other (g2 := w.heap.size + 1 + 1) (by omega) 2 (.bool s4b)).other (g2 := w.heap.size + 1 + 1) (by omega) 3 (.slice p4b n4b c4b))
  replace HT1 := hid (r25c HT1.out)
  replace HU1 := hid (r25c HU1.out)
  replace HM := hid (r25c HM.out)
  replace HT4 := hid (r25c HT4.out)
  replace HU4 := hid (r25c HU4.out)
  replace XL := hid r25a
  replace B := hid r25b
  clear r25a r25b r25c
  obtain ⟨cc26a, cc26b, cc26c, cc26d⟩ := X1.out.cells
  obtain ⟨cc27a, cc27b⟩ := X2.out.both
  obtain ⟨cc28a, cc28b, cc28c, cc28d⟩ := XL.out.cells
  obtain ⟨cc29a, cc29b, cc29c, cc29d⟩ := XH.out.cells
  go_wp2_with fail
  generalize hW : (((w19.setCell ⟨w.heap.size + 1 + 1, 0, none⟩ (.bool s4a)).setCell ⟨w.heap.size + 1 + 1, 1, none⟩ (.slice p4a n4a c4a)).setCell ⟨w.heap.size + 1 + 1, 2, none⟩ (.bool s4b)).setCell ⟨w.heap.size + 1 + 1, 3, none⟩ (.slice p4b n4b c4b) = W30 at *
  clear hW
  obtain ⟨cc31a, cc31b, cc31c, cc31d⟩ := XL.out.cells
  replace X1 := hid X1.out.dr
  replace X2 := hid X2.out.dr
  replace XL := hid XL.out.dr
  replace XH := hid XH.out.dr
  replace HT1 := hid HT1.out.drew
  replace HU1 := hid HU1.out.drew
  replace HM := hid HM.out.drew
  replace HT4 := hid HT4.out.drew
  replace HU4 := hid HU4.out.drew
  replace B := hid (Below.drew B.out)
  obtain ⟨cc32a, cc32b, cc32c, cc32d⟩ := XL.out.cells
  go_region_held3 (fun w' => w'.cell? ⟨w.heap.size + 1 + 1, 0, none⟩ = some (.bool s4a) ∧ w'.cell? ⟨w.heap.size + 1 + 1, 1, none⟩ = some (.slice p4a n4a c4a) ∧ w'.cell? ⟨w.heap.size + 1 + 1, 2, none⟩ = some (.bool s4b) ∧ w'.cell? ⟨w.heap.size + 1 + 1, 3, none⟩ = some (.slice p4b n4b c4b)) (go_keep) (first
    | (have hm := mk33_1; clear hm; go_at_call 58; refine (addq_rtl (k := k + 1) (Rtl.mk2 HT4.out HU4.out HD4.out) ((Rtl.mk2 HT6.out HU6.out HD6.out).mono (by omega)) (by omega) (by have := HK.out; omega)).mono ?_; rintro e w38 ⟨v, rfl, hv, hb⟩; have hv := near_fit_one HFL.out hv; obtain ⟨s7a, p7a, n7a, c7a, s7b, p7b, n7b, c7b, rfl⟩ := hv.opened; obtain ⟨ht7, d7, hu7, hd7⟩ := hv.two; have HD7 := hid hd7; replace X1 := nx X1 hb; replace X2 := bx X2 hb; replace XL := nx XL hb; replace XH := nx XH hb; replace HT1 := wl HT1 hb; replace HU1 := wl HU1 hb; replace HM := wl HM hb; replace HT4 := wl HT4 hb; replace HU4 := wl HU4 hb; replace B := bb B hb; clear cc37a cc37b cc37c cc37d; have HT7 := hid ht7; have HU7 := hid hu7; clear hb hv ht7 hu7 hd7; obtain ⟨cc39a, cc39b, cc39c, cc39d⟩ := XL.out.cells; obtain ⟨⟨cc40a, cc40b⟩, ⟨cc40c, cc40d⟩, ⟨cc40e, cc40f⟩, cc40g, cc40h⟩ := XH.out.stores; obtain ⟨r41a, r41b, r41c⟩ := XH.out.last B.out (by omega) s7a s7b p7a p7b n7a n7b c7a c7b; replace X1 := hid ((((X1.out.other (g2 := w.heap.size + 1 + 1 + 1) (by omega) 0 (.bool s7a)).other (g2 := w.heap.size + 1 + 1 + 1) (by omega) 1 (.slice p7a n7a c7a)).other (g2 := w.heap.size + 1 + 1 + 1) (by omega) 2 (.bool s7b)).other (g2 := w.heap.size + 1 + 1 + 1) (by omega) 3 (.slice p7b n7b c7b)); replace X2 := hid ((((X2.out.other (g2 := w.heap.size + 1 + 1 + 1) (by omega) 0 (.bool s7a)).other (g2 := w.heap.size + 1 + 1 + 1) (by omega) 1 (.slice p7a n7a c7a)).other (g2 := w.heap.size + 1 + 1 + 1) (by omega) 2 (.bool s7b)).other (g2 := w.heap.size + 1 + 1 + 1) (by omega) 3 (.slice p7b n7b c7b)); replace XL := hid ((((XL.out.other (g2 := w.heap.size + 1 + 1 + 1) (by omega) 0 (.bool s7a)).other (g2 := w.heap.size + 1 + 1 + 1) (by omega) 1 (.slice p7a n7a c7a)).other (g2 := w.heap.size + 1 + 1 + 1) (by omega) 2 (.bool s7b)).other (g2 := w.heap.size + 1 + 1 + 1) (by omega) 3 (.slice p7b n7b c7b)); replace HT1 := hid (r41c HT1.out); replace HU1 := hid (r41c HU1.out); replace HM := hid (r41c HM.out); replace HT4 := hid (r41c HT4.out); replace HU4 := hid (r41c HU4.out); replace HT7 := hid (r41c HT7.out); replace HU7 := hid (r41c HU7.out); replace XH := hid r41a; replace B := hid r41b; clear r41a r41b r41c; obtain ⟨cc42a, cc42b, cc42c, cc42d⟩ := XL.out.cells; have mk33_2 := hid True.intro)
    | (have hm := mk33_0; clear hm; go_at_call 105; refine (wholeq HO.out).mono ?_; rintro e w36 ⟨v, rfl, hv, hb⟩; obtain ⟨s6a, p6a, n6a, c6a, s6b, p6b, n6b, c6b, rfl⟩ := hv.opened; obtain ⟨ht6, d6, hu6, hd6⟩ := hv.two; have HD6 := hid hd6; replace X1 := nx X1 hb; replace X2 := bx X2 hb; replace XL := nx XL hb; replace XH := nx XH hb; replace HT1 := wl HT1 hb; replace HU1 := wl HU1 hb; replace HM := wl HM hb; replace HT4 := wl HT4 hb; replace HU4 := wl HU4 hb; replace B := bb B hb; clear cc35a cc35b cc35c cc35d; have HT6 := hid ht6; have HU6 := hid hu6; clear hb hv ht6 hu6 hd6; obtain ⟨cc37a, cc37b, cc37c, cc37d⟩ := XL.out.cells; have mk33_1 := hid True.intro)
    | (go_at_call 101; refine (of_small 1 (by decide) _).mono ?_; rintro e w34 ⟨v, rfl, hv, hb⟩; obtain ⟨s5, p5, n5, c5, rfl⟩ := hv.opened; replace X1 := nx X1 hb; replace X2 := bx X2 hb; replace XL := nx XL hb; replace XH := nx XH hb; replace HT1 := wl HT1 hb; replace HU1 := wl HU1 hb; replace HM := wl HM hb; replace HT4 := wl HT4 hb; replace HU4 := wl HU4 hb; replace B := bb B hb; clear cc20a cc20b cc20c cc20d cc21a cc21b cc22a cc22b cc22c cc22d cc23a cc23b cc23c cc23d cc24a cc24b cc24c cc24d cc24e cc24f cc24g cc24h cc26a cc26b cc26c cc26d cc27a cc27b cc28a cc28b cc28c cc28d cc29a cc29b cc29c cc29d cc31a cc31b cc31c cc31d cc32a cc32b cc32c cc32d; have HO := hid hv; clear hb hv; obtain ⟨cc35a, cc35b, cc35c, cc35d⟩ := XL.out.cells; have mk33_0 := hid True.intro))
  go_wp2_with fail
  have HX := hid (show (x.floor : Rat) ≤ x ∧ x < (x.floor : Rat) + 1 from ⟨Rat.floor_le x, by simpa using Rat.lt_floor_add_one x⟩)
  go_loopg [6] (2 * m - 2) (fun gk _m wr => ∃ (l r : Rat) (dl dh : Int) (sla : Bool) (pla : Option Addr) (nla cla : Nat) (slb : Bool) (plb : Option Addr) (nlb clb : Nat) (sha : Bool) (pha : Option Addr) (nha cha : Nat) (shb : Bool) (phb : Option Addr) (nhb chb : Nat), Hid (Nbx wr w.heap.size s1a (.slice p1a n1a c1a) s1b (.slice p1b n1b c1b)) ∧ Hid (Box wr (w.heap.size + 1) s2 (.slice p2 n2 c2)) ∧ Hid (Nbx wr (w.heap.size + 1 + 1) sla (.slice pla nla cla) slb (.slice plb nlb clb)) ∧ Hid (Nbx wr (w.heap.size + 1 + 1 + 1) sha (.slice pha nha cha) shb (.slice phb nhb chb)) ∧ Hid (Whl wr (.agg #[.bool s1a, .slice p1a n1a c1a]) x.num k) ∧ Hid (Whl wr (.agg #[.bool s1b, .slice p1b n1b c1b]) d1 k) ∧ Hid (Whl wr (.agg #[.bool s2, .slice p2 n2 c2]) (m : Int) 100) ∧ Hid (Whl wr (.agg #[.bool sla, .slice pla nla cla]) l.num (k + 2)) ∧ Hid (Whl wr (.agg #[.bool slb, .slice plb nlb clb]) dl (k + 2)) ∧ Hid (dl = l.den ∨ (dl = 0 ∧ l.den = 1)) ∧ Hid (Whl wr (.agg #[.bool sha, .slice pha nha cha]) r.num (k + 2)) ∧ Hid (Whl wr (.agg #[.bool shb, .slice phb nhb chb]) dh (k + 2)) ∧ Hid (dh = r.den ∨ (dh = 0 ∧ r.den = 1)) ∧ Hid (Adj l r ∧ l.den ≤ m ∧ r.den ≤ m ∧ l ≤ x ∧ x < r ∧ (x.floor : Rat) ≤ l ∧ r ≤ (x.floor : Rat) + 1 ∧ gk + (l.den + r.den) = 2 * m) ∧ Hid (Below w.heap.size w wr))
  case atStart =>
    obtain ⟨a1, a2, a3⟩ := Adj.start x.floor
    have hm1 := HM2.out
    exact ⟨_, _, _, _, _, _, _, _, _, _, _, _, _, _, _, _, _, _, _, _, X1, X2, XL, XH, HT1, HU1, HM, hid (HT4.out.mono (by omega)), hid (HU4.out.mono (by omega)), HD4, HT7, HU7, HD7, hid ⟨a1, by omega, by omega, HX.out.1, HX.out.2, Rat.le_refl, Rat.le_refl, by omega⟩, B⟩
  case round =>
    obtain ⟨l, r, dl, dh, sla, pla, nla, cla, slb, plb, nlb, clb, sha, pha, nha, cha, shb, phb, nhb, chb, X1, X2, XL, XH, HT1, HU1, HM, HTl, HUl, HDl, HTh, HUh, HDh, HI, B⟩ := hrel
    have HAd := hid HI.out.1.med
    have HB := hid (show (x.floor : Rat) ≤ med l r ∧ med l r ≤ (x.floor : Rat) + 1 from ⟨Rat.le_trans HI.out.2.2.2.2.2.1 (Rat.le_of_lt HAd.out.2.2.1.lt), Rat.le_trans (Rat.le_of_lt HAd.out.2.2.2.lt) HI.out.2.2.2.2.2.2.1⟩)
    have HFit := hid (near_fits HFL.out HB.out.1 HB.out.2 (show (med l r).den ≤ 2 * m by rw [HAd.out.2.1]; have := HI.out.2.1; have := HI.out.2.2.1; omega) (by have := HM2.out; omega))
    obtain ⟨cc501a, cc501b, cc501c, cc501d⟩ := X1.out.cells
    obtain ⟨cc502a, cc502b⟩ := X2.out.both
    obtain ⟨cc503a, cc503b, cc503c, cc503d⟩ := XL.out.cells
    obtain ⟨cc504a, cc504b, cc504c, cc504d⟩ := XH.out.cells
    go_wp2_with fail
    refine (mediant_rtl (Rtl.mk2 HTl.out HUl.out HDl.out) (Rtl.mk2 HTh.out HUh.out HDh.out) (by omega) (by have := HK.out; omega)).mono ?_
    rintro e w505 ⟨v, rfl, hv, hb⟩
    replace hv := hv.fit (k + 2) HFit.out.1 HFit.out.2
    obtain ⟨s7a, p7a, n7a, c7a, s7b, p7b, n7b, c7b, rfl⟩ := hv.opened
    obtain ⟨ht7, d7, hu7, hd7⟩ := hv.two
    have HD7 := hid hd7
    replace X1 := nx X1 hb
    replace X2 := bx X2 hb
    replace XL := nx XL hb
    replace XH := nx XH hb
    replace HT1 := wl HT1 hb
    replace HU1 := wl HU1 hb
    replace HM := wl HM hb
    replace HTl := wl HTl hb
    replace HUl := wl HUl hb
    replace HTh := wl HTh hb
    replace HUh := wl HUh hb
    replace B := bb B hb
    clear cc501a cc501b cc501c cc501d cc502a cc502b cc503a cc503b cc503c cc503d cc504a cc504b cc504c cc504d
    have HT7 := hid ht7
    have HU7 := hid hu7
    clear hb hv ht7 hu7 hd7
    have LG := hid (show w.heap.size + 1 + 1 + 1 < w505.heap.size from XH.out.lt)
    have hb506 := (Below.refl _ _).alloc (Nat.le_refl w505.heap.size) (.cells #[.bool s7a, .slice p7a n7a c7a, .bool s7b, .slice p7b n7b c7b] 83)
    have hx507 := Nbx.new w505 s7a s7b (.slice p7a n7a c7a) (.slice p7b n7b c7b)
    have L1 := hid XH.out.lt
    replace X1 := nx X1 hb506
    replace X2 := bx X2 hb506
    replace XL := nx XL hb506
    replace XH := nx XH hb506
    replace HT1 := wl HT1 hb506
    replace HU1 := wl HU1 hb506
    replace HM := wl HM hb506
    replace HTl := wl HTl hb506
    replace HUl := wl HUl hb506
    replace HTh := wl HTh hb506
    replace HUh := wl HUh hb506
    replace HT7 := wl HT7 hb506
    replace HU7 := wl HU7 hb506
    replace B := bb B hb506
    have XM := hid hx507
    have hs508 : (w505.alloc (.cells #[.bool s7a, .slice p7a n7a c7a, .bool s7b, .slice p7b n7b c7b] 83)).heap.size = w505.heap.size + 1 := by simp
    clear hb506 hx507
    obtain ⟨cc509a, cc509b, cc509c, cc509d⟩ := X1.out.cells
    obtain ⟨cc510a, cc510b⟩ := X2.out.both
    obtain ⟨cc511a, cc511b, cc511c, cc511d⟩ := XL.out.cells
    obtain ⟨cc512a, cc512b, cc512c, cc512d⟩ := XH.out.cells
    obtain ⟨cc513a, cc513b, cc513c, cc513d⟩ := XM.out.cells
    go_wp2_with fail
    generalize hW : w505.alloc (.cells #[.bool s7a, .slice p7a n7a c7a, .bool s7b, .slice p7b n7b c7b] 83) = W514 at *
    clear hW
    refine (parts_rtl (Rtl.mk2 HT7.out HU7.out HD7.out) (by omega)).mono ?_
    rintro e w515 ⟨v, u, rfl, hv, hu, hb⟩
    obtain ⟨s8, p8, n8, c8, rfl⟩ := hv.opened
    obtain ⟨s9, p9, n9, c9, rfl⟩ := hu.opened
    replace X1 := nx X1 hb
    replace X2 := bx X2 hb
    replace XL := nx XL hb
    replace XH := nx XH hb
    replace XM := nx XM hb
    replace HT1 := wl HT1 hb
    replace HU1 := wl HU1 hb
    replace HM := wl HM hb
    replace HTl := wl HTl hb
    replace HUl := wl HUl hb
    replace HTh := wl HTh hb
    replace HUh := wl HUh hb
    replace HT7 := wl HT7 hb
    replace HU7 := wl HU7 hb
    replace B := bb B hb
    clear cc509a cc509b cc509c cc509d cc510a cc510b cc511a cc511b cc511c cc511d cc512a cc512b cc512c cc512d cc513a cc513b cc513c cc513d
    have HP8 := hid hv
    have HP9 := hid hu
    clear hb hv hu
    have hb516 := (Below.refl _ _).alloc (Nat.le_refl w515.heap.size) (.cells #[.bool s8, .slice p8 n8 c8] 81)
    have hx517 := Box.new w515 s8 p8 n8 c8
    have L2 := hid XM.out.lt
    replace X1 := nx X1 hb516
    replace X2 := bx X2 hb516
    replace XL := nx XL hb516
    replace XH := nx XH hb516
    replace XM := nx XM hb516
    replace HT1 := wl HT1 hb516
    replace HU1 := wl HU1 hb516
    replace HM := wl HM hb516
    replace HTl := wl HTl hb516
    replace HUl := wl HUl hb516
    replace HTh := wl HTh hb516
    replace HUh := wl HUh hb516
    replace HT7 := wl HT7 hb516
    replace HU7 := wl HU7 hb516
    replace HP9 := wl HP9 hb516
    replace B := bb B hb516
    have XP := hid hx517
    have hs518 : (w515.alloc (.cells #[.bool s8, .slice p8 n8 c8] 81)).heap.size = w515.heap.size + 1 := by simp
    clear hb516 hx517
    have hb519 := (Below.refl _ _).alloc (Nat.le_refl (w515.alloc (.cells #[.bool s8, .slice p8 n8 c8] 81)).heap.size) (.cells #[.bool s9, .slice p9 n9 c9] 81)
    have hx520 := Box.new (w515.alloc (.cells #[.bool s8, .slice p8 n8 c8] 81)) s9 p9 n9 c9
    rw [hs518] at hx520
    replace X1 := nx X1 hb519
    replace X2 := bx X2 hb519
    replace XL := nx XL hb519
    replace XH := nx XH hb519
    replace XM := nx XM hb519
    replace XP := bx XP hb519
    replace HT1 := wl HT1 hb519
    replace HU1 := wl HU1 hb519
    replace HM := wl HM hb519
    replace HTl := wl HTl hb519
    replace HUl := wl HUl hb519
    replace HTh := wl HTh hb519
    replace HUh := wl HUh hb519
    replace HT7 := wl HT7 hb519
    replace HU7 := wl HU7 hb519
    replace HP9 := wl HP9 hb519
    replace B := bb B hb519
    have XQ := hid hx520
    have hs521 : ((w515.alloc (.cells #[.bool s8, .slice p8 n8 c8] 81)).alloc (.cells #[.bool s9, .slice p9 n9 c9] 81)).heap.size = w515.heap.size + 1 + 1 := by simp [hs518]
    clear hb519 hx520
    obtain ⟨cc522a, cc522b, cc522c, cc522d⟩ := X1.out.cells
    obtain ⟨cc523a, cc523b⟩ := X2.out.both
    obtain ⟨cc524a, cc524b, cc524c, cc524d⟩ := XL.out.cells
    obtain ⟨cc525a, cc525b, cc525c, cc525d⟩ := XH.out.cells
    obtain ⟨cc526a, cc526b, cc526c, cc526d⟩ := XM.out.cells
    obtain ⟨cc527a, cc527b⟩ := XP.out.both
    obtain ⟨cc528a, cc528b⟩ := XQ.out.both
    go_wp2_with fail
    generalize hW : (w515.alloc (.cells #[.bool s8, .slice p8 n8 c8] 81)).alloc (.cells #[.bool s9, .slice p9 n9 c9] 81) = W529 at *
    clear hW
    have HS := zless_whl HM.out HP9.out (by decide) (by have := HK.out; omega)
    by_cases hmd : m < (med l r).den
    · rw [decide_eq_true (by omega)] at HS
      replace HS := hid HS
      refine (HS.out).mono ?_
      rintro e w701 ⟨rfl, hb⟩
      replace X1 := nx X1 hb
      replace X2 := bx X2 hb
      replace XL := nx XL hb
      replace XH := nx XH hb
      replace HT1 := wl HT1 hb
      replace HU1 := wl HU1 hb
      replace HM := wl HM hb
      replace HTl := wl HTl hb
      replace HUl := wl HUl hb
      replace HTh := wl HTh hb
      replace HUh := wl HUh hb
      replace HT7 := wl HT7 hb
      replace HU7 := wl HU7 hb
      replace HP9 := wl HP9 hb
      replace B := bb B hb
      clear cc522a cc522b cc522c cc522d cc523a cc523b cc524a cc524b cc524c cc524d cc525a cc525b cc525c cc525d cc526a cc526b cc526c cc526d cc527a cc527b cc528a cc528b
      clear hb 
      clear HS
      obtain ⟨cc702a, cc702b, cc702c, cc702d⟩ := X1.out.cells
      obtain ⟨cc703a, cc703b⟩ := X2.out.both
      obtain ⟨cc704a, cc704b, cc704c, cc704d⟩ := XL.out.cells
      obtain ⟨cc705a, cc705b, cc705c, cc705d⟩ := XH.out.cells
      go_wp2_with fail
      obtain ⟨cc706a, cc706b, cc706c, cc706d⟩ := X1.out.cells
      obtain ⟨cc707a, cc707b⟩ := X2.out.both
      obtain ⟨cc708a, cc708b, cc708c, cc708d⟩ := XL.out.cells
      obtain ⟨cc709a, cc709b, cc709c, cc709d⟩ := XH.out.cells
      obtain ⟨⟨cc710a, cc710b⟩, ⟨cc710c, cc710d⟩, ⟨cc710e, cc710f⟩, cc710g, cc710h⟩ := XL.out.stores
      obtain ⟨r711a, r711b, r711c⟩ := XL.out.last B.out (by have := LG.out; have := L1.out; have := L2.out; omega) sla slb pla plb nla nlb cla clb
      replace X1 := hid ((((X1.out.other (g2 := w.heap.size + 1 + 1) (by have := LG.out; have := L1.out; have := L2.out; omega) 0 (.bool sla)).other (g2 := w.heap.size + 1 + 1) (by have := LG.out; have := L1.out; have := L2.out; omega) 1 (.slice pla nla cla)).other (g2 := w.heap.size + 1 + 1) (by have := LG.out; have := L1.out; have := L2.out; omega) 2 (.bool slb)).other (g2 := w.heap.size + 1 + 1) (by have := LG.out; have := L1.out; have := L2.out; omega) 3 (.slice plb nlb clb))
      replace X2 := hid ((((X2.out.other (g2 := w.heap.size + 1 + 1) (by have := LG.out; have := L1.out; have := L2.out; omega) 0 (.bool sla)).other (g2 := w.heap.size + 1 + 1) (by have := LG.out; have := L1.out; have := L2.out; omega) 1 (.slice pla nla cla)).other (g2 := w.heap.size + 1 + 1) (by have := LG.out; have := L1.out; have := L2.out; omega) 2 (.bool slb)).other (g2 := w.heap.size + 1 + 1) (by have := LG.out; have := L1.out; have := L2.out; omega) 3 (.slice plb nlb clb))
      replace XH := hid ((((XH.out.other (g2 := w.heap.size + 1 + 1) (by have := LG.out; have := L1.out; have := L2.out; omega) 0 (.bool sla)).other (g2 := w.heap.size + 1 + 1) (by have := LG.out; have := L1.out; have := L2.out; omega) 1 (.slice pla nla cla)).other (g2 := w.heap.size + 1 + 1) (by have := LG.out; have := L1.out; have := L2.out; omega) 2 (.bool slb)).other (g2 := w.heap.size + 1 + 1) (by have := LG.out; have := L1.out; have := L2.out; omega) 3 (.slice plb nlb clb))
      replace HT1 := hid (r711c HT1.out)
      replace HU1 := hid (r711c HU1.out)
      replace HM := hid (r711c HM.out)
      replace HTl := hid (r711c HTl.out)
      replace HUl := hid (r711c HUl.out)
      replace HTh := hid (r711c HTh.out)
      replace HUh := hid (r711c HUh.out)
      replace HT7 := hid (r711c HT7.out)
      replace HU7 := hid (r711c HU7.out)
      replace HP9 := hid (r711c HP9.out)
      replace XL := hid r711a
      replace B := hid r711b
      clear r711a r711b r711c
      obtain ⟨cc712a, cc712b, cc712c, cc712d⟩ := XH.out.cells
      obtain ⟨⟨cc713a, cc713b⟩, ⟨cc713c, cc713d⟩, ⟨cc713e, cc713f⟩, cc713g, cc713h⟩ := XH.out.stores
      obtain ⟨r714a, r714b, r714c⟩ := XH.out.last B.out (by have := LG.out; have := L1.out; have := L2.out; omega) sha shb pha phb nha nhb cha chb
      replace X1 := hid ((((X1.out.other (g2 := w.heap.size + 1 + 1 + 1) (by have := LG.out; have := L1.out; have := L2.out; omega) 0 (.bool sha)).other (g2 := w.heap.size + 1 + 1 + 1) (by have := LG.out; have := L1.out; have := L2.out; omega) 1 (.slice pha nha cha)).other (g2 := w.heap.size + 1 + 1 + 1) (by have := LG.out; have := L1.out; have := L2.out; omega) 2 (.bool shb)).other (g2 := w.heap.size + 1 + 1 + 1) (by have := LG.out; have := L1.out; have := L2.out; omega) 3 (.slice phb nhb chb))
      replace X2 := hid ((((X2.out.other (g2 := w.heap.size + 1 + 1 + 1) (by have := LG.out; have := L1.out; have := L2.out; omega) 0 (.bool sha)).other (g2 := w.heap.size + 1 + 1 + 1) (by have := LG.out; have := L1.out; have := L2.out; omega) 1 (.slice pha nha cha)).other (g2 := w.heap.size + 1 + 1 + 1) (by have := LG.out; have := L1.out; have := L2.out; omega) 2 (.bool shb)).other (g2 := w.heap.size + 1 + 1 + 1) (by have := LG.out; have := L1.out; have := L2.out; omega) 3 (.slice phb nhb chb))
      replace XL := hid ((((XL.out.other (g2 := w.heap.size + 1 + 1 + 1) (by have := LG.out; have := L1.out; have := L2.out; omega) 0 (.bool sha)).other (g2 := w.heap.size + 1 + 1 + 1) (by have := LG.out; have := L1.out; have := L2.out; omega) 1 (.slice pha nha cha)).other (g2 := w.heap.size + 1 + 1 + 1) (by have := LG.out; have := L1.out; have := L2.out; omega) 2 (.bool shb)).other (g2 := w.heap.size + 1 + 1 + 1) (by have := LG.out; have := L1.out; have := L2.out; omega) 3 (.slice phb nhb chb))
      replace HT1 := hid (r714c HT1.out)
      replace HU1 := hid (r714c HU1.out)
      replace HM := hid (r714c HM.out)
      replace HTl := hid (r714c HTl.out)
      replace HUl := hid (r714c HUl.out)
      replace HTh := hid (r714c HTh.out)
      replace HUh := hid (r714c HUh.out)
      replace HT7 := hid (r714c HT7.out)
      replace HU7 := hid (r714c HU7.out)
      replace HP9 := hid (r714c HP9.out)
      replace XH := hid r714a
      replace B := hid r714b
      clear r714a r714b r714c
      replace X1 := hid X1.out.dr
      replace X2 := hid X2.out.dr
      replace XL := hid XL.out.dr
      replace XH := hid XH.out.dr
      replace HT1 := hid HT1.out.drew
      replace HU1 := hid HU1.out.drew
      replace HM := hid HM.out.drew
      replace HTl := hid HTl.out.drew
      replace HUl := hid HUl.out.drew
      replace HTh := hid HTh.out.drew
      replace HUh := hid HUh.out.drew
      replace HT7 := hid HT7.out.drew
      replace HU7 := hid HU7.out.drew
      replace HP9 := hid HP9.out.drew
      replace B := hid (Below.drew B.out)
      go_region_with (fail)
      all_goals
        go_wp2_with fail
        refine bodyPost_ret (res_nn rfl rfl rfl XL.out XH.out) rfl ?_
        exact ⟨_, _, l, r, rfl, Rtl.mk2 HTl.out HUl.out HDl.out, Rtl.mk2 HTh.out HUh.out HDh.out, ⟨HI.out.1, by rw [HAd.out.2.1] at hmd; exact hmd, HI.out.2.1, HI.out.2.2.1, HI.out.2.2.2.1, HI.out.2.2.2.2.1⟩, B.out⟩
    · rw [decide_eq_false (by omega)] at HS
      replace HS := hid HS
      refine (HS.out).mono ?_
      rintro e w801 ⟨rfl, hb⟩
      replace X1 := nx X1 hb
      replace X2 := bx X2 hb
      replace XL := nx XL hb
      replace XH := nx XH hb
      replace XM := nx XM hb
      replace HT1 := wl HT1 hb
      replace HU1 := wl HU1 hb
      replace HM := wl HM hb
      replace HTl := wl HTl hb
      replace HUl := wl HUl hb
      replace HTh := wl HTh hb
      replace HUh := wl HUh hb
      replace HT7 := wl HT7 hb
      replace HU7 := wl HU7 hb
      replace B := bb B hb
      clear cc522a cc522b cc522c cc522d cc523a cc523b cc524a cc524b cc524c cc524d cc525a cc525b cc525c cc525d cc526a cc526b cc526c cc526d cc527a cc527b cc528a cc528b
      clear hb 
      clear HS
      obtain ⟨cc802a, cc802b, cc802c, cc802d⟩ := X1.out.cells
      obtain ⟨cc803a, cc803b⟩ := X2.out.both
      obtain ⟨cc804a, cc804b, cc804c, cc804d⟩ := XL.out.cells
      obtain ⟨cc805a, cc805b, cc805c, cc805d⟩ := XH.out.cells
      obtain ⟨cc806a, cc806b, cc806c, cc806d⟩ := XM.out.cells
      go_wp2_with fail
      have HS := lessq_rtl ((Rtl.mk2 HT1.out HU1.out HD1.out).mono (show k ≤ k + 2 by omega)) (Rtl.mk2 HT7.out HU7.out HD7.out) (by omega) (by have := HK.out; omega)
      by_cases hx : x < med l r
      · rw [decide_eq_true hx] at HS
        replace HS := hid HS
        refine (HS.out).mono ?_
        rintro e w901 ⟨rfl, hb⟩
        replace X1 := nx X1 hb
        replace X2 := bx X2 hb
        replace XL := nx XL hb
        replace XH := nx XH hb
        replace XM := nx XM hb
        replace HT1 := wl HT1 hb
        replace HU1 := wl HU1 hb
        replace HM := wl HM hb
        replace HTl := wl HTl hb
        replace HUl := wl HUl hb
        replace HTh := wl HTh hb
        replace HUh := wl HUh hb
        replace HT7 := wl HT7 hb
        replace HU7 := wl HU7 hb
        replace B := bb B hb
        clear cc802a cc802b cc802c cc802d cc803a cc803b cc804a cc804b cc804c cc804d cc805a cc805b cc805c cc805d cc806a cc806b cc806c cc806d
        clear hb 
        clear HS
        obtain ⟨cc902a, cc902b, cc902c, cc902d⟩ := X1.out.cells
        obtain ⟨cc903a, cc903b⟩ := X2.out.both
        obtain ⟨cc904a, cc904b, cc904c, cc904d⟩ := XL.out.cells
        obtain ⟨cc905a, cc905b, cc905c, cc905d⟩ := XH.out.cells
        obtain ⟨cc906a, cc906b, cc906c, cc906d⟩ := XM.out.cells
        obtain ⟨⟨cc907a, cc907b⟩, ⟨cc907c, cc907d⟩, ⟨cc907e, cc907f⟩, cc907g, cc907h⟩ := XH.out.stores
        obtain ⟨r908a, r908b, r908c⟩ := XH.out.last B.out (by have := LG.out; have := L1.out; have := L2.out; omega) s7a s7b p7a p7b n7a n7b c7a c7b
        replace X1 := hid ((((X1.out.other (g2 := w.heap.size + 1 + 1 + 1) (by have := LG.out; have := L1.out; have := L2.out; omega) 0 (.bool s7a)).other (g2 := w.heap.size + 1 + 1 + 1) (by have := LG.out; have := L1.out; have := L2.out; omega) 1 (.slice p7a n7a c7a)).other (g2 := w.heap.size + 1 + 1 + 1) (by have := LG.out; have := L1.out; have := L2.out; omega) 2 (.bool s7b)).other (g2 := w.heap.size + 1 + 1 + 1) (by have := LG.out; have := L1.out; have := L2.out; omega) 3 (.slice p7b n7b c7b))
        replace X2 := hid ((((X2.out.other (g2 := w.heap.size + 1 + 1 + 1) (by have := LG.out; have := L1.out; have := L2.out; omega) 0 (.bool s7a)).other (g2 := w.heap.size + 1 + 1 + 1) (by have := LG.out; have := L1.out; have := L2.out; omega) 1 (.slice p7a n7a c7a)).other (g2 := w.heap.size + 1 + 1 + 1) (by have := LG.out; have := L1.out; have := L2.out; omega) 2 (.bool s7b)).other (g2 := w.heap.size + 1 + 1 + 1) (by have := LG.out; have := L1.out; have := L2.out; omega) 3 (.slice p7b n7b c7b))
        replace XL := hid ((((XL.out.other (g2 := w.heap.size + 1 + 1 + 1) (by have := LG.out; have := L1.out; have := L2.out; omega) 0 (.bool s7a)).other (g2 := w.heap.size + 1 + 1 + 1) (by have := LG.out; have := L1.out; have := L2.out; omega) 1 (.slice p7a n7a c7a)).other (g2 := w.heap.size + 1 + 1 + 1) (by have := LG.out; have := L1.out; have := L2.out; omega) 2 (.bool s7b)).other (g2 := w.heap.size + 1 + 1 + 1) (by have := LG.out; have := L1.out; have := L2.out; omega) 3 (.slice p7b n7b c7b))
        replace XM := hid ((((XM.out.other (g2 := w.heap.size + 1 + 1 + 1) (by have := LG.out; have := L1.out; have := L2.out; omega) 0 (.bool s7a)).other (g2 := w.heap.size + 1 + 1 + 1) (by have := LG.out; have := L1.out; have := L2.out; omega) 1 (.slice p7a n7a c7a)).other (g2 := w.heap.size + 1 + 1 + 1) (by have := LG.out; have := L1.out; have := L2.out; omega) 2 (.bool s7b)).other (g2 := w.heap.size + 1 + 1 + 1) (by have := LG.out; have := L1.out; have := L2.out; omega) 3 (.slice p7b n7b c7b))
        replace HT1 := hid (r908c HT1.out)
        replace HU1 := hid (r908c HU1.out)
        replace HM := hid (r908c HM.out)
        replace HTl := hid (r908c HTl.out)
        replace HUl := hid (r908c HUl.out)
        replace HTh := hid (r908c HTh.out)
        replace HUh := hid (r908c HUh.out)
        replace HT7 := hid (r908c HT7.out)
        replace HU7 := hid (r908c HU7.out)
        replace XH := hid r908a
        replace B := hid r908b
        clear r908a r908b r908c
        go_wp2_with fail
        have e1 := HAd.out.2.1; have e2 := HI.out; have e3 := l.den_pos; have e4 := r.den_pos
        go_roundg (2 * m - (l.den + (med l r).den))
        case rel => exact ⟨l, med l r, _, _, _, _, _, _, _, _, _, _, _, _, _, _, _, _, _, _, X1, X2, XL, XH, HT1, HU1, HM, HTl, HUl, HDl, HT7, HU7, HD7, hid ⟨HAd.out.2.2.1, e2.2.1, by omega, e2.2.2.2.1, hx, e2.2.2.2.2.2.1, HB.out.2, by omega⟩, B⟩
        case measure => omega
      · rw [decide_eq_false hx] at HS
        replace HS := hid HS
        refine (HS.out).mono ?_
        rintro e w1001 ⟨rfl, hb⟩
        replace X1 := nx X1 hb
        replace X2 := bx X2 hb
        replace XL := nx XL hb
        replace XH := nx XH hb
        replace XM := nx XM hb
        replace HT1 := wl HT1 hb
        replace HU1 := wl HU1 hb
        replace HM := wl HM hb
        replace HTl := wl HTl hb
        replace HUl := wl HUl hb
        replace HTh := wl HTh hb
        replace HUh := wl HUh hb
        replace HT7 := wl HT7 hb
        replace HU7 := wl HU7 hb
        replace B := bb B hb
        clear cc802a cc802b cc802c cc802d cc803a cc803b cc804a cc804b cc804c cc804d cc805a cc805b cc805c cc805d cc806a cc806b cc806c cc806d
        clear hb 
        clear HS
        obtain ⟨cc1002a, cc1002b, cc1002c, cc1002d⟩ := X1.out.cells
        obtain ⟨cc1003a, cc1003b⟩ := X2.out.both
        obtain ⟨cc1004a, cc1004b, cc1004c, cc1004d⟩ := XL.out.cells
        obtain ⟨cc1005a, cc1005b, cc1005c, cc1005d⟩ := XH.out.cells
        obtain ⟨cc1006a, cc1006b, cc1006c, cc1006d⟩ := XM.out.cells
        obtain ⟨⟨cc1007a, cc1007b⟩, ⟨cc1007c, cc1007d⟩, ⟨cc1007e, cc1007f⟩, cc1007g, cc1007h⟩ := XL.out.stores
        obtain ⟨r1008a, r1008b, r1008c⟩ := XL.out.last B.out (by have := LG.out; have := L1.out; have := L2.out; omega) s7a s7b p7a p7b n7a n7b c7a c7b
        replace X1 := hid ((((X1.out.other (g2 := w.heap.size + 1 + 1) (by have := LG.out; have := L1.out; have := L2.out; omega) 0 (.bool s7a)).other (g2 := w.heap.size + 1 + 1) (by have := LG.out; have := L1.out; have := L2.out; omega) 1 (.slice p7a n7a c7a)).other (g2 := w.heap.size + 1 + 1) (by have := LG.out; have := L1.out; have := L2.out; omega) 2 (.bool s7b)).other (g2 := w.heap.size + 1 + 1) (by have := LG.out; have := L1.out; have := L2.out; omega) 3 (.slice p7b n7b c7b))
        replace X2 := hid ((((X2.out.other (g2 := w.heap.size + 1 + 1) (by have := LG.out; have := L1.out; have := L2.out; omega) 0 (.bool s7a)).other (g2 := w.heap.size + 1 + 1) (by have := LG.out; have := L1.out; have := L2.out; omega) 1 (.slice p7a n7a c7a)).other (g2 := w.heap.size + 1 + 1) (by have := LG.out; have := L1.out; have := L2.out; omega) 2 (.bool s7b)).other (g2 := w.heap.size + 1 + 1) (by have := LG.out; have := L1.out; have := L2.out; omega) 3 (.slice p7b n7b c7b))
        replace XH := hid ((((XH.out.other (g2 := w.heap.size + 1 + 1) (by have := LG.out; have := L1.out; have := L2.out; omega) 0 (.bool s7a)).other (g2 := w.heap.size + 1 + 1) (by have := LG.out; have := L1.out; have := L2.out; omega) 1 (.slice p7a n7a c7a)).other (g2 := w.heap.size + 1 + 1) (by have := LG.out; have := L1.out; have := L2.out; omega) 2 (.bool s7b)).other (g2 := w.heap.size + 1 + 1) (by have := LG.out; have := L1.out; have := L2.out; omega) 3 (.slice p7b n7b c7b))
        replace XM := hid ((((XM.out.other (g2 := w.heap.size + 1 + 1) (by have := LG.out; have := L1.out; have := L2.out; omega) 0 (.bool s7a)).other (g2 := w.heap.size + 1 + 1) (by have := LG.out; have := L1.out; have := L2.out; omega) 1 (.slice p7a n7a c7a)).other (g2 := w.heap.size + 1 + 1) (by have := LG.out; have := L1.out; have := L2.out; omega) 2 (.bool s7b)).other (g2 := w.heap.size + 1 + 1) (by have := LG.out; have := L1.out; have := L2.out; omega) 3 (.slice p7b n7b c7b))
        replace HT1 := hid (r1008c HT1.out)
        replace HU1 := hid (r1008c HU1.out)
        replace HM := hid (r1008c HM.out)
        replace HTl := hid (r1008c HTl.out)
        replace HUl := hid (r1008c HUl.out)
        replace HTh := hid (r1008c HTh.out)
        replace HUh := hid (r1008c HUh.out)
        replace HT7 := hid (r1008c HT7.out)
        replace HU7 := hid (r1008c HU7.out)
        replace XL := hid r1008a
        replace B := hid r1008b
        clear r1008a r1008b r1008c
        go_wp2_with fail
        have e1 := HAd.out.2.1; have e2 := HI.out; have e3 := l.den_pos; have e4 := r.den_pos
        go_roundg (2 * m - ((med l r).den + r.den))
        case rel => exact ⟨med l r, r, _, _, _, _, _, _, _, _, _, _, _, _, _, _, _, _, _, _, X1, X2, XL, XH, HT1, HU1, HM, HT7, HU7, HD7, HTh, HUh, HDh, hid ⟨HAd.out.2.2.2, by omega, e2.2.2.1, Rat.not_lt.1 hx, e2.2.2.2.2.1, HB.out.1, e2.2.2.2.2.2.2.1, by omega⟩, B⟩
        case measure => omega

end Go.Proofs.YtjeeepcnaaadmaaGreatDoor

/-
  PACKAGE cf: Near.
-/
namespace Go.Proofs.YtjeeepcnaaadmaaGreatDoor
open Go.RowKit
open Num
set_option linter.unusedVariables false
set_option maxRecDepth 100000
set_option linter.unusedSimpArgs false

/-- What is wrong with a bound. -/
def NearBad (a d : ByteArray) (k : Int) : Prop := BadQ a k ∨ (GoodQ a ∧ Bad d k) ∨ (GoodQ a ∧ Good d ∧ ¬ (1 ≤ num d ∧ num d ≤ 1000) ∧ k = 2)
theorem NearBad.ne {a d : ByteArray} {k : Int} (h : NearBad a d k) : k ≠ 0 := by
  rcases h with h | ⟨_, h⟩ | ⟨_, _, _, rfl⟩
  · exact h.ne
  · exact h.ne
  · decide
def NearTells (a d s : ByteArray) (k : Int) : Prop :=
  (k = 0 ∧ GoodQ a ∧ Good d ∧ (1 ≤ num d ∧ num d ≤ 1000) ∧ ∃ p, Bst (qnum a) (num d) p ∧ s = qtxt p) ∨ (k ≠ 0 ∧ NearBad a d k ∧ s = ⟨#[]⟩)
theorem Rtl.size {w : World} {v : Value} {q : Rat} {k : Nat} (h : Rtl w v q k) (hk : 1 ≤ k) : (qtxt q).size ≤ 20 * k + 5 := by
  have h1 := size_ztxt_k (z := q.num) h.num_lt
  have h2 := size_ztxt_k (z := (q.den : Int)) (k := k) (by have := h.den_lt hk; simpa using this)
  rw [qtxt]
  split
  · omega
  · rw [ByteArray.size_append, ByteArray.size_append]
    have : (⟨#[47]⟩ : ByteArray).size = 1 := rfl
    omega

set_option maxHeartbeats 4000000 in
theorem near_a {a d : ByteArray} {k : Int} (h : BadQ a k) (ha : a.size ≤ maxLen) (w : World) :
    Calls Tryz.prog 39 #[.string a, .string d] w fun e w' => e = .returned (.tuple #[.string ⟨#[]⟩, errno k]) ∧ Below w.heap.size w w' := by
  have hne := errv_neq
  have hkk := errv_some h.ne
  have H1 := hid (qread_bad h w ha)
  have B := hid (Below.refl w.heap.size w)
  clear  h
  go_enter Tryz.func39, Tryz.ntmps39
  go_wp2_with fail
  refine (H1.out).mono ?_
  rintro e w1 ⟨rfl, hb⟩
  replace B := bb B hb
  clear hb H1
  have hb2 := (Below.refl _ _).alloc (Nat.le_refl w1.heap.size) (.cells #[.bool false, .slice none 0 0, .bool false, .slice none 0 0] 83)
  have hx3 := Nbx.new w1 false false (.slice none 0 0) (.slice none 0 0)
  replace B := bb B hb2
  have XQ := hid hx3
  have hs4 : (w1.alloc (.cells #[.bool false, .slice none 0 0, .bool false, .slice none 0 0] 83)).heap.size = w1.heap.size + 1 := by simp
  clear hb2 hx3
  obtain ⟨cc5a, cc5b, cc5c, cc5d⟩ := XQ.out.cells
  go_wp2_with fail
  go_ret2
  exact ⟨rfl, B.out⟩

set_option maxHeartbeats 4000000 in
theorem near_d {a d : ByteArray} {k : Int} (h : GoodQ a) (hd : Bad d k) (hds : d.size ≤ maxLen) (w : World) :
    Calls Tryz.prog 39 #[.string a, .string d] w fun e w' => e = .returned (.tuple #[.string ⟨#[]⟩, errno k]) ∧ Below w.heap.size w w' := by
  have hne := errv_neq
  have H1 := hid (qread_good h w)
  have hkk := errv_some hd.ne
  have H2 := hid (fun w => limit_bad hd hds w)
  have B := hid (Below.refl w.heap.size w)
  clear  h hd
  go_enter Tryz.func39, Tryz.ntmps39
  go_wp2_with fail
  refine (H1.out).mono ?_
  rintro e w1 ⟨v, rfl, hv, hb⟩
  obtain ⟨s1a, p1a, n1a, c1a, s1b, p1b, n1b, c1b, rfl⟩ := hv.opened
  obtain ⟨ht1, d1, hu1, hd1⟩ := hv.two
  have HD1 := hid hd1
  replace B := bb B hb
  have HT1 := hid ht1
  have HU1 := hid hu1
  clear hb hv ht1 hu1 hd1 H1
  have hb2 := (Below.refl _ _).alloc (Nat.le_refl w1.heap.size) (.cells #[.bool s1a, .slice p1a n1a c1a, .bool s1b, .slice p1b n1b c1b] 83)
  have hx3 := Nbx.new w1 s1a s1b (.slice p1a n1a c1a) (.slice p1b n1b c1b)
  replace B := bb B hb2
  have XQ := hid hx3
  have hs4 : (w1.alloc (.cells #[.bool s1a, .slice p1a n1a c1a, .bool s1b, .slice p1b n1b c1b] 83)).heap.size = w1.heap.size + 1 := by simp
  clear hb2 hx3
  obtain ⟨cc5a, cc5b, cc5c, cc5d⟩ := XQ.out.cells
  go_wp2_with fail
  generalize hW : w1.alloc (.cells #[.bool s1a, .slice p1a n1a c1a, .bool s1b, .slice p1b n1b c1b] 83) = W6 at *
  clear hW
  refine (H2.out _).mono ?_
  rintro e w7 ⟨rfl, hb⟩
  replace XQ := nx XQ hb
  replace B := bb B hb
  clear cc5a cc5b cc5c cc5d
  clear hb H2
  have hb8 := (Below.refl _ _).alloc (Nat.le_refl w7.heap.size) (.cells #[.bool false, .slice none 0 0] 81)
  have hx9 := Box.new w7 false none 0 0
  have L0 := hid XQ.out.lt
  replace XQ := nx XQ hb8
  replace B := bb B hb8
  have XM := hid hx9
  have hs10 : (w7.alloc (.cells #[.bool false, .slice none 0 0] 81)).heap.size = w7.heap.size + 1 := by simp
  clear hb8 hx9
  obtain ⟨cc11a, cc11b, cc11c, cc11d⟩ := XQ.out.cells
  obtain ⟨cc12a, cc12b⟩ := XM.out.both
  go_wp2_with fail
  go_ret2
  exact ⟨rfl, B.out⟩

set_option maxHeartbeats 4000000 in
theorem near_r {a d : ByteArray} (h : GoodQ a) (hd : Good d) (hr : ¬ (1 ≤ num d ∧ num d ≤ 1000)) (w : World) :
    Calls Tryz.prog 39 #[.string a, .string d] w fun e w' => e = .returned (.tuple #[.string ⟨#[]⟩, errno 2]) ∧ Below w.heap.size w w' := by
  have hne := errv_neq
  have H1 := hid (qread_good h w)
  have H2 := hid (show ∀ w, Calls Tryz.prog 75 #[.string d] w fun e w' => e = .returned (.tuple #[.agg #[.bool false, .slice none 0 0], errno 2]) ∧ Below w.heap.size w w' from fun w => by
    by_cases h0 : num d < 1
    · exact limit_small hd h0 w
    · exact limit_great hd (by omega) w)
  have B := hid (Below.refl w.heap.size w)
  clear  h hd hr
  go_enter Tryz.func39, Tryz.ntmps39
  go_wp2_with fail
  refine (H1.out).mono ?_
  rintro e w1 ⟨v, rfl, hv, hb⟩
  obtain ⟨s1a, p1a, n1a, c1a, s1b, p1b, n1b, c1b, rfl⟩ := hv.opened
  obtain ⟨ht1, d1, hu1, hd1⟩ := hv.two
  have HD1 := hid hd1
  replace B := bb B hb
  have HT1 := hid ht1
  have HU1 := hid hu1
  clear hb hv ht1 hu1 hd1 H1
  have hb2 := (Below.refl _ _).alloc (Nat.le_refl w1.heap.size) (.cells #[.bool s1a, .slice p1a n1a c1a, .bool s1b, .slice p1b n1b c1b] 83)
  have hx3 := Nbx.new w1 s1a s1b (.slice p1a n1a c1a) (.slice p1b n1b c1b)
  replace B := bb B hb2
  have XQ := hid hx3
  have hs4 : (w1.alloc (.cells #[.bool s1a, .slice p1a n1a c1a, .bool s1b, .slice p1b n1b c1b] 83)).heap.size = w1.heap.size + 1 := by simp
  clear hb2 hx3
  obtain ⟨cc5a, cc5b, cc5c, cc5d⟩ := XQ.out.cells
  go_wp2_with fail
  generalize hW : w1.alloc (.cells #[.bool s1a, .slice p1a n1a c1a, .bool s1b, .slice p1b n1b c1b] 83) = W6 at *
  clear hW
  refine (H2.out _).mono ?_
  rintro e w7 ⟨rfl, hb⟩
  replace XQ := nx XQ hb
  replace B := bb B hb
  clear cc5a cc5b cc5c cc5d
  clear hb H2
  have hb8 := (Below.refl _ _).alloc (Nat.le_refl w7.heap.size) (.cells #[.bool false, .slice none 0 0] 81)
  have hx9 := Box.new w7 false none 0 0
  have L0 := hid XQ.out.lt
  replace XQ := nx XQ hb8
  replace B := bb B hb8
  have XM := hid hx9
  have hs10 : (w7.alloc (.cells #[.bool false, .slice none 0 0] 81)).heap.size = w7.heap.size + 1 := by simp
  clear hb8 hx9
  obtain ⟨cc11a, cc11b, cc11c, cc11d⟩ := XQ.out.cells
  obtain ⟨cc12a, cc12b⟩ := XM.out.both
  go_wp2_with fail
  go_ret2
  exact ⟨rfl, B.out⟩

set_option maxHeartbeats 4000000 in
theorem near_ok {a d : ByteArray} (h : GoodQ a) (hd : Good d) (hr : 1 ≤ num d ∧ num d ≤ 1000) (w : World) :
    Calls Tryz.prog 39 #[.string a, .string d] w fun e w' => ∃ p, e = .returned (.tuple #[.string (qtxt p), .nilIface]) ∧ Bst (qnum a) (num d) p ∧ (qtxt p).size ≤ maxLen ∧ Below w.heap.size w w' := by
  have H1 := hid (qread_good h w)
  have H2 := hid (fun w => limit_ok hd hr w)
  have HR := hid hr
  have B := hid (Below.refl w.heap.size w)
  clear  h hd hr
  go_enter Tryz.func39, Tryz.ntmps39
  go_wp2_with fail
  refine (H1.out).mono ?_
  rintro e w1 ⟨v, rfl, hv, hb⟩
  obtain ⟨s1a, p1a, n1a, c1a, s1b, p1b, n1b, c1b, rfl⟩ := hv.opened
  obtain ⟨ht1, d1, hu1, hd1⟩ := hv.two
  have HD1 := hid hd1
  replace B := bb B hb
  have HT1 := hid ht1
  have HU1 := hid hu1
  clear hb hv ht1 hu1 hd1 H1
  have hb2 := (Below.refl _ _).alloc (Nat.le_refl w1.heap.size) (.cells #[.bool s1a, .slice p1a n1a c1a, .bool s1b, .slice p1b n1b c1b] 83)
  have hx3 := Nbx.new w1 s1a s1b (.slice p1a n1a c1a) (.slice p1b n1b c1b)
  replace HT1 := wl HT1 hb2
  replace HU1 := wl HU1 hb2
  replace B := bb B hb2
  have XQ := hid hx3
  have hs4 : (w1.alloc (.cells #[.bool s1a, .slice p1a n1a c1a, .bool s1b, .slice p1b n1b c1b] 83)).heap.size = w1.heap.size + 1 := by simp
  clear hb2 hx3
  obtain ⟨cc5a, cc5b, cc5c, cc5d⟩ := XQ.out.cells
  go_wp2_with fail
  generalize hW : w1.alloc (.cells #[.bool s1a, .slice p1a n1a c1a, .bool s1b, .slice p1b n1b c1b] 83) = W6 at *
  clear hW
  refine (H2.out _).mono ?_
  rintro e w7 ⟨v, rfl, hv, hb⟩
  obtain ⟨s2, p2, n2, c2, rfl⟩ := hv.opened
  replace XQ := nx XQ hb
  replace HT1 := wl HT1 hb
  replace HU1 := wl HU1 hb
  replace B := bb B hb
  clear cc5a cc5b cc5c cc5d
  have HM := hid hv
  clear hb hv H2
  have hb8 := (Below.refl _ _).alloc (Nat.le_refl w7.heap.size) (.cells #[.bool s2, .slice p2 n2 c2] 81)
  have hx9 := Box.new w7 s2 p2 n2 c2
  have L0 := hid XQ.out.lt
  replace XQ := nx XQ hb8
  replace HT1 := wl HT1 hb8
  replace HU1 := wl HU1 hb8
  replace HM := wl HM hb8
  replace B := bb B hb8
  have XM := hid hx9
  have hs10 : (w7.alloc (.cells #[.bool s2, .slice p2 n2 c2] 81)).heap.size = w7.heap.size + 1 := by simp
  clear hb8 hx9
  obtain ⟨cc11a, cc11b, cc11c, cc11d⟩ := XQ.out.cells
  obtain ⟨cc12a, cc12b⟩ := XM.out.both
  go_wp2_with fail
  generalize hW : w7.alloc (.cells #[.bool s2, .slice p2 n2 c2] 81) = W13 at *
  clear hW
  refine (neighbours_rtl (Rtl.mk2 HT1.out HU1.out HD1.out) HM.out (by decide) (by decide) HR.out).mono ?_
  rintro e w14 ⟨v, u, l, r, rfl, hv, hu, hI, hb⟩
  have HI := hid hI
  obtain ⟨s5a, p5a, n5a, c5a, s5b, p5b, n5b, c5b, rfl⟩ := hv.opened
  obtain ⟨ht5, d5, hu5, hd5⟩ := hv.two
  have HD5 := hid hd5
  obtain ⟨s6a, p6a, n6a, c6a, s6b, p6b, n6b, c6b, rfl⟩ := hu.opened
  obtain ⟨ht6, d6, hu6, hd6⟩ := hu.two
  have HD6 := hid hd6
  replace XQ := nx XQ hb
  replace HT1 := wl HT1 hb
  replace HU1 := wl HU1 hb
  replace B := bb B hb
  clear cc11a cc11b cc11c cc11d cc12a cc12b
  have HT5 := hid ht5
  have HU5 := hid hu5
  have HT6 := hid ht6
  have HU6 := hid hu6
  clear hb hv ht5 hu5 hd5 hI hu ht6 hu6 hd6
  have hb15 := (Below.refl _ _).alloc (Nat.le_refl w14.heap.size) (.cells #[.bool s5a, .slice p5a n5a c5a, .bool s5b, .slice p5b n5b c5b] 83)
  have hx16 := Nbx.new w14 s5a s5b (.slice p5a n5a c5a) (.slice p5b n5b c5b)
  have L1 := hid XQ.out.lt
  replace XQ := nx XQ hb15
  replace HT1 := wl HT1 hb15
  replace HU1 := wl HU1 hb15
  replace HT5 := wl HT5 hb15
  replace HU5 := wl HU5 hb15
  replace HT6 := wl HT6 hb15
  replace HU6 := wl HU6 hb15
  replace B := bb B hb15
  have XL := hid hx16
  have hs17 : (w14.alloc (.cells #[.bool s5a, .slice p5a n5a c5a, .bool s5b, .slice p5b n5b c5b] 83)).heap.size = w14.heap.size + 1 := by simp
  clear hb15 hx16
  have hb18 := (Below.refl _ _).alloc (Nat.le_refl (w14.alloc (.cells #[.bool s5a, .slice p5a n5a c5a, .bool s5b, .slice p5b n5b c5b] 83)).heap.size) (.cells #[.bool s6a, .slice p6a n6a c6a, .bool s6b, .slice p6b n6b c6b] 83)
  have hx19 := Nbx.new (w14.alloc (.cells #[.bool s5a, .slice p5a n5a c5a, .bool s5b, .slice p5b n5b c5b] 83)) s6a s6b (.slice p6a n6a c6a) (.slice p6b n6b c6b)
  rw [hs17] at hx19
  replace XQ := nx XQ hb18
  replace XL := nx XL hb18
  replace HT1 := wl HT1 hb18
  replace HU1 := wl HU1 hb18
  replace HT5 := wl HT5 hb18
  replace HU5 := wl HU5 hb18
  replace HT6 := wl HT6 hb18
  replace HU6 := wl HU6 hb18
  replace B := bb B hb18
  have XH := hid hx19
  have hs20 : ((w14.alloc (.cells #[.bool s5a, .slice p5a n5a c5a, .bool s5b, .slice p5b n5b c5b] 83)).alloc (.cells #[.bool s6a, .slice p6a n6a c6a, .bool s6b, .slice p6b n6b c6b] 83)).heap.size = w14.heap.size + 1 + 1 := by simp [hs17]
  clear hb18 hx19
  obtain ⟨cc21a, cc21b, cc21c, cc21d⟩ := XQ.out.cells
  obtain ⟨cc22a, cc22b, cc22c, cc22d⟩ := XL.out.cells
  obtain ⟨cc23a, cc23b, cc23c, cc23d⟩ := XH.out.cells
  go_wp2_with fail
  generalize hW : (w14.alloc (.cells #[.bool s5a, .slice p5a n5a c5a, .bool s5b, .slice p5b n5b c5b] 83)).alloc (.cells #[.bool s6a, .slice p6a n6a c6a, .bool s6b, .slice p6b n6b c6b] 83) = W24 at *
  clear hW
  refine (nearer_rtl ((Rtl.mk2 HT1.out HU1.out HD1.out).mono (show 100 ≤ 102 by decide)) (Rtl.mk2 HT5.out HU5.out HD5.out) (Rtl.mk2 HT6.out HU6.out HD6.out) (by decide) (by decide)).mono ?_
  rintro e w25 ⟨v, rfl, hv, hb⟩
  have HZ := hid (show (qtxt (nrq (qnum a) l r)).size ≤ maxLen from by have := hv.size (by decide); unfold maxLen; omega)
  obtain ⟨s7a, p7a, n7a, c7a, s7b, p7b, n7b, c7b, rfl⟩ := hv.opened
  obtain ⟨ht7, d7, hu7, hd7⟩ := hv.two
  have HD7 := hid hd7
  replace B := bb B hb
  clear cc21a cc21b cc21c cc21d cc22a cc22b cc22c cc22d cc23a cc23b cc23c cc23d
  have HT7 := hid ht7
  have HU7 := hid hu7
  clear hb hv ht7 hu7 hd7
  go_wp2_with fail
  refine (qstring (Rtl.mk2 HT7.out HU7.out HD7.out) (by decide)).mono ?_
  rintro e w26 ⟨rfl, hb⟩
  replace B := bb B hb
  clear hb 
  go_wp2_with fail
  go_ret2
  obtain ⟨i1, i2, i3, i4, i5, i6⟩ := HI.out
  exact ⟨_, rfl, nrq_best i1 i2 i3 i4 i5 i6, HZ.out, B.out⟩

theorem near_any (a d : ByteArray) (ha : a.size ≤ maxLen) (hd : d.size ≤ maxLen) (w : World) :
    Calls Tryz.prog 39 #[.string a, .string d] w fun e w' => ∃ s k, e = .returned (.tuple #[.string s, errv k]) ∧ NearTells a d s k ∧ s.size ≤ maxLen ∧ Below w.heap.size w w' := by
  rcases goodQ_or_bad a with h | ⟨k, h⟩
  · rcases good_or_bad d with h2 | ⟨k, h2⟩
    · by_cases hr : 1 ≤ num d ∧ num d ≤ 1000
      · refine (near_ok h h2 hr w).mono ?_
        rintro e w' ⟨p, rfl, hp, hs, hb⟩
        exact ⟨_, 0, rfl, .inl ⟨rfl, h, h2, hr, p, hp, rfl⟩, hs, hb⟩
      · refine (near_r h h2 hr w).mono ?_
        rintro e w' ⟨rfl, hb⟩
        exact ⟨_, 2, by rw [errv_some (by decide)], .inr ⟨by decide, .inr (.inr ⟨h, h2, hr, rfl⟩), rfl⟩, Nat.zero_le _, hb⟩
    · refine (near_d h h2 hd w).mono ?_
      rintro e w' ⟨rfl, hb⟩
      exact ⟨_, k, by rw [errv_some h2.ne], .inr ⟨h2.ne, .inr (.inl ⟨h, h2⟩), rfl⟩, Nat.zero_le _, hb⟩
  · refine (near_a h ha w).mono ?_
    rintro e w' ⟨rfl, hb⟩
    exact ⟨_, k, by rw [errv_some h.ne], .inr ⟨h.ne, .inl h, rfl⟩, Nat.zero_le _, hb⟩

end Go.Proofs.YtjeeepcnaaadmaaGreatDoor
