/-
  PACKAGE rat: String, Quotient.
-/
import Derived.Test.YtjeeepcnaaadmaaRatParts
import Derived.Test.YtjeeepcnaaadmaaWholeAny
namespace Go.Proofs.Ytjeeepcnaaadmaa
open Go.RowKit
open Num
set_option linter.unusedVariables false
set_option maxRecDepth 100000
set_option linter.unusedSimpArgs false

/-- The text of a fraction. -/
def qtxt (q : Rat) : ByteArray := if q.den = 1 then ztxt q.num else ztxt q.num ++ ⟨#[47]⟩ ++ ztxt q.den
theorem size_ztxt_k {z : Int} {k : Nat} (h : z.natAbs < B ^ k) : (ztxt z).size ≤ 10 * k + 2 := by
  refine size_ztxt_le (k := 10 * k + 1) (Nat.lt_of_lt_of_le h ?_) (by omega)
  refine Nat.le_trans (Nat.pow_le_pow_left (show B ≤ 10 ^ 10 by decide) _) ?_
  rw [← Nat.pow_mul]
  exact Nat.pow_le_pow_right (by omega) (by omega)
theorem den_ne (q : Rat) : (q.den : Int) ≠ 0 := by have := q.den_pos; omega
theorem add_parts (q r : Rat) : q + r = Rat.divInt (q.num * r.den + r.num * q.den) (q.den * r.den) := by
  have h := Rat.divInt_add_divInt q.num r.num (den_ne q) (den_ne r)
  rwa [Rat.num_divInt_den, Rat.num_divInt_den] at h
theorem mul_parts (q r : Rat) : q * r = Rat.divInt (q.num * r.num) (q.den * r.den) := by
  have h := Rat.divInt_mul_divInt q.num r.num (d₁ := q.den) (d₂ := r.den)
  rwa [Rat.num_divInt_den, Rat.num_divInt_den] at h
theorem div_parts (q r : Rat) : q / r = Rat.divInt (q.num * r.den) (q.den * r.num) := by
  rw [Rat.div_def, Rat.inv_def]
  have h := Rat.divInt_mul_divInt q.num r.den (d₁ := q.den) (d₂ := r.num)
  rwa [Rat.num_divInt_den] at h

set_option maxHeartbeats 1000000 in
theorem qstring_one {w : World} {v : Value} {q : Rat} {k : Nat} (h : Rtl w v q k) (hk : k ≤ 4294967296) (hl : q.den = 1) :
    Calls Try.prog 35 #[v] w fun e w' => e = .returned (.string (qtxt q)) ∧ Below w.heap.size w w' := by
  obtain ⟨s1a, p1a, n1a, c1a, s1b, p1b, n1b, c1b, rfl⟩ := h.opened
  obtain ⟨ht1, d1, hu1, hd1⟩ := h.two
  have HD1 := hid hd1
  have HK := hid hk
  have hs1 := size_ztxt_k ht1.lt
  have hs2 : (ztxt q.num).size ≤ 42949672962 := by omega
  have HL := hid hl
  have hd : decide (1 < d1) = false := by apply decide_eq_false; rcases hd1 with e | ⟨e, _⟩ <;> omega
  have B := hid (Below.refl w.heap.size w)
  have HT := hid ht1
  have HU := hid hu1
  have hb1 := (Below.refl _ _).alloc (Nat.le_refl w.heap.size) (.cells #[.bool s1a, .slice p1a n1a c1a, .bool s1b, .slice p1b n1b c1b] 51)
  have hx2 := Nbx.new w s1a s1b (.slice p1a n1a c1a) (.slice p1b n1b c1b)
  replace HT := wl HT hb1
  replace HU := wl HU hb1
  replace B := bb B hb1
  have XQ := hid hx2
  have hs3 : (w.alloc (.cells #[.bool s1a, .slice p1a n1a c1a, .bool s1b, .slice p1b n1b c1b] 51)).heap.size = w.heap.size + 1 := by simp
  clear hb1 hx2
  clear hs3 h ht1 hu1 hk hd1 hs1 hl
  go_enter Try.func35, Try.ntmps35
  obtain ⟨cc4a, cc4b, cc4c, cc4d⟩ := XQ.out.cells
  go_wp2_with fail
  generalize hW : w.alloc (.cells #[.bool s1a, .slice p1a n1a c1a, .bool s1b, .slice p1b n1b c1b] 51) = W5 at *
  clear hW
  have HM := more_whl HU.out (by have := HK.out; omega)
  rw [hd] at HM
  refine (HM).mono ?_
  rintro e w6 ⟨rfl, hb⟩
  replace XQ := nx XQ hb
  replace HT := wl HT hb
  replace B := bb B hb
  clear cc4a cc4b cc4c cc4d
  clear hb 
  clear HM hd
  obtain ⟨cc7a, cc7b, cc7c, cc7d⟩ := XQ.out.cells
  go_wp2_with fail
  refine (string_whl HT.out (by have := HK.out; omega)).mono ?_
  rintro e w8 ⟨rfl, hb⟩
  replace B := bb B hb
  clear cc7a cc7b cc7c cc7d
  clear hb 
  go_wp2_with fail
  go_ret
  exact ⟨by rw [qtxt, if_pos HL.out]; rfl, B.out⟩

set_option maxHeartbeats 1000000 in
theorem qstring_two {w : World} {v : Value} {q : Rat} {k : Nat} (h : Rtl w v q k) (hk : k ≤ 4294967296) (hl : ¬ q.den = 1) :
    Calls Try.prog 35 #[v] w fun e w' => e = .returned (.string (qtxt q)) ∧ Below w.heap.size w w' := by
  obtain ⟨s1a, p1a, n1a, c1a, s1b, p1b, n1b, c1b, rfl⟩ := h.opened
  obtain ⟨ht1, d1, hu1, hd1⟩ := h.two
  have HD1 := hid hd1
  have HK := hid hk
  have hs1 := size_ztxt_k ht1.lt
  have hs2 : (ztxt q.num).size ≤ 42949672962 := by omega
  have HL := hid hl
  have hd : d1 = q.den := by rcases hd1 with e | ⟨_, e⟩; exact e; exact absurd e hl
  subst hd
  have hd : decide ((1 : Int) < q.den) = true := by apply decide_eq_true; have := q.den_pos; omega
  have hs3 := size_ztxt_k hu1.lt
  have hs4 : (ztxt (q.den : Int)).size ≤ 42949672962 := by omega
  have hs5 : (⟨#[47]⟩ : ByteArray).size = 1 := rfl
  have hs6 : (ztxt q.num ++ ⟨#[47]⟩).size ≤ 42949672963 := by rw [ByteArray.size_append]; omega
  have hj1 : ¬ 9223372036854775807 < (ztxt q.num).size + 1 := by omega
  have hj2 : ¬ 9223372036854775807 < (ztxt q.num).size + 1 + (ztxt (q.den : Int)).size := by omega
  clear hs2 hs3 hs4 hs5 hs6
  have B := hid (Below.refl w.heap.size w)
  have HT := hid ht1
  have HU := hid hu1
  have hb1 := (Below.refl _ _).alloc (Nat.le_refl w.heap.size) (.cells #[.bool s1a, .slice p1a n1a c1a, .bool s1b, .slice p1b n1b c1b] 51)
  have hx2 := Nbx.new w s1a s1b (.slice p1a n1a c1a) (.slice p1b n1b c1b)
  replace HT := wl HT hb1
  replace HU := wl HU hb1
  replace B := bb B hb1
  have XQ := hid hx2
  have hs3 : (w.alloc (.cells #[.bool s1a, .slice p1a n1a c1a, .bool s1b, .slice p1b n1b c1b] 51)).heap.size = w.heap.size + 1 := by simp
  clear hb1 hx2
  clear hs3 h ht1 hu1 hk hd1 hs1 hl HD1
  go_enter Try.func35, Try.ntmps35
  obtain ⟨cc4a, cc4b, cc4c, cc4d⟩ := XQ.out.cells
  go_wp2_with fail
  generalize hW : w.alloc (.cells #[.bool s1a, .slice p1a n1a c1a, .bool s1b, .slice p1b n1b c1b] 51) = W5 at *
  clear hW
  have HM := more_whl HU.out (by have := HK.out; omega)
  rw [hd] at HM
  refine (HM).mono ?_
  rintro e w6 ⟨rfl, hb⟩
  replace XQ := nx XQ hb
  replace HT := wl HT hb
  replace HU := wl HU hb
  replace B := bb B hb
  clear cc4a cc4b cc4c cc4d
  clear hb 
  clear HM hd
  obtain ⟨cc7a, cc7b, cc7c, cc7d⟩ := XQ.out.cells
  go_wp2_with fail
  obtain ⟨cc8a, cc8b, cc8c, cc8d⟩ := XQ.out.cells
  replace XQ := hid XQ.out.dr
  replace HT := hid HT.out.drew
  replace HU := hid HU.out.drew
  replace B := hid (Below.drew B.out)
  obtain ⟨cc9a, cc9b, cc9c, cc9d⟩ := XQ.out.cells
  go_region_held3 (fun w' => w'.cell? ⟨w.heap.size, 0, none⟩ = some (.bool s1a) ∧ w'.cell? ⟨w.heap.size, 1, none⟩ = some (.slice p1a n1a c1a) ∧ w'.cell? ⟨w.heap.size, 2, none⟩ = some (.bool s1b) ∧ w'.cell? ⟨w.heap.size, 3, none⟩ = some (.slice p1b n1b c1b)) (go_keep) (first
    | (have hm := mk10_0; clear hm; go_at_call 38; refine (string_whl HU.out (by have := HK.out; omega)).mono ?_; rintro e w13 ⟨rfl, hb⟩; replace XQ := nx XQ hb; replace B := bb B hb; clear cc12a cc12b cc12c cc12d; clear hb ; obtain ⟨cc14a, cc14b, cc14c, cc14d⟩ := XQ.out.cells; have mk10_1 := hid True.intro)
    | (go_at_call 38; refine (string_whl HT.out (by have := HK.out; omega)).mono ?_; rintro e w11 ⟨rfl, hb⟩; replace XQ := nx XQ hb; replace HU := wl HU hb; replace B := bb B hb; clear cc7a cc7b cc7c cc7d cc8a cc8b cc8c cc8d cc9a cc9b cc9c cc9d; clear hb ; obtain ⟨cc12a, cc12b, cc12c, cc12d⟩ := XQ.out.cells; have mk10_0 := hid True.intro))
  go_wp2_with fail
  go_ret
  exact ⟨by rw [qtxt, if_neg HL.out]; rfl, B.out⟩

theorem qstring {w : World} {v : Value} {q : Rat} {k : Nat} (h : Rtl w v q k) (hk : k ≤ 4294967296) :
    Calls Try.prog 35 #[v] w fun e w' => e = .returned (.string (qtxt q)) ∧ Below w.heap.size w w' := by
  by_cases hl : q.den = 1
  · exact qstring_one h hk hl
  · exact qstring_two h hk hl

set_option maxHeartbeats 1000000 in
theorem quot_zero {w : World} {v u : Value} {z y : Int} {k : Nat} (h : Whl w v z k) (h' : Whl w u y k) (hy : y = 0) (hk : k ≤ 549755813888) :
    Calls Try.prog 44 #[v, u] w fun e w' => e = .returned (.tuple #[.agg #[.bool false, .slice none 0 0, .bool false, .slice none 0 0], errno 5]) ∧ Below w.heap.size w w' := by
  obtain ⟨s1, p1, n1, c1, rfl⟩ := h.opened
  obtain ⟨s2, p2, n2, c2, rfl⟩ := h'.opened
  have HK := hid hk
  subst hy
  have YG : (0 : Int).sign = 0 := rfl
  have B := hid (Below.refl w.heap.size w)
  have HZ := hid h
  have HY := hid h'
  have hb1 := (Below.refl _ _).alloc (Nat.le_refl w.heap.size) (.cells #[.bool s1, .slice p1 n1 c1] 49)
  have hx2 := Box.new w s1 p1 n1 c1
  replace HZ := wl HZ hb1
  replace HY := wl HY hb1
  replace B := bb B hb1
  have X1 := hid hx2
  have hs3 : (w.alloc (.cells #[.bool s1, .slice p1 n1 c1] 49)).heap.size = w.heap.size + 1 := by simp
  clear hb1 hx2
  have hb4 := (Below.refl _ _).alloc (Nat.le_refl (w.alloc (.cells #[.bool s1, .slice p1 n1 c1] 49)).heap.size) (.cells #[.bool s2, .slice p2 n2 c2] 49)
  have hx5 := Box.new (w.alloc (.cells #[.bool s1, .slice p1 n1 c1] 49)) s2 p2 n2 c2
  rw [hs3] at hx5
  replace X1 := bx X1 hb4
  replace HZ := wl HZ hb4
  replace HY := wl HY hb4
  replace B := bb B hb4
  have X2 := hid hx5
  have hs6 : ((w.alloc (.cells #[.bool s1, .slice p1 n1 c1] 49)).alloc (.cells #[.bool s2, .slice p2 n2 c2] 49)).heap.size = w.heap.size + 1 + 1 := by simp [hs3]
  clear hb4 hx5
  have hb7 := (Below.refl _ _).alloc (Nat.le_refl ((w.alloc (.cells #[.bool s1, .slice p1 n1 c1] 49)).alloc (.cells #[.bool s2, .slice p2 n2 c2] 49)).heap.size) (.cells #[.bool false, .slice none 0 0, .bool false, .slice none 0 0] 51)
  have hx8 := Nbx.new ((w.alloc (.cells #[.bool s1, .slice p1 n1 c1] 49)).alloc (.cells #[.bool s2, .slice p2 n2 c2] 49)) false false (.slice none 0 0) (.slice none 0 0)
  rw [hs6] at hx8
  replace X1 := bx X1 hb7
  replace X2 := bx X2 hb7
  replace HZ := wl HZ hb7
  replace HY := wl HY hb7
  replace B := bb B hb7
  have XQ := hid hx8
  have hs9 : (((w.alloc (.cells #[.bool s1, .slice p1 n1 c1] 49)).alloc (.cells #[.bool s2, .slice p2 n2 c2] 49)).alloc (.cells #[.bool false, .slice none 0 0, .bool false, .slice none 0 0] 51)).heap.size = w.heap.size + 1 + 1 + 1 := by simp [hs6]
  clear hb7 hx8
  clear hs9 h h' hk
  go_enter Try.func44, Try.ntmps44
  obtain ⟨cc10a, cc10b⟩ := X1.out.both
  obtain ⟨cc11a, cc11b⟩ := X2.out.both
  obtain ⟨cc12a, cc12b, cc12c, cc12d⟩ := XQ.out.cells
  go_wp2_with fail
  generalize hW : ((w.alloc (.cells #[.bool s1, .slice p1 n1 c1] 49)).alloc (.cells #[.bool s2, .slice p2 n2 c2] 49)).alloc (.cells #[.bool false, .slice none 0 0, .bool false, .slice none 0 0] 51) = W13 at *
  clear hW
  have HS := sgn_whl HY.out
  rw [YG] at HS
  refine (HS).mono ?_
  rintro e w14 ⟨rfl, hb⟩
  replace X1 := bx X1 hb
  replace X2 := bx X2 hb
  replace XQ := nx XQ hb
  replace HZ := wl HZ hb
  replace HY := wl HY hb
  replace B := bb B hb
  clear cc10a cc10b cc11a cc11b cc12a cc12b cc12c cc12d
  clear hb 
  clear HS
  obtain ⟨cc15a, cc15b⟩ := X1.out.both
  obtain ⟨cc16a, cc16b⟩ := X2.out.both
  obtain ⟨cc17a, cc17b, cc17c, cc17d⟩ := XQ.out.cells
  obtain ⟨⟨cc18a, cc18b⟩, ⟨cc18c, cc18d⟩, ⟨cc18e, cc18f⟩, cc18g, cc18h⟩ := XQ.out.stores
  obtain ⟨r19a, r19b, r19c⟩ := XQ.out.last B.out (by omega) false false none none 0 0 0 0
  replace X1 := hid ((((X1.out.other (g2 := w.heap.size + 1 + 1) (by omega) 0 (.bool false)).other (g2 := w.heap.size + 1 + 1) (by omega) 1 (.slice none 0 0)).other (g2 := w.heap.size + 1 + 1) (by omega) 2 (.bool false)).other (g2 := w.heap.size + 1 + 1) (by omega) 3 (.slice none 0 0))
  replace X2 := hid ((((X2.out.other (g2 := w.heap.size + 1 + 1) (by omega) 0 (.bool false)).other (g2 := w.heap.size + 1 + 1) (by omega) 1 (.slice none 0 0)).other (g2 := w.heap.size + 1 + 1) (by omega) 2 (.bool false)).other (g2 := w.heap.size + 1 + 1) (by omega) 3 (.slice none 0 0))
  replace HZ := hid (r19c HZ.out)
  replace HY := hid (r19c HY.out)
  replace XQ := hid r19a
  replace B := hid r19b
  clear r19a r19b r19c
  go_wp2_with fail
  refine bodyPost_ret (res_num_tmp rfl rfl rfl XQ.out) rfl ?_
  exact ⟨rfl, B.out⟩

set_option maxHeartbeats 1000000 in
theorem quot_some {w : World} {v u : Value} {z y : Int} {k : Nat} (h : Whl w v z k) (h' : Whl w u y k) (hy : y ≠ 0) (hk : k ≤ 549755813888) :
    Calls Try.prog 44 #[v, u] w fun e w' => ∃ v, e = .returned (.tuple #[v, .nilIface]) ∧ Rtl w' v (Rat.divInt z y) k ∧ Below w.heap.size w w' := by
  obtain ⟨s1, p1, n1, c1, rfl⟩ := h.opened
  obtain ⟨s2, p2, n2, c2, rfl⟩ := h'.opened
  have HK := hid hk
  have HY0 := hid hy
  have B := hid (Below.refl w.heap.size w)
  have HZ := hid h
  have HY := hid h'
  have hb1 := (Below.refl _ _).alloc (Nat.le_refl w.heap.size) (.cells #[.bool s1, .slice p1 n1 c1] 49)
  have hx2 := Box.new w s1 p1 n1 c1
  replace HZ := wl HZ hb1
  replace HY := wl HY hb1
  replace B := bb B hb1
  have X1 := hid hx2
  have hs3 : (w.alloc (.cells #[.bool s1, .slice p1 n1 c1] 49)).heap.size = w.heap.size + 1 := by simp
  clear hb1 hx2
  have hb4 := (Below.refl _ _).alloc (Nat.le_refl (w.alloc (.cells #[.bool s1, .slice p1 n1 c1] 49)).heap.size) (.cells #[.bool s2, .slice p2 n2 c2] 49)
  have hx5 := Box.new (w.alloc (.cells #[.bool s1, .slice p1 n1 c1] 49)) s2 p2 n2 c2
  rw [hs3] at hx5
  replace X1 := bx X1 hb4
  replace HZ := wl HZ hb4
  replace HY := wl HY hb4
  replace B := bb B hb4
  have X2 := hid hx5
  have hs6 : ((w.alloc (.cells #[.bool s1, .slice p1 n1 c1] 49)).alloc (.cells #[.bool s2, .slice p2 n2 c2] 49)).heap.size = w.heap.size + 1 + 1 := by simp [hs3]
  clear hb4 hx5
  have hb7 := (Below.refl _ _).alloc (Nat.le_refl ((w.alloc (.cells #[.bool s1, .slice p1 n1 c1] 49)).alloc (.cells #[.bool s2, .slice p2 n2 c2] 49)).heap.size) (.cells #[.bool false, .slice none 0 0, .bool false, .slice none 0 0] 51)
  have hx8 := Nbx.new ((w.alloc (.cells #[.bool s1, .slice p1 n1 c1] 49)).alloc (.cells #[.bool s2, .slice p2 n2 c2] 49)) false false (.slice none 0 0) (.slice none 0 0)
  rw [hs6] at hx8
  replace X1 := bx X1 hb7
  replace X2 := bx X2 hb7
  replace HZ := wl HZ hb7
  replace HY := wl HY hb7
  replace B := bb B hb7
  have XQ := hid hx8
  have hs9 : (((w.alloc (.cells #[.bool s1, .slice p1 n1 c1] 49)).alloc (.cells #[.bool s2, .slice p2 n2 c2] 49)).alloc (.cells #[.bool false, .slice none 0 0, .bool false, .slice none 0 0] 51)).heap.size = w.heap.size + 1 + 1 + 1 := by simp [hs6]
  clear hb7 hx8
  clear hs9 h h' hk hy
  go_enter Try.func44, Try.ntmps44
  obtain ⟨cc10a, cc10b⟩ := X1.out.both
  obtain ⟨cc11a, cc11b⟩ := X2.out.both
  obtain ⟨cc12a, cc12b, cc12c, cc12d⟩ := XQ.out.cells
  go_wp2_with fail
  generalize hW : ((w.alloc (.cells #[.bool s1, .slice p1 n1 c1] 49)).alloc (.cells #[.bool s2, .slice p2 n2 c2] 49)).alloc (.cells #[.bool false, .slice none 0 0, .bool false, .slice none 0 0] 51) = W13 at *
  clear hW
  have HS := sgn_whl HY.out
  have hne : (y.sign == 0) = false := by rw [beq_eq_false_iff_ne]; intro e; exact HY0.out (Int.sign_eq_zero_iff_zero.1 e)
  refine (HS).mono ?_
  rintro e w14 ⟨rfl, hb⟩
  replace X1 := bx X1 hb
  replace X2 := bx X2 hb
  replace XQ := nx XQ hb
  replace HZ := wl HZ hb
  replace HY := wl HY hb
  replace B := bb B hb
  clear cc10a cc10b cc11a cc11b cc12a cc12b cc12c cc12d
  clear hb 
  clear HS
  obtain ⟨cc15a, cc15b⟩ := X1.out.both
  obtain ⟨cc16a, cc16b⟩ := X2.out.both
  obtain ⟨cc17a, cc17b, cc17c, cc17d⟩ := XQ.out.cells
  go_wp2_with fail
  refine (reduced_rtl HZ.out HY.out HY0.out HK.out).mono ?_
  rintro e w18 ⟨v, rfl, hv, hb⟩
  obtain ⟨s3a, p3a, n3a, c3a, s3b, p3b, n3b, c3b, rfl⟩ := hv.opened
  obtain ⟨ht3, d3, hu3, hd3⟩ := hv.two
  have HD3 := hid hd3
  replace X1 := bx X1 hb
  replace X2 := bx X2 hb
  replace XQ := nx XQ hb
  replace HZ := wl HZ hb
  replace HY := wl HY hb
  replace B := bb B hb
  clear cc15a cc15b cc16a cc16b cc17a cc17b cc17c cc17d
  have HT := hid ht3
  have HU := hid hu3
  clear hb hv ht3 hu3 hd3
  obtain ⟨cc19a, cc19b⟩ := X1.out.both
  obtain ⟨cc20a, cc20b⟩ := X2.out.both
  obtain ⟨cc21a, cc21b, cc21c, cc21d⟩ := XQ.out.cells
  obtain ⟨⟨cc22a, cc22b⟩, ⟨cc22c, cc22d⟩, ⟨cc22e, cc22f⟩, cc22g, cc22h⟩ := XQ.out.stores
  obtain ⟨r23a, r23b, r23c⟩ := XQ.out.last B.out (by omega) s3a s3b p3a p3b n3a n3b c3a c3b
  replace X1 := hid ((((X1.out.other (g2 := w.heap.size + 1 + 1) (by omega) 0 (.bool s3a)).other (g2 := w.heap.size + 1 + 1) (by omega) 1 (.slice p3a n3a c3a)).other (g2 := w.heap.size + 1 + 1) (by omega) 2 (.bool s3b)).other (g2 := w.heap.size + 1 + 1) (by omega) 3 (.slice p3b n3b c3b))
  replace X2 := hid ((((X2.out.other (g2 := w.heap.size + 1 + 1) (by omega) 0 (.bool s3a)).other (g2 := w.heap.size + 1 + 1) (by omega) 1 (.slice p3a n3a c3a)).other (g2 := w.heap.size + 1 + 1) (by omega) 2 (.bool s3b)).other (g2 := w.heap.size + 1 + 1) (by omega) 3 (.slice p3b n3b c3b))
  replace HZ := hid (r23c HZ.out)
  replace HY := hid (r23c HY.out)
  replace HT := hid (r23c HT.out)
  replace HU := hid (r23c HU.out)
  replace XQ := hid r23a
  replace B := hid r23b
  clear r23a r23b r23c
  go_wp2_with fail
  refine bodyPost_ret (res_num_tmp rfl rfl rfl XQ.out) rfl ?_
  exact ⟨_, rfl, Rtl.mk2 HT.out HU.out HD3.out, B.out⟩

end Go.Proofs.Ytjeeepcnaaadmaa

