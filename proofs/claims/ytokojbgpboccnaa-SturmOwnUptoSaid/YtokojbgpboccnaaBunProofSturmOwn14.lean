import Derived.Test.YtokojbgpboccnaaBunProofSturmOwn12
import Derived.Test.YtokojbgpboccnaaBunProofSturmOwn1
import Derived.Test.YtokojbgpboccnaaBunProofSturmOwn10
/-
  PACKAGE whole: TEXTS OF INTEGERS; EACH FUNCTION AT WHATEVER TEXTS.
-/

namespace Go.Proofs.Ytokojbgpboccnaa
open Go.RowKit
open Num
set_option linter.unusedVariables false
set_option maxRecDepth 100000
set_option linter.unusedSimpArgs false

theorem ztxt_list (z : Int) : (ztxt z).data.toList = if z < 0 then 45 :: dtext z.natAbs else dtext z.natAbs := by
  unfold ztxt
  split
  · rw [ByteArray.data_append, Array.toList_append, txt_list]; rfl
  · exact txt_list _
theorem ztxt_znum {s : ByteArray} (h : isWhl s.data.toList = true) : ztxt (znum s) = s := by
  have hl : (ztxt (znum s)).data.toList = s.data.toList := by
    rw [ztxt_list]
    unfold znum
    cases hb : (s.data.toList.head? == some 45)
    · have h2 : isNat s.data.toList = true := by rw [isWhl, hb] at h; simpa using h
      have h3 : whlOf s.data.toList = (dval s.data.toList : Int) := by rw [whlOf, hb]; rfl
      rw [h3, if_neg (by omega)]
      simpa using dtext_dval h2
    · have h2 : isNat s.data.toList.tail = true ∧ dval s.data.toList.tail ≠ 0 := by rw [isWhl, hb] at h; simpa using h
      have h3 : whlOf s.data.toList = -(dval s.data.toList.tail : Int) := by rw [whlOf, hb]; rfl
      rw [h3, if_pos (by omega)]
      have h4 := dtext_dval h2.1
      cases hd : s.data.toList with
      | nil => rw [hd] at hb; simp at hb
      | cons a l =>
        rw [hd] at hb h4
        simp only [List.head?_cons, Option.some_beq_some, beq_iff_eq] at hb
        subst hb
        simpa using h4
  generalize ztxt (znum s) = t at hl
  obtain ⟨⟨l⟩⟩ := t
  obtain ⟨⟨m⟩⟩ := s
  simp only at hl
  rw [hl]
theorem size_ztxt (z : Int) : (ztxt z).size = (if z < 0 then 1 else 0) + (dtext z.natAbs).length := by
  show (ztxt z).data.toList.length = _
  rw [ztxt_list]
  split <;> simp <;> omega
theorem size_ztxt_le {z : Int} {k : Nat} (h : z.natAbs < 10 ^ k) (hk : 0 < k) : (ztxt z).size ≤ k + 1 := by
  rw [size_ztxt]
  have := length_dtext_le h hk
  split <;> omega
theorem dval_lt' {l : List UInt8} (h : isNat l = true) : dval l < 10 ^ l.length := dval_lt (isNat_all h)
theorem BadZ.ne {s : ByteArray} {k : Int} (h : BadZ s k) : k ≠ 0 := by
  rcases h with ⟨_, rfl⟩ | ⟨_, _, rfl⟩ <;> decide
theorem WrongZ.ne {a b : ByteArray} {k : Int} (h : WrongZ a b k) : k ≠ 0 := by
  rcases h with h | ⟨_, h⟩ <;> exact h.ne
theorem BadZ.not {s : ByteArray} {k : Int} (h : BadZ s k) : ¬ GoodZ s := by
  rintro ⟨h1, h2⟩
  rcases h with ⟨h, _⟩ | ⟨_, h, _⟩
  · omega
  · rw [h] at h2; cases h2
theorem WrongZ.not {a b : ByteArray} {k : Int} (h : WrongZ a b k) : ¬ (GoodZ a ∧ GoodZ b) := by
  rintro ⟨h1, h2⟩
  rcases h with h | ⟨_, h⟩
  · exact h.not h1
  · exact h.not h2

/-- What a function of two integers tells: the text of f, or nothing and an error. -/
def ZTells (f : Int → Int → Int) (a b s : ByteArray) (k : Int) : Prop :=
  (k = 0 ∧ GoodZ a ∧ GoodZ b ∧ s = ztxt (f (znum a) (znum b))) ∨ (k ≠ 0 ∧ WrongZ a b k ∧ s = ⟨#[]⟩)
theorem ZTells.yes {f : Int → Int → Int} {a b s : ByteArray} {k : Int} (h : ZTells f a b s k) (hk : k = 0) : GoodZ a ∧ GoodZ b ∧ s = ztxt (f (znum a) (znum b)) := by
  rcases h with ⟨_, h⟩ | ⟨h, _⟩
  · exact h
  · exact absurd hk h
theorem ZTells.zero {f : Int → Int → Int} {a b s : ByteArray} {k : Int} (h : ZTells f a b s k) (ha : GoodZ a) (hb : GoodZ b) : k = 0 := by
  rcases h with ⟨h, _⟩ | ⟨_, h, _⟩
  · exact h
  · exact absurd ⟨ha, hb⟩ h.not
theorem ZTells.no {f : Int → Int → Int} {a b s : ByteArray} {k : Int} (h : ZTells f a b s k) (hk : k ≠ 0) : WrongZ a b k ∧ s = ⟨#[]⟩ := by
  rcases h with ⟨h, _⟩ | ⟨_, h⟩
  · exact absurd h hk
  · exact h

/-- What a division tells. -/
def ZDivs (a b q r : ByteArray) (k : Int) : Prop :=
  (k = 0 ∧ GoodZ a ∧ GoodZ b ∧ znum b ≠ 0 ∧ q = ztxt (znum a / znum b) ∧ r = ztxt (znum a % znum b)) ∨
  (k ≠ 0 ∧ q = ⟨#[]⟩ ∧ r = ⟨#[]⟩ ∧ (WrongZ a b k ∨ (GoodZ a ∧ GoodZ b ∧ znum b = 0 ∧ k = 5)))
theorem ZDivs.yes {a b q r : ByteArray} {k : Int} (h : ZDivs a b q r k) (hk : k = 0) : GoodZ a ∧ GoodZ b ∧ znum b ≠ 0 ∧ q = ztxt (znum a / znum b) ∧ r = ztxt (znum a % znum b) := by
  rcases h with ⟨_, h⟩ | ⟨h, _⟩
  · exact h
  · exact absurd hk h
theorem ZDivs.zero {a b q r : ByteArray} {k : Int} (h : ZDivs a b q r k) (ha : GoodZ a) (hb : GoodZ b) (h0 : znum b ≠ 0) : k = 0 := by
  rcases h with ⟨h, _⟩ | ⟨_, _, _, h | ⟨_, _, h, _⟩⟩
  · exact h
  · exact absurd ⟨ha, hb⟩ h.not
  · exact absurd h h0

/-- What Gcd tells. -/
def ZGcds (a b g x y : ByteArray) (k : Int) : Prop :=
  (k = 0 ∧ GoodZ a ∧ GoodZ b ∧ g = ztxt (zg (znum a) (znum b)).1 ∧ x = ztxt (zg (znum a) (znum b)).2.1 ∧ y = ztxt (zg (znum a) (znum b)).2.2) ∨
  (k ≠ 0 ∧ WrongZ a b k ∧ g = ⟨#[]⟩ ∧ x = ⟨#[]⟩ ∧ y = ⟨#[]⟩)
theorem ZGcds.yes {a b g x y : ByteArray} {k : Int} (h : ZGcds a b g x y k) (hk : k = 0) : GoodZ a ∧ GoodZ b ∧ g = ztxt (zg (znum a) (znum b)).1 ∧ x = ztxt (zg (znum a) (znum b)).2.1 ∧ y = ztxt (zg (znum a) (znum b)).2.2 := by
  rcases h with ⟨_, h⟩ | ⟨h, _⟩
  · exact h
  · exact absurd hk h
theorem ZGcds.zero {a b g x y : ByteArray} {k : Int} (h : ZGcds a b g x y k) (ha : GoodZ a) (hb : GoodZ b) : k = 0 := by
  rcases h with ⟨h, _⟩ | ⟨_, h, _⟩
  · exact h
  · exact absurd ⟨ha, hb⟩ h.not

end Go.Proofs.Ytokojbgpboccnaa

/-
  PACKAGE rat: String, Quotient.
-/
namespace Go.Proofs.Ytokojbgpboccnaa
open Go.RowKit
open Num
set_option linter.unusedVariables false
set_option maxRecDepth 100000
set_option linter.unusedSimpArgs false

/-- The text of a fraction. -/
def qtxt (q : Rat) : ByteArray := if q.den = 1 then ztxt q.num else ztxt q.num ++ ⟨#[47]⟩ ++ ztxt q.den
theorem size_ztxt_k {z : Int} {k : Nat} (h : z.natAbs < B ^ k) : (ztxt z).size ≤ 10 * k + 2 := by
  refine size_ztxt_le (k := 10 * k + 1) (Nat.lt_of_lt_of_le h ?_) (by omega)
  refine Nat.le_trans (Nat.pow_le_pow_left (show B ≤ 10 ^ 10 by decide) _) ?_
  rw [← Nat.pow_mul]
  exact Nat.pow_le_pow_right (by omega) (by omega)
theorem den_ne (q : Rat) : (q.den : Int) ≠ 0 := by have := q.den_pos; omega
theorem add_parts (q r : Rat) : q + r = Rat.divInt (q.num * r.den + r.num * q.den) (q.den * r.den) := by
  have h := Rat.divInt_add_divInt q.num r.num (den_ne q) (den_ne r)
  rwa [Rat.num_divInt_den, Rat.num_divInt_den] at h
theorem mul_parts (q r : Rat) : q * r = Rat.divInt (q.num * r.num) (q.den * r.den) := by
  have h := Rat.divInt_mul_divInt q.num r.num (d₁ := q.den) (d₂ := r.den)
  rwa [Rat.num_divInt_den, Rat.num_divInt_den] at h
theorem div_parts (q r : Rat) : q / r = Rat.divInt (q.num * r.den) (q.den * r.num) := by
  rw [Rat.div_def, Rat.inv_def]
  have h := Rat.divInt_mul_divInt q.num r.den (d₁ := q.den) (d₂ := r.num)
  rwa [Rat.num_divInt_den] at h

set_option maxHeartbeats 1000000 in
theorem qstring_one {w : World} {v : Value} {q : Rat} {k : Nat} (h : Rtl w v q k) (hk : k ≤ 4294967296) (hl : q.den = 1) :
    Calls Try.prog 21 #[v] w fun e w' => e = .returned (.string (qtxt q)) ∧ Below w.heap.size w w' := by
  obtain ⟨s1a, p1a, n1a, c1a, s1b, p1b, n1b, c1b, rfl⟩ := h.opened
  obtain ⟨ht1, d1, hu1, hd1⟩ := h.two
  have HD1 := hid hd1
  have HK := hid hk
  have hs1 := size_ztxt_k ht1.lt
  have hs2 : (ztxt q.num).size ≤ 42949672962 := by omega
  have HL := hid hl
  have hd : decide (1 < d1) = false := by apply decide_eq_false; rcases hd1 with e | ⟨e, _⟩ <;> omega
  have B := hid (Below.refl w.heap.size w)
  have HT := hid ht1
  have HU := hid hu1
  obtain ⟨hb1, hx2, hs3⟩ := Nbx.made w s1a s1b (.slice p1a n1a c1a) (.slice p1b n1b c1b)
  replace HT := wl HT hb1
  replace HU := wl HU hb1
  replace B := bb B hb1
  have XQ := hid hx2
  clear hb1 hx2
  clear hs3 h ht1 hu1 hk hd1 hs1 hl
  go_enter Try.func21, Try.ntmps21
  have cc4 := XQ.out.cells
  go_wp2_with fail
  generalize hW : w.alloc (.cells #[.bool s1a, .slice p1a n1a c1a, .bool s1b, .slice p1b n1b c1b] 49) = W5 at *
  clear hW
  have HM := more_whl HU.out (by have := HK.out; omega)
  rw [hd] at HM
  refine (HM).mono ?_
  rintro e w6 ⟨rfl, hb⟩
  replace XQ := nx XQ hb
  replace HT := wl HT hb
  replace B := bb B hb
  clear cc4
  clear hb 
  clear HM hd
  have cc7 := XQ.out.cells
  go_wp2_with fail
  refine (string_whl HT.out (by have := HK.out; omega)).mono ?_
  rintro e w8 ⟨rfl, hb⟩
  replace B := bb B hb
  clear cc7
  clear hb 
  go_wp2_with fail
  go_ret
  exact ⟨by rw [qtxt, if_pos HL.out]; rfl, B.out⟩

set_option maxHeartbeats 1000000 in
theorem qstring_two {w : World} {v : Value} {q : Rat} {k : Nat} (h : Rtl w v q k) (hk : k ≤ 4294967296) (hl : ¬ q.den = 1) :
    Calls Try.prog 21 #[v] w fun e w' => e = .returned (.string (qtxt q)) ∧ Below w.heap.size w w' := by
  obtain ⟨s1a, p1a, n1a, c1a, s1b, p1b, n1b, c1b, rfl⟩ := h.opened
  obtain ⟨ht1, d1, hu1, hd1⟩ := h.two
  have HD1 := hid hd1
  have HK := hid hk
  have hs1 := size_ztxt_k ht1.lt
  have hs2 : (ztxt q.num).size ≤ 42949672962 := by omega
  have HL := hid hl
  have hd : d1 = q.den := by rcases hd1 with e | ⟨_, e⟩; exact e; exact absurd e hl
  subst hd
  have hd : decide ((1 : Int) < q.den) = true := by apply decide_eq_true; have := q.den_pos; omega
  have hs3 := size_ztxt_k hu1.lt
  have hs4 : (ztxt (q.den : Int)).size ≤ 42949672962 := by omega
  have hs5 : (⟨#[47]⟩ : ByteArray).size = 1 := rfl
  have hs6 : (ztxt q.num ++ ⟨#[47]⟩).size ≤ 42949672963 := by rw [ByteArray.size_append]; omega
  have hj1 : ¬ 9223372036854775807 < (ztxt q.num).size + 1 := by omega
  have hj2 : ¬ 9223372036854775807 < (ztxt q.num).size + 1 + (ztxt (q.den : Int)).size := by omega
  clear hs2 hs3 hs4 hs5 hs6
  have B := hid (Below.refl w.heap.size w)
  have HT := hid ht1
  have HU := hid hu1
  obtain ⟨hb1, hx2, hs3⟩ := Nbx.made w s1a s1b (.slice p1a n1a c1a) (.slice p1b n1b c1b)
  replace HT := wl HT hb1
  replace HU := wl HU hb1
  replace B := bb B hb1
  have XQ := hid hx2
  clear hb1 hx2
  clear hs3 h ht1 hu1 hk hd1 hs1 hl HD1
  go_enter Try.func21, Try.ntmps21
  have cc4 := XQ.out.cells
  go_wp2_with fail
  generalize hW : w.alloc (.cells #[.bool s1a, .slice p1a n1a c1a, .bool s1b, .slice p1b n1b c1b] 49) = W5 at *
  clear hW
  have HM := more_whl HU.out (by have := HK.out; omega)
  rw [hd] at HM
  refine (HM).mono ?_
  rintro e w6 ⟨rfl, hb⟩
  replace XQ := nx XQ hb
  replace HT := wl HT hb
  replace HU := wl HU hb
  replace B := bb B hb
  clear cc4
  clear hb 
  clear HM hd
  have cc7 := XQ.out.cells
  go_wp2_with fail
  have cc8 := XQ.out.cells
  replace XQ := hid XQ.out.dr
  replace HT := hid HT.out.drew
  replace HU := hid HU.out.drew
  replace B := hid (Below.drew B.out)
  have cc9 := XQ.out.cells
  go_region_held3 (fun w' => w'.cell? ⟨w.heap.size, 0, none⟩ = some (.bool s1a) ∧ w'.cell? ⟨w.heap.size, 1, none⟩ = some (.slice p1a n1a c1a) ∧ w'.cell? ⟨w.heap.size, 2, none⟩ = some (.bool s1b) ∧ w'.cell? ⟨w.heap.size, 3, none⟩ = some (.slice p1b n1b c1b)) (go_keep) (first
    | (have hm := mk10_0; clear hm; go_at_call 31; refine (string_whl HU.out (by have := HK.out; omega)).mono ?_; rintro e w13 ⟨rfl, hb⟩; replace XQ := nx XQ hb; replace B := bb B hb; clear cc12; clear hb ; have cc14 := XQ.out.cells; have mk10_1 := hid True.intro)
    | (go_at_call 31; refine (string_whl HT.out (by have := HK.out; omega)).mono ?_; rintro e w11 ⟨rfl, hb⟩; replace XQ := nx XQ hb; replace HU := wl HU hb; replace B := bb B hb; clear cc7 cc8 cc9; clear hb ; have cc12 := XQ.out.cells; have mk10_0 := hid True.intro))
  go_wp2_with fail
  go_ret
  exact ⟨by rw [qtxt, if_neg HL.out]; rfl, B.out⟩

theorem qstring {w : World} {v : Value} {q : Rat} {k : Nat} (h : Rtl w v q k) (hk : k ≤ 4294967296) :
    Calls Try.prog 21 #[v] w fun e w' => e = .returned (.string (qtxt q)) ∧ Below w.heap.size w w' := by
  by_cases hl : q.den = 1
  · exact qstring_one h hk hl
  · exact qstring_two h hk hl

set_option maxHeartbeats 1000000 in
theorem quot_some {w : World} {v u : Value} {z y : Int} {k : Nat} (h : Whl w v z k) (h' : Whl w u y k) (hy : y ≠ 0) (hk : k ≤ 549755813888) :
    Calls Try.prog 87 #[v, u] w fun e w' => ∃ v, e = .returned (.tuple #[v, .nilIface]) ∧ Rtl w' v (Rat.divInt z y) k ∧ Below w.heap.size w w' := by
  obtain ⟨s1, p1, n1, c1, rfl⟩ := h.opened
  obtain ⟨s2, p2, n2, c2, rfl⟩ := h'.opened
  have HK := hid hk
  have HY0 := hid hy
  have B := hid (Below.refl w.heap.size w)
  have HZ := hid h
  have HY := hid h'
  obtain ⟨hb1, hx2, hs3⟩ := Box.made w s1 p1 n1 c1
  replace HZ := wl HZ hb1
  replace HY := wl HY hb1
  replace B := bb B hb1
  have X1 := hid hx2
  clear hb1 hx2
  obtain ⟨hb4, hx5, hs6⟩ := Box.made (w.alloc (.cells #[.bool s1, .slice p1 n1 c1] 47)) s2 p2 n2 c2
  rw [hs3] at hx5 hs6
  replace X1 := bx X1 hb4
  replace HZ := wl HZ hb4
  replace HY := wl HY hb4
  replace B := bb B hb4
  have X2 := hid hx5
  clear hb4 hx5
  obtain ⟨hb7, hx8, hs9⟩ := Nbx.made ((w.alloc (.cells #[.bool s1, .slice p1 n1 c1] 47)).alloc (.cells #[.bool s2, .slice p2 n2 c2] 47)) false false (.slice none 0 0) (.slice none 0 0)
  rw [hs6] at hx8 hs9
  replace X1 := bx X1 hb7
  replace X2 := bx X2 hb7
  replace HZ := wl HZ hb7
  replace HY := wl HY hb7
  replace B := bb B hb7
  have XQ := hid hx8
  clear hb7 hx8
  clear hs9 h h' hk hy
  go_enter Try.func87, Try.ntmps87
  have cc10 := X1.out.both
  have cc11 := X2.out.both
  have cc12 := XQ.out.cells
  go_wp2_with fail
  generalize hW : ((w.alloc (.cells #[.bool s1, .slice p1 n1 c1] 47)).alloc (.cells #[.bool s2, .slice p2 n2 c2] 47)).alloc (.cells #[.bool false, .slice none 0 0, .bool false, .slice none 0 0] 49) = W13 at *
  clear hW
  have HS := sgn_whl HY.out
  have hne : (y.sign == 0) = false := by rw [beq_eq_false_iff_ne]; intro e; exact HY0.out (Int.sign_eq_zero_iff_zero.1 e)
  refine (HS).mono ?_
  rintro e w14 ⟨rfl, hb⟩
  replace X1 := bx X1 hb
  replace X2 := bx X2 hb
  replace XQ := nx XQ hb
  replace HZ := wl HZ hb
  replace HY := wl HY hb
  replace B := bb B hb
  clear cc10 cc11 cc12
  clear hb 
  clear HS
  have cc15 := X1.out.both
  have cc16 := X2.out.both
  have cc17 := XQ.out.cells
  go_wp2_with fail
  refine (reduced_rtl HZ.out HY.out HY0.out HK.out).mono ?_
  rintro e w18 ⟨v, rfl, hv, hb⟩
  obtain ⟨s3a, p3a, n3a, c3a, s3b, p3b, n3b, c3b, rfl⟩ := hv.opened
  obtain ⟨ht3, d3, hu3, hd3⟩ := hv.two
  have HD3 := hid hd3
  replace X1 := bx X1 hb
  replace X2 := bx X2 hb
  replace XQ := nx XQ hb
  replace HZ := wl HZ hb
  replace HY := wl HY hb
  replace B := bb B hb
  clear cc15 cc16 cc17
  have HT := hid ht3
  have HU := hid hu3
  clear hb hv ht3 hu3 hd3
  have cc19 := X1.out.both
  have cc20 := X2.out.both
  have cc21 := XQ.out.cells
  have cc22 := XQ.out.stores
  obtain ⟨r23a, r23b, r23c⟩ := XQ.out.last B.out (by omega) s3a s3b p3a p3b n3a n3b c3a c3b
  replace X1 := hid (X1.out.kept (heap4 (g := w.heap.size + 1 + 1) (by omega) (.bool s3a) (.slice p3a n3a c3a) (.bool s3b) (.slice p3b n3b c3b)))
  replace X2 := hid (X2.out.kept (heap4 (g := w.heap.size + 1 + 1) (by omega) (.bool s3a) (.slice p3a n3a c3a) (.bool s3b) (.slice p3b n3b c3b)))
  replace HZ := hid (r23c HZ.out)
  replace HY := hid (r23c HY.out)
  replace HT := hid (r23c HT.out)
  replace HU := hid (r23c HU.out)
  replace XQ := hid r23a
  replace B := hid r23b
  clear r23a r23b r23c
  go_wp2_with fail
  refine bodyPost_ret (res_num_tmp rfl rfl rfl XQ.out) rfl ?_
  exact ⟨_, rfl, Rtl.mk2 HT.out HU.out HD3.out, B.out⟩

end Go.Proofs.Ytokojbgpboccnaa

/-
  PACKAGE rat: Add.
-/
namespace Go.Proofs.Ytokojbgpboccnaa
open Go.RowKit
open Num
set_option linter.unusedVariables false
set_option maxRecDepth 100000
set_option linter.unusedSimpArgs false

set_option maxHeartbeats 4000000 in
theorem addq_rtl {w : World} {v u : Value} {q r : Rat} {k : Nat} (h : Rtl w v q k) (h' : Rtl w u r k) (hk1 : 1 ≤ k) (hk : k ≤ 68719476736) :
    Calls Try.prog 29 #[v, u] w fun e w' => ∃ v, e = .returned v ∧ Rtl w' v (q + r) (k + k + 1) ∧ Below w.heap.size w w' := by
  obtain ⟨s1a, p1a, n1a, c1a, s1b, p1b, n1b, c1b, rfl⟩ := h.opened
  obtain ⟨ht1, d1, hu1, hd1⟩ := h.two
  have HD1 := hid hd1
  obtain ⟨s2a, p2a, n2a, c2a, s2b, p2b, n2b, c2b, rfl⟩ := h'.opened
  obtain ⟨ht2, d2, hu2, hd2⟩ := h'.two
  have HD2 := hid hd2
  have HK := hid hk
  have HK1 := hid hk1
  have B := hid (Below.refl w.heap.size w)
  have HT1 := hid ht1
  have HU1 := hid hu1
  have HT2 := hid ht2
  have HU2 := hid hu2
  obtain ⟨hb1, hx2, hs3⟩ := Nbx.made w s1a s1b (.slice p1a n1a c1a) (.slice p1b n1b c1b)
  replace HT1 := wl HT1 hb1
  replace HU1 := wl HU1 hb1
  replace HT2 := wl HT2 hb1
  replace HU2 := wl HU2 hb1
  replace B := bb B hb1
  have X1 := hid hx2
  clear hb1 hx2
  obtain ⟨hb4, hx5, hs6⟩ := Nbx.made (w.alloc (.cells #[.bool s1a, .slice p1a n1a c1a, .bool s1b, .slice p1b n1b c1b] 49)) s2a s2b (.slice p2a n2a c2a) (.slice p2b n2b c2b)
  rw [hs3] at hx5 hs6
  replace X1 := nx X1 hb4
  replace HT1 := wl HT1 hb4
  replace HU1 := wl HU1 hb4
  replace HT2 := wl HT2 hb4
  replace HU2 := wl HU2 hb4
  replace B := bb B hb4
  have X2 := hid hx5
  clear hb4 hx5
  obtain ⟨hb7, hx8, hs9⟩ := Nbx.made ((w.alloc (.cells #[.bool s1a, .slice p1a n1a c1a, .bool s1b, .slice p1b n1b c1b] 49)).alloc (.cells #[.bool s2a, .slice p2a n2a c2a, .bool s2b, .slice p2b n2b c2b] 49)) false false (.slice none 0 0) (.slice none 0 0)
  rw [hs6] at hx8 hs9
  replace X1 := nx X1 hb7
  replace X2 := nx X2 hb7
  replace HT1 := wl HT1 hb7
  replace HU1 := wl HU1 hb7
  replace HT2 := wl HT2 hb7
  replace HU2 := wl HU2 hb7
  replace B := bb B hb7
  have XQ := hid hx8
  clear hb7 hx8
  clear hs9 h h' ht1 hu1 ht2 hu2 hd1 hd2 hk hk1
  go_enter Try.func29, Try.ntmps29
  have cc10 := X1.out.cells
  have cc11 := X2.out.cells
  have cc12 := XQ.out.cells
  go_wp2_with fail
  generalize hW : ((w.alloc (.cells #[.bool s1a, .slice p1a n1a c1a, .bool s1b, .slice p1b n1b c1b] 49)).alloc (.cells #[.bool s2a, .slice p2a n2a c2a, .bool s2b, .slice p2b n2b c2b] 49)).alloc (.cells #[.bool false, .slice none 0 0, .bool false, .slice none 0 0] 49) = W13 at *
  clear hW
  refine (parts_rtl (Rtl.mk2 HT1.out HU1.out HD1.out) HK1.out).mono ?_
  rintro e w14 ⟨v, u, rfl, hv, hu, hb⟩
  obtain ⟨s3, p3, n3, c3, rfl⟩ := hv.opened
  obtain ⟨s4, p4, n4, c4, rfl⟩ := hu.opened
  replace X2 := nx X2 hb
  replace XQ := nx XQ hb
  replace HT1 := wl HT1 hb
  replace HU1 := wl HU1 hb
  replace HT2 := wl HT2 hb
  replace HU2 := wl HU2 hb
  replace B := bb B hb
  clear cc10 cc11 cc12
  have HA := hid hv
  have HB := hid hu
  clear hb hv hu
  obtain ⟨hb15, hx16, hs17⟩ := Box.made w14 s3 p3 n3 c3
  have L0 := hid XQ.out.lt
  replace X2 := nx X2 hb15
  replace XQ := nx XQ hb15
  replace HT1 := wl HT1 hb15
  replace HU1 := wl HU1 hb15
  replace HT2 := wl HT2 hb15
  replace HU2 := wl HU2 hb15
  replace HA := wl HA hb15
  replace HB := wl HB hb15
  replace B := bb B hb15
  have XA := hid hx16
  clear hb15 hx16
  obtain ⟨hb18, hx19, hs20⟩ := Box.made (w14.alloc (.cells #[.bool s3, .slice p3 n3 c3] 47)) s4 p4 n4 c4
  rw [hs17] at hx19 hs20
  replace X2 := nx X2 hb18
  replace XQ := nx XQ hb18
  replace XA := bx XA hb18
  replace HT1 := wl HT1 hb18
  replace HU1 := wl HU1 hb18
  replace HT2 := wl HT2 hb18
  replace HU2 := wl HU2 hb18
  replace HA := wl HA hb18
  replace HB := wl HB hb18
  replace B := bb B hb18
  have XB := hid hx19
  clear hb18 hx19
  have cc21 := X2.out.cells
  have cc22 := XQ.out.cells
  have cc23 := XA.out.both
  have cc24 := XB.out.both
  go_wp2_with fail
  generalize hW : (w14.alloc (.cells #[.bool s3, .slice p3 n3 c3] 47)).alloc (.cells #[.bool s4, .slice p4 n4 c4] 47) = W25 at *
  clear hW
  refine (parts_rtl (Rtl.mk2 HT2.out HU2.out HD2.out) HK1.out).mono ?_
  rintro e w26 ⟨v, u, rfl, hv, hu, hb⟩
  obtain ⟨s5, p5, n5, c5, rfl⟩ := hv.opened
  obtain ⟨s6, p6, n6, c6, rfl⟩ := hu.opened
  replace XQ := nx XQ hb
  replace XA := bx XA hb
  replace XB := bx XB hb
  replace HT1 := wl HT1 hb
  replace HU1 := wl HU1 hb
  replace HT2 := wl HT2 hb
  replace HU2 := wl HU2 hb
  replace HA := wl HA hb
  replace HB := wl HB hb
  replace B := bb B hb
  clear cc21 cc22 cc23 cc24
  have HC := hid hv
  have HE := hid hu
  clear hb hv hu
  obtain ⟨hb27, hx28, hs29⟩ := Box.made w26 s5 p5 n5 c5
  have L1 := hid XB.out.lt
  replace XQ := nx XQ hb27
  replace XA := bx XA hb27
  replace XB := bx XB hb27
  replace HT1 := wl HT1 hb27
  replace HU1 := wl HU1 hb27
  replace HT2 := wl HT2 hb27
  replace HU2 := wl HU2 hb27
  replace HA := wl HA hb27
  replace HB := wl HB hb27
  replace HC := wl HC hb27
  replace HE := wl HE hb27
  replace B := bb B hb27
  have XC := hid hx28
  clear hb27 hx28
  obtain ⟨hb30, hx31, hs32⟩ := Box.made (w26.alloc (.cells #[.bool s5, .slice p5 n5 c5] 47)) s6 p6 n6 c6
  rw [hs29] at hx31 hs32
  replace XQ := nx XQ hb30
  replace XA := bx XA hb30
  replace XB := bx XB hb30
  replace XC := bx XC hb30
  replace HT1 := wl HT1 hb30
  replace HU1 := wl HU1 hb30
  replace HT2 := wl HT2 hb30
  replace HU2 := wl HU2 hb30
  replace HA := wl HA hb30
  replace HB := wl HB hb30
  replace HC := wl HC hb30
  replace HE := wl HE hb30
  replace B := bb B hb30
  have XD := hid hx31
  clear hb30 hx31
  have cc33 := XQ.out.cells
  have cc34 := XA.out.both
  have cc35 := XB.out.both
  have cc36 := XC.out.both
  have cc37 := XD.out.both
  go_wp2_with fail
  generalize hW : (w26.alloc (.cells #[.bool s5, .slice p5 n5 c5] 47)).alloc (.cells #[.bool s6, .slice p6 n6 c6] 47) = W38 at *
  clear hW
  have cc39 := XA.out.both
  have cc40 := XB.out.both
  have cc41 := XC.out.both
  have cc42 := XD.out.both
  replace XQ := hid XQ.out.dr
  replace XA := hid XA.out.dr
  replace XB := hid XB.out.dr
  replace XC := hid XC.out.dr
  replace XD := hid XD.out.dr
  replace HT1 := hid HT1.out.drew
  replace HU1 := hid HU1.out.drew
  replace HT2 := hid HT2.out.drew
  replace HU2 := hid HU2.out.drew
  replace HA := hid HA.out.drew
  replace HB := hid HB.out.drew
  replace HC := hid HC.out.drew
  replace HE := hid HE.out.drew
  replace B := hid (Below.drew B.out)
  have cc43 := XA.out.both
  have cc44 := XB.out.both
  have cc45 := XC.out.both
  have cc46 := XD.out.both
  go_region_held3 (fun w' => w'.cell? ⟨w14.heap.size, 0, none⟩ = some (.bool s3) ∧ w'.cell? ⟨w14.heap.size, 1, none⟩ = some (.slice p3 n3 c3) ∧ w'.cell? ⟨w14.heap.size + 1, 0, none⟩ = some (.bool s4) ∧ w'.cell? ⟨w14.heap.size + 1, 1, none⟩ = some (.slice p4 n4 c4) ∧ w'.cell? ⟨w26.heap.size, 0, none⟩ = some (.bool s5) ∧ w'.cell? ⟨w26.heap.size, 1, none⟩ = some (.slice p5 n5 c5) ∧ w'.cell? ⟨w26.heap.size + 1, 0, none⟩ = some (.bool s6) ∧ w'.cell? ⟨w26.heap.size + 1, 1, none⟩ = some (.slice p6 n6 c6)) (go_keep) (first
    | (have hm := mk47_3; clear hm; go_at_call 43; refine (reduced_rtl (k := k + k + 1) (S1.out.mono (by omega)) (P3.out.mono (by omega)) (Int.mul_ne_zero (den_ne _) (den_ne _)) (by have := HK.out; omega)).mono ?_; rintro e w68 ⟨v, rfl, hv, hb⟩; obtain ⟨s9a, p9a, n9a, c9a, s9b, p9b, n9b, c9b, rfl⟩ := hv.opened; obtain ⟨ht9, d9, hu9, hd9⟩ := hv.two; have HD9 := hid hd9; replace XQ := nx XQ hb; replace XA := bx XA hb; replace XB := bx XB hb; replace XC := bx XC hb; replace XD := bx XD hb; replace HT1 := wl HT1 hb; replace HU1 := wl HU1 hb; replace HT2 := wl HT2 hb; replace HU2 := wl HU2 hb; replace HA := wl HA hb; replace HB := wl HB hb; replace HC := wl HC hb; replace HE := wl HE hb; replace P1 := wl P1 hb; replace P2 := wl P2 hb; replace S1 := wl S1 hb; replace P3 := wl P3 hb; replace B := bb B hb; clear cc64 cc65 cc66 cc67; have HT9 := hid ht9; have HU9 := hid hu9; clear hb hv ht9 hu9 hd9; have cc69 := XA.out.both; have cc70 := XB.out.both; have cc71 := XC.out.both; have cc72 := XD.out.both; have cc73 := XQ.out.stores; obtain ⟨r74a, r74b, r74c⟩ := XQ.out.last B.out (by have := L0.out; have := L1.out; omega) s9a s9b p9a p9b n9a n9b c9a c9b; replace XA := hid (XA.out.kept (heap4 (g := w.heap.size + 1 + 1) (by have := L0.out; have := L1.out; omega) (.bool s9a) (.slice p9a n9a c9a) (.bool s9b) (.slice p9b n9b c9b))); replace XB := hid (XB.out.kept (heap4 (g := w.heap.size + 1 + 1) (by have := L0.out; have := L1.out; omega) (.bool s9a) (.slice p9a n9a c9a) (.bool s9b) (.slice p9b n9b c9b))); replace XC := hid (XC.out.kept (heap4 (g := w.heap.size + 1 + 1) (by have := L0.out; have := L1.out; omega) (.bool s9a) (.slice p9a n9a c9a) (.bool s9b) (.slice p9b n9b c9b))); replace XD := hid (XD.out.kept (heap4 (g := w.heap.size + 1 + 1) (by have := L0.out; have := L1.out; omega) (.bool s9a) (.slice p9a n9a c9a) (.bool s9b) (.slice p9b n9b c9b))); replace HT1 := hid (r74c HT1.out); replace HU1 := hid (r74c HU1.out); replace HT2 := hid (r74c HT2.out); replace HU2 := hid (r74c HU2.out); replace HA := hid (r74c HA.out); replace HB := hid (r74c HB.out); replace HC := hid (r74c HC.out); replace HE := hid (r74c HE.out); replace P1 := hid (r74c P1.out); replace P2 := hid (r74c P2.out); replace S1 := hid (r74c S1.out); replace P3 := hid (r74c P3.out); replace HT9 := hid (r74c HT9.out); replace HU9 := hid (r74c HU9.out); replace XQ := hid r74a; replace B := hid r74b; clear r74a r74b r74c; have cc75 := XA.out.both; have cc76 := XB.out.both; have cc77 := XC.out.both; have cc78 := XD.out.both; have mk47_4 := hid True.intro)
    | (have hm := mk47_2; clear hm; go_at_call 44; refine (mul_whl HB.out HE.out (by have := HK.out; omega) (by have := HK.out; omega)).mono ?_; rintro e w63 ⟨v, rfl, hv, hb⟩; obtain ⟨s13, p13, n13, c13, rfl⟩ := hv.opened; replace XQ := nx XQ hb; replace XA := bx XA hb; replace XB := bx XB hb; replace XC := bx XC hb; replace XD := bx XD hb; replace HT1 := wl HT1 hb; replace HU1 := wl HU1 hb; replace HT2 := wl HT2 hb; replace HU2 := wl HU2 hb; replace HA := wl HA hb; replace HB := wl HB hb; replace HC := wl HC hb; replace HE := wl HE hb; replace P1 := wl P1 hb; replace P2 := wl P2 hb; replace S1 := wl S1 hb; replace B := bb B hb; clear cc59 cc60 cc61 cc62; have P3 := hid hv; clear hb hv; have cc64 := XA.out.both; have cc65 := XB.out.both; have cc66 := XC.out.both; have cc67 := XD.out.both; have mk47_3 := hid True.intro)
    | (have hm := mk47_1; clear hm; go_at_call 45; refine (add_whl P1.out P2.out (by have := HK.out; omega) (by have := HK.out; omega)).mono ?_; rintro e w58 ⟨v, rfl, hv, hb⟩; obtain ⟨s7, p7, n7, c7, rfl⟩ := hv.opened; replace XQ := nx XQ hb; replace XA := bx XA hb; replace XB := bx XB hb; replace XC := bx XC hb; replace XD := bx XD hb; replace HT1 := wl HT1 hb; replace HU1 := wl HU1 hb; replace HT2 := wl HT2 hb; replace HU2 := wl HU2 hb; replace HA := wl HA hb; replace HB := wl HB hb; replace HC := wl HC hb; replace HE := wl HE hb; replace P1 := wl P1 hb; replace P2 := wl P2 hb; replace B := bb B hb; clear cc54 cc55 cc56 cc57; have S1 := hid hv; clear hb hv; have cc59 := XA.out.both; have cc60 := XB.out.both; have cc61 := XC.out.both; have cc62 := XD.out.both; have mk47_2 := hid True.intro)
    | (have hm := mk47_0; clear hm; go_at_call 44; refine (mul_whl HC.out HB.out (by have := HK.out; omega) (by have := HK.out; omega)).mono ?_; rintro e w53 ⟨v, rfl, hv, hb⟩; obtain ⟨s12, p12, n12, c12, rfl⟩ := hv.opened; replace XQ := nx XQ hb; replace XA := bx XA hb; replace XB := bx XB hb; replace XC := bx XC hb; replace XD := bx XD hb; replace HT1 := wl HT1 hb; replace HU1 := wl HU1 hb; replace HT2 := wl HT2 hb; replace HU2 := wl HU2 hb; replace HA := wl HA hb; replace HB := wl HB hb; replace HC := wl HC hb; replace HE := wl HE hb; replace P1 := wl P1 hb; replace B := bb B hb; clear cc49 cc50 cc51 cc52; have P2 := hid hv; clear hb hv; have cc54 := XA.out.both; have cc55 := XB.out.both; have cc56 := XC.out.both; have cc57 := XD.out.both; have mk47_1 := hid True.intro)
    | (go_at_call 44; refine (mul_whl HA.out HE.out (by have := HK.out; omega) (by have := HK.out; omega)).mono ?_; rintro e w48 ⟨v, rfl, hv, hb⟩; obtain ⟨s11, p11, n11, c11, rfl⟩ := hv.opened; replace XQ := nx XQ hb; replace XA := bx XA hb; replace XB := bx XB hb; replace XC := bx XC hb; replace XD := bx XD hb; replace HT1 := wl HT1 hb; replace HU1 := wl HU1 hb; replace HT2 := wl HT2 hb; replace HU2 := wl HU2 hb; replace HA := wl HA hb; replace HB := wl HB hb; replace HC := wl HC hb; replace HE := wl HE hb; replace B := bb B hb; clear cc33 cc34 cc35 cc36 cc37 cc39 cc40 cc41 cc42 cc43 cc44 cc45 cc46; have P1 := hid hv; clear hb hv; have cc49 := XA.out.both; have cc50 := XB.out.both; have cc51 := XC.out.both; have cc52 := XD.out.both; have mk47_0 := hid True.intro))
  go_wp2_with fail
  refine bodyPost_ret (res_num rfl rfl XQ.out) rfl ?_
  exact ⟨_, rfl, (by rw [add_parts]; exact Rtl.mk2 HT9.out HU9.out HD9.out), B.out⟩

end Go.Proofs.Ytokojbgpboccnaa

/-
  PACKAGE rat: Mul.
-/
namespace Go.Proofs.Ytokojbgpboccnaa
open Go.RowKit
open Num
set_option linter.unusedVariables false
set_option maxRecDepth 100000
set_option linter.unusedSimpArgs false

set_option maxHeartbeats 4000000 in
theorem mulq_rtl {w : World} {v u : Value} {q r : Rat} {k : Nat} (h : Rtl w v q k) (h' : Rtl w u r k) (hk1 : 1 ≤ k) (hk : k ≤ 68719476736) :
    Calls Try.prog 37 #[v, u] w fun e w' => ∃ v, e = .returned v ∧ Rtl w' v (q * r) (k + k + 1) ∧ Below w.heap.size w w' := by
  obtain ⟨s1a, p1a, n1a, c1a, s1b, p1b, n1b, c1b, rfl⟩ := h.opened
  obtain ⟨ht1, d1, hu1, hd1⟩ := h.two
  have HD1 := hid hd1
  obtain ⟨s2a, p2a, n2a, c2a, s2b, p2b, n2b, c2b, rfl⟩ := h'.opened
  obtain ⟨ht2, d2, hu2, hd2⟩ := h'.two
  have HD2 := hid hd2
  have HK := hid hk
  have HK1 := hid hk1
  have B := hid (Below.refl w.heap.size w)
  have HT1 := hid ht1
  have HU1 := hid hu1
  have HT2 := hid ht2
  have HU2 := hid hu2
  obtain ⟨hb1, hx2, hs3⟩ := Nbx.made w s1a s1b (.slice p1a n1a c1a) (.slice p1b n1b c1b)
  replace HT1 := wl HT1 hb1
  replace HU1 := wl HU1 hb1
  replace HT2 := wl HT2 hb1
  replace HU2 := wl HU2 hb1
  replace B := bb B hb1
  have X1 := hid hx2
  clear hb1 hx2
  obtain ⟨hb4, hx5, hs6⟩ := Nbx.made (w.alloc (.cells #[.bool s1a, .slice p1a n1a c1a, .bool s1b, .slice p1b n1b c1b] 49)) s2a s2b (.slice p2a n2a c2a) (.slice p2b n2b c2b)
  rw [hs3] at hx5 hs6
  replace X1 := nx X1 hb4
  replace HT1 := wl HT1 hb4
  replace HU1 := wl HU1 hb4
  replace HT2 := wl HT2 hb4
  replace HU2 := wl HU2 hb4
  replace B := bb B hb4
  have X2 := hid hx5
  clear hb4 hx5
  obtain ⟨hb7, hx8, hs9⟩ := Nbx.made ((w.alloc (.cells #[.bool s1a, .slice p1a n1a c1a, .bool s1b, .slice p1b n1b c1b] 49)).alloc (.cells #[.bool s2a, .slice p2a n2a c2a, .bool s2b, .slice p2b n2b c2b] 49)) false false (.slice none 0 0) (.slice none 0 0)
  rw [hs6] at hx8 hs9
  replace X1 := nx X1 hb7
  replace X2 := nx X2 hb7
  replace HT1 := wl HT1 hb7
  replace HU1 := wl HU1 hb7
  replace HT2 := wl HT2 hb7
  replace HU2 := wl HU2 hb7
  replace B := bb B hb7
  have XQ := hid hx8
  clear hb7 hx8
  clear hs9 h h' ht1 hu1 ht2 hu2 hd1 hd2 hk hk1
  go_enter Try.func37, Try.ntmps37
  have cc10 := X1.out.cells
  have cc11 := X2.out.cells
  have cc12 := XQ.out.cells
  go_wp2_with fail
  generalize hW : ((w.alloc (.cells #[.bool s1a, .slice p1a n1a c1a, .bool s1b, .slice p1b n1b c1b] 49)).alloc (.cells #[.bool s2a, .slice p2a n2a c2a, .bool s2b, .slice p2b n2b c2b] 49)).alloc (.cells #[.bool false, .slice none 0 0, .bool false, .slice none 0 0] 49) = W13 at *
  clear hW
  refine (parts_rtl (Rtl.mk2 HT1.out HU1.out HD1.out) HK1.out).mono ?_
  rintro e w14 ⟨v, u, rfl, hv, hu, hb⟩
  obtain ⟨s3, p3, n3, c3, rfl⟩ := hv.opened
  obtain ⟨s4, p4, n4, c4, rfl⟩ := hu.opened
  replace X2 := nx X2 hb
  replace XQ := nx XQ hb
  replace HT1 := wl HT1 hb
  replace HU1 := wl HU1 hb
  replace HT2 := wl HT2 hb
  replace HU2 := wl HU2 hb
  replace B := bb B hb
  clear cc10 cc11 cc12
  have HA := hid hv
  have HB := hid hu
  clear hb hv hu
  obtain ⟨hb15, hx16, hs17⟩ := Box.made w14 s3 p3 n3 c3
  have L0 := hid XQ.out.lt
  replace X2 := nx X2 hb15
  replace XQ := nx XQ hb15
  replace HT1 := wl HT1 hb15
  replace HU1 := wl HU1 hb15
  replace HT2 := wl HT2 hb15
  replace HU2 := wl HU2 hb15
  replace HA := wl HA hb15
  replace HB := wl HB hb15
  replace B := bb B hb15
  have XA := hid hx16
  clear hb15 hx16
  obtain ⟨hb18, hx19, hs20⟩ := Box.made (w14.alloc (.cells #[.bool s3, .slice p3 n3 c3] 47)) s4 p4 n4 c4
  rw [hs17] at hx19 hs20
  replace X2 := nx X2 hb18
  replace XQ := nx XQ hb18
  replace XA := bx XA hb18
  replace HT1 := wl HT1 hb18
  replace HU1 := wl HU1 hb18
  replace HT2 := wl HT2 hb18
  replace HU2 := wl HU2 hb18
  replace HA := wl HA hb18
  replace HB := wl HB hb18
  replace B := bb B hb18
  have XB := hid hx19
  clear hb18 hx19
  have cc21 := X2.out.cells
  have cc22 := XQ.out.cells
  have cc23 := XA.out.both
  have cc24 := XB.out.both
  go_wp2_with fail
  generalize hW : (w14.alloc (.cells #[.bool s3, .slice p3 n3 c3] 47)).alloc (.cells #[.bool s4, .slice p4 n4 c4] 47) = W25 at *
  clear hW
  refine (parts_rtl (Rtl.mk2 HT2.out HU2.out HD2.out) HK1.out).mono ?_
  rintro e w26 ⟨v, u, rfl, hv, hu, hb⟩
  obtain ⟨s5, p5, n5, c5, rfl⟩ := hv.opened
  obtain ⟨s6, p6, n6, c6, rfl⟩ := hu.opened
  replace XQ := nx XQ hb
  replace XA := bx XA hb
  replace XB := bx XB hb
  replace HT1 := wl HT1 hb
  replace HU1 := wl HU1 hb
  replace HT2 := wl HT2 hb
  replace HU2 := wl HU2 hb
  replace HA := wl HA hb
  replace HB := wl HB hb
  replace B := bb B hb
  clear cc21 cc22 cc23 cc24
  have HC := hid hv
  have HE := hid hu
  clear hb hv hu
  obtain ⟨hb27, hx28, hs29⟩ := Box.made w26 s5 p5 n5 c5
  have L1 := hid XB.out.lt
  replace XQ := nx XQ hb27
  replace XA := bx XA hb27
  replace XB := bx XB hb27
  replace HT1 := wl HT1 hb27
  replace HU1 := wl HU1 hb27
  replace HT2 := wl HT2 hb27
  replace HU2 := wl HU2 hb27
  replace HA := wl HA hb27
  replace HB := wl HB hb27
  replace HC := wl HC hb27
  replace HE := wl HE hb27
  replace B := bb B hb27
  have XC := hid hx28
  clear hb27 hx28
  obtain ⟨hb30, hx31, hs32⟩ := Box.made (w26.alloc (.cells #[.bool s5, .slice p5 n5 c5] 47)) s6 p6 n6 c6
  rw [hs29] at hx31 hs32
  replace XQ := nx XQ hb30
  replace XA := bx XA hb30
  replace XB := bx XB hb30
  replace XC := bx XC hb30
  replace HT1 := wl HT1 hb30
  replace HU1 := wl HU1 hb30
  replace HT2 := wl HT2 hb30
  replace HU2 := wl HU2 hb30
  replace HA := wl HA hb30
  replace HB := wl HB hb30
  replace HC := wl HC hb30
  replace HE := wl HE hb30
  replace B := bb B hb30
  have XD := hid hx31
  clear hb30 hx31
  have cc33 := XQ.out.cells
  have cc34 := XA.out.both
  have cc35 := XB.out.both
  have cc36 := XC.out.both
  have cc37 := XD.out.both
  go_wp2_with fail
  generalize hW : (w26.alloc (.cells #[.bool s5, .slice p5 n5 c5] 47)).alloc (.cells #[.bool s6, .slice p6 n6 c6] 47) = W38 at *
  clear hW
  have cc39 := XA.out.both
  have cc40 := XB.out.both
  have cc41 := XC.out.both
  have cc42 := XD.out.both
  replace XQ := hid XQ.out.dr
  replace XA := hid XA.out.dr
  replace XB := hid XB.out.dr
  replace XC := hid XC.out.dr
  replace XD := hid XD.out.dr
  replace HT1 := hid HT1.out.drew
  replace HU1 := hid HU1.out.drew
  replace HT2 := hid HT2.out.drew
  replace HU2 := hid HU2.out.drew
  replace HA := hid HA.out.drew
  replace HB := hid HB.out.drew
  replace HC := hid HC.out.drew
  replace HE := hid HE.out.drew
  replace B := hid (Below.drew B.out)
  have cc43 := XA.out.both
  have cc44 := XB.out.both
  have cc45 := XC.out.both
  have cc46 := XD.out.both
  go_region_held3 (fun w' => w'.cell? ⟨w14.heap.size, 0, none⟩ = some (.bool s3) ∧ w'.cell? ⟨w14.heap.size, 1, none⟩ = some (.slice p3 n3 c3) ∧ w'.cell? ⟨w14.heap.size + 1, 0, none⟩ = some (.bool s4) ∧ w'.cell? ⟨w14.heap.size + 1, 1, none⟩ = some (.slice p4 n4 c4) ∧ w'.cell? ⟨w26.heap.size, 0, none⟩ = some (.bool s5) ∧ w'.cell? ⟨w26.heap.size, 1, none⟩ = some (.slice p5 n5 c5) ∧ w'.cell? ⟨w26.heap.size + 1, 0, none⟩ = some (.bool s6) ∧ w'.cell? ⟨w26.heap.size + 1, 1, none⟩ = some (.slice p6 n6 c6)) (go_keep) (first
    | (have hm := mk47_1; clear hm; go_at_call 43; refine (reduced_rtl (k := k + k + 1) (P1.out.mono (by omega)) (P2.out.mono (by omega)) (Int.mul_ne_zero (den_ne _) (den_ne _)) (by have := HK.out; omega)).mono ?_; rintro e w58 ⟨v, rfl, hv, hb⟩; obtain ⟨s9a, p9a, n9a, c9a, s9b, p9b, n9b, c9b, rfl⟩ := hv.opened; obtain ⟨ht9, d9, hu9, hd9⟩ := hv.two; have HD9 := hid hd9; replace XQ := nx XQ hb; replace XA := bx XA hb; replace XB := bx XB hb; replace XC := bx XC hb; replace XD := bx XD hb; replace HT1 := wl HT1 hb; replace HU1 := wl HU1 hb; replace HT2 := wl HT2 hb; replace HU2 := wl HU2 hb; replace HA := wl HA hb; replace HB := wl HB hb; replace HC := wl HC hb; replace HE := wl HE hb; replace P1 := wl P1 hb; replace P2 := wl P2 hb; replace B := bb B hb; clear cc54 cc55 cc56 cc57; have HT9 := hid ht9; have HU9 := hid hu9; clear hb hv ht9 hu9 hd9; have cc59 := XA.out.both; have cc60 := XB.out.both; have cc61 := XC.out.both; have cc62 := XD.out.both; have cc63 := XQ.out.stores; obtain ⟨r64a, r64b, r64c⟩ := XQ.out.last B.out (by have := L0.out; have := L1.out; omega) s9a s9b p9a p9b n9a n9b c9a c9b; replace XA := hid (XA.out.kept (heap4 (g := w.heap.size + 1 + 1) (by have := L0.out; have := L1.out; omega) (.bool s9a) (.slice p9a n9a c9a) (.bool s9b) (.slice p9b n9b c9b))); replace XB := hid (XB.out.kept (heap4 (g := w.heap.size + 1 + 1) (by have := L0.out; have := L1.out; omega) (.bool s9a) (.slice p9a n9a c9a) (.bool s9b) (.slice p9b n9b c9b))); replace XC := hid (XC.out.kept (heap4 (g := w.heap.size + 1 + 1) (by have := L0.out; have := L1.out; omega) (.bool s9a) (.slice p9a n9a c9a) (.bool s9b) (.slice p9b n9b c9b))); replace XD := hid (XD.out.kept (heap4 (g := w.heap.size + 1 + 1) (by have := L0.out; have := L1.out; omega) (.bool s9a) (.slice p9a n9a c9a) (.bool s9b) (.slice p9b n9b c9b))); replace HT1 := hid (r64c HT1.out); replace HU1 := hid (r64c HU1.out); replace HT2 := hid (r64c HT2.out); replace HU2 := hid (r64c HU2.out); replace HA := hid (r64c HA.out); replace HB := hid (r64c HB.out); replace HC := hid (r64c HC.out); replace HE := hid (r64c HE.out); replace P1 := hid (r64c P1.out); replace P2 := hid (r64c P2.out); replace HT9 := hid (r64c HT9.out); replace HU9 := hid (r64c HU9.out); replace XQ := hid r64a; replace B := hid r64b; clear r64a r64b r64c; have cc65 := XA.out.both; have cc66 := XB.out.both; have cc67 := XC.out.both; have cc68 := XD.out.both; have mk47_2 := hid True.intro)
    | (have hm := mk47_0; clear hm; go_at_call 44; refine (mul_whl HB.out HE.out (by have := HK.out; omega) (by have := HK.out; omega)).mono ?_; rintro e w53 ⟨v, rfl, hv, hb⟩; obtain ⟨s12, p12, n12, c12, rfl⟩ := hv.opened; replace XQ := nx XQ hb; replace XA := bx XA hb; replace XB := bx XB hb; replace XC := bx XC hb; replace XD := bx XD hb; replace HT1 := wl HT1 hb; replace HU1 := wl HU1 hb; replace HT2 := wl HT2 hb; replace HU2 := wl HU2 hb; replace HA := wl HA hb; replace HB := wl HB hb; replace HC := wl HC hb; replace HE := wl HE hb; replace P1 := wl P1 hb; replace B := bb B hb; clear cc49 cc50 cc51 cc52; have P2 := hid hv; clear hb hv; have cc54 := XA.out.both; have cc55 := XB.out.both; have cc56 := XC.out.both; have cc57 := XD.out.both; have mk47_1 := hid True.intro)
    | (go_at_call 44; refine (mul_whl HA.out HC.out (by have := HK.out; omega) (by have := HK.out; omega)).mono ?_; rintro e w48 ⟨v, rfl, hv, hb⟩; obtain ⟨s11, p11, n11, c11, rfl⟩ := hv.opened; replace XQ := nx XQ hb; replace XA := bx XA hb; replace XB := bx XB hb; replace XC := bx XC hb; replace XD := bx XD hb; replace HT1 := wl HT1 hb; replace HU1 := wl HU1 hb; replace HT2 := wl HT2 hb; replace HU2 := wl HU2 hb; replace HA := wl HA hb; replace HB := wl HB hb; replace HC := wl HC hb; replace HE := wl HE hb; replace B := bb B hb; clear cc33 cc34 cc35 cc36 cc37 cc39 cc40 cc41 cc42 cc43 cc44 cc45 cc46; have P1 := hid hv; clear hb hv; have cc49 := XA.out.both; have cc50 := XB.out.both; have cc51 := XC.out.both; have cc52 := XD.out.both; have mk47_0 := hid True.intro))
  go_wp2_with fail
  refine bodyPost_ret (res_num rfl rfl XQ.out) rfl ?_
  exact ⟨_, rfl, (by rw [mul_parts]; exact Rtl.mk2 HT9.out HU9.out HD9.out), B.out⟩

end Go.Proofs.Ytokojbgpboccnaa

/-
  PACKAGE rat: Div.
-/
namespace Go.Proofs.Ytokojbgpboccnaa
open Go.RowKit
open Num
set_option linter.unusedVariables false
set_option maxRecDepth 100000
set_option linter.unusedSimpArgs false
set_option maxHeartbeats 4000000 in
theorem divq_some {w : World} {v u : Value} {q r : Rat} {k : Nat} (h : Rtl w v q k) (h' : Rtl w u r k) (hr : r ≠ 0) (hk1 : 1 ≤ k) (hk : k ≤ 68719476736) :
    Calls Try.prog 75 #[v, u] w fun e w' => ∃ v, e = .returned (.tuple #[v, .nilIface]) ∧ Rtl w' v (q / r) (k + k + 1) ∧ Below w.heap.size w w' := by
  have HR := hid hr
  obtain ⟨s1a, p1a, n1a, c1a, s1b, p1b, n1b, c1b, rfl⟩ := h.opened
  obtain ⟨ht1, d1, hu1, hd1⟩ := h.two
  have HD1 := hid hd1
  obtain ⟨s2a, p2a, n2a, c2a, s2b, p2b, n2b, c2b, rfl⟩ := h'.opened
  obtain ⟨ht2, d2, hu2, hd2⟩ := h'.two
  have HD2 := hid hd2
  have HK := hid hk
  have HK1 := hid hk1
  have B := hid (Below.refl w.heap.size w)
  have HT1 := hid ht1
  have HU1 := hid hu1
  have HT2 := hid ht2
  have HU2 := hid hu2
  obtain ⟨hb1, hx2, hs3⟩ := Nbx.made w s1a s1b (.slice p1a n1a c1a) (.slice p1b n1b c1b)
  replace HT1 := wl HT1 hb1
  replace HU1 := wl HU1 hb1
  replace HT2 := wl HT2 hb1
  replace HU2 := wl HU2 hb1
  replace B := bb B hb1
  have X1 := hid hx2
  clear hb1 hx2
  obtain ⟨hb4, hx5, hs6⟩ := Nbx.made (w.alloc (.cells #[.bool s1a, .slice p1a n1a c1a, .bool s1b, .slice p1b n1b c1b] 49)) s2a s2b (.slice p2a n2a c2a) (.slice p2b n2b c2b)
  rw [hs3] at hx5 hs6
  replace X1 := nx X1 hb4
  replace HT1 := wl HT1 hb4
  replace HU1 := wl HU1 hb4
  replace HT2 := wl HT2 hb4
  replace HU2 := wl HU2 hb4
  replace B := bb B hb4
  have X2 := hid hx5
  clear hb4 hx5
  obtain ⟨hb7, hx8, hs9⟩ := Nbx.made ((w.alloc (.cells #[.bool s1a, .slice p1a n1a c1a, .bool s1b, .slice p1b n1b c1b] 49)).alloc (.cells #[.bool s2a, .slice p2a n2a c2a, .bool s2b, .slice p2b n2b c2b] 49)) false false (.slice none 0 0) (.slice none 0 0)
  rw [hs6] at hx8 hs9
  replace X1 := nx X1 hb7
  replace X2 := nx X2 hb7
  replace HT1 := wl HT1 hb7
  replace HU1 := wl HU1 hb7
  replace HT2 := wl HT2 hb7
  replace HU2 := wl HU2 hb7
  replace B := bb B hb7
  have XQ := hid hx8
  clear hb7 hx8
  clear hs9 h h' ht1 hu1 ht2 hu2 hd1 hd2 hk hk1
  go_enter Try.func75, Try.ntmps75
  have cc10 := X1.out.cells
  have cc11 := X2.out.cells
  have cc12 := XQ.out.cells
  go_wp2_with fail
  generalize hW : ((w.alloc (.cells #[.bool s1a, .slice p1a n1a c1a, .bool s1b, .slice p1b n1b c1b] 49)).alloc (.cells #[.bool s2a, .slice p2a n2a c2a, .bool s2b, .slice p2b n2b c2b] 49)).alloc (.cells #[.bool false, .slice none 0 0, .bool false, .slice none 0 0] 49) = W13 at *
  clear hW
  refine (parts_rtl (Rtl.mk2 HT1.out HU1.out HD1.out) HK1.out).mono ?_
  rintro e w14 ⟨v, u, rfl, hv, hu, hb⟩
  obtain ⟨s3, p3, n3, c3, rfl⟩ := hv.opened
  obtain ⟨s4, p4, n4, c4, rfl⟩ := hu.opened
  replace X2 := nx X2 hb
  replace XQ := nx XQ hb
  replace HT1 := wl HT1 hb
  replace HU1 := wl HU1 hb
  replace HT2 := wl HT2 hb
  replace HU2 := wl HU2 hb
  replace B := bb B hb
  clear cc10 cc11 cc12
  have HA := hid hv
  have HB := hid hu
  clear hb hv hu
  obtain ⟨hb15, hx16, hs17⟩ := Box.made w14 s3 p3 n3 c3
  have L0 := hid XQ.out.lt
  replace X2 := nx X2 hb15
  replace XQ := nx XQ hb15
  replace HT1 := wl HT1 hb15
  replace HU1 := wl HU1 hb15
  replace HT2 := wl HT2 hb15
  replace HU2 := wl HU2 hb15
  replace HA := wl HA hb15
  replace HB := wl HB hb15
  replace B := bb B hb15
  have XA := hid hx16
  clear hb15 hx16
  obtain ⟨hb18, hx19, hs20⟩ := Box.made (w14.alloc (.cells #[.bool s3, .slice p3 n3 c3] 47)) s4 p4 n4 c4
  rw [hs17] at hx19 hs20
  replace X2 := nx X2 hb18
  replace XQ := nx XQ hb18
  replace XA := bx XA hb18
  replace HT1 := wl HT1 hb18
  replace HU1 := wl HU1 hb18
  replace HT2 := wl HT2 hb18
  replace HU2 := wl HU2 hb18
  replace HA := wl HA hb18
  replace HB := wl HB hb18
  replace B := bb B hb18
  have XB := hid hx19
  clear hb18 hx19
  have cc21 := X2.out.cells
  have cc22 := XQ.out.cells
  have cc23 := XA.out.both
  have cc24 := XB.out.both
  go_wp2_with fail
  generalize hW : (w14.alloc (.cells #[.bool s3, .slice p3 n3 c3] 47)).alloc (.cells #[.bool s4, .slice p4 n4 c4] 47) = W25 at *
  clear hW
  refine (parts_rtl (Rtl.mk2 HT2.out HU2.out HD2.out) HK1.out).mono ?_
  rintro e w26 ⟨v, u, rfl, hv, hu, hb⟩
  obtain ⟨s5, p5, n5, c5, rfl⟩ := hv.opened
  obtain ⟨s6, p6, n6, c6, rfl⟩ := hu.opened
  replace XQ := nx XQ hb
  replace XA := bx XA hb
  replace XB := bx XB hb
  replace HT1 := wl HT1 hb
  replace HU1 := wl HU1 hb
  replace HT2 := wl HT2 hb
  replace HU2 := wl HU2 hb
  replace HA := wl HA hb
  replace HB := wl HB hb
  replace B := bb B hb
  clear cc21 cc22 cc23 cc24
  have HC := hid hv
  have HE := hid hu
  clear hb hv hu
  obtain ⟨hb27, hx28, hs29⟩ := Box.made w26 s5 p5 n5 c5
  have L1 := hid XB.out.lt
  replace XQ := nx XQ hb27
  replace XA := bx XA hb27
  replace XB := bx XB hb27
  replace HT1 := wl HT1 hb27
  replace HU1 := wl HU1 hb27
  replace HT2 := wl HT2 hb27
  replace HU2 := wl HU2 hb27
  replace HA := wl HA hb27
  replace HB := wl HB hb27
  replace HC := wl HC hb27
  replace HE := wl HE hb27
  replace B := bb B hb27
  have XC := hid hx28
  clear hb27 hx28
  obtain ⟨hb30, hx31, hs32⟩ := Box.made (w26.alloc (.cells #[.bool s5, .slice p5 n5 c5] 47)) s6 p6 n6 c6
  rw [hs29] at hx31 hs32
  replace XQ := nx XQ hb30
  replace XA := bx XA hb30
  replace XB := bx XB hb30
  replace XC := bx XC hb30
  replace HT1 := wl HT1 hb30
  replace HU1 := wl HU1 hb30
  replace HT2 := wl HT2 hb30
  replace HU2 := wl HU2 hb30
  replace HA := wl HA hb30
  replace HB := wl HB hb30
  replace HC := wl HC hb30
  replace HE := wl HE hb30
  replace B := bb B hb30
  have XD := hid hx31
  clear hb30 hx31
  have cc33 := XQ.out.cells
  have cc34 := XA.out.both
  have cc35 := XB.out.both
  have cc36 := XC.out.both
  have cc37 := XD.out.both
  go_wp2_with fail
  generalize hW : (w26.alloc (.cells #[.bool s5, .slice p5 n5 c5] 47)).alloc (.cells #[.bool s6, .slice p6 n6 c6] 47) = W38 at *
  clear hW
  have cc39 := XA.out.both
  have cc40 := XB.out.both
  have cc41 := XC.out.both
  have cc42 := XD.out.both
  replace XQ := hid XQ.out.dr
  replace XA := hid XA.out.dr
  replace XB := hid XB.out.dr
  replace XC := hid XC.out.dr
  replace XD := hid XD.out.dr
  replace HT1 := hid HT1.out.drew
  replace HU1 := hid HU1.out.drew
  replace HT2 := hid HT2.out.drew
  replace HU2 := hid HU2.out.drew
  replace HA := hid HA.out.drew
  replace HB := hid HB.out.drew
  replace HC := hid HC.out.drew
  replace HE := hid HE.out.drew
  replace B := hid (Below.drew B.out)
  have cc43 := XA.out.both
  have cc44 := XB.out.both
  have cc45 := XC.out.both
  have cc46 := XD.out.both
  go_region_held3 (fun w' => w'.cell? ⟨w14.heap.size, 0, none⟩ = some (.bool s3) ∧ w'.cell? ⟨w14.heap.size, 1, none⟩ = some (.slice p3 n3 c3) ∧ w'.cell? ⟨w14.heap.size + 1, 0, none⟩ = some (.bool s4) ∧ w'.cell? ⟨w14.heap.size + 1, 1, none⟩ = some (.slice p4 n4 c4) ∧ w'.cell? ⟨w26.heap.size, 0, none⟩ = some (.bool s5) ∧ w'.cell? ⟨w26.heap.size, 1, none⟩ = some (.slice p5 n5 c5) ∧ w'.cell? ⟨w26.heap.size + 1, 0, none⟩ = some (.bool s6) ∧ w'.cell? ⟨w26.heap.size + 1, 1, none⟩ = some (.slice p6 n6 c6)) (go_keep) (first
    | (have hm := mk47_1; clear hm; go_at_call 87; refine (quot_some P1.out P2.out (Int.mul_ne_zero (den_ne _) (by rw [Ne, Rat.num_eq_zero]; exact HR.out)) (by have := HK.out; omega)).mono ?_; rintro e w58 ⟨v, rfl, hv, hb⟩; obtain ⟨s9a, p9a, n9a, c9a, s9b, p9b, n9b, c9b, rfl⟩ := hv.opened; obtain ⟨ht9, d9, hu9, hd9⟩ := hv.two; have HD9 := hid hd9; replace XQ := nx XQ hb; replace XA := bx XA hb; replace XB := bx XB hb; replace XC := bx XC hb; replace XD := bx XD hb; replace HT1 := wl HT1 hb; replace HU1 := wl HU1 hb; replace HT2 := wl HT2 hb; replace HU2 := wl HU2 hb; replace HA := wl HA hb; replace HB := wl HB hb; replace HC := wl HC hb; replace HE := wl HE hb; replace P1 := wl P1 hb; replace P2 := wl P2 hb; replace B := bb B hb; clear cc54 cc55 cc56 cc57; have HT9 := hid ht9; have HU9 := hid hu9; clear hb hv ht9 hu9 hd9; have cc59 := XA.out.both; have cc60 := XB.out.both; have cc61 := XC.out.both; have cc62 := XD.out.both; have cc63 := XQ.out.stores; obtain ⟨r64a, r64b, r64c⟩ := XQ.out.last B.out (by have := L0.out; have := L1.out; omega) s9a s9b p9a p9b n9a n9b c9a c9b; replace XA := hid (XA.out.kept (heap4 (g := w.heap.size + 1 + 1) (by have := L0.out; have := L1.out; omega) (.bool s9a) (.slice p9a n9a c9a) (.bool s9b) (.slice p9b n9b c9b))); replace XB := hid (XB.out.kept (heap4 (g := w.heap.size + 1 + 1) (by have := L0.out; have := L1.out; omega) (.bool s9a) (.slice p9a n9a c9a) (.bool s9b) (.slice p9b n9b c9b))); replace XC := hid (XC.out.kept (heap4 (g := w.heap.size + 1 + 1) (by have := L0.out; have := L1.out; omega) (.bool s9a) (.slice p9a n9a c9a) (.bool s9b) (.slice p9b n9b c9b))); replace XD := hid (XD.out.kept (heap4 (g := w.heap.size + 1 + 1) (by have := L0.out; have := L1.out; omega) (.bool s9a) (.slice p9a n9a c9a) (.bool s9b) (.slice p9b n9b c9b))); replace HT1 := hid (r64c HT1.out); replace HU1 := hid (r64c HU1.out); replace HT2 := hid (r64c HT2.out); replace HU2 := hid (r64c HU2.out); replace HA := hid (r64c HA.out); replace HB := hid (r64c HB.out); replace HC := hid (r64c HC.out); replace HE := hid (r64c HE.out); replace P1 := hid (r64c P1.out); replace P2 := hid (r64c P2.out); replace HT9 := hid (r64c HT9.out); replace HU9 := hid (r64c HU9.out); replace XQ := hid r64a; replace B := hid r64b; clear r64a r64b r64c; have cc65 := XA.out.both; have cc66 := XB.out.both; have cc67 := XC.out.both; have cc68 := XD.out.both; have mk47_2 := hid True.intro)
    | (have hm := mk47_0; clear hm; go_at_call 44; refine (mul_whl HB.out HC.out (by have := HK.out; omega) (by have := HK.out; omega)).mono ?_; rintro e w53 ⟨v, rfl, hv, hb⟩; obtain ⟨s12, p12, n12, c12, rfl⟩ := hv.opened; replace XQ := nx XQ hb; replace XA := bx XA hb; replace XB := bx XB hb; replace XC := bx XC hb; replace XD := bx XD hb; replace HT1 := wl HT1 hb; replace HU1 := wl HU1 hb; replace HT2 := wl HT2 hb; replace HU2 := wl HU2 hb; replace HA := wl HA hb; replace HB := wl HB hb; replace HC := wl HC hb; replace HE := wl HE hb; replace P1 := wl P1 hb; replace B := bb B hb; clear cc49 cc50 cc51 cc52; have P2 := hid hv; clear hb hv; have cc54 := XA.out.both; have cc55 := XB.out.both; have cc56 := XC.out.both; have cc57 := XD.out.both; have mk47_1 := hid True.intro)
    | (go_at_call 44; refine (mul_whl HA.out HE.out (by have := HK.out; omega) (by have := HK.out; omega)).mono ?_; rintro e w48 ⟨v, rfl, hv, hb⟩; obtain ⟨s11, p11, n11, c11, rfl⟩ := hv.opened; replace XQ := nx XQ hb; replace XA := bx XA hb; replace XB := bx XB hb; replace XC := bx XC hb; replace XD := bx XD hb; replace HT1 := wl HT1 hb; replace HU1 := wl HU1 hb; replace HT2 := wl HT2 hb; replace HU2 := wl HU2 hb; replace HA := wl HA hb; replace HB := wl HB hb; replace HC := wl HC hb; replace HE := wl HE hb; replace B := bb B hb; clear cc33 cc34 cc35 cc36 cc37 cc39 cc40 cc41 cc42 cc43 cc44 cc45 cc46; have P1 := hid hv; clear hb hv; have cc49 := XA.out.both; have cc50 := XB.out.both; have cc51 := XC.out.both; have cc52 := XD.out.both; have mk47_0 := hid True.intro))
  go_wp2_with fail
  refine bodyPost_ret (res_num_tmp rfl rfl rfl XQ.out) rfl ?_
  exact ⟨_, rfl, (by rw [div_parts]; exact (Rtl.mk2 HT9.out HU9.out HD9.out).mono (by omega)), B.out⟩

end Go.Proofs.Ytokojbgpboccnaa

/-
  PACKAGE rat: Compare, Less, Floor.
-/
namespace Go.Proofs.Ytokojbgpboccnaa
open Go.RowKit
open Num
set_option linter.unusedVariables false
set_option maxRecDepth 100000
set_option linter.unusedSimpArgs false
end Go.Proofs.Ytokojbgpboccnaa
