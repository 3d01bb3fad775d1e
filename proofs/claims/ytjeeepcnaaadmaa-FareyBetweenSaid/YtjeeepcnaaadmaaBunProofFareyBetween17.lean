import Derived.Test.YtjeeepcnaaadmaaBunProofFareyBetween16
import Derived.Test.YtjeeepcnaaadmaaBunProofFareyBetween14
import Derived.Test.YtjeeepcnaaadmaaBunProofFareyBetween8
import Derived.Test.YtjeeepcnaaadmaaBunProofFareyBetween13
import Derived.SizedLaws
/-
  PACKAGE cf: Near.
-/
namespace Go.Proofs.Ytjeeepcnaaadmaa
open Go.RowKit
open Num
set_option linter.unusedVariables false
set_option maxRecDepth 100000
set_option linter.unusedSimpArgs false

/-- What is wrong with a bound. -/
def NearBad (a d : ByteArray) (k : Int) : Prop := BadQ a k ∨ (GoodQ a ∧ Bad d k) ∨ (GoodQ a ∧ Good d ∧ ¬ (1 ≤ num d ∧ num d ≤ 1000) ∧ k = 2)
theorem NearBad.ne {a d : ByteArray} {k : Int} (h : NearBad a d k) : k ≠ 0 := by
  rcases h with h | ⟨_, h⟩ | ⟨_, _, _, rfl⟩
  · exact h.ne
  · exact h.ne
  · decide
def NearTells (a d s : ByteArray) (k : Int) : Prop :=
  (k = 0 ∧ GoodQ a ∧ Good d ∧ (1 ≤ num d ∧ num d ≤ 1000) ∧ ∃ p, Bst (qnum a) (num d) p ∧ s = qtxt p) ∨ (k ≠ 0 ∧ NearBad a d k ∧ s = ⟨#[]⟩)
theorem Rtl.size {w : World} {v : Value} {q : Rat} {k : Nat} (h : Rtl w v q k) (hk : 1 ≤ k) : (qtxt q).size ≤ 20 * k + 5 := by
  have h1 := size_ztxt_k (z := q.num) h.num_lt
  have h2 := size_ztxt_k (z := (q.den : Int)) (k := k) (by have := h.den_lt hk; simpa using this)
  rw [qtxt]
  split
  · omega
  · rw [ByteArray.size_append, ByteArray.size_append]
    have : (⟨#[47]⟩ : ByteArray).size = 1 := rfl
    omega

set_option maxHeartbeats 4000000 in
theorem near_a {a d : ByteArray} {k : Int} (h : BadQ a k) (ha : a.size ≤ maxLen) (w : World) :
    Calls Try.prog 19 #[.string a, .string d] w fun e w' => e = .returned (.tuple #[.string ⟨#[]⟩, errno k]) ∧ Below w.heap.size w w' := by
  have hne := errv_neq
  have hkk := errv_some h.ne
  have H1 := hid (qread_bad h w ha)
  have B := hid (Below.refl w.heap.size w)
  clear  h
  go_enter Try.func19, Try.ntmps19
  go_wp2_with fail
  refine (H1.out).mono ?_
  rintro e w1 ⟨rfl, hb⟩
  replace B := bb B hb
  clear hb H1
  have hb2 := (Below.refl _ _).alloc (Nat.le_refl w1.heap.size) (.cells #[.bool false, .slice none 0 0, .bool false, .slice none 0 0] 51)
  have hx3 := Nbx.new w1 false false (.slice none 0 0) (.slice none 0 0)
  replace B := bb B hb2
  have XQ := hid hx3
  have hs4 : (w1.alloc (.cells #[.bool false, .slice none 0 0, .bool false, .slice none 0 0] 51)).heap.size = w1.heap.size + 1 := by simp
  clear hb2 hx3
  obtain ⟨cc5a, cc5b, cc5c, cc5d⟩ := XQ.out.cells
  go_wp2_with fail
  go_ret2
  exact ⟨rfl, B.out⟩

set_option maxHeartbeats 4000000 in
theorem near_d {a d : ByteArray} {k : Int} (h : GoodQ a) (hd : Bad d k) (hds : d.size ≤ maxLen) (w : World) :
    Calls Try.prog 19 #[.string a, .string d] w fun e w' => e = .returned (.tuple #[.string ⟨#[]⟩, errno k]) ∧ Below w.heap.size w w' := by
  have hne := errv_neq
  have H1 := hid (qread_good h w)
  have hkk := errv_some hd.ne
  have H2 := hid (fun w => limit_bad hd hds w)
  have B := hid (Below.refl w.heap.size w)
  clear  h hd
  go_enter Try.func19, Try.ntmps19
  go_wp2_with fail
  refine (H1.out).mono ?_
  rintro e w1 ⟨v, rfl, hv, hb⟩
  obtain ⟨s1a, p1a, n1a, c1a, s1b, p1b, n1b, c1b, rfl⟩ := hv.opened
  obtain ⟨ht1, d1, hu1, hd1⟩ := hv.two
  have HD1 := hid hd1
  replace B := bb B hb
  have HT1 := hid ht1
  have HU1 := hid hu1
  clear hb hv ht1 hu1 hd1 H1
  have hb2 := (Below.refl _ _).alloc (Nat.le_refl w1.heap.size) (.cells #[.bool s1a, .slice p1a n1a c1a, .bool s1b, .slice p1b n1b c1b] 51)
  have hx3 := Nbx.new w1 s1a s1b (.slice p1a n1a c1a) (.slice p1b n1b c1b)
  replace B := bb B hb2
  have XQ := hid hx3
  have hs4 : (w1.alloc (.cells #[.bool s1a, .slice p1a n1a c1a, .bool s1b, .slice p1b n1b c1b] 51)).heap.size = w1.heap.size + 1 := by simp
  clear hb2 hx3
  obtain ⟨cc5a, cc5b, cc5c, cc5d⟩ := XQ.out.cells
  go_wp2_with fail
  generalize hW : w1.alloc (.cells #[.bool s1a, .slice p1a n1a c1a, .bool s1b, .slice p1b n1b c1b] 51) = W6 at *
  clear hW
  refine (H2.out _).mono ?_
  rintro e w7 ⟨rfl, hb⟩
  replace XQ := nx XQ hb
  replace B := bb B hb
  clear cc5a cc5b cc5c cc5d
  clear hb H2
  have hb8 := (Below.refl _ _).alloc (Nat.le_refl w7.heap.size) (.cells #[.bool false, .slice none 0 0] 49)
  have hx9 := Box.new w7 false none 0 0
  have L0 := hid XQ.out.lt
  replace XQ := nx XQ hb8
  replace B := bb B hb8
  have XM := hid hx9
  have hs10 : (w7.alloc (.cells #[.bool false, .slice none 0 0] 49)).heap.size = w7.heap.size + 1 := by simp
  clear hb8 hx9
  obtain ⟨cc11a, cc11b, cc11c, cc11d⟩ := XQ.out.cells
  obtain ⟨cc12a, cc12b⟩ := XM.out.both
  go_wp2_with fail
  go_ret2
  exact ⟨rfl, B.out⟩

set_option maxHeartbeats 4000000 in
theorem near_r {a d : ByteArray} (h : GoodQ a) (hd : Good d) (hr : ¬ (1 ≤ num d ∧ num d ≤ 1000)) (w : World) :
    Calls Try.prog 19 #[.string a, .string d] w fun e w' => e = .returned (.tuple #[.string ⟨#[]⟩, errno 2]) ∧ Below w.heap.size w w' := by
  have hne := errv_neq
  have H1 := hid (qread_good h w)
  have H2 := hid (show ∀ w, Calls Try.prog 41 #[.string d] w fun e w' => e = .returned (.tuple #[.agg #[.bool false, .slice none 0 0], errno 2]) ∧ Below w.heap.size w w' from fun w => by
    by_cases h0 : num d < 1
    · exact limit_small hd h0 w
    · exact limit_great hd (by omega) w)
  have B := hid (Below.refl w.heap.size w)
  clear  h hd hr
  go_enter Try.func19, Try.ntmps19
  go_wp2_with fail
  refine (H1.out).mono ?_
  rintro e w1 ⟨v, rfl, hv, hb⟩
  obtain ⟨s1a, p1a, n1a, c1a, s1b, p1b, n1b, c1b, rfl⟩ := hv.opened
  obtain ⟨ht1, d1, hu1, hd1⟩ := hv.two
  have HD1 := hid hd1
  replace B := bb B hb
  have HT1 := hid ht1
  have HU1 := hid hu1
  clear hb hv ht1 hu1 hd1 H1
  have hb2 := (Below.refl _ _).alloc (Nat.le_refl w1.heap.size) (.cells #[.bool s1a, .slice p1a n1a c1a, .bool s1b, .slice p1b n1b c1b] 51)
  have hx3 := Nbx.new w1 s1a s1b (.slice p1a n1a c1a) (.slice p1b n1b c1b)
  replace B := bb B hb2
  have XQ := hid hx3
  have hs4 : (w1.alloc (.cells #[.bool s1a, .slice p1a n1a c1a, .bool s1b, .slice p1b n1b c1b] 51)).heap.size = w1.heap.size + 1 := by simp
  clear hb2 hx3
  obtain ⟨cc5a, cc5b, cc5c, cc5d⟩ := XQ.out.cells
  go_wp2_with fail
  generalize hW : w1.alloc (.cells #[.bool s1a, .slice p1a n1a c1a, .bool s1b, .slice p1b n1b c1b] 51) = W6 at *
  clear hW
  refine (H2.out _).mono ?_
  rintro e w7 ⟨rfl, hb⟩
  replace XQ := nx XQ hb
  replace B := bb B hb
  clear cc5a cc5b cc5c cc5d
  clear hb H2
  have hb8 := (Below.refl _ _).alloc (Nat.le_refl w7.heap.size) (.cells #[.bool false, .slice none 0 0] 49)
  have hx9 := Box.new w7 false none 0 0
  have L0 := hid XQ.out.lt
  replace XQ := nx XQ hb8
  replace B := bb B hb8
  have XM := hid hx9
  have hs10 : (w7.alloc (.cells #[.bool false, .slice none 0 0] 49)).heap.size = w7.heap.size + 1 := by simp
  clear hb8 hx9
  obtain ⟨cc11a, cc11b, cc11c, cc11d⟩ := XQ.out.cells
  obtain ⟨cc12a, cc12b⟩ := XM.out.both
  go_wp2_with fail
  go_ret2
  exact ⟨rfl, B.out⟩

set_option maxHeartbeats 4000000 in
theorem near_ok {a d : ByteArray} (h : GoodQ a) (hd : Good d) (hr : 1 ≤ num d ∧ num d ≤ 1000) (w : World) :
    Calls Try.prog 19 #[.string a, .string d] w fun e w' => ∃ p, e = .returned (.tuple #[.string (qtxt p), .nilIface]) ∧ Bst (qnum a) (num d) p ∧ (qtxt p).size ≤ maxLen ∧ Below w.heap.size w w' := by
  have H1 := hid (qread_good h w)
  have H2 := hid (fun w => limit_ok hd hr w)
  have HR := hid hr
  have B := hid (Below.refl w.heap.size w)
  clear  h hd hr
  go_enter Try.func19, Try.ntmps19
  go_wp2_with fail
  refine (H1.out).mono ?_
  rintro e w1 ⟨v, rfl, hv, hb⟩
  obtain ⟨s1a, p1a, n1a, c1a, s1b, p1b, n1b, c1b, rfl⟩ := hv.opened
  obtain ⟨ht1, d1, hu1, hd1⟩ := hv.two
  have HD1 := hid hd1
  replace B := bb B hb
  have HT1 := hid ht1
  have HU1 := hid hu1
  clear hb hv ht1 hu1 hd1 H1
  have hb2 := (Below.refl _ _).alloc (Nat.le_refl w1.heap.size) (.cells #[.bool s1a, .slice p1a n1a c1a, .bool s1b, .slice p1b n1b c1b] 51)
  have hx3 := Nbx.new w1 s1a s1b (.slice p1a n1a c1a) (.slice p1b n1b c1b)
  replace HT1 := wl HT1 hb2
  replace HU1 := wl HU1 hb2
  replace B := bb B hb2
  have XQ := hid hx3
  have hs4 : (w1.alloc (.cells #[.bool s1a, .slice p1a n1a c1a, .bool s1b, .slice p1b n1b c1b] 51)).heap.size = w1.heap.size + 1 := by simp
  clear hb2 hx3
  obtain ⟨cc5a, cc5b, cc5c, cc5d⟩ := XQ.out.cells
  go_wp2_with fail
  generalize hW : w1.alloc (.cells #[.bool s1a, .slice p1a n1a c1a, .bool s1b, .slice p1b n1b c1b] 51) = W6 at *
  clear hW
  refine (H2.out _).mono ?_
  rintro e w7 ⟨v, rfl, hv, hb⟩
  obtain ⟨s2, p2, n2, c2, rfl⟩ := hv.opened
  replace XQ := nx XQ hb
  replace HT1 := wl HT1 hb
  replace HU1 := wl HU1 hb
  replace B := bb B hb
  clear cc5a cc5b cc5c cc5d
  have HM := hid hv
  clear hb hv H2
  have hb8 := (Below.refl _ _).alloc (Nat.le_refl w7.heap.size) (.cells #[.bool s2, .slice p2 n2 c2] 49)
  have hx9 := Box.new w7 s2 p2 n2 c2
  have L0 := hid XQ.out.lt
  replace XQ := nx XQ hb8
  replace HT1 := wl HT1 hb8
  replace HU1 := wl HU1 hb8
  replace HM := wl HM hb8
  replace B := bb B hb8
  have XM := hid hx9
  have hs10 : (w7.alloc (.cells #[.bool s2, .slice p2 n2 c2] 49)).heap.size = w7.heap.size + 1 := by simp
  clear hb8 hx9
  obtain ⟨cc11a, cc11b, cc11c, cc11d⟩ := XQ.out.cells
  obtain ⟨cc12a, cc12b⟩ := XM.out.both
  go_wp2_with fail
  generalize hW : w7.alloc (.cells #[.bool s2, .slice p2 n2 c2] 49) = W13 at *
  clear hW
  refine (neighbours_rtl (Rtl.mk2 HT1.out HU1.out HD1.out) HM.out (by decide) (by decide) HR.out).mono ?_
  rintro e w14 ⟨v, u, l, r, rfl, hv, hu, hI, hb⟩
  have HI := hid hI
  obtain ⟨s5a, p5a, n5a, c5a, s5b, p5b, n5b, c5b, rfl⟩ := hv.opened
  obtain ⟨ht5, d5, hu5, hd5⟩ := hv.two
  have HD5 := hid hd5
  obtain ⟨s6a, p6a, n6a, c6a, s6b, p6b, n6b, c6b, rfl⟩ := hu.opened
  obtain ⟨ht6, d6, hu6, hd6⟩ := hu.two
  have HD6 := hid hd6
  replace XQ := nx XQ hb
  replace HT1 := wl HT1 hb
  replace HU1 := wl HU1 hb
  replace B := bb B hb
  clear cc11a cc11b cc11c cc11d cc12a cc12b
  have HT5 := hid ht5
  have HU5 := hid hu5
  have HT6 := hid ht6
  have HU6 := hid hu6
  clear hb hv ht5 hu5 hd5 hI hu ht6 hu6 hd6
  have hb15 := (Below.refl _ _).alloc (Nat.le_refl w14.heap.size) (.cells #[.bool s5a, .slice p5a n5a c5a, .bool s5b, .slice p5b n5b c5b] 51)
  have hx16 := Nbx.new w14 s5a s5b (.slice p5a n5a c5a) (.slice p5b n5b c5b)
  have L1 := hid XQ.out.lt
  replace XQ := nx XQ hb15
  replace HT1 := wl HT1 hb15
  replace HU1 := wl HU1 hb15
  replace HT5 := wl HT5 hb15
  replace HU5 := wl HU5 hb15
  replace HT6 := wl HT6 hb15
  replace HU6 := wl HU6 hb15
  replace B := bb B hb15
  have XL := hid hx16
  have hs17 : (w14.alloc (.cells #[.bool s5a, .slice p5a n5a c5a, .bool s5b, .slice p5b n5b c5b] 51)).heap.size = w14.heap.size + 1 := by simp
  clear hb15 hx16
  have hb18 := (Below.refl _ _).alloc (Nat.le_refl (w14.alloc (.cells #[.bool s5a, .slice p5a n5a c5a, .bool s5b, .slice p5b n5b c5b] 51)).heap.size) (.cells #[.bool s6a, .slice p6a n6a c6a, .bool s6b, .slice p6b n6b c6b] 51)
  have hx19 := Nbx.new (w14.alloc (.cells #[.bool s5a, .slice p5a n5a c5a, .bool s5b, .slice p5b n5b c5b] 51)) s6a s6b (.slice p6a n6a c6a) (.slice p6b n6b c6b)
  rw [hs17] at hx19
  replace XQ := nx XQ hb18
  replace XL := nx XL hb18
  replace HT1 := wl HT1 hb18
  replace HU1 := wl HU1 hb18
  replace HT5 := wl HT5 hb18
  replace HU5 := wl HU5 hb18
  replace HT6 := wl HT6 hb18
  replace HU6 := wl HU6 hb18
  replace B := bb B hb18
  have XH := hid hx19
  have hs20 : ((w14.alloc (.cells #[.bool s5a, .slice p5a n5a c5a, .bool s5b, .slice p5b n5b c5b] 51)).alloc (.cells #[.bool s6a, .slice p6a n6a c6a, .bool s6b, .slice p6b n6b c6b] 51)).heap.size = w14.heap.size + 1 + 1 := by simp [hs17]
  clear hb18 hx19
  obtain ⟨cc21a, cc21b, cc21c, cc21d⟩ := XQ.out.cells
  obtain ⟨cc22a, cc22b, cc22c, cc22d⟩ := XL.out.cells
  obtain ⟨cc23a, cc23b, cc23c, cc23d⟩ := XH.out.cells
  go_wp2_with fail
  generalize hW : (w14.alloc (.cells #[.bool s5a, .slice p5a n5a c5a, .bool s5b, .slice p5b n5b c5b] 51)).alloc (.cells #[.bool s6a, .slice p6a n6a c6a, .bool s6b, .slice p6b n6b c6b] 51) = W24 at *
  clear hW
  refine (nearer_rtl ((Rtl.mk2 HT1.out HU1.out HD1.out).mono (show 100 ≤ 102 by decide)) (Rtl.mk2 HT5.out HU5.out HD5.out) (Rtl.mk2 HT6.out HU6.out HD6.out) (by decide) (by decide)).mono ?_
  rintro e w25 ⟨v, rfl, hv, hb⟩
  have HZ := hid (show (qtxt (nrq (qnum a) l r)).size ≤ maxLen from by have := hv.size (by decide); unfold maxLen; omega)
  obtain ⟨s7a, p7a, n7a, c7a, s7b, p7b, n7b, c7b, rfl⟩ := hv.opened
  obtain ⟨ht7, d7, hu7, hd7⟩ := hv.two
  have HD7 := hid hd7
  replace B := bb B hb
  clear cc21a cc21b cc21c cc21d cc22a cc22b cc22c cc22d cc23a cc23b cc23c cc23d
  have HT7 := hid ht7
  have HU7 := hid hu7
  clear hb hv ht7 hu7 hd7
  go_wp2_with fail
  refine (qstring (Rtl.mk2 HT7.out HU7.out HD7.out) (by decide)).mono ?_
  rintro e w26 ⟨rfl, hb⟩
  replace B := bb B hb
  clear hb 
  go_wp2_with fail
  go_ret2
  obtain ⟨i1, i2, i3, i4, i5, i6⟩ := HI.out
  exact ⟨_, rfl, nrq_best i1 i2 i3 i4 i5 i6, HZ.out, B.out⟩

theorem near_any (a d : ByteArray) (ha : a.size ≤ maxLen) (hd : d.size ≤ maxLen) (w : World) :
    Calls Try.prog 19 #[.string a, .string d] w fun e w' => ∃ s k, e = .returned (.tuple #[.string s, errv k]) ∧ NearTells a d s k ∧ s.size ≤ maxLen ∧ Below w.heap.size w w' := by
  rcases goodQ_or_bad a with h | ⟨k, h⟩
  · rcases good_or_bad d with h2 | ⟨k, h2⟩
    · by_cases hr : 1 ≤ num d ∧ num d ≤ 1000
      · refine (near_ok h h2 hr w).mono ?_
        rintro e w' ⟨p, rfl, hp, hs, hb⟩
        exact ⟨_, 0, rfl, .inl ⟨rfl, h, h2, hr, p, hp, rfl⟩, hs, hb⟩
      · refine (near_r h h2 hr w).mono ?_
        rintro e w' ⟨rfl, hb⟩
        exact ⟨_, 2, by rw [errv_some (by decide)], .inr ⟨by decide, .inr (.inr ⟨h, h2, hr, rfl⟩), rfl⟩, Nat.zero_le _, hb⟩
    · refine (near_d h h2 hd w).mono ?_
      rintro e w' ⟨rfl, hb⟩
      exact ⟨_, k, by rw [errv_some h2.ne], .inr ⟨h2.ne, .inr (.inl ⟨h, h2⟩), rfl⟩, Nat.zero_le _, hb⟩
  · refine (near_a h ha w).mono ?_
    rintro e w' ⟨rfl, hb⟩
    exact ⟨_, k, by rw [errv_some h.ne], .inr ⟨h.ne, .inl h, rfl⟩, Nat.zero_le _, hb⟩

end Go.Proofs.Ytjeeepcnaaadmaa

/-
  off.
-/
namespace Go.Proofs.Ytjeeepcnaaadmaa
open Go.RowKit
open Num
set_option linter.unusedVariables false
set_option maxRecDepth 100000
set_option linter.unusedSimpArgs false

/-- The first byte of a fraction's text; what is behind a minus. -/
theorem qtxt_sign (q : Rat) : 0 < (qtxt q).size ∧ (q < 0 → (qtxt q).data.toList.head? = some 45 ∧ (qtxt q).data.toList.tail = (qtxt (-q)).data.toList) ∧ (¬ q < 0 → (qtxt q).data.toList.head? ≠ some 45) := by
  have hz : ∀ z : Int, (ztxt z).data.toList ≠ [] := by
    intro z
    rw [ztxt_list]
    split
    · simp
    · exact Num.isNat_ne (isNat_dtext _)
  have hl : (qtxt q).data.toList = (ztxt q.num).data.toList ++ (if q.den = 1 then [] else 47 :: (ztxt q.den).data.toList) := by
    by_cases hd : q.den = 1
    · rw [qtxt_one hd, if_pos hd, List.append_nil]
    · rw [qtxt_two hd, if_neg hd]
  have hl2 : (qtxt (-q)).data.toList = (ztxt (-q.num)).data.toList ++ (if q.den = 1 then [] else 47 :: (ztxt q.den).data.toList) := by
    have e1 : (-q).num = -q.num := Rat.neg_num q
    have e2 : (-q).den = q.den := Rat.neg_den q
    by_cases hd : q.den = 1
    · rw [qtxt_one (by rw [e2]; exact hd), if_pos hd, List.append_nil, e1]
    · rw [qtxt_two (by rw [e2]; exact hd), if_neg hd, e1, e2]
  have hn : q < 0 ↔ q.num < 0 := by
    have := Rat.num_nonneg (q := q)
    rw [← Rat.not_le, ← this]
    omega
  refine ⟨?_, fun h => ?_, fun h => ?_⟩
  · apply Nat.pos_of_ne_zero
    intro e
    have h1 : (qtxt q).data.toList.length = 0 := by simpa using e
    rw [hl, List.length_append] at h1
    exact hz q.num (List.eq_nil_of_length_eq_zero (by omega))
  · have hq := hn.1 h
    have hm : (ztxt (-q.num)).data.toList = dtext q.num.natAbs := by
      rw [ztxt_list, if_neg (by omega), show (-q.num).natAbs = q.num.natAbs by omega]
    rw [hl, hl2, hm, ztxt_list, if_pos hq]
    exact ⟨rfl, rfl⟩
  · have hq : ¬ q.num < 0 := fun e => h (hn.2 e)
    rw [hl, ztxt_list, if_neg hq]
    intro e
    have h1 := head_dig (dtext_all q.num.natAbs)
    have h2 : dtext q.num.natAbs ≠ [] := Num.isNat_ne (isNat_dtext _)
    cases hd : dtext q.num.natAbs with
    | nil => exact h2 hd
    | cons c l =>
      rw [hd] at e h1
      simp at e h1
      exact h1 e
theorem qcheck_any (a : ByteArray) (ha : a.size ≤ maxLen) (w : World) :
    Calls Try.prog 21 #[.string a] w fun e w' => ∃ k, e = .returned (errv k) ∧ (k = 0 → GoodQ a) ∧ (k ≠ 0 → ¬ GoodQ a) ∧ Below w.heap.size w w' := by
  rcases goodQ_or_bad a with h | ⟨k, h⟩
  · refine (qcheck_good h w).mono ?_
    rintro e w' ⟨rfl, hb⟩
    exact ⟨0, rfl, fun _ => h, fun e => absurd rfl e, hb⟩
  · have hk : k ≠ 0 := by rcases h with ⟨_, h⟩ | ⟨_, _, h⟩ <;> omega
    have hn : ¬ GoodQ a := by
      rintro ⟨h1, h2⟩
      rcases h with ⟨h, _⟩ | ⟨_, h, _⟩
      · omega
      · rw [h2] at h; cases h
    refine (qcheck_bad h ha w).mono ?_
    rintro e w' ⟨rfl, hb⟩
    exact ⟨k, by rw [errv_some hk], fun e => absurd e hk, fun _ => hn, hb⟩
/-- What 'off' tells. -/
def OffTells (a b s : ByteArray) (t : Bool) : Prop := t = true → GoodQ a ∧ GoodQ b ∧ GoodQ s ∧ qnum s = siz (qnum a - qnum b)

set_option maxHeartbeats 4000000 in
theorem off_any (a b : ByteArray) (ha : a.size ≤ maxLen) (hb0 : b.size ≤ maxLen) (w : World) :
    Calls Try.prog 22 #[.string a, .string b] w fun e w' => ∃ s t, e = .returned (.tuple #[.string s, .bool t]) ∧ OffTells a b s t ∧ s.size ≤ maxLen ∧ Below w.heap.size w w' := by
  have hne := errv_neq
  have heq := errv_eql
  have hgd := errv_guard
  go_enter Try.func22, Try.ntmps22
  go_wp2_with fail
  refine (qmul_any b ⟨#[45, 49]⟩ hb0 (by decide) w).mono ?_
  rintro e w1 ⟨m, k1, rfl, t1, z1, b1⟩
  have T1 := hid t1
  have B := hid b1
  clear t1 b1
  go_wp2_with fail
  refine (qadd_any a m ha z1 w1).mono ?_
  rintro e w2 ⟨s, k2, rfl, t2, z2, b2⟩
  have T2 := hid t2
  replace B := bb B b2
  clear t2 b2
  by_cases h1 : k1 = 0
  · by_cases h2 : k2 = 0
    · obtain ⟨g1, _, e1⟩ := T1.out.yes h1
      obtain ⟨g3, _, e2⟩ := T2.out.yes h2
      have hs : s = qtxt (qnum a - qnum b) := by
        rw [e2, e1, qnum_qtxt, qnum_neg]
        congr 1
        grind
      obtain ⟨hp, hm, hq⟩ := qtxt_sign (qnum a - qnum b)
      rw [← hs] at hp hm hq
      subst h1 h2
      have HGA := hid g3
      have HGB := hid g1
      have HS := hid hs
      have hz : (0 : Int) < (s.size : Int) := by omega
      have hz2 : (s.size : Int) ≤ 9223372036854775807 := by unfold maxLen at z2; omega
      have hd0 : s.data.toList = s[0] :: s.data.toList.tail := by
        cases hl : s.data.toList with
        | nil => have : s.data.toList.length = s.size := by simp
                 rw [hl] at this; simp at this; omega
        | cons c l =>
          have : s[0] = c := by
            have h5 : s.data.toList[0]? = some c := by rw [hl]; rfl
            have h6 : s.data.toList[0]? = some s[0] := by
              rw [List.getElem?_eq_getElem (by rw [hl]; simp)]
              rfl
            rw [h5] at h6
            exact (Option.some.inj h6).symm
          rw [this]; rfl
      clear T1 T2 e1 e2
      by_cases hneg : qnum a - qnum b < 0
      · have hc : (s[0].toNat : Int) = 45 := by
          have := (hm hneg).1
          rw [hd0] at this
          simp at this
          rw [this]; rfl
        have hx : s.extract 1 s.size = qtxt (-(qnum a - qnum b)) := by
          apply ba_ext
          rw [extract_end, ← (hm hneg).2, List.drop_one]
        have HX := hid hx
        have hl1 : (s.extract 1 s.size).size ≤ maxLen := by
          rw [size_extract_end]
          omega
        have HC := hid (fun w' => qcheck_any (s.extract 1 s.size) hl1 w')
        have HD := hid hneg
        have h1s : (1 : Int) ≤ (s.size : Int) := by omega
        clear hx hd0 hm hq hneg hl1 HS hs
        go_wp2_with fail
        replace B := hid (Below.drew B.out)
        go_region_with (go_at_call 21; refine (HC.out _).mono ?_; rintro e w20 ⟨k, rfl, hg, _, hb⟩; replace B := bb B hb; have HG := hid hg; clear hb hg)
        all_goals
          go_wp2_with fail
          go_ret2
          exact ⟨_, _, rfl, (fun h => by
            have hk := HG.out (by simpa using h)
            refine ⟨HGA.out, HGB.out, hk, ?_⟩
            rw [HX.out, qnum_qtxt, siz, if_pos HD.out]), (by rw [size_extract_end]; omega), B.out⟩
      · have hc : ¬ (s[0].toNat : Int) = 45 := by
          intro e
          apply hq hneg
          rw [hd0]
          show some s[0] = some 45
          congr 1
          apply UInt8.toNat_inj.1
          have : (45 : UInt8).toNat = 45 := rfl
          omega
        have HC := hid (fun w' => qcheck_any s z2 w')
        have HD := hid hneg
        clear hd0 hm hq hneg hs
        go_wp2_with fail
        replace B := hid (Below.drew B.out)
        go_region_with (go_at_call 21; refine (HC.out _).mono ?_; rintro e w20 ⟨k, rfl, hg, _, hb⟩; replace B := bb B hb; have HG := hid hg; clear hb hg)
        all_goals
          go_wp2_with fail
          go_ret2
          exact ⟨_, _, rfl, (fun h => by
            have hk := HG.out (by simpa using h)
            refine ⟨HGA.out, HGB.out, hk, ?_⟩
            rw [HS.out, qnum_qtxt, siz, if_neg HD.out]), z2, B.out⟩
    · have h2' : (k2 != 0) = true := by simpa using h2
      subst h1
      go_wp2_with fail
      go_ret2
      exact ⟨_, _, rfl, (fun h => by cases h), Nat.zero_le _, B.out⟩
  · have h1' : (k1 != 0) = true := by simpa using h1
    go_wp2_with fail
    go_ret2
    exact ⟨_, _, rfl, (fun h => by cases h), Nat.zero_le _, B.out⟩

end Go.Proofs.Ytjeeepcnaaadmaa

namespace Go.Proofs.Ytjeeepcnaaadmaa
open Go.RowKit
open Num
set_option linter.unusedVariables false
set_option maxRecDepth 100000
set_option linter.unusedSimpArgs false

set_option maxHeartbeats 32000000 in
theorem fbetween_walk (a b way : ByteArray) (za : a.size ≤ 140737488351232) (zb : b.size ≤ 140737488351232) (zway : way.size ≤ 140737488351232) (w : World) :
    Calls Try.prog 8 #[.string a, .string b, .string way] w fun e w' => e = .returned (.bool true) ∧ Below w.heap.size w w' := by
  have ha : a.size ≤ maxLen := by unfold maxLen; omega
  have hb : b.size ≤ maxLen := by unfold maxLen; omega
  have hway : way.size ≤ maxLen := by unfold maxLen; omega
  have hj1 : ¬ 9223372036854775807 < way.size + 1 := by omega
  have hwl : (way ++ ⟨#[76]⟩).size ≤ maxLen := by rw [ByteArray.size_append]; show way.size + 1 ≤ _; unfold maxLen; omega
  have hwr : (way ++ ⟨#[82]⟩).size ≤ maxLen := by rw [ByteArray.size_append]; show way.size + 1 ≤ _; unfold maxLen; omega
  have hne := errv_neq
  have heq := errv_eql
  have hgd := errv_guard
  go_enter Try.func8, Try.ntmps8
  go_wp2_with fail
  refine (middle_true w).mono ?_
  rintro e w1 ⟨rfl, b1⟩
  have B1 := hid b1
  clear b1
  go_wp2_with fail
  refine (qmed_any a b ha hb w1).mono ?_
  rintro e w2 ⟨m, k2, rfl, t2, z2, b2⟩
  have T2 := hid t2
  have B2 := hid (B1.out.trans (b2.mono B1.out.size))
  clear b2
  clear t2
  go_wp2_with fail
  refine (qless_any a b ha hb w2).mono ?_
  rintro e w3 ⟨less, k3, rfl, t3, b3⟩
  have T3 := hid t3
  have B3 := hid (B2.out.trans (b3.mono B2.out.size))
  clear b3
  clear t3
  by_cases hgood : GoodQ a ∧ GoodQ b
  · have e1 : k2 = 0 := T2.out.zero hgood.1 hgood.2
    have e2 : k3 = 0 := T3.out.zero hgood.1 hgood.2
    subst e1 e2
    have HG := hid hgood
    clear hgood
    cases less with
    | false =>
        go_wp2_with fail
        refine (at_any way hway w3).mono ?_
        rintro e w4 ⟨n, k4, rfl, t4, z4, b4⟩
        have T4 := hid t4
        have B4 := hid (B3.out.trans (b4.mono B3.out.size))
        clear b4
        clear t4
        go_wp2_with fail
        generalize hWL : way ++ ⟨#[76]⟩ = wl at *
        replace hWL := hid hWL
        refine (at_any wl hwl w4).mono ?_
        rintro e w5 ⟨l, k5, rfl, t5, z5, b5⟩
        have T5 := hid t5
        have B5 := hid (B4.out.trans (b5.mono B4.out.size))
        clear b5
        clear t5
        go_wp2_with fail
        generalize hWR : way ++ ⟨#[82]⟩ = wr at *
        replace hWR := hid hWR
        refine (at_any wr hwr w5).mono ?_
        rintro e w6 ⟨r, k6, rfl, t6, z6, b6⟩
        have T6 := hid t6
        have B6 := hid (B5.out.trans (b6.mono B5.out.size))
        clear b6
        clear t6
        by_cases h1 : k4 = 0
        · subst h1
          by_cases h2 : k5 = 0
          · subst h2
            by_cases h3 : k6 = 0
            · subst h3
              go_wp2_with fail
              refine (qless_any l n z5 z4 w6).mono ?_
              rintro e w7 ⟨x, k7, rfl, t7, b7⟩
              have T7 := hid t7
              have B7 := hid (B6.out.trans (b7.mono B6.out.size))
              clear b7
              clear t7
              go_wp2_with fail
              refine (qless_any n r z4 z6 w7).mono ?_
              rintro e w8 ⟨y, k8, rfl, t8, b8⟩
              have T8 := hid t8
              have B8 := hid (B7.out.trans (b8.mono B7.out.size))
              clear b8
              clear t8
              obtain ⟨e1, e2⟩ := at_left T4.out (by rw [hWL.out]; exact T5.out) T7.out
              obtain ⟨e3, e4⟩ := at_right T4.out (by rw [hWR.out]; exact T6.out) T8.out
              clear T4 T5 T6 T7 T8
              subst e1
              subst e2
              subst e3
              subst e4
              go_wp2_with fail
              go_ret
              exact ⟨rfl, B8.out⟩
            · have f6 : (k6 != 0) = true := by simpa using h3
              have g6 : (k6 == 0) = false := by simpa using h3
              clear h3
              go_wp2_with fail
              go_ret
              exact ⟨rfl, B6.out⟩
          · have f5 : (k5 != 0) = true := by simpa using h2
            have g5 : (k5 == 0) = false := by simpa using h2
            clear h2
            go_wp2_with fail
            go_ret
            exact ⟨rfl, B6.out⟩
        · have f4 : (k4 != 0) = true := by simpa using h1
          have g4 : (k4 == 0) = false := by simpa using h1
          clear h1
          go_wp2_with fail
          go_ret
          exact ⟨rfl, B6.out⟩
    | true =>
        go_wp2_with fail
        refine (qcheck_any m z2 w3).mono ?_
        rintro e w4 ⟨k4, rfl, c4, _, b4⟩
        have C4 := hid c4
        have B4 := hid (B3.out.trans (b4.mono B3.out.size))
        clear b4
        clear c4
        by_cases h3 : k4 = 0
        · subst h3
          have HM := hid (C4.out rfl)
          clear C4
          go_wp2_with fail
          refine (qless_any a m ha z2 w4).mono ?_
          rintro e w5 ⟨x1, k5, rfl, t5, b5⟩
          have T5 := hid t5
          have B5 := hid (B4.out.trans (b5.mono B4.out.size))
          clear b5
          clear t5
          go_wp2_with fail
          refine (qless_any m b z2 hb w5).mono ?_
          rintro e w6 ⟨y1, k6, rfl, t6, b6⟩
          have T6 := hid t6
          have B6 := hid (B5.out.trans (b6.mono B5.out.size))
          clear b6
          clear t6
          have e1 : k5 = 0 := T5.out.zero HG.out.1 HM.out
          have e2 : k6 = 0 := T6.out.zero HM.out HG.out.2
          subst e1 e2
          obtain ⟨e3, e4⟩ := med_between T2.out T3.out T5.out T6.out
          clear T2 T3 T5 T6
          subst e3 e4
          go_wp2_with fail
          refine (at_any way hway w6).mono ?_
          rintro e w7 ⟨n, k7, rfl, t7, z7, b7⟩
          have T7 := hid t7
          have B7 := hid (B6.out.trans (b7.mono B6.out.size))
          clear b7
          clear t7
          go_wp2_with fail
          generalize hWL : way ++ ⟨#[76]⟩ = wl at *
          replace hWL := hid hWL
          refine (at_any wl hwl w7).mono ?_
          rintro e w8 ⟨l, k8, rfl, t8, z8, b8⟩
          have T8 := hid t8
          have B8 := hid (B7.out.trans (b8.mono B7.out.size))
          clear b8
          clear t8
          go_wp2_with fail
          generalize hWR : way ++ ⟨#[82]⟩ = wr at *
          replace hWR := hid hWR
          refine (at_any wr hwr w8).mono ?_
          rintro e w9 ⟨r, k9, rfl, t9, z9, b9⟩
          have T9 := hid t9
          have B9 := hid (B8.out.trans (b9.mono B8.out.size))
          clear b9
          clear t9
          by_cases h1 : k7 = 0
          · subst h1
            by_cases h2 : k8 = 0
            · subst h2
              by_cases h3 : k9 = 0
              · subst h3
                go_wp2_with fail
                refine (qless_any l n z8 z7 w9).mono ?_
                rintro e w10 ⟨x, k10, rfl, t10, b10⟩
                have T10 := hid t10
                have B10 := hid (B9.out.trans (b10.mono B9.out.size))
                clear b10
                clear t10
                go_wp2_with fail
                refine (qless_any n r z7 z9 w10).mono ?_
                rintro e w11 ⟨y, k11, rfl, t11, b11⟩
                have T11 := hid t11
                have B11 := hid (B10.out.trans (b11.mono B10.out.size))
                clear b11
                clear t11
                obtain ⟨e1, e2⟩ := at_left T7.out (by rw [hWL.out]; exact T8.out) T10.out
                obtain ⟨e3, e4⟩ := at_right T7.out (by rw [hWR.out]; exact T9.out) T11.out
                clear T7 T8 T9 T10 T11
                subst e1
                subst e2
                subst e3
                subst e4
                go_wp2_with fail
                go_ret
                exact ⟨rfl, B11.out⟩
              · have f9 : (k9 != 0) = true := by simpa using h3
                have g9 : (k9 == 0) = false := by simpa using h3
                clear h3
                go_wp2_with fail
                go_ret
                exact ⟨rfl, B9.out⟩
            · have f8 : (k8 != 0) = true := by simpa using h2
              have g8 : (k8 == 0) = false := by simpa using h2
              clear h2
              go_wp2_with fail
              go_ret
              exact ⟨rfl, B9.out⟩
          · have f7 : (k7 != 0) = true := by simpa using h1
            have g7 : (k7 == 0) = false := by simpa using h1
            clear h1
            go_wp2_with fail
            go_ret
            exact ⟨rfl, B9.out⟩
        · have f4 : (k4 != 0) = true := by simpa using h3
          have g4 : (k4 == 0) = false := by simpa using h3
          clear h3 C4
          go_wp2_with fail
          refine (at_any way hway w4).mono ?_
          rintro e w5 ⟨n, k5, rfl, t5, z5, b5⟩
          have T5 := hid t5
          have B5 := hid (B4.out.trans (b5.mono B4.out.size))
          clear b5
          clear t5
          go_wp2_with fail
          generalize hWL : way ++ ⟨#[76]⟩ = wl at *
          replace hWL := hid hWL
          refine (at_any wl hwl w5).mono ?_
          rintro e w6 ⟨l, k6, rfl, t6, z6, b6⟩
          have T6 := hid t6
          have B6 := hid (B5.out.trans (b6.mono B5.out.size))
          clear b6
          clear t6
          go_wp2_with fail
          generalize hWR : way ++ ⟨#[82]⟩ = wr at *
          replace hWR := hid hWR
          refine (at_any wr hwr w6).mono ?_
          rintro e w7 ⟨r, k7, rfl, t7, z7, b7⟩
          have T7 := hid t7
          have B7 := hid (B6.out.trans (b7.mono B6.out.size))
          clear b7
          clear t7
          by_cases h1 : k5 = 0
          · subst h1
            by_cases h2 : k6 = 0
            · subst h2
              by_cases h3 : k7 = 0
              · subst h3
                go_wp2_with fail
                refine (qless_any l n z6 z5 w7).mono ?_
                rintro e w8 ⟨x, k8, rfl, t8, b8⟩
                have T8 := hid t8
                have B8 := hid (B7.out.trans (b8.mono B7.out.size))
                clear b8
                clear t8
                go_wp2_with fail
                refine (qless_any n r z5 z7 w8).mono ?_
                rintro e w9 ⟨y, k9, rfl, t9, b9⟩
                have T9 := hid t9
                have B9 := hid (B8.out.trans (b9.mono B8.out.size))
                clear b9
                clear t9
                obtain ⟨e1, e2⟩ := at_left T5.out (by rw [hWL.out]; exact T6.out) T8.out
                obtain ⟨e3, e4⟩ := at_right T5.out (by rw [hWR.out]; exact T7.out) T9.out
                clear T5 T6 T7 T8 T9
                subst e1
                subst e2
                subst e3
                subst e4
                go_wp2_with fail
                go_ret
                exact ⟨rfl, B9.out⟩
              · have f7 : (k7 != 0) = true := by simpa using h3
                have g7 : (k7 == 0) = false := by simpa using h3
                clear h3
                go_wp2_with fail
                go_ret
                exact ⟨rfl, B7.out⟩
            · have f6 : (k6 != 0) = true := by simpa using h2
              have g6 : (k6 == 0) = false := by simpa using h2
              clear h2
              go_wp2_with fail
              go_ret
              exact ⟨rfl, B7.out⟩
          · have f5 : (k5 != 0) = true := by simpa using h1
            have g5 : (k5 == 0) = false := by simpa using h1
            clear h1
            go_wp2_with fail
            go_ret
            exact ⟨rfl, B7.out⟩
  · obtain ⟨n2, v2⟩ := T2.out.no hgood
    have f2 : (k2 != 0) = true := by simpa using n2
    have g2 : (k2 == 0) = false := by simpa using n2
    obtain ⟨n3, v3⟩ := T3.out.no hgood
    have f3 : (k3 != 0) = true := by simpa using n3
    have g3 : (k3 == 0) = false := by simpa using n3
    subst v2 v3
    clear hgood n2 n3 T2 T3
    go_wp2_with fail
    refine (at_any way hway w3).mono ?_
    rintro e w4 ⟨n, k4, rfl, t4, z4, b4⟩
    have T4 := hid t4
    have B4 := hid (B3.out.trans (b4.mono B3.out.size))
    clear b4
    clear t4
    go_wp2_with fail
    generalize hWL : way ++ ⟨#[76]⟩ = wl at *
    replace hWL := hid hWL
    refine (at_any wl hwl w4).mono ?_
    rintro e w5 ⟨l, k5, rfl, t5, z5, b5⟩
    have T5 := hid t5
    have B5 := hid (B4.out.trans (b5.mono B4.out.size))
    clear b5
    clear t5
    go_wp2_with fail
    generalize hWR : way ++ ⟨#[82]⟩ = wr at *
    replace hWR := hid hWR
    refine (at_any wr hwr w5).mono ?_
    rintro e w6 ⟨r, k6, rfl, t6, z6, b6⟩
    have T6 := hid t6
    have B6 := hid (B5.out.trans (b6.mono B5.out.size))
    clear b6
    clear t6
    by_cases h1 : k4 = 0
    · subst h1
      by_cases h2 : k5 = 0
      · subst h2
        by_cases h3 : k6 = 0
        · subst h3
          go_wp2_with fail
          refine (qless_any l n z5 z4 w6).mono ?_
          rintro e w7 ⟨x, k7, rfl, t7, b7⟩
          have T7 := hid t7
          have B7 := hid (B6.out.trans (b7.mono B6.out.size))
          clear b7
          clear t7
          go_wp2_with fail
          refine (qless_any n r z4 z6 w7).mono ?_
          rintro e w8 ⟨y, k8, rfl, t8, b8⟩
          have T8 := hid t8
          have B8 := hid (B7.out.trans (b8.mono B7.out.size))
          clear b8
          clear t8
          obtain ⟨e1, e2⟩ := at_left T4.out (by rw [hWL.out]; exact T5.out) T7.out
          obtain ⟨e3, e4⟩ := at_right T4.out (by rw [hWR.out]; exact T6.out) T8.out
          clear T4 T5 T6 T7 T8
          subst e1
          subst e2
          subst e3
          subst e4
          go_wp2_with fail
          go_ret
          exact ⟨rfl, B8.out⟩
        · have f6 : (k6 != 0) = true := by simpa using h3
          have g6 : (k6 == 0) = false := by simpa using h3
          clear h3
          go_wp2_with fail
          go_ret
          exact ⟨rfl, B6.out⟩
      · have f5 : (k5 != 0) = true := by simpa using h2
        have g5 : (k5 == 0) = false := by simpa using h2
        clear h2
        go_wp2_with fail
        go_ret
        exact ⟨rfl, B6.out⟩
    · have f4 : (k4 != 0) = true := by simpa using h1
      have g4 : (k4 == 0) = false := by simpa using h1
      clear h1
      go_wp2_with fail
      go_ret
      exact ⟨rfl, B6.out⟩

end Go.Proofs.Ytjeeepcnaaadmaa

/-
  The law FareyBetween of package abacistlaw1: whatever texts come in, the call returns true, and they read behind it as they did before. No condition.
-/
namespace Go.Proofs.Ytjeeepcnaaadmaa.fareyBetween
open Go.ChangeShapes Go.WideShapes Go.ChangeAt Go.RowKit
open Go.ChangeMaps (open_string shut_string)
set_option linter.unusedVariables false

theorem own : ownKnob Try.prog.godebug = none := by kernel_rfl

set_option maxRecDepth 100000 in
theorem lifted (os : Os) (started : os.Started) (H : Type) (enc : TypeId × Value → H) :
    ReturnsInHanded {} Try.checked os 8 .any (Rows.fareyBetweenSpec.pre6 enc Try.prog Try.f8 Rows.fareyBetweenRow.domain false) (Rows.fareyBetweenSpec.post enc Try.prog Try.f8 false true false false) := by
  refine returnsInHanded_of_change_sized (C := Try.checked) own started (by kernel_rfl) Try.func8
    (ChangeSpec.witness6 (enc := enc) (C := Try.checked) false ⟨#[], #[.string ByteArray.empty, .string ByteArray.empty, .string ByteArray.empty], []⟩ 8 (by kernel_rfl) (by kernel_rfl) (by kernel_rfl) (by kernel_rfl)) ?_
  intro W base args ds gs before hval0 hW hcnd hsz0 _
  have hval : ∀ (j : Nat) t v, Try.f8.params[j]? = some t → args[j]? = some v → Value.okWide Try.prog W .any base t v := hval0
  have hW' := hW
  obtain ⟨p, q, hA0, hV, rfl, hfz, hnd⟩ := hW
  have hA : DataW.TrodAll enc Try.prog W 0 (fun _ => true) true Try.f8.params.toList args.toList ds p := hA0
  rw [Try.params8] at hA hval
  have hsz : (DataW.weightsEach Try.prog (Try.f8.params.toList ++ Rows.fareyBetweenSpec.plain.varTypes Try.prog) (ds ++ gs)).all (· ≤ reachBytes) = true := hsz0
  rw [Try.params8] at hsz
  obtain ⟨v0, vs0, d0, ds0, p0, q0, hargs, rfl, rfl, h0, r0⟩ := trodAll_cons hA
  obtain ⟨v1, vs1, d1, ds1, p1, q1, rfl, rfl, rfl, h1, r1⟩ := trodAll_cons r0
  obtain ⟨v2, vs2, d2, ds2, p2, q2, rfl, rfl, rfl, h2, r2⟩ := trodAll_cons r1
  obtain ⟨rfl, rfl, rfl⟩ := trodAll_nil r2
  obtain rfl : args = #[v0, v1, v2] := by cases args; simp_all
  obtain ⟨rfl, rfl⟩ := trodVars_none hV
  obtain ⟨a0, rfl, rfl, rfl, w0⟩ := open_string Try.underlying9 (hval 0 9 v0 rfl rfl) h0
  obtain ⟨a1, rfl, rfl, rfl, w1⟩ := open_string Try.underlying9 (hval 1 9 v1 rfl rfl) h1
  obtain ⟨a2, rfl, rfl, rfl, w2⟩ := open_string Try.underlying9 (hval 2 9 v2 rfl rfl) h2
  have z0 : a0.size ≤ 140737488351232 := by
    have := sized_string hsz (j := 0) (t := 9) rfl rfl
    simpa [reachBytes] using this
  have z1 : a1.size ≤ 140737488351232 := by
    have := sized_string hsz (j := 1) (t := 9) rfl rfl
    simpa [reachBytes] using this
  have z2 : a2.size ≤ 140737488351232 := by
    have := sized_string hsz (j := 2) (t := 9) rfl rfl
    simpa [reachBytes] using this
  clear hA0 hval0
  simp only [List.append_nil] at hW'
  refine (fbetween_walk a0 a1 a2 z0 z1 z2 W).mono fun e W' ⟨he, hg⟩ => ?_
  subst he
  exact ⟨_, rfl, post_plain hW' (fun _ _ _ => (trodAll_cons_mk (shut_bool Try.underlying4 _) trodAll_mk0)) (fun sp => (trodAll_cons_mk (shut_string Try.underlying9 w0) (trodAll_cons_mk (shut_string Try.underlying9 w1) (trodAll_cons_mk (shut_string Try.underlying9 w2) trodAll_mk0)))) (fun _ => rfl)
    hg (ok_one (by kernel_rfl) rfl (okWide_bool_mk Try.underlying4 _))⟩

/-- The law FareyBetween: every input. -/
theorem proved : Rows.FareyBetweenSaid :=
  OpenClaim.holds_of_wide 8 Try.f8 rfl rfl rfl rfl rfl rfl rfl ⟨rfl, rfl, rfl, rfl, rfl⟩ rfl rfl rfl rfl rfl (by kernel_rfl) Try.func8 (by kernel_rfl)
    (of_decide_eq_true (by kernel_rfl)) (by unfold Func.isWrapper; first | (rw [if_pos (by decide +kernel)]; kernel_rfl) | (rw [if_neg (by decide +kernel)]; exact ⟨rfl, rfl⟩))
    (fun os started H enc _ => lifted os started H enc)
#print axioms proved
end Go.Proofs.Ytjeeepcnaaadmaa.fareyBetween
