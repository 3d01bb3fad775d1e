/-
  PACKAGE rat: ITS FUNCTIONS OF TEXTS.
-/
import Derived.Test.YtjeeepcnaaadmaaRatRead
import Derived.Test.YtjeeepcnaaadmaaRatAdd
import Derived.Test.YtjeeepcnaaadmaaRatMul
import Derived.Test.YtjeeepcnaaadmaaRatDiv
import Derived.Test.YtjeeepcnaaadmaaRatLess
namespace Go.Proofs.Ytjeeepcnaaadmaa
open Go.RowKit
open Num
set_option linter.unusedVariables false
set_option maxRecDepth 100000
set_option linter.unusedSimpArgs false

set_option maxHeartbeats 1000000 in
theorem qadd_bad {a b : ByteArray} {k : Int} (h : WrongQ a b k) (ha : a.size ≤ maxLen) (hb0 : b.size ≤ maxLen) (w : World) :
    Calls Try.prog 13 #[.string a, .string b] w fun e w' => e = .returned (.tuple #[.string ⟨#[]⟩, errno k]) ∧ Below w.heap.size w w' := by
  have HP := hid (qboth_bad h ha hb0 w)
  have B := hid (Below.refl w.heap.size w)
  clear  h
  go_enter Try.func13, Try.ntmps13
  go_wp2_with fail
  refine (HP.out).mono ?_
  rintro e w1 ⟨rfl, hb⟩
  replace B := bb B hb
  clear hb HP
  have hb2 := (Below.refl _ _).alloc (Nat.le_refl w1.heap.size) (.cells #[.bool false, .slice none 0 0, .bool false, .slice none 0 0] 51)
  have hx3 := Nbx.new w1 false false (.slice none 0 0) (.slice none 0 0)
  replace B := bb B hb2
  have X6 := hid hx3
  have hs4 : (w1.alloc (.cells #[.bool false, .slice none 0 0, .bool false, .slice none 0 0] 51)).heap.size = w1.heap.size + 1 := by simp
  clear hb2 hx3
  have hb5 := (Below.refl _ _).alloc (Nat.le_refl (w1.alloc (.cells #[.bool false, .slice none 0 0, .bool false, .slice none 0 0] 51)).heap.size) (.cells #[.bool false, .slice none 0 0, .bool false, .slice none 0 0] 51)
  have hx6 := Nbx.new (w1.alloc (.cells #[.bool false, .slice none 0 0, .bool false, .slice none 0 0] 51)) false false (.slice none 0 0) (.slice none 0 0)
  rw [hs4] at hx6
  replace X6 := nx X6 hb5
  replace B := bb B hb5
  have X7 := hid hx6
  have hs7 : ((w1.alloc (.cells #[.bool false, .slice none 0 0, .bool false, .slice none 0 0] 51)).alloc (.cells #[.bool false, .slice none 0 0, .bool false, .slice none 0 0] 51)).heap.size = w1.heap.size + 1 + 1 := by simp [hs4]
  clear hb5 hx6
  obtain ⟨cc8a, cc8b, cc8c, cc8d⟩ := X6.out.cells
  obtain ⟨cc9a, cc9b, cc9c, cc9d⟩ := X7.out.cells
  go_wp2_with fail
  go_ret2
  exact ⟨rfl, B.out⟩

set_option maxHeartbeats 1000000 in
theorem qmul_bad {a b : ByteArray} {k : Int} (h : WrongQ a b k) (ha : a.size ≤ maxLen) (hb0 : b.size ≤ maxLen) (w : World) :
    Calls Try.prog 16 #[.string a, .string b] w fun e w' => e = .returned (.tuple #[.string ⟨#[]⟩, errno k]) ∧ Below w.heap.size w w' := by
  have HP := hid (qboth_bad h ha hb0 w)
  have B := hid (Below.refl w.heap.size w)
  clear  h
  go_enter Try.func16, Try.ntmps16
  go_wp2_with fail
  refine (HP.out).mono ?_
  rintro e w1 ⟨rfl, hb⟩
  replace B := bb B hb
  clear hb HP
  have hb2 := (Below.refl _ _).alloc (Nat.le_refl w1.heap.size) (.cells #[.bool false, .slice none 0 0, .bool false, .slice none 0 0] 51)
  have hx3 := Nbx.new w1 false false (.slice none 0 0) (.slice none 0 0)
  replace B := bb B hb2
  have X6 := hid hx3
  have hs4 : (w1.alloc (.cells #[.bool false, .slice none 0 0, .bool false, .slice none 0 0] 51)).heap.size = w1.heap.size + 1 := by simp
  clear hb2 hx3
  have hb5 := (Below.refl _ _).alloc (Nat.le_refl (w1.alloc (.cells #[.bool false, .slice none 0 0, .bool false, .slice none 0 0] 51)).heap.size) (.cells #[.bool false, .slice none 0 0, .bool false, .slice none 0 0] 51)
  have hx6 := Nbx.new (w1.alloc (.cells #[.bool false, .slice none 0 0, .bool false, .slice none 0 0] 51)) false false (.slice none 0 0) (.slice none 0 0)
  rw [hs4] at hx6
  replace X6 := nx X6 hb5
  replace B := bb B hb5
  have X7 := hid hx6
  have hs7 : ((w1.alloc (.cells #[.bool false, .slice none 0 0, .bool false, .slice none 0 0] 51)).alloc (.cells #[.bool false, .slice none 0 0, .bool false, .slice none 0 0] 51)).heap.size = w1.heap.size + 1 + 1 := by simp [hs4]
  clear hb5 hx6
  obtain ⟨cc8a, cc8b, cc8c, cc8d⟩ := X6.out.cells
  obtain ⟨cc9a, cc9b, cc9c, cc9d⟩ := X7.out.cells
  go_wp2_with fail
  go_ret2
  exact ⟨rfl, B.out⟩

set_option maxHeartbeats 1000000 in
theorem qdiv_bad {a b : ByteArray} {k : Int} (h : WrongQ a b k) (ha : a.size ≤ maxLen) (hb0 : b.size ≤ maxLen) (w : World) :
    Calls Try.prog 24 #[.string a, .string b] w fun e w' => e = .returned (.tuple #[.string ⟨#[]⟩, errno k]) ∧ Below w.heap.size w w' := by
  have HP := hid (qboth_bad h ha hb0 w)
  have B := hid (Below.refl w.heap.size w)
  clear  h
  go_enter Try.func24, Try.ntmps24
  go_wp2_with fail
  refine (HP.out).mono ?_
  rintro e w1 ⟨rfl, hb⟩
  replace B := bb B hb
  clear hb HP
  have hb2 := (Below.refl _ _).alloc (Nat.le_refl w1.heap.size) (.cells #[.bool false, .slice none 0 0, .bool false, .slice none 0 0] 51)
  have hx3 := Nbx.new w1 false false (.slice none 0 0) (.slice none 0 0)
  replace B := bb B hb2
  have X6 := hid hx3
  have hs4 : (w1.alloc (.cells #[.bool false, .slice none 0 0, .bool false, .slice none 0 0] 51)).heap.size = w1.heap.size + 1 := by simp
  clear hb2 hx3
  have hb5 := (Below.refl _ _).alloc (Nat.le_refl (w1.alloc (.cells #[.bool false, .slice none 0 0, .bool false, .slice none 0 0] 51)).heap.size) (.cells #[.bool false, .slice none 0 0, .bool false, .slice none 0 0] 51)
  have hx6 := Nbx.new (w1.alloc (.cells #[.bool false, .slice none 0 0, .bool false, .slice none 0 0] 51)) false false (.slice none 0 0) (.slice none 0 0)
  rw [hs4] at hx6
  replace X6 := nx X6 hb5
  replace B := bb B hb5
  have X7 := hid hx6
  have hs7 : ((w1.alloc (.cells #[.bool false, .slice none 0 0, .bool false, .slice none 0 0] 51)).alloc (.cells #[.bool false, .slice none 0 0, .bool false, .slice none 0 0] 51)).heap.size = w1.heap.size + 1 + 1 := by simp [hs4]
  clear hb5 hx6
  obtain ⟨cc8a, cc8b, cc8c, cc8d⟩ := X6.out.cells
  obtain ⟨cc9a, cc9b, cc9c, cc9d⟩ := X7.out.cells
  go_wp2_with fail
  go_ret2
  exact ⟨rfl, B.out⟩

set_option maxHeartbeats 1000000 in
theorem qless_bad {a b : ByteArray} {k : Int} (h : WrongQ a b k) (ha : a.size ≤ maxLen) (hb0 : b.size ≤ maxLen) (w : World) :
    Calls Try.prog 12 #[.string a, .string b] w fun e w' => e = .returned (.tuple #[.bool false, errno k]) ∧ Below w.heap.size w w' := by
  have HP := hid (qboth_bad h ha hb0 w)
  have B := hid (Below.refl w.heap.size w)
  clear  h
  go_enter Try.func12, Try.ntmps12
  go_wp2_with fail
  refine (HP.out).mono ?_
  rintro e w1 ⟨rfl, hb⟩
  replace B := bb B hb
  clear hb HP
  have hb2 := (Below.refl _ _).alloc (Nat.le_refl w1.heap.size) (.cells #[.bool false, .slice none 0 0, .bool false, .slice none 0 0] 51)
  have hx3 := Nbx.new w1 false false (.slice none 0 0) (.slice none 0 0)
  replace B := bb B hb2
  have X6 := hid hx3
  have hs4 : (w1.alloc (.cells #[.bool false, .slice none 0 0, .bool false, .slice none 0 0] 51)).heap.size = w1.heap.size + 1 := by simp
  clear hb2 hx3
  have hb5 := (Below.refl _ _).alloc (Nat.le_refl (w1.alloc (.cells #[.bool false, .slice none 0 0, .bool false, .slice none 0 0] 51)).heap.size) (.cells #[.bool false, .slice none 0 0, .bool false, .slice none 0 0] 51)
  have hx6 := Nbx.new (w1.alloc (.cells #[.bool false, .slice none 0 0, .bool false, .slice none 0 0] 51)) false false (.slice none 0 0) (.slice none 0 0)
  rw [hs4] at hx6
  replace X6 := nx X6 hb5
  replace B := bb B hb5
  have X7 := hid hx6
  have hs7 : ((w1.alloc (.cells #[.bool false, .slice none 0 0, .bool false, .slice none 0 0] 51)).alloc (.cells #[.bool false, .slice none 0 0, .bool false, .slice none 0 0] 51)).heap.size = w1.heap.size + 1 + 1 := by simp [hs4]
  clear hb5 hx6
  obtain ⟨cc8a, cc8b, cc8c, cc8d⟩ := X6.out.cells
  obtain ⟨cc9a, cc9b, cc9c, cc9d⟩ := X7.out.cells
  go_wp2_with fail
  go_ret2
  exact ⟨rfl, B.out⟩

set_option maxHeartbeats 1000000 in
theorem qadd_good {a b : ByteArray} (h1 : GoodQ a) (h2 : GoodQ b) (w : World) :
    Calls Try.prog 13 #[.string a, .string b] w fun e w' => e = .returned (.tuple #[.string (qtxt (qnum a + qnum b)), .nilIface]) ∧ Below w.heap.size w w' := by
  have HP := hid (qboth_good h1 h2 w)
  have B := hid (Below.refl w.heap.size w)
  clear  h1 h2
  go_enter Try.func13, Try.ntmps13
  go_wp2_with fail
  refine (HP.out).mono ?_
  rintro e w1 ⟨v, u, rfl, hv, hu, hb⟩
  obtain ⟨s5a, p5a, n5a, c5a, s5b, p5b, n5b, c5b, rfl⟩ := hv.opened
  obtain ⟨ht5, d5, hu5, hd5⟩ := hv.two
  have HD5 := hid hd5
  obtain ⟨s6a, p6a, n6a, c6a, s6b, p6b, n6b, c6b, rfl⟩ := hu.opened
  obtain ⟨ht6, d6, hu6, hd6⟩ := hu.two
  have HD6 := hid hd6
  replace B := bb B hb
  have HT5 := hid ht5
  have HU5 := hid hu5
  have HT6 := hid ht6
  have HU6 := hid hu6
  clear hb hv hu ht5 hu5 hd5 ht6 hu6 hd6 HP
  have hb2 := (Below.refl _ _).alloc (Nat.le_refl w1.heap.size) (.cells #[.bool s5a, .slice p5a n5a c5a, .bool s5b, .slice p5b n5b c5b] 51)
  have hx3 := Nbx.new w1 s5a s5b (.slice p5a n5a c5a) (.slice p5b n5b c5b)
  replace HT5 := wl HT5 hb2
  replace HU5 := wl HU5 hb2
  replace HT6 := wl HT6 hb2
  replace HU6 := wl HU6 hb2
  replace B := bb B hb2
  have X6 := hid hx3
  have hs4 : (w1.alloc (.cells #[.bool s5a, .slice p5a n5a c5a, .bool s5b, .slice p5b n5b c5b] 51)).heap.size = w1.heap.size + 1 := by simp
  clear hb2 hx3
  have hb5 := (Below.refl _ _).alloc (Nat.le_refl (w1.alloc (.cells #[.bool s5a, .slice p5a n5a c5a, .bool s5b, .slice p5b n5b c5b] 51)).heap.size) (.cells #[.bool s6a, .slice p6a n6a c6a, .bool s6b, .slice p6b n6b c6b] 51)
  have hx6 := Nbx.new (w1.alloc (.cells #[.bool s5a, .slice p5a n5a c5a, .bool s5b, .slice p5b n5b c5b] 51)) s6a s6b (.slice p6a n6a c6a) (.slice p6b n6b c6b)
  rw [hs4] at hx6
  replace X6 := nx X6 hb5
  replace HT5 := wl HT5 hb5
  replace HU5 := wl HU5 hb5
  replace HT6 := wl HT6 hb5
  replace HU6 := wl HU6 hb5
  replace B := bb B hb5
  have X7 := hid hx6
  have hs7 : ((w1.alloc (.cells #[.bool s5a, .slice p5a n5a c5a, .bool s5b, .slice p5b n5b c5b] 51)).alloc (.cells #[.bool s6a, .slice p6a n6a c6a, .bool s6b, .slice p6b n6b c6b] 51)).heap.size = w1.heap.size + 1 + 1 := by simp [hs4]
  clear hb5 hx6
  obtain ⟨cc8a, cc8b, cc8c, cc8d⟩ := X6.out.cells
  obtain ⟨cc9a, cc9b, cc9c, cc9d⟩ := X7.out.cells
  go_wp2_with fail
  generalize hW : (w1.alloc (.cells #[.bool s5a, .slice p5a n5a c5a, .bool s5b, .slice p5b n5b c5b] 51)).alloc (.cells #[.bool s6a, .slice p6a n6a c6a, .bool s6b, .slice p6b n6b c6b] 51) = W10 at *
  clear hW
  refine (addq_rtl (Rtl.mk2 HT5.out HU5.out HD5.out) (Rtl.mk2 HT6.out HU6.out HD6.out) (by omega) (by omega)).mono ?_
  rintro e w11 ⟨v, rfl, hv, hb⟩
  obtain ⟨s9a, p9a, n9a, c9a, s9b, p9b, n9b, c9b, rfl⟩ := hv.opened
  obtain ⟨ht9, d9, hu9, hd9⟩ := hv.two
  have HD9 := hid hd9
  replace B := bb B hb
  clear cc8a cc8b cc8c cc8d cc9a cc9b cc9c cc9d
  have HT9 := hid ht9
  have HU9 := hid hu9
  clear hb hv ht9 hu9 hd9
  go_wp2_with fail
  refine (qstring (Rtl.mk2 HT9.out HU9.out HD9.out) (by omega)).mono ?_
  rintro e w12 ⟨rfl, hb⟩
  replace B := bb B hb
  clear hb 
  go_wp2_with fail
  go_ret2
  exact ⟨rfl, B.out⟩

set_option maxHeartbeats 1000000 in
theorem qmul_good {a b : ByteArray} (h1 : GoodQ a) (h2 : GoodQ b) (w : World) :
    Calls Try.prog 16 #[.string a, .string b] w fun e w' => e = .returned (.tuple #[.string (qtxt (qnum a * qnum b)), .nilIface]) ∧ Below w.heap.size w w' := by
  have HP := hid (qboth_good h1 h2 w)
  have B := hid (Below.refl w.heap.size w)
  clear  h1 h2
  go_enter Try.func16, Try.ntmps16
  go_wp2_with fail
  refine (HP.out).mono ?_
  rintro e w1 ⟨v, u, rfl, hv, hu, hb⟩
  obtain ⟨s5a, p5a, n5a, c5a, s5b, p5b, n5b, c5b, rfl⟩ := hv.opened
  obtain ⟨ht5, d5, hu5, hd5⟩ := hv.two
  have HD5 := hid hd5
  obtain ⟨s6a, p6a, n6a, c6a, s6b, p6b, n6b, c6b, rfl⟩ := hu.opened
  obtain ⟨ht6, d6, hu6, hd6⟩ := hu.two
  have HD6 := hid hd6
  replace B := bb B hb
  have HT5 := hid ht5
  have HU5 := hid hu5
  have HT6 := hid ht6
  have HU6 := hid hu6
  clear hb hv hu ht5 hu5 hd5 ht6 hu6 hd6 HP
  have hb2 := (Below.refl _ _).alloc (Nat.le_refl w1.heap.size) (.cells #[.bool s5a, .slice p5a n5a c5a, .bool s5b, .slice p5b n5b c5b] 51)
  have hx3 := Nbx.new w1 s5a s5b (.slice p5a n5a c5a) (.slice p5b n5b c5b)
  replace HT5 := wl HT5 hb2
  replace HU5 := wl HU5 hb2
  replace HT6 := wl HT6 hb2
  replace HU6 := wl HU6 hb2
  replace B := bb B hb2
  have X6 := hid hx3
  have hs4 : (w1.alloc (.cells #[.bool s5a, .slice p5a n5a c5a, .bool s5b, .slice p5b n5b c5b] 51)).heap.size = w1.heap.size + 1 := by simp
  clear hb2 hx3
  have hb5 := (Below.refl _ _).alloc (Nat.le_refl (w1.alloc (.cells #[.bool s5a, .slice p5a n5a c5a, .bool s5b, .slice p5b n5b c5b] 51)).heap.size) (.cells #[.bool s6a, .slice p6a n6a c6a, .bool s6b, .slice p6b n6b c6b] 51)
  have hx6 := Nbx.new (w1.alloc (.cells #[.bool s5a, .slice p5a n5a c5a, .bool s5b, .slice p5b n5b c5b] 51)) s6a s6b (.slice p6a n6a c6a) (.slice p6b n6b c6b)
  rw [hs4] at hx6
  replace X6 := nx X6 hb5
  replace HT5 := wl HT5 hb5
  replace HU5 := wl HU5 hb5
  replace HT6 := wl HT6 hb5
  replace HU6 := wl HU6 hb5
  replace B := bb B hb5
  have X7 := hid hx6
  have hs7 : ((w1.alloc (.cells #[.bool s5a, .slice p5a n5a c5a, .bool s5b, .slice p5b n5b c5b] 51)).alloc (.cells #[.bool s6a, .slice p6a n6a c6a, .bool s6b, .slice p6b n6b c6b] 51)).heap.size = w1.heap.size + 1 + 1 := by simp [hs4]
  clear hb5 hx6
  obtain ⟨cc8a, cc8b, cc8c, cc8d⟩ := X6.out.cells
  obtain ⟨cc9a, cc9b, cc9c, cc9d⟩ := X7.out.cells
  go_wp2_with fail
  generalize hW : (w1.alloc (.cells #[.bool s5a, .slice p5a n5a c5a, .bool s5b, .slice p5b n5b c5b] 51)).alloc (.cells #[.bool s6a, .slice p6a n6a c6a, .bool s6b, .slice p6b n6b c6b] 51) = W10 at *
  clear hW
  refine (mulq_rtl (Rtl.mk2 HT5.out HU5.out HD5.out) (Rtl.mk2 HT6.out HU6.out HD6.out) (by omega) (by omega)).mono ?_
  rintro e w11 ⟨v, rfl, hv, hb⟩
  obtain ⟨s9a, p9a, n9a, c9a, s9b, p9b, n9b, c9b, rfl⟩ := hv.opened
  obtain ⟨ht9, d9, hu9, hd9⟩ := hv.two
  have HD9 := hid hd9
  replace B := bb B hb
  clear cc8a cc8b cc8c cc8d cc9a cc9b cc9c cc9d
  have HT9 := hid ht9
  have HU9 := hid hu9
  clear hb hv ht9 hu9 hd9
  go_wp2_with fail
  refine (qstring (Rtl.mk2 HT9.out HU9.out HD9.out) (by omega)).mono ?_
  rintro e w12 ⟨rfl, hb⟩
  replace B := bb B hb
  clear hb 
  go_wp2_with fail
  go_ret2
  exact ⟨rfl, B.out⟩

set_option maxHeartbeats 1000000 in
theorem qless_good {a b : ByteArray} (h1 : GoodQ a) (h2 : GoodQ b) (w : World) :
    Calls Try.prog 12 #[.string a, .string b] w fun e w' => e = .returned (.tuple #[.bool (decide (qnum a < qnum b)), .nilIface]) ∧ Below w.heap.size w w' := by
  have HP := hid (qboth_good h1 h2 w)
  have B := hid (Below.refl w.heap.size w)
  clear  h1 h2
  go_enter Try.func12, Try.ntmps12
  go_wp2_with fail
  refine (HP.out).mono ?_
  rintro e w1 ⟨v, u, rfl, hv, hu, hb⟩
  obtain ⟨s5a, p5a, n5a, c5a, s5b, p5b, n5b, c5b, rfl⟩ := hv.opened
  obtain ⟨ht5, d5, hu5, hd5⟩ := hv.two
  have HD5 := hid hd5
  obtain ⟨s6a, p6a, n6a, c6a, s6b, p6b, n6b, c6b, rfl⟩ := hu.opened
  obtain ⟨ht6, d6, hu6, hd6⟩ := hu.two
  have HD6 := hid hd6
  replace B := bb B hb
  have HT5 := hid ht5
  have HU5 := hid hu5
  have HT6 := hid ht6
  have HU6 := hid hu6
  clear hb hv hu ht5 hu5 hd5 ht6 hu6 hd6 HP
  have hb2 := (Below.refl _ _).alloc (Nat.le_refl w1.heap.size) (.cells #[.bool s5a, .slice p5a n5a c5a, .bool s5b, .slice p5b n5b c5b] 51)
  have hx3 := Nbx.new w1 s5a s5b (.slice p5a n5a c5a) (.slice p5b n5b c5b)
  replace HT5 := wl HT5 hb2
  replace HU5 := wl HU5 hb2
  replace HT6 := wl HT6 hb2
  replace HU6 := wl HU6 hb2
  replace B := bb B hb2
  have X6 := hid hx3
  have hs4 : (w1.alloc (.cells #[.bool s5a, .slice p5a n5a c5a, .bool s5b, .slice p5b n5b c5b] 51)).heap.size = w1.heap.size + 1 := by simp
  clear hb2 hx3
  have hb5 := (Below.refl _ _).alloc (Nat.le_refl (w1.alloc (.cells #[.bool s5a, .slice p5a n5a c5a, .bool s5b, .slice p5b n5b c5b] 51)).heap.size) (.cells #[.bool s6a, .slice p6a n6a c6a, .bool s6b, .slice p6b n6b c6b] 51)
  have hx6 := Nbx.new (w1.alloc (.cells #[.bool s5a, .slice p5a n5a c5a, .bool s5b, .slice p5b n5b c5b] 51)) s6a s6b (.slice p6a n6a c6a) (.slice p6b n6b c6b)
  rw [hs4] at hx6
  replace X6 := nx X6 hb5
  replace HT5 := wl HT5 hb5
  replace HU5 := wl HU5 hb5
  replace HT6 := wl HT6 hb5
  replace HU6 := wl HU6 hb5
  replace B := bb B hb5
  have X7 := hid hx6
  have hs7 : ((w1.alloc (.cells #[.bool s5a, .slice p5a n5a c5a, .bool s5b, .slice p5b n5b c5b] 51)).alloc (.cells #[.bool s6a, .slice p6a n6a c6a, .bool s6b, .slice p6b n6b c6b] 51)).heap.size = w1.heap.size + 1 + 1 := by simp [hs4]
  clear hb5 hx6
  obtain ⟨cc8a, cc8b, cc8c, cc8d⟩ := X6.out.cells
  obtain ⟨cc9a, cc9b, cc9c, cc9d⟩ := X7.out.cells
  go_wp2_with fail
  generalize hW : (w1.alloc (.cells #[.bool s5a, .slice p5a n5a c5a, .bool s5b, .slice p5b n5b c5b] 51)).alloc (.cells #[.bool s6a, .slice p6a n6a c6a, .bool s6b, .slice p6b n6b c6b] 51) = W10 at *
  clear hW
  refine (lessq_rtl (Rtl.mk2 HT5.out HU5.out HD5.out) (Rtl.mk2 HT6.out HU6.out HD6.out) (by omega) (by omega)).mono ?_
  rintro e w11 ⟨rfl, hb⟩
  replace B := bb B hb
  clear cc8a cc8b cc8c cc8d cc9a cc9b cc9c cc9d
  clear hb 
  go_wp2_with fail
  go_ret2
  exact ⟨rfl, B.out⟩

set_option maxHeartbeats 1000000 in
theorem qdiv_zero {a b : ByteArray} (h1 : GoodQ a) (h2 : GoodQ b) (h0 : qnum b = 0) (w : World) :
    Calls Try.prog 24 #[.string a, .string b] w fun e w' => e = .returned (.tuple #[.string ⟨#[]⟩, errno 5]) ∧ Below w.heap.size w w' := by
  have HP := hid (qboth_good h1 h2 w)
  have H0 := hid h0
  have B := hid (Below.refl w.heap.size w)
  clear  h1 h2 h0
  go_enter Try.func24, Try.ntmps24
  go_wp2_with fail
  refine (HP.out).mono ?_
  rintro e w1 ⟨v, u, rfl, hv, hu, hb⟩
  obtain ⟨s5a, p5a, n5a, c5a, s5b, p5b, n5b, c5b, rfl⟩ := hv.opened
  obtain ⟨ht5, d5, hu5, hd5⟩ := hv.two
  have HD5 := hid hd5
  obtain ⟨s6a, p6a, n6a, c6a, s6b, p6b, n6b, c6b, rfl⟩ := hu.opened
  obtain ⟨ht6, d6, hu6, hd6⟩ := hu.two
  have HD6 := hid hd6
  replace B := bb B hb
  have HT5 := hid ht5
  have HU5 := hid hu5
  have HT6 := hid ht6
  have HU6 := hid hu6
  clear hb hv hu ht5 hu5 hd5 ht6 hu6 hd6 HP
  have hb2 := (Below.refl _ _).alloc (Nat.le_refl w1.heap.size) (.cells #[.bool s5a, .slice p5a n5a c5a, .bool s5b, .slice p5b n5b c5b] 51)
  have hx3 := Nbx.new w1 s5a s5b (.slice p5a n5a c5a) (.slice p5b n5b c5b)
  replace HT5 := wl HT5 hb2
  replace HU5 := wl HU5 hb2
  replace HT6 := wl HT6 hb2
  replace HU6 := wl HU6 hb2
  replace B := bb B hb2
  have X6 := hid hx3
  have hs4 : (w1.alloc (.cells #[.bool s5a, .slice p5a n5a c5a, .bool s5b, .slice p5b n5b c5b] 51)).heap.size = w1.heap.size + 1 := by simp
  clear hb2 hx3
  have hb5 := (Below.refl _ _).alloc (Nat.le_refl (w1.alloc (.cells #[.bool s5a, .slice p5a n5a c5a, .bool s5b, .slice p5b n5b c5b] 51)).heap.size) (.cells #[.bool s6a, .slice p6a n6a c6a, .bool s6b, .slice p6b n6b c6b] 51)
  have hx6 := Nbx.new (w1.alloc (.cells #[.bool s5a, .slice p5a n5a c5a, .bool s5b, .slice p5b n5b c5b] 51)) s6a s6b (.slice p6a n6a c6a) (.slice p6b n6b c6b)
  rw [hs4] at hx6
  replace X6 := nx X6 hb5
  replace HT5 := wl HT5 hb5
  replace HU5 := wl HU5 hb5
  replace HT6 := wl HT6 hb5
  replace HU6 := wl HU6 hb5
  replace B := bb B hb5
  have X7 := hid hx6
  have hs7 : ((w1.alloc (.cells #[.bool s5a, .slice p5a n5a c5a, .bool s5b, .slice p5b n5b c5b] 51)).alloc (.cells #[.bool s6a, .slice p6a n6a c6a, .bool s6b, .slice p6b n6b c6b] 51)).heap.size = w1.heap.size + 1 + 1 := by simp [hs4]
  clear hb5 hx6
  obtain ⟨cc8a, cc8b, cc8c, cc8d⟩ := X6.out.cells
  obtain ⟨cc9a, cc9b, cc9c, cc9d⟩ := X7.out.cells
  go_wp2_with fail
  generalize hW : (w1.alloc (.cells #[.bool s5a, .slice p5a n5a c5a, .bool s5b, .slice p5b n5b c5b] 51)).alloc (.cells #[.bool s6a, .slice p6a n6a c6a, .bool s6b, .slice p6b n6b c6b] 51) = W10 at *
  clear hW
  refine (divq_zero (Rtl.mk2 HT5.out HU5.out HD5.out) (Rtl.mk2 HT6.out HU6.out HD6.out) H0.out (by omega) (by omega)).mono ?_
  rintro e w11 ⟨rfl, hb⟩
  replace B := bb B hb
  clear cc8a cc8b cc8c cc8d cc9a cc9b cc9c cc9d
  clear hb 
  have hb12 := (Below.refl _ _).alloc (Nat.le_refl w11.heap.size) (.cells #[.bool false, .slice none 0 0, .bool false, .slice none 0 0] 51)
  have hx13 := Nbx.new w11 false false (.slice none 0 0) (.slice none 0 0)
  replace B := bb B hb12
  have X9 := hid hx13
  have hs14 : (w11.alloc (.cells #[.bool false, .slice none 0 0, .bool false, .slice none 0 0] 51)).heap.size = w11.heap.size + 1 := by simp
  clear hb12 hx13
  obtain ⟨cc15a, cc15b, cc15c, cc15d⟩ := X9.out.cells
  go_wp2_with fail
  go_ret2
  exact ⟨rfl, B.out⟩

set_option maxHeartbeats 1000000 in
theorem qdiv_good {a b : ByteArray} (h1 : GoodQ a) (h2 : GoodQ b) (h0 : qnum b ≠ 0) (w : World) :
    Calls Try.prog 24 #[.string a, .string b] w fun e w' => e = .returned (.tuple #[.string (qtxt (qnum a / qnum b)), .nilIface]) ∧ Below w.heap.size w w' := by
  have HP := hid (qboth_good h1 h2 w)
  have H0 := hid h0
  have B := hid (Below.refl w.heap.size w)
  clear  h1 h2 h0
  go_enter Try.func24, Try.ntmps24
  go_wp2_with fail
  refine (HP.out).mono ?_
  rintro e w1 ⟨v, u, rfl, hv, hu, hb⟩
  obtain ⟨s5a, p5a, n5a, c5a, s5b, p5b, n5b, c5b, rfl⟩ := hv.opened
  obtain ⟨ht5, d5, hu5, hd5⟩ := hv.two
  have HD5 := hid hd5
  obtain ⟨s6a, p6a, n6a, c6a, s6b, p6b, n6b, c6b, rfl⟩ := hu.opened
  obtain ⟨ht6, d6, hu6, hd6⟩ := hu.two
  have HD6 := hid hd6
  replace B := bb B hb
  have HT5 := hid ht5
  have HU5 := hid hu5
  have HT6 := hid ht6
  have HU6 := hid hu6
  clear hb hv hu ht5 hu5 hd5 ht6 hu6 hd6 HP
  have hb2 := (Below.refl _ _).alloc (Nat.le_refl w1.heap.size) (.cells #[.bool s5a, .slice p5a n5a c5a, .bool s5b, .slice p5b n5b c5b] 51)
  have hx3 := Nbx.new w1 s5a s5b (.slice p5a n5a c5a) (.slice p5b n5b c5b)
  replace HT5 := wl HT5 hb2
  replace HU5 := wl HU5 hb2
  replace HT6 := wl HT6 hb2
  replace HU6 := wl HU6 hb2
  replace B := bb B hb2
  have X6 := hid hx3
  have hs4 : (w1.alloc (.cells #[.bool s5a, .slice p5a n5a c5a, .bool s5b, .slice p5b n5b c5b] 51)).heap.size = w1.heap.size + 1 := by simp
  clear hb2 hx3
  have hb5 := (Below.refl _ _).alloc (Nat.le_refl (w1.alloc (.cells #[.bool s5a, .slice p5a n5a c5a, .bool s5b, .slice p5b n5b c5b] 51)).heap.size) (.cells #[.bool s6a, .slice p6a n6a c6a, .bool s6b, .slice p6b n6b c6b] 51)
  have hx6 := Nbx.new (w1.alloc (.cells #[.bool s5a, .slice p5a n5a c5a, .bool s5b, .slice p5b n5b c5b] 51)) s6a s6b (.slice p6a n6a c6a) (.slice p6b n6b c6b)
  rw [hs4] at hx6
  replace X6 := nx X6 hb5
  replace HT5 := wl HT5 hb5
  replace HU5 := wl HU5 hb5
  replace HT6 := wl HT6 hb5
  replace HU6 := wl HU6 hb5
  replace B := bb B hb5
  have X7 := hid hx6
  have hs7 : ((w1.alloc (.cells #[.bool s5a, .slice p5a n5a c5a, .bool s5b, .slice p5b n5b c5b] 51)).alloc (.cells #[.bool s6a, .slice p6a n6a c6a, .bool s6b, .slice p6b n6b c6b] 51)).heap.size = w1.heap.size + 1 + 1 := by simp [hs4]
  clear hb5 hx6
  obtain ⟨cc8a, cc8b, cc8c, cc8d⟩ := X6.out.cells
  obtain ⟨cc9a, cc9b, cc9c, cc9d⟩ := X7.out.cells
  go_wp2_with fail
  generalize hW : (w1.alloc (.cells #[.bool s5a, .slice p5a n5a c5a, .bool s5b, .slice p5b n5b c5b] 51)).alloc (.cells #[.bool s6a, .slice p6a n6a c6a, .bool s6b, .slice p6b n6b c6b] 51) = W10 at *
  clear hW
  refine (divq_some (Rtl.mk2 HT5.out HU5.out HD5.out) (Rtl.mk2 HT6.out HU6.out HD6.out) H0.out (by omega) (by omega)).mono ?_
  rintro e w11 ⟨v, rfl, hv, hb⟩
  obtain ⟨s9a, p9a, n9a, c9a, s9b, p9b, n9b, c9b, rfl⟩ := hv.opened
  obtain ⟨ht9, d9, hu9, hd9⟩ := hv.two
  have HD9 := hid hd9
  replace B := bb B hb
  clear cc8a cc8b cc8c cc8d cc9a cc9b cc9c cc9d
  have HT9 := hid ht9
  have HU9 := hid hu9
  clear hb hv ht9 hu9 hd9
  have hb12 := (Below.refl _ _).alloc (Nat.le_refl w11.heap.size) (.cells #[.bool s9a, .slice p9a n9a c9a, .bool s9b, .slice p9b n9b c9b] 51)
  have hx13 := Nbx.new w11 s9a s9b (.slice p9a n9a c9a) (.slice p9b n9b c9b)
  replace HT9 := wl HT9 hb12
  replace HU9 := wl HU9 hb12
  replace B := bb B hb12
  have X9 := hid hx13
  have hs14 : (w11.alloc (.cells #[.bool s9a, .slice p9a n9a c9a, .bool s9b, .slice p9b n9b c9b] 51)).heap.size = w11.heap.size + 1 := by simp
  clear hb12 hx13
  obtain ⟨cc15a, cc15b, cc15c, cc15d⟩ := X9.out.cells
  go_wp2_with fail
  generalize hW : w11.alloc (.cells #[.bool s9a, .slice p9a n9a c9a, .bool s9b, .slice p9b n9b c9b] 51) = W16 at *
  clear hW
  refine (qstring (Rtl.mk2 HT9.out HU9.out HD9.out) (by omega)).mono ?_
  rintro e w17 ⟨rfl, hb⟩
  replace B := bb B hb
  clear cc15a cc15b cc15c cc15d
  clear hb 
  go_wp2_with fail
  go_ret2
  exact ⟨rfl, B.out⟩

set_option maxHeartbeats 1000000 in
theorem qfloor_bad {a : ByteArray} {k : Int} (h : BadQ a k) (ha : a.size ≤ maxLen) (w : World) :
    Calls Try.prog 14 #[.string a] w fun e w' => e = .returned (.tuple #[.string ⟨#[]⟩, errno k]) ∧ Below w.heap.size w w' := by
  have HP := hid (qread_bad h w ha)
  have B := hid (Below.refl w.heap.size w)
  clear  h
  go_enter Try.func14, Try.ntmps14
  go_wp2_with fail
  refine (HP.out).mono ?_
  rintro e w1 ⟨rfl, hb⟩
  replace B := bb B hb
  clear hb HP
  have hb2 := (Below.refl _ _).alloc (Nat.le_refl w1.heap.size) (.cells #[.bool false, .slice none 0 0, .bool false, .slice none 0 0] 51)
  have hx3 := Nbx.new w1 false false (.slice none 0 0) (.slice none 0 0)
  replace B := bb B hb2
  have X4 := hid hx3
  have hs4 : (w1.alloc (.cells #[.bool false, .slice none 0 0, .bool false, .slice none 0 0] 51)).heap.size = w1.heap.size + 1 := by simp
  clear hb2 hx3
  obtain ⟨cc5a, cc5b, cc5c, cc5d⟩ := X4.out.cells
  go_wp2_with fail
  go_ret2
  exact ⟨rfl, B.out⟩

set_option maxHeartbeats 1000000 in
theorem qfloor_good {a : ByteArray} (h : GoodQ a) (w : World) :
    Calls Try.prog 14 #[.string a] w fun e w' => e = .returned (.tuple #[.string (ztxt (qnum a).floor), .nilIface]) ∧ Below w.heap.size w w' := by
  have HP := hid (qread_good h w)
  have B := hid (Below.refl w.heap.size w)
  clear  h
  go_enter Try.func14, Try.ntmps14
  go_wp2_with fail
  refine (HP.out).mono ?_
  rintro e w1 ⟨v, rfl, hv, hb⟩
  obtain ⟨s5a, p5a, n5a, c5a, s5b, p5b, n5b, c5b, rfl⟩ := hv.opened
  obtain ⟨ht5, d5, hu5, hd5⟩ := hv.two
  have HD5 := hid hd5
  replace B := bb B hb
  have HT5 := hid ht5
  have HU5 := hid hu5
  clear hb hv ht5 hu5 hd5 HP
  have hb2 := (Below.refl _ _).alloc (Nat.le_refl w1.heap.size) (.cells #[.bool s5a, .slice p5a n5a c5a, .bool s5b, .slice p5b n5b c5b] 51)
  have hx3 := Nbx.new w1 s5a s5b (.slice p5a n5a c5a) (.slice p5b n5b c5b)
  replace HT5 := wl HT5 hb2
  replace HU5 := wl HU5 hb2
  replace B := bb B hb2
  have X4 := hid hx3
  have hs4 : (w1.alloc (.cells #[.bool s5a, .slice p5a n5a c5a, .bool s5b, .slice p5b n5b c5b] 51)).heap.size = w1.heap.size + 1 := by simp
  clear hb2 hx3
  obtain ⟨cc5a, cc5b, cc5c, cc5d⟩ := X4.out.cells
  go_wp2_with fail
  generalize hW : w1.alloc (.cells #[.bool s5a, .slice p5a n5a c5a, .bool s5b, .slice p5b n5b c5b] 51) = W6 at *
  clear hW
  refine (floorq_rtl (Rtl.mk2 HT5.out HU5.out HD5.out) (by omega) (by omega)).mono ?_
  rintro e w7 ⟨v, rfl, hv, hb⟩
  obtain ⟨s9, p9, n9, c9, rfl⟩ := hv.opened
  replace B := bb B hb
  clear cc5a cc5b cc5c cc5d
  have HF := hid hv
  clear hb hv
  go_wp2_with fail
  refine (string_whl HF.out (by omega)).mono ?_
  rintro e w8 ⟨rfl, hb⟩
  replace B := bb B hb
  clear hb 
  go_wp2_with fail
  go_ret2
  exact ⟨rfl, B.out⟩

set_option maxHeartbeats 1000000 in
theorem qcheck_bad {a : ByteArray} {k : Int} (h : BadQ a k) (ha : a.size ≤ maxLen) (w : World) :
    Calls Try.prog 21 #[.string a] w fun e w' => e = .returned (errno k) ∧ Below w.heap.size w w' := by
  have HP := hid (qread_bad h w ha)
  have B := hid (Below.refl w.heap.size w)
  clear  h
  go_enter Try.func21, Try.ntmps21
  go_wp2_with fail
  refine (HP.out).mono ?_
  rintro e w1 ⟨rfl, hb⟩
  replace B := bb B hb
  clear hb HP
  have hb2 := (Below.refl _ _).alloc (Nat.le_refl w1.heap.size) (.cells #[.bool false, .slice none 0 0, .bool false, .slice none 0 0] 51)
  have hx3 := Nbx.new w1 false false (.slice none 0 0) (.slice none 0 0)
  replace B := bb B hb2
  have X4 := hid hx3
  have hs4 : (w1.alloc (.cells #[.bool false, .slice none 0 0, .bool false, .slice none 0 0] 51)).heap.size = w1.heap.size + 1 := by simp
  clear hb2 hx3
  go_wp2_with fail
  go_ret
  exact ⟨rfl, B.out⟩

set_option maxHeartbeats 1000000 in
theorem qcheck_good {a : ByteArray} (h : GoodQ a) (w : World) :
    Calls Try.prog 21 #[.string a] w fun e w' => e = .returned .nilIface ∧ Below w.heap.size w w' := by
  have HP := hid (qread_good h w)
  have B := hid (Below.refl w.heap.size w)
  clear  h
  go_enter Try.func21, Try.ntmps21
  go_wp2_with fail
  refine (HP.out).mono ?_
  rintro e w1 ⟨v, rfl, hv, hb⟩
  obtain ⟨s5a, p5a, n5a, c5a, s5b, p5b, n5b, c5b, rfl⟩ := hv.opened
  obtain ⟨ht5, d5, hu5, hd5⟩ := hv.two
  have HD5 := hid hd5
  replace B := bb B hb
  have HT5 := hid ht5
  have HU5 := hid hu5
  clear hb hv ht5 hu5 hd5 HP
  have hb2 := (Below.refl _ _).alloc (Nat.le_refl w1.heap.size) (.cells #[.bool s5a, .slice p5a n5a c5a, .bool s5b, .slice p5b n5b c5b] 51)
  have hx3 := Nbx.new w1 s5a s5b (.slice p5a n5a c5a) (.slice p5b n5b c5b)
  replace B := bb B hb2
  have X4 := hid hx3
  have hs4 : (w1.alloc (.cells #[.bool s5a, .slice p5a n5a c5a, .bool s5b, .slice p5b n5b c5b] 51)).heap.size = w1.heap.size + 1 := by simp
  clear hb2 hx3
  go_wp2_with fail
  go_ret
  exact ⟨rfl, B.out⟩

set_option maxHeartbeats 1000000 in
theorem qmake_bad1 {a b : ByteArray} {k : Int} (h : BadZ a k) (ha : a.size ≤ maxLen) (w : World) :
    Calls Try.prog 20 #[.string a, .string b] w fun e w' => e = .returned (.tuple #[.string ⟨#[]⟩, errno k]) ∧ Below w.heap.size w w' := by
  have H1 := hid h
  have B := hid (Below.refl w.heap.size w)
  clear  h
  go_enter Try.func20, Try.ntmps20
  go_wp2_with fail
  refine (zread_bad H1.out _ ha).mono ?_
  rintro e w1 ⟨rfl, hb⟩
  replace B := bb B hb
  clear hb 
  have hb2 := (Below.refl _ _).alloc (Nat.le_refl w1.heap.size) (.cells #[.bool false, .slice none 0 0] 49)
  have hx3 := Box.new w1 false none 0 0
  replace B := bb B hb2
  have X6 := hid hx3
  have hs4 : (w1.alloc (.cells #[.bool false, .slice none 0 0] 49)).heap.size = w1.heap.size + 1 := by simp
  clear hb2 hx3
  obtain ⟨cc5a, cc5b⟩ := X6.out.both
  go_wp2_with fail
  go_ret2
  exact ⟨rfl, B.out⟩

set_option maxHeartbeats 1000000 in
theorem qmake_bad2 {a b : ByteArray} {k : Int} (h1 : GoodZ a) (h2 : BadZ b k) (hb0 : b.size ≤ maxLen) (w : World) :
    Calls Try.prog 20 #[.string a, .string b] w fun e w' => e = .returned (.tuple #[.string ⟨#[]⟩, errno k]) ∧ Below w.heap.size w w' := by
  have H1 := hid h1
  have H2 := hid h2
  have B := hid (Below.refl w.heap.size w)
  clear  h1 h2
  go_enter Try.func20, Try.ntmps20
  go_wp2_with fail
  refine (zread_good H1.out _).mono ?_
  rintro e w1 ⟨v, rfl, hv, hb⟩
  obtain ⟨s5, p5, n5, c5, rfl⟩ := hv.opened
  replace B := bb B hb
  have HT := hid hv
  clear hb hv
  have hb2 := (Below.refl _ _).alloc (Nat.le_refl w1.heap.size) (.cells #[.bool s5, .slice p5 n5 c5] 49)
  have hx3 := Box.new w1 s5 p5 n5 c5
  replace B := bb B hb2
  have X6 := hid hx3
  have hs4 : (w1.alloc (.cells #[.bool s5, .slice p5 n5 c5] 49)).heap.size = w1.heap.size + 1 := by simp
  clear hb2 hx3
  obtain ⟨cc5a, cc5b⟩ := X6.out.both
  go_wp2_with fail
  generalize hW : w1.alloc (.cells #[.bool s5, .slice p5 n5 c5] 49) = W6 at *
  clear hW
  refine (zread_bad H2.out _ hb0).mono ?_
  rintro e w7 ⟨rfl, hb⟩
  replace X6 := bx X6 hb
  replace B := bb B hb
  clear cc5a cc5b
  clear hb 
  have hb8 := (Below.refl _ _).alloc (Nat.le_refl w7.heap.size) (.cells #[.bool false, .slice none 0 0] 49)
  have hx9 := Box.new w7 false none 0 0
  have L0 := hid X6.out.lt
  replace X6 := bx X6 hb8
  replace B := bb B hb8
  have X8 := hid hx9
  have hs10 : (w7.alloc (.cells #[.bool false, .slice none 0 0] 49)).heap.size = w7.heap.size + 1 := by simp
  clear hb8 hx9
  obtain ⟨cc11a, cc11b⟩ := X6.out.both
  obtain ⟨cc12a, cc12b⟩ := X8.out.both
  go_wp2_with fail
  go_ret2
  exact ⟨rfl, B.out⟩

set_option maxHeartbeats 1000000 in
theorem qmake_zero {a b : ByteArray} (h1 : GoodZ a) (h2 : GoodZ b) (h0 : znum b = 0) (w : World) :
    Calls Try.prog 20 #[.string a, .string b] w fun e w' => e = .returned (.tuple #[.string ⟨#[]⟩, errno 5]) ∧ Below w.heap.size w w' := by
  have H1 := hid h1
  have H2 := hid h2
  have H0 := hid h0
  have B := hid (Below.refl w.heap.size w)
  clear  h1 h2 h0
  go_enter Try.func20, Try.ntmps20
  go_wp2_with fail
  refine (zread_good H1.out _).mono ?_
  rintro e w1 ⟨v, rfl, hv, hb⟩
  obtain ⟨s5, p5, n5, c5, rfl⟩ := hv.opened
  replace B := bb B hb
  have HT := hid hv
  clear hb hv
  have hb2 := (Below.refl _ _).alloc (Nat.le_refl w1.heap.size) (.cells #[.bool s5, .slice p5 n5 c5] 49)
  have hx3 := Box.new w1 s5 p5 n5 c5
  replace HT := wl HT hb2
  replace B := bb B hb2
  have X6 := hid hx3
  have hs4 : (w1.alloc (.cells #[.bool s5, .slice p5 n5 c5] 49)).heap.size = w1.heap.size + 1 := by simp
  clear hb2 hx3
  obtain ⟨cc5a, cc5b⟩ := X6.out.both
  go_wp2_with fail
  generalize hW : w1.alloc (.cells #[.bool s5, .slice p5 n5 c5] 49) = W6 at *
  clear hW
  refine (zread_good H2.out _).mono ?_
  rintro e w7 ⟨v, rfl, hv, hb⟩
  obtain ⟨s6, p6, n6, c6, rfl⟩ := hv.opened
  replace X6 := bx X6 hb
  replace HT := wl HT hb
  replace B := bb B hb
  clear cc5a cc5b
  have HU := hid hv
  clear hb hv
  have hb8 := (Below.refl _ _).alloc (Nat.le_refl w7.heap.size) (.cells #[.bool s6, .slice p6 n6 c6] 49)
  have hx9 := Box.new w7 s6 p6 n6 c6
  have L0 := hid X6.out.lt
  replace X6 := bx X6 hb8
  replace HT := wl HT hb8
  replace HU := wl HU hb8
  replace B := bb B hb8
  have X8 := hid hx9
  have hs10 : (w7.alloc (.cells #[.bool s6, .slice p6 n6 c6] 49)).heap.size = w7.heap.size + 1 := by simp
  clear hb8 hx9
  obtain ⟨cc11a, cc11b⟩ := X6.out.both
  obtain ⟨cc12a, cc12b⟩ := X8.out.both
  go_wp2_with fail
  generalize hW : w7.alloc (.cells #[.bool s6, .slice p6 n6 c6] 49) = W13 at *
  clear hW
  refine (quot_zero HT.out HU.out H0.out (by omega)).mono ?_
  rintro e w14 ⟨rfl, hb⟩
  replace B := bb B hb
  clear cc11a cc11b cc12a cc12b
  clear hb 
  have hb15 := (Below.refl _ _).alloc (Nat.le_refl w14.heap.size) (.cells #[.bool false, .slice none 0 0, .bool false, .slice none 0 0] 51)
  have hx16 := Nbx.new w14 false false (.slice none 0 0) (.slice none 0 0)
  replace B := bb B hb15
  have X9 := hid hx16
  have hs17 : (w14.alloc (.cells #[.bool false, .slice none 0 0, .bool false, .slice none 0 0] 51)).heap.size = w14.heap.size + 1 := by simp
  clear hb15 hx16
  obtain ⟨cc18a, cc18b, cc18c, cc18d⟩ := X9.out.cells
  go_wp2_with fail
  go_ret2
  exact ⟨rfl, B.out⟩

set_option maxHeartbeats 1000000 in
theorem qmake_good {a b : ByteArray} (h1 : GoodZ a) (h2 : GoodZ b) (h0 : znum b ≠ 0) (w : World) :
    Calls Try.prog 20 #[.string a, .string b] w fun e w' => e = .returned (.tuple #[.string (qtxt (Rat.divInt (znum a) (znum b))), .nilIface]) ∧ Below w.heap.size w w' := by
  have H1 := hid h1
  have H2 := hid h2
  have H0 := hid h0
  have B := hid (Below.refl w.heap.size w)
  clear  h1 h2 h0
  go_enter Try.func20, Try.ntmps20
  go_wp2_with fail
  refine (zread_good H1.out _).mono ?_
  rintro e w1 ⟨v, rfl, hv, hb⟩
  obtain ⟨s5, p5, n5, c5, rfl⟩ := hv.opened
  replace B := bb B hb
  have HT := hid hv
  clear hb hv
  have hb2 := (Below.refl _ _).alloc (Nat.le_refl w1.heap.size) (.cells #[.bool s5, .slice p5 n5 c5] 49)
  have hx3 := Box.new w1 s5 p5 n5 c5
  replace HT := wl HT hb2
  replace B := bb B hb2
  have X6 := hid hx3
  have hs4 : (w1.alloc (.cells #[.bool s5, .slice p5 n5 c5] 49)).heap.size = w1.heap.size + 1 := by simp
  clear hb2 hx3
  obtain ⟨cc5a, cc5b⟩ := X6.out.both
  go_wp2_with fail
  generalize hW : w1.alloc (.cells #[.bool s5, .slice p5 n5 c5] 49) = W6 at *
  clear hW
  refine (zread_good H2.out _).mono ?_
  rintro e w7 ⟨v, rfl, hv, hb⟩
  obtain ⟨s6, p6, n6, c6, rfl⟩ := hv.opened
  replace X6 := bx X6 hb
  replace HT := wl HT hb
  replace B := bb B hb
  clear cc5a cc5b
  have HU := hid hv
  clear hb hv
  have hb8 := (Below.refl _ _).alloc (Nat.le_refl w7.heap.size) (.cells #[.bool s6, .slice p6 n6 c6] 49)
  have hx9 := Box.new w7 s6 p6 n6 c6
  have L0 := hid X6.out.lt
  replace X6 := bx X6 hb8
  replace HT := wl HT hb8
  replace HU := wl HU hb8
  replace B := bb B hb8
  have X8 := hid hx9
  have hs10 : (w7.alloc (.cells #[.bool s6, .slice p6 n6 c6] 49)).heap.size = w7.heap.size + 1 := by simp
  clear hb8 hx9
  obtain ⟨cc11a, cc11b⟩ := X6.out.both
  obtain ⟨cc12a, cc12b⟩ := X8.out.both
  go_wp2_with fail
  generalize hW : w7.alloc (.cells #[.bool s6, .slice p6 n6 c6] 49) = W13 at *
  clear hW
  refine (quot_some HT.out HU.out H0.out (by omega)).mono ?_
  rintro e w14 ⟨v, rfl, hv, hb⟩
  obtain ⟨s9a, p9a, n9a, c9a, s9b, p9b, n9b, c9b, rfl⟩ := hv.opened
  obtain ⟨ht9, d9, hu9, hd9⟩ := hv.two
  have HD9 := hid hd9
  replace B := bb B hb
  clear cc11a cc11b cc12a cc12b
  have HT9 := hid ht9
  have HU9 := hid hu9
  clear hb hv ht9 hu9 hd9
  have hb15 := (Below.refl _ _).alloc (Nat.le_refl w14.heap.size) (.cells #[.bool s9a, .slice p9a n9a c9a, .bool s9b, .slice p9b n9b c9b] 51)
  have hx16 := Nbx.new w14 s9a s9b (.slice p9a n9a c9a) (.slice p9b n9b c9b)
  replace HT9 := wl HT9 hb15
  replace HU9 := wl HU9 hb15
  replace B := bb B hb15
  have X9 := hid hx16
  have hs17 : (w14.alloc (.cells #[.bool s9a, .slice p9a n9a c9a, .bool s9b, .slice p9b n9b c9b] 51)).heap.size = w14.heap.size + 1 := by simp
  clear hb15 hx16
  obtain ⟨cc18a, cc18b, cc18c, cc18d⟩ := X9.out.cells
  go_wp2_with fail
  generalize hW : w14.alloc (.cells #[.bool s9a, .slice p9a n9a c9a, .bool s9b, .slice p9b n9b c9b] 51) = W19 at *
  clear hW
  refine (qstring (Rtl.mk2 HT9.out HU9.out HD9.out) (by omega)).mono ?_
  rintro e w20 ⟨rfl, hb⟩
  replace B := bb B hb
  clear cc18a cc18b cc18c cc18d
  clear hb 
  go_wp2_with fail
  go_ret2
  exact ⟨rfl, B.out⟩

theorem qmake_bad {a b : ByteArray} {k : Int} (h : WrongZ a b k) (ha : a.size ≤ maxLen) (hb : b.size ≤ maxLen) (w : World) :
    Calls Try.prog 20 #[.string a, .string b] w fun e w' => e = .returned (.tuple #[.string ⟨#[]⟩, errno k]) ∧ Below w.heap.size w w' := by
  rcases h with h | ⟨h1, h2⟩
  · exact qmake_bad1 h ha w
  · exact qmake_bad2 h1 h2 hb w

end Go.Proofs.Ytjeeepcnaaadmaa

