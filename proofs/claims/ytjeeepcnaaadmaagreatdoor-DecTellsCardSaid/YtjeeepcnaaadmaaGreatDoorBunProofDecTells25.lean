import Derived.Test.YtjeeepcnaaadmaaGreatDoorBunProofDecTells23
import Derived.Test.YtjeeepcnaaadmaaGreatDoorBunProofDecTells21
import Derived.Test.YtjeeepcnaaadmaaGreatDoorBunProofDecTells24
import Derived.Test.YtjeeepcnaaadmaaGreatDoorBunProofDecTells20
import Derived.Test.YtjeeepcnaaadmaaGreatDoorBunProofDecTells13
import Derived.Test.YtjeeepcnaaadmaaGreatDoorBunProofDecTells22
/-
  DecTells: what its walk stands on.
-/
namespace Go.Proofs.YtjeeepcnaaadmaaGreatDoor
open Go.RowKit
open Num4
open Num (dg isNat dval)
set_option linter.unusedVariables false
set_option maxRecDepth 100000
set_option linter.unusedSimpArgs false

theorem good_eighth : GoodQ ⟨#[45, 49, 47, 56]⟩ := ⟨by decide, by decide +kernel⟩
theorem rounded_gold : dtxt (nearu (qnum ⟨#[45, 49, 47, 56]⟩) 2) 2 = ⟨#[45, 48, 46, 49, 50]⟩ := by decide +kernel
set_option maxHeartbeats 400000 in
theorem rounded_true (w : World) :
    Calls Tryz.prog 40 #[] w fun e w' => e = .returned (.bool true) ∧ Below w.heap.size w w' := by
  have h := dtext_ok (n := 2) good_eighth (by decide) w
  rw [rounded_gold] at h
  have H := hid h
  clear h
  go_enter Tryz.func40, Tryz.ntmps40
  go_wp2_with fail
  refine H.out.mono ?_
  rintro e w' ⟨rfl, hb⟩
  go_wp2_with fail
  go_ret
  exact ⟨rfl, hb⟩

end Go.Proofs.YtjeeepcnaaadmaaGreatDoor

/-
  THE LAW DecTells' WALK.
-/
namespace Go.Proofs.YtjeeepcnaaadmaaGreatDoor
open Go.RowKit
open Num4
open Num (dg isNat dval)
set_option linter.unusedVariables false
set_option maxRecDepth 100000
set_option linter.unusedSimpArgs false

set_option maxHeartbeats 8000000 in
theorem dtells_a (a : ByteArray) (sa : a.size ≤ maxLen) (w : World) {d k : Int} (ha : BadQ a k) (hd : Door w) :
    Calls Tryz.prog 5 #[.string a, .int .i64 d] w fun e w' => e = .returned (.bool true) ∧ Below w.heap.size w w' := by
  have HDR := hid hd
  have hne := errv_neq
  have hka : (k == 0) = false := by simpa using ha.ne
  have HKA := hid ha.ne
  have HA := hid ha
  have HB := hid (show BadD a d k from .inl ha)
  have B := hid (Below.refl w.heap.size w)
  clear  ha hd
  go_enter Tryz.func5, Tryz.ntmps5
  go_wp2_with fail
  refine (rounded_true w).mono ?_
  rintro e w1 ⟨rfl, hb⟩
  replace B := bb B hb
  clear hb 
  go_wp2_with fail
  refine (ratof_bad HA.out w1 sa).mono ?_
  rintro e w2 ⟨s1a, p1a, n1a, c1a, p1b, n1b, c1b, rfl, hb⟩
  replace B := bb B hb
  clear hb 
  have LG := hid (show w.heap.size ≤ w2.heap.size from B.out.size)
  have hb3 := (Below.refl _ _).alloc (Nat.le_refl w2.heap.size) (.cells #[.bool s1a, .slice p1a n1a c1a, .slice p1b n1b c1b] 28)
  have hx4 := Qbx.new w2 s1a p1a n1a c1a p1b n1b c1b
  replace B := bb B hb3
  have X6 := hid hx4
  have hs5 : (w2.alloc (.cells #[.bool s1a, .slice p1a n1a c1a, .slice p1b n1b c1b] 28)).heap.size = w2.heap.size + 1 := by simp
  clear hb3 hx4
  have hb6 := (Below.refl _ _).alloc (Nat.le_refl (w2.alloc (.cells #[.bool s1a, .slice p1a n1a c1a, .slice p1b n1b c1b] 28)).heap.size) (.cells #[.string ⟨#[]⟩, .string ⟨#[]⟩] 69)
  have hx7 := Vbx.new (w2.alloc (.cells #[.bool s1a, .slice p1a n1a c1a, .slice p1b n1b c1b] 28)) ⟨#[]⟩ ⟨#[]⟩
  rw [hs5] at hx7
  replace X6 := qx X6 hb6
  replace B := bb B hb6
  have X9 := hid hx7
  have hs8 : ((w2.alloc (.cells #[.bool s1a, .slice p1a n1a c1a, .slice p1b n1b c1b] 28)).alloc (.cells #[.string ⟨#[]⟩, .string ⟨#[]⟩] 69)).heap.size = w2.heap.size + 1 + 1 := by simp [hs5]
  clear hb6 hx7
  obtain ⟨cc9a, cc9b, cc9c⟩ := X6.out.cells
  obtain ⟨cc10a, cc10b⟩ := X9.out.both
  go_wp2_with fail
  generalize hW : (w2.alloc (.cells #[.bool s1a, .slice p1a n1a c1a, .slice p1b n1b c1b] 28)).alloc (.cells #[.string ⟨#[]⟩, .string ⟨#[]⟩] 69) = W11 at *
  clear hW
  refine (dtext_bad HB.out sa W11).mono ?_
  rintro e w12 ⟨rfl, hb⟩
  replace X9 := vx X9 hb
  replace B := bb B hb
  clear cc9a cc9b cc9c cc10a cc10b
  clear hb 
  obtain ⟨cc13a, cc13b⟩ := X9.out.both
  go_wp2_with fail
  refine (same_no k HKA.out w12 (HDR.out.below B.out)).mono ?_
  rintro e w14 ⟨rfl, hb⟩
  replace X9 := vx X9 hb
  replace B := bb B hb
  clear cc13a cc13b
  clear hb 
  obtain ⟨cc15a, cc15b⟩ := X9.out.both
  go_wp2_with fail
  refine (darnd_bad HB.out sa w14).mono ?_
  rintro e w16 ⟨rfl, hb⟩
  replace X9 := vx X9 hb
  replace B := bb B hb
  clear cc15a cc15b
  clear hb 
  have hb17 := (Below.refl _ _).alloc (Nat.le_refl w16.heap.size) (.cells #[.string ⟨#[]⟩, .string ⟨#[]⟩] 69)
  have hx18 := Vbx.new w16 ⟨#[]⟩ ⟨#[]⟩
  have L1 := hid X9.out.lt
  replace X9 := vx X9 hb17
  replace B := bb B hb17
  have X13 := hid hx18
  have hs19 : (w16.alloc (.cells #[.string ⟨#[]⟩, .string ⟨#[]⟩] 69)).heap.size = w16.heap.size + 1 := by simp
  clear hb17 hx18
  obtain ⟨cc20a, cc20b⟩ := X9.out.both
  obtain ⟨cc21a, cc21b⟩ := X13.out.both
  go_wp2_with fail
  generalize hW : w16.alloc (.cells #[.string ⟨#[]⟩, .string ⟨#[]⟩] 69) = W22 at *
  clear hW
  refine (same_no k HKA.out W22 (HDR.out.below B.out)).mono ?_
  rintro e w23 ⟨rfl, hb⟩
  replace X9 := vx X9 hb
  replace X13 := vx X13 hb
  replace B := bb B hb
  clear cc20a cc20b cc21a cc21b
  clear hb 
  obtain ⟨cc24a, cc24b⟩ := X9.out.both
  obtain ⟨cc25a, cc25b⟩ := X13.out.both
  go_wp2_with fail
  go_ret
  exact ⟨rfl, B.out⟩

set_option maxHeartbeats 8000000 in
theorem dtells_r1 (a : ByteArray) (sa : a.size ≤ maxLen) (w : World) {d : Int} (ha : GoodQ a) (h1 : d < 0) (hd : Door w) :
    Calls Tryz.prog 5 #[.string a, .int .i64 d] w fun e w' => e = .returned (.bool true) ∧ Below w.heap.size w w' := by
  have HDR := hid hd
  have hne := errv_neq
  have HA := hid ha
  have HB := hid (show BadD a d 2 from .inr ⟨ha, by omega, rfl⟩)
  have HKA := hid (show (2 : Int) ≠ 0 by decide)
  have B := hid (Below.refl w.heap.size w)
  clear  ha hd
  go_enter Tryz.func5, Tryz.ntmps5
  go_wp2_with fail
  refine (rounded_true w).mono ?_
  rintro e w1 ⟨rfl, hb⟩
  replace B := bb B hb
  clear hb 
  go_wp2_with fail
  refine (ratof_good HA.out w1).mono ?_
  rintro e w2 ⟨v, rfl, hv, hb⟩
  obtain ⟨s1a, p1a, n1a, c1a, p1b, n1b, c1b, rfl⟩ := hv.opened
  obtain ⟨ht1, hu1⟩ := hv.two
  replace B := bb B hb
  have HN1 := hid ht1
  have HD1 := hid hu1
  clear hb hv ht1 hu1
  have LG := hid (show w.heap.size ≤ w2.heap.size from B.out.size)
  have hb3 := (Below.refl _ _).alloc (Nat.le_refl w2.heap.size) (.cells #[.bool s1a, .slice p1a n1a c1a, .slice p1b n1b c1b] 28)
  have hx4 := Qbx.new w2 s1a p1a n1a c1a p1b n1b c1b
  replace B := bb B hb3
  have X6 := hid hx4
  have hs5 : (w2.alloc (.cells #[.bool s1a, .slice p1a n1a c1a, .slice p1b n1b c1b] 28)).heap.size = w2.heap.size + 1 := by simp
  clear hb3 hx4
  have hb6 := (Below.refl _ _).alloc (Nat.le_refl (w2.alloc (.cells #[.bool s1a, .slice p1a n1a c1a, .slice p1b n1b c1b] 28)).heap.size) (.cells #[.string ⟨#[]⟩, .string ⟨#[]⟩] 69)
  have hx7 := Vbx.new (w2.alloc (.cells #[.bool s1a, .slice p1a n1a c1a, .slice p1b n1b c1b] 28)) ⟨#[]⟩ ⟨#[]⟩
  rw [hs5] at hx7
  replace X6 := qx X6 hb6
  replace B := bb B hb6
  have X9 := hid hx7
  have hs8 : ((w2.alloc (.cells #[.bool s1a, .slice p1a n1a c1a, .slice p1b n1b c1b] 28)).alloc (.cells #[.string ⟨#[]⟩, .string ⟨#[]⟩] 69)).heap.size = w2.heap.size + 1 + 1 := by simp [hs5]
  clear hb6 hx7
  obtain ⟨cc9a, cc9b, cc9c⟩ := X6.out.cells
  obtain ⟨cc10a, cc10b⟩ := X9.out.both
  go_wp2_with fail
  generalize hW : (w2.alloc (.cells #[.bool s1a, .slice p1a n1a c1a, .slice p1b n1b c1b] 28)).alloc (.cells #[.string ⟨#[]⟩, .string ⟨#[]⟩] 69) = W11 at *
  clear hW
  refine (dtext_bad HB.out sa W11).mono ?_
  rintro e w12 ⟨rfl, hb⟩
  replace X9 := vx X9 hb
  replace B := bb B hb
  clear cc9a cc9b cc9c cc10a cc10b
  clear hb 
  obtain ⟨cc13a, cc13b⟩ := X9.out.both
  go_wp2_with fail
  refine (same_no 2 HKA.out w12 (HDR.out.below B.out)).mono ?_
  rintro e w14 ⟨rfl, hb⟩
  replace X9 := vx X9 hb
  replace B := bb B hb
  clear cc13a cc13b
  clear hb 
  obtain ⟨cc15a, cc15b⟩ := X9.out.both
  go_wp2_with fail
  refine (darnd_bad HB.out sa w14).mono ?_
  rintro e w16 ⟨rfl, hb⟩
  replace X9 := vx X9 hb
  replace B := bb B hb
  clear cc15a cc15b
  clear hb 
  have hb17 := (Below.refl _ _).alloc (Nat.le_refl w16.heap.size) (.cells #[.string ⟨#[]⟩, .string ⟨#[]⟩] 69)
  have hx18 := Vbx.new w16 ⟨#[]⟩ ⟨#[]⟩
  have L1 := hid X9.out.lt
  replace X9 := vx X9 hb17
  replace B := bb B hb17
  have X13 := hid hx18
  have hs19 : (w16.alloc (.cells #[.string ⟨#[]⟩, .string ⟨#[]⟩] 69)).heap.size = w16.heap.size + 1 := by simp
  clear hb17 hx18
  obtain ⟨cc20a, cc20b⟩ := X9.out.both
  obtain ⟨cc21a, cc21b⟩ := X13.out.both
  go_wp2_with fail
  generalize hW : w16.alloc (.cells #[.string ⟨#[]⟩, .string ⟨#[]⟩] 69) = W22 at *
  clear hW
  refine (same_no 2 HKA.out W22 (HDR.out.below B.out)).mono ?_
  rintro e w23 ⟨rfl, hb⟩
  replace X9 := vx X9 hb
  replace X13 := vx X13 hb
  replace B := bb B hb
  clear cc20a cc20b cc21a cc21b
  clear hb 
  obtain ⟨cc24a, cc24b⟩ := X9.out.both
  obtain ⟨cc25a, cc25b⟩ := X13.out.both
  go_wp2_with fail
  go_ret
  exact ⟨rfl, B.out⟩

set_option maxHeartbeats 8000000 in
theorem dtells_r2 (a : ByteArray) (sa : a.size ≤ maxLen) (w : World) {d : Int} (ha : GoodQ a) (h1 : ¬ d < 0) (h2 : 30 < d) (hd : Door w) :
    Calls Tryz.prog 5 #[.string a, .int .i64 d] w fun e w' => e = .returned (.bool true) ∧ Below w.heap.size w w' := by
  have HDR := hid hd
  have hne := errv_neq
  have HA := hid ha
  have HB := hid (show BadD a d 2 from .inr ⟨ha, by omega, rfl⟩)
  have HKA := hid (show (2 : Int) ≠ 0 by decide)
  have B := hid (Below.refl w.heap.size w)
  clear  ha hd
  go_enter Tryz.func5, Tryz.ntmps5
  go_wp2_with fail
  refine (rounded_true w).mono ?_
  rintro e w1 ⟨rfl, hb⟩
  replace B := bb B hb
  clear hb 
  go_wp2_with fail
  refine (ratof_good HA.out w1).mono ?_
  rintro e w2 ⟨v, rfl, hv, hb⟩
  obtain ⟨s1a, p1a, n1a, c1a, p1b, n1b, c1b, rfl⟩ := hv.opened
  obtain ⟨ht1, hu1⟩ := hv.two
  replace B := bb B hb
  have HN1 := hid ht1
  have HD1 := hid hu1
  clear hb hv ht1 hu1
  have LG := hid (show w.heap.size ≤ w2.heap.size from B.out.size)
  have hb3 := (Below.refl _ _).alloc (Nat.le_refl w2.heap.size) (.cells #[.bool s1a, .slice p1a n1a c1a, .slice p1b n1b c1b] 28)
  have hx4 := Qbx.new w2 s1a p1a n1a c1a p1b n1b c1b
  replace B := bb B hb3
  have X6 := hid hx4
  have hs5 : (w2.alloc (.cells #[.bool s1a, .slice p1a n1a c1a, .slice p1b n1b c1b] 28)).heap.size = w2.heap.size + 1 := by simp
  clear hb3 hx4
  have hb6 := (Below.refl _ _).alloc (Nat.le_refl (w2.alloc (.cells #[.bool s1a, .slice p1a n1a c1a, .slice p1b n1b c1b] 28)).heap.size) (.cells #[.string ⟨#[]⟩, .string ⟨#[]⟩] 69)
  have hx7 := Vbx.new (w2.alloc (.cells #[.bool s1a, .slice p1a n1a c1a, .slice p1b n1b c1b] 28)) ⟨#[]⟩ ⟨#[]⟩
  rw [hs5] at hx7
  replace X6 := qx X6 hb6
  replace B := bb B hb6
  have X9 := hid hx7
  have hs8 : ((w2.alloc (.cells #[.bool s1a, .slice p1a n1a c1a, .slice p1b n1b c1b] 28)).alloc (.cells #[.string ⟨#[]⟩, .string ⟨#[]⟩] 69)).heap.size = w2.heap.size + 1 + 1 := by simp [hs5]
  clear hb6 hx7
  obtain ⟨cc9a, cc9b, cc9c⟩ := X6.out.cells
  obtain ⟨cc10a, cc10b⟩ := X9.out.both
  go_wp2_with fail
  generalize hW : (w2.alloc (.cells #[.bool s1a, .slice p1a n1a c1a, .slice p1b n1b c1b] 28)).alloc (.cells #[.string ⟨#[]⟩, .string ⟨#[]⟩] 69) = W11 at *
  clear hW
  refine (dtext_bad HB.out sa W11).mono ?_
  rintro e w12 ⟨rfl, hb⟩
  replace X9 := vx X9 hb
  replace B := bb B hb
  clear cc9a cc9b cc9c cc10a cc10b
  clear hb 
  obtain ⟨cc13a, cc13b⟩ := X9.out.both
  go_wp2_with fail
  refine (same_no 2 HKA.out w12 (HDR.out.below B.out)).mono ?_
  rintro e w14 ⟨rfl, hb⟩
  replace X9 := vx X9 hb
  replace B := bb B hb
  clear cc13a cc13b
  clear hb 
  obtain ⟨cc15a, cc15b⟩ := X9.out.both
  go_wp2_with fail
  refine (darnd_bad HB.out sa w14).mono ?_
  rintro e w16 ⟨rfl, hb⟩
  replace X9 := vx X9 hb
  replace B := bb B hb
  clear cc15a cc15b
  clear hb 
  have hb17 := (Below.refl _ _).alloc (Nat.le_refl w16.heap.size) (.cells #[.string ⟨#[]⟩, .string ⟨#[]⟩] 69)
  have hx18 := Vbx.new w16 ⟨#[]⟩ ⟨#[]⟩
  have L1 := hid X9.out.lt
  replace X9 := vx X9 hb17
  replace B := bb B hb17
  have X13 := hid hx18
  have hs19 : (w16.alloc (.cells #[.string ⟨#[]⟩, .string ⟨#[]⟩] 69)).heap.size = w16.heap.size + 1 := by simp
  clear hb17 hx18
  obtain ⟨cc20a, cc20b⟩ := X9.out.both
  obtain ⟨cc21a, cc21b⟩ := X13.out.both
  go_wp2_with fail
  generalize hW : w16.alloc (.cells #[.string ⟨#[]⟩, .string ⟨#[]⟩] 69) = W22 at *
  clear hW
  refine (same_no 2 HKA.out W22 (HDR.out.below B.out)).mono ?_
  rintro e w23 ⟨rfl, hb⟩
  replace X9 := vx X9 hb
  replace X13 := vx X13 hb
  replace B := bb B hb
  clear cc20a cc20b cc21a cc21b
  clear hb 
  obtain ⟨cc24a, cc24b⟩ := X9.out.both
  obtain ⟨cc25a, cc25b⟩ := X13.out.both
  go_wp2_with fail
  go_ret
  exact ⟨rfl, B.out⟩

set_option maxHeartbeats 8000000 in
theorem dtells_ok (a : ByteArray) (sa : a.size ≤ maxLen) (w : World) {n : Nat} (ha : GoodQ a) (hn : n ≤ 30) (hd : Door w) :
    Calls Tryz.prog 5 #[.string a, .int .i64 (n : Int)] w fun e w' => e = .returned (.bool true) ∧ Below w.heap.size w w' := by
  have HDR := hid hd
  have hne := errv_neq
  have HA := hid ha
  have HN := hid hn
  have h1 : ¬ (n : Int) < 0 := by omega
  have h2 : ¬ (30 : Int) < (n : Int) := by omega
  have B := hid (Below.refl w.heap.size w)
  clear  ha hd hn
  go_enter Tryz.func5, Tryz.ntmps5
  go_wp2_with fail
  refine (rounded_true w).mono ?_
  rintro e w1 ⟨rfl, hb⟩
  replace B := bb B hb
  clear hb 
  go_wp2_with fail
  refine (ratof_good HA.out w1).mono ?_
  rintro e w2 ⟨v, rfl, hv, hb⟩
  obtain ⟨s1a, p1a, n1a, c1a, p1b, n1b, c1b, rfl⟩ := hv.opened
  obtain ⟨ht1, hu1⟩ := hv.two
  replace B := bb B hb
  have HN1 := hid ht1
  have HD1 := hid hu1
  clear hb hv ht1 hu1
  have LG := hid (show w.heap.size ≤ w2.heap.size from B.out.size)
  have hb3 := (Below.refl _ _).alloc (Nat.le_refl w2.heap.size) (.cells #[.bool s1a, .slice p1a n1a c1a, .slice p1b n1b c1b] 28)
  have hx4 := Qbx.new w2 s1a p1a n1a c1a p1b n1b c1b
  replace HN1 := wr HN1 hb3
  replace HD1 := wr HD1 hb3
  replace B := bb B hb3
  have X6 := hid hx4
  have hs5 : (w2.alloc (.cells #[.bool s1a, .slice p1a n1a c1a, .slice p1b n1b c1b] 28)).heap.size = w2.heap.size + 1 := by simp
  clear hb3 hx4
  have hb6 := (Below.refl _ _).alloc (Nat.le_refl (w2.alloc (.cells #[.bool s1a, .slice p1a n1a c1a, .slice p1b n1b c1b] 28)).heap.size) (.cells #[.string ⟨#[]⟩, .string ⟨#[]⟩] 69)
  have hx7 := Vbx.new (w2.alloc (.cells #[.bool s1a, .slice p1a n1a c1a, .slice p1b n1b c1b] 28)) ⟨#[]⟩ ⟨#[]⟩
  rw [hs5] at hx7
  replace X6 := qx X6 hb6
  replace HN1 := wr HN1 hb6
  replace HD1 := wr HD1 hb6
  replace B := bb B hb6
  have X9 := hid hx7
  have hs8 : ((w2.alloc (.cells #[.bool s1a, .slice p1a n1a c1a, .slice p1b n1b c1b] 28)).alloc (.cells #[.string ⟨#[]⟩, .string ⟨#[]⟩] 69)).heap.size = w2.heap.size + 1 + 1 := by simp [hs5]
  clear hb6 hx7
  obtain ⟨cc9a, cc9b, cc9c⟩ := X6.out.cells
  obtain ⟨cc10a, cc10b⟩ := X9.out.both
  go_wp2_with fail
  generalize hW : (w2.alloc (.cells #[.bool s1a, .slice p1a n1a c1a, .slice p1b n1b c1b] 28)).alloc (.cells #[.string ⟨#[]⟩, .string ⟨#[]⟩] 69) = W11 at *
  clear hW
  refine (rdecimal (QR.mk2 HN1.out HD1.out) HN.out).mono ?_
  rintro e w12 ⟨rfl, hb⟩
  replace X6 := qx X6 hb
  replace X9 := vx X9 hb
  replace HN1 := wr HN1 hb
  replace HD1 := wr HD1 hb
  replace B := bb B hb
  clear cc9a cc9b cc9c cc10a cc10b
  clear hb 
  obtain ⟨cc13a, cc13b, cc13c⟩ := X6.out.cells
  obtain ⟨cc14a, cc14b⟩ := X9.out.both
  go_wp2_with fail
  refine (raround (QR.mk2 HN1.out HD1.out) HN.out).mono ?_
  rintro e w15 ⟨rfl, hb⟩
  replace X9 := vx X9 hb
  replace B := bb B hb
  clear cc13a cc13b cc13c cc14a cc14b
  clear hb 
  obtain ⟨cc16a, cc16b⟩ := X9.out.both
  obtain ⟨cc17a, cc17b, cc17c, cc17d⟩ := X9.out.stores
  obtain ⟨r18a, r18b, r18c⟩ := X9.out.lastR B.out (by have := LG.out; omega) (qtxt (unq (lowu (qnum a) n) n)) (qtxt (unq (highu (qnum a) n) n))
  replace X9 := hid r18a
  replace B := hid r18b
  clear r18a r18b r18c
  obtain ⟨cc19a, cc19b⟩ := X9.out.both
  go_wp2_with fail
  generalize hW : (w15.setCell ⟨w2.heap.size + 1, 0, none⟩ (.string (qtxt (unq (lowu (qnum a) n) n)))).setCell ⟨w2.heap.size + 1, 1, none⟩ (.string (qtxt (unq (highu (qnum a) n) n))) = W20 at *
  clear hW
  refine (dtext_ok HA.out HN.out W20).mono ?_
  rintro e w21 ⟨rfl, hb⟩
  replace X9 := vx X9 hb
  replace B := bb B hb
  clear cc16a cc16b cc17a cc17b cc17c cc17d cc19a cc19b
  clear hb 
  obtain ⟨cc22a, cc22b⟩ := X9.out.both
  go_wp2_with fail
  refine (same_nil w21 (HDR.out.below B.out)).mono ?_
  rintro e w23 ⟨rfl, hb⟩
  replace X9 := vx X9 hb
  replace B := bb B hb
  clear cc22a cc22b
  clear hb 
  obtain ⟨cc24a, cc24b⟩ := X9.out.both
  go_wp2_with fail
  refine (darnd_ok HA.out HN.out w23).mono ?_
  rintro e w25 ⟨rfl, hb⟩
  replace X9 := vx X9 hb
  replace B := bb B hb
  clear cc24a cc24b
  clear hb 
  have hb26 := (Below.refl _ _).alloc (Nat.le_refl w25.heap.size) (.cells #[.string (qtxt (unq (lowu (qnum a) n) n)), .string (qtxt (unq (highu (qnum a) n) n))] 69)
  have hx27 := Vbx.new w25 (qtxt (unq (lowu (qnum a) n) n)) (qtxt (unq (highu (qnum a) n) n))
  have L1 := hid X9.out.lt
  replace X9 := vx X9 hb26
  replace B := bb B hb26
  have X13 := hid hx27
  have hs28 : (w25.alloc (.cells #[.string (qtxt (unq (lowu (qnum a) n) n)), .string (qtxt (unq (highu (qnum a) n) n))] 69)).heap.size = w25.heap.size + 1 := by simp
  clear hb26 hx27
  obtain ⟨cc29a, cc29b⟩ := X9.out.both
  obtain ⟨cc30a, cc30b⟩ := X13.out.both
  go_wp2_with fail
  generalize hW : w25.alloc (.cells #[.string (qtxt (unq (lowu (qnum a) n) n)), .string (qtxt (unq (highu (qnum a) n) n))] 69) = W31 at *
  clear hW
  refine (same_nil W31 (HDR.out.below B.out)).mono ?_
  rintro e w32 ⟨rfl, hb⟩
  replace X9 := vx X9 hb
  replace X13 := vx X13 hb
  replace B := bb B hb
  clear cc29a cc29b cc30a cc30b
  clear hb 
  obtain ⟨cc33a, cc33b⟩ := X9.out.both
  obtain ⟨cc34a, cc34b⟩ := X13.out.both
  go_wp2_with fail
  go_ret
  exact ⟨rfl, B.out⟩

theorem dtells_walk (a : ByteArray) (d : Int) (sa : a.size ≤ maxLen) (w : World) (hd : Door w) :
    Calls Tryz.prog 5 #[.string a, .int .i64 d] w fun e w' => e = .returned (.bool true) ∧ Below w.heap.size w w' := by
  rcases goodQ_or_bad a with ha | ⟨k, ha⟩
  · by_cases h1 : d < 0
    · exact dtells_r1 a sa w ha h1 hd
    · by_cases h2 : 30 < d
      · exact dtells_r2 a sa w ha h1 h2 hd
      · obtain ⟨n, rfl⟩ : ∃ n : Nat, d = (n : Int) := ⟨d.toNat, by omega⟩
        exact dtells_ok a sa w ha (by omega) hd
  · exact dtells_a a sa w ha hd

end Go.Proofs.YtjeeepcnaaadmaaGreatDoor
