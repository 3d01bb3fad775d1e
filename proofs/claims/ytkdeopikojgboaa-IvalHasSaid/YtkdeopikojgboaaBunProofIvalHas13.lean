import Derived.Test.YtkdeopikojgboaaBunProofIvalHas12
import Derived.Test.YtkdeopikojgboaaBunProofIvalHas9
import Derived.Test.YtkdeopikojgboaaBunProofIvalHas11
import Derived.Test.YtkdeopikojgboaaBunProofIvalHas8
import Derived.Deep.RegionHeld3
/-
  PACKAGE ival: read.
-/
namespace Go.Proofs.Ytkdeopikojgboaa
open Go.RowKit
open Num
set_option linter.unusedVariables false
set_option maxRecDepth 100000
set_option linter.unusedSimpArgs false

set_option maxHeartbeats 2000000 in
theorem iread_a {a b : ByteArray} {k : Int} (h : BadQ a k) (ha : a.size ≤ maxLen) (w : World) :
    Calls Try.prog 16 #[.agg #[.string a, .string b]] w fun e w' => e = .returned (.tuple #[.agg #[.bool false, .slice none 0 0, .bool false, .slice none 0 0, .bool false, .slice none 0 0, .bool false, .slice none 0 0], errno k]) ∧ Below w.heap.size w w' := by
  have hne := errv_neq
  have hgd := errv_guard
  have hkk := errv_some h.ne
  have H1 := hid (fun w => qread_bad h w ha)
  have B := hid (Below.refl w.heap.size w)
  have hb1 := (Below.refl _ _).alloc (Nat.le_refl w.heap.size) (.cells #[.string a, .string b] 23)
  have hx2 := Vbx.new w a b
  replace B := bb B hb1
  have X1 := hid hx2
  have hs3 : (w.alloc (.cells #[.string a, .string b] 23)).heap.size = w.heap.size + 1 := by simp
  clear hb1 hx2
  have hb4 := (Below.refl _ _).alloc (Nat.le_refl (w.alloc (.cells #[.string a, .string b] 23)).heap.size) (.cells #[.bool false, .slice none 0 0, .bool false, .slice none 0 0, .bool false, .slice none 0 0, .bool false, .slice none 0 0] 42)
  have hx5 := Ibx.new (w.alloc (.cells #[.string a, .string b] 23)) false none 0 0 false none 0 0 false none 0 0 false none 0 0
  rw [hs3] at hx5
  replace X1 := vx X1 hb4
  replace B := bb B hb4
  have XV := hid hx5
  have hs6 : ((w.alloc (.cells #[.string a, .string b] 23)).alloc (.cells #[.bool false, .slice none 0 0, .bool false, .slice none 0 0, .bool false, .slice none 0 0, .bool false, .slice none 0 0] 42)).heap.size = w.heap.size + 1 + 1 := by simp [hs3]
  clear hb4 hx5
  clear hs6 h
  go_enter Try.func16, Try.ntmps16
  obtain ⟨cc7a, cc7b⟩ := X1.out.both
  obtain ⟨cc8a, cc8b, cc8c, cc8d, cc8e, cc8f, cc8g, cc8h⟩ := XV.out.cells
  go_wp2_with fail
  generalize hW : (w.alloc (.cells #[.string a, .string b] 23)).alloc (.cells #[.bool false, .slice none 0 0, .bool false, .slice none 0 0, .bool false, .slice none 0 0, .bool false, .slice none 0 0] 42) = W9 at *
  clear hW
  refine (H1.out _).mono ?_
  rintro e w10 ⟨rfl, hb⟩
  replace X1 := vx X1 hb
  replace XV := ix XV hb
  replace B := bb B hb
  clear cc7a cc7b cc8a cc8b cc8c cc8d cc8e cc8f cc8g cc8h
  clear hb H1
  have hb11 := (Below.refl _ _).alloc (Nat.le_refl w10.heap.size) (.cells #[.bool false, .slice none 0 0, .bool false, .slice none 0 0] 40)
  have hx12 := Nbx.new w10 false false (.slice none 0 0) (.slice none 0 0)
  have L0 := hid XV.out.lt
  replace XV := ix XV hb11
  replace B := bb B hb11
  have XA := hid hx12
  have hs13 : (w10.alloc (.cells #[.bool false, .slice none 0 0, .bool false, .slice none 0 0] 40)).heap.size = w10.heap.size + 1 := by simp
  clear hb11 hx12
  obtain ⟨cc14a, cc14b, cc14c, cc14d, cc14e, cc14f, cc14g, cc14h⟩ := XV.out.cells
  obtain ⟨cc15a, cc15b, cc15c, cc15d⟩ := XA.out.cells
  obtain ⟨⟨cc16a, cc16b⟩, ⟨cc16c, cc16d⟩, ⟨cc16e, cc16f⟩, ⟨cc16g, cc16h⟩, ⟨cc16i, cc16j⟩, ⟨cc16k, cc16l⟩, ⟨cc16m, cc16n⟩, cc16o, cc16p⟩ := XV.out.stores
  obtain ⟨r17a, r17b, r17c⟩ := XV.out.last B.out (by have := L0.out; omega) false none 0 0 false none 0 0 false none 0 0 false none 0 0
  replace XA := hid ((((((((XA.out.other (g2 := w.heap.size + 1) (by have := L0.out; omega) 0 (.bool false)).other (g2 := w.heap.size + 1) (by have := L0.out; omega) 1 (.slice none 0 0)).other (g2 := w.heap.size + 1) (by have := L0.out; omega) 2 (.bool false)).other (g2 := w.heap.size + 1) (by have := L0.out; omega) 3 (.slice none 0 0)).other (g2 := w.heap.size + 1) (by have := L0.out; omega) 4 (.bool false)).other (g2 := w.heap.size + 1) (by have := L0.out; omega) 5 (.slice none 0 0)).other (g2 := w.heap.size + 1) (by have := L0.out; omega) 6 (.bool false)).other (g2 := w.heap.size + 1) (by have := L0.out; omega) 7 (.slice none 0 0))
  replace XV := hid r17a
  replace B := hid r17b
  clear r17a r17b r17c
  obtain ⟨cc18a, cc18b, cc18c, cc18d, cc18e, cc18f, cc18g, cc18h⟩ := XV.out.cells
  obtain ⟨cc19a, cc19b, cc19c, cc19d⟩ := XA.out.cells
  go_wp2_with fail
  refine bodyPost_ret (res_ivl_tmp rfl rfl rfl XV.out) rfl ?_
  exact ⟨rfl, B.out⟩

set_option maxHeartbeats 2000000 in
theorem iread_b {a b : ByteArray} {k : Int} (h1 : GoodQ a) (h2 : BadQ b k) (hb0 : b.size ≤ maxLen) (w : World) :
    Calls Try.prog 16 #[.agg #[.string a, .string b]] w fun e w' => e = .returned (.tuple #[.agg #[.bool false, .slice none 0 0, .bool false, .slice none 0 0, .bool false, .slice none 0 0, .bool false, .slice none 0 0], errno k]) ∧ Below w.heap.size w w' := by
  have hne := errv_neq
  have hgd := errv_guard
  have H1 := hid (fun w => qread_good h1 w)
  have hkk := errv_some h2.ne
  have H2 := hid (fun w => qread_bad h2 w hb0)
  have B := hid (Below.refl w.heap.size w)
  have hb1 := (Below.refl _ _).alloc (Nat.le_refl w.heap.size) (.cells #[.string a, .string b] 23)
  have hx2 := Vbx.new w a b
  replace B := bb B hb1
  have X1 := hid hx2
  have hs3 : (w.alloc (.cells #[.string a, .string b] 23)).heap.size = w.heap.size + 1 := by simp
  clear hb1 hx2
  have hb4 := (Below.refl _ _).alloc (Nat.le_refl (w.alloc (.cells #[.string a, .string b] 23)).heap.size) (.cells #[.bool false, .slice none 0 0, .bool false, .slice none 0 0, .bool false, .slice none 0 0, .bool false, .slice none 0 0] 42)
  have hx5 := Ibx.new (w.alloc (.cells #[.string a, .string b] 23)) false none 0 0 false none 0 0 false none 0 0 false none 0 0
  rw [hs3] at hx5
  replace X1 := vx X1 hb4
  replace B := bb B hb4
  have XV := hid hx5
  have hs6 : ((w.alloc (.cells #[.string a, .string b] 23)).alloc (.cells #[.bool false, .slice none 0 0, .bool false, .slice none 0 0, .bool false, .slice none 0 0, .bool false, .slice none 0 0] 42)).heap.size = w.heap.size + 1 + 1 := by simp [hs3]
  clear hb4 hx5
  clear hs6 h1 h2
  go_enter Try.func16, Try.ntmps16
  obtain ⟨cc7a, cc7b⟩ := X1.out.both
  obtain ⟨cc8a, cc8b, cc8c, cc8d, cc8e, cc8f, cc8g, cc8h⟩ := XV.out.cells
  go_wp2_with fail
  generalize hW : (w.alloc (.cells #[.string a, .string b] 23)).alloc (.cells #[.bool false, .slice none 0 0, .bool false, .slice none 0 0, .bool false, .slice none 0 0, .bool false, .slice none 0 0] 42) = W9 at *
  clear hW
  refine (H1.out _).mono ?_
  rintro e w10 ⟨v, rfl, hv, hb⟩
  obtain ⟨s2a, p2a, n2a, c2a, s2b, p2b, n2b, c2b, rfl⟩ := hv.opened
  obtain ⟨ht2, d2, hu2, hd2⟩ := hv.two
  have HD2 := hid hd2
  replace X1 := vx X1 hb
  replace XV := ix XV hb
  replace B := bb B hb
  clear cc7a cc7b cc8a cc8b cc8c cc8d cc8e cc8f cc8g cc8h
  have HT2 := hid ht2
  have HU2 := hid hu2
  clear hb hv ht2 hu2 hd2 H1
  have hb11 := (Below.refl _ _).alloc (Nat.le_refl w10.heap.size) (.cells #[.bool s2a, .slice p2a n2a c2a, .bool s2b, .slice p2b n2b c2b] 40)
  have hx12 := Nbx.new w10 s2a s2b (.slice p2a n2a c2a) (.slice p2b n2b c2b)
  have L0 := hid XV.out.lt
  replace X1 := vx X1 hb11
  replace XV := ix XV hb11
  replace HT2 := wl HT2 hb11
  replace HU2 := wl HU2 hb11
  replace B := bb B hb11
  have XA := hid hx12
  have hs13 : (w10.alloc (.cells #[.bool s2a, .slice p2a n2a c2a, .bool s2b, .slice p2b n2b c2b] 40)).heap.size = w10.heap.size + 1 := by simp
  clear hb11 hx12
  obtain ⟨cc14a, cc14b⟩ := X1.out.both
  obtain ⟨cc15a, cc15b, cc15c, cc15d, cc15e, cc15f, cc15g, cc15h⟩ := XV.out.cells
  obtain ⟨cc16a, cc16b, cc16c, cc16d⟩ := XA.out.cells
  go_wp2_with fail
  generalize hW : w10.alloc (.cells #[.bool s2a, .slice p2a n2a c2a, .bool s2b, .slice p2b n2b c2b] 40) = W17 at *
  clear hW
  refine (H2.out _).mono ?_
  rintro e w18 ⟨rfl, hb⟩
  replace X1 := vx X1 hb
  replace XV := ix XV hb
  replace XA := nx XA hb
  replace HT2 := wl HT2 hb
  replace HU2 := wl HU2 hb
  replace B := bb B hb
  clear cc14a cc14b cc15a cc15b cc15c cc15d cc15e cc15f cc15g cc15h cc16a cc16b cc16c cc16d
  clear hb H2
  have hb19 := (Below.refl _ _).alloc (Nat.le_refl w18.heap.size) (.cells #[.bool false, .slice none 0 0, .bool false, .slice none 0 0] 40)
  have hx20 := Nbx.new w18 false false (.slice none 0 0) (.slice none 0 0)
  have L1 := hid XA.out.lt
  replace XV := ix XV hb19
  replace XA := nx XA hb19
  replace HT2 := wl HT2 hb19
  replace HU2 := wl HU2 hb19
  replace B := bb B hb19
  have XB := hid hx20
  have hs21 : (w18.alloc (.cells #[.bool false, .slice none 0 0, .bool false, .slice none 0 0] 40)).heap.size = w18.heap.size + 1 := by simp
  clear hb19 hx20
  obtain ⟨cc22a, cc22b, cc22c, cc22d, cc22e, cc22f, cc22g, cc22h⟩ := XV.out.cells
  obtain ⟨cc23a, cc23b, cc23c, cc23d⟩ := XA.out.cells
  obtain ⟨cc24a, cc24b, cc24c, cc24d⟩ := XB.out.cells
  obtain ⟨⟨cc25a, cc25b⟩, ⟨cc25c, cc25d⟩, ⟨cc25e, cc25f⟩, ⟨cc25g, cc25h⟩, ⟨cc25i, cc25j⟩, ⟨cc25k, cc25l⟩, ⟨cc25m, cc25n⟩, cc25o, cc25p⟩ := XV.out.stores
  obtain ⟨r26a, r26b, r26c⟩ := XV.out.last B.out (by have := L0.out; have := L1.out; omega) false none 0 0 false none 0 0 false none 0 0 false none 0 0
  replace XA := hid ((((((((XA.out.other (g2 := w.heap.size + 1) (by have := L0.out; have := L1.out; omega) 0 (.bool false)).other (g2 := w.heap.size + 1) (by have := L0.out; have := L1.out; omega) 1 (.slice none 0 0)).other (g2 := w.heap.size + 1) (by have := L0.out; have := L1.out; omega) 2 (.bool false)).other (g2 := w.heap.size + 1) (by have := L0.out; have := L1.out; omega) 3 (.slice none 0 0)).other (g2 := w.heap.size + 1) (by have := L0.out; have := L1.out; omega) 4 (.bool false)).other (g2 := w.heap.size + 1) (by have := L0.out; have := L1.out; omega) 5 (.slice none 0 0)).other (g2 := w.heap.size + 1) (by have := L0.out; have := L1.out; omega) 6 (.bool false)).other (g2 := w.heap.size + 1) (by have := L0.out; have := L1.out; omega) 7 (.slice none 0 0))
  replace XB := hid ((((((((XB.out.other (g2 := w.heap.size + 1) (by have := L0.out; have := L1.out; omega) 0 (.bool false)).other (g2 := w.heap.size + 1) (by have := L0.out; have := L1.out; omega) 1 (.slice none 0 0)).other (g2 := w.heap.size + 1) (by have := L0.out; have := L1.out; omega) 2 (.bool false)).other (g2 := w.heap.size + 1) (by have := L0.out; have := L1.out; omega) 3 (.slice none 0 0)).other (g2 := w.heap.size + 1) (by have := L0.out; have := L1.out; omega) 4 (.bool false)).other (g2 := w.heap.size + 1) (by have := L0.out; have := L1.out; omega) 5 (.slice none 0 0)).other (g2 := w.heap.size + 1) (by have := L0.out; have := L1.out; omega) 6 (.bool false)).other (g2 := w.heap.size + 1) (by have := L0.out; have := L1.out; omega) 7 (.slice none 0 0))
  replace HT2 := hid (r26c HT2.out)
  replace HU2 := hid (r26c HU2.out)
  replace XV := hid r26a
  replace B := hid r26b
  clear r26a r26b r26c
  obtain ⟨cc27a, cc27b, cc27c, cc27d, cc27e, cc27f, cc27g, cc27h⟩ := XV.out.cells
  obtain ⟨cc28a, cc28b, cc28c, cc28d⟩ := XA.out.cells
  obtain ⟨cc29a, cc29b, cc29c, cc29d⟩ := XB.out.cells
  go_wp2_with fail
  refine bodyPost_ret (res_ivl_tmp rfl rfl rfl XV.out) rfl ?_
  exact ⟨rfl, B.out⟩

set_option maxHeartbeats 2000000 in
theorem iread_c {a b : ByteArray} {k : Int} (h1 : GoodQ a) (h2 : GoodQ b) (h3 : qnum b < qnum a) (w : World) :
    Calls Try.prog 16 #[.agg #[.string a, .string b]] w fun e w' => e = .returned (.tuple #[.agg #[.bool false, .slice none 0 0, .bool false, .slice none 0 0, .bool false, .slice none 0 0, .bool false, .slice none 0 0], errno 2]) ∧ Below w.heap.size w w' := by
  have hne := errv_neq
  have hgd := errv_guard
  have H1 := hid (fun w => qread_good h1 w)
  have H2 := hid (fun w => qread_good h2 w)
  have HA := hid (show decide (qnum b < qnum a) = true by simp [h3])
  have B := hid (Below.refl w.heap.size w)
  have hb1 := (Below.refl _ _).alloc (Nat.le_refl w.heap.size) (.cells #[.string a, .string b] 23)
  have hx2 := Vbx.new w a b
  replace B := bb B hb1
  have X1 := hid hx2
  have hs3 : (w.alloc (.cells #[.string a, .string b] 23)).heap.size = w.heap.size + 1 := by simp
  clear hb1 hx2
  have hb4 := (Below.refl _ _).alloc (Nat.le_refl (w.alloc (.cells #[.string a, .string b] 23)).heap.size) (.cells #[.bool false, .slice none 0 0, .bool false, .slice none 0 0, .bool false, .slice none 0 0, .bool false, .slice none 0 0] 42)
  have hx5 := Ibx.new (w.alloc (.cells #[.string a, .string b] 23)) false none 0 0 false none 0 0 false none 0 0 false none 0 0
  rw [hs3] at hx5
  replace X1 := vx X1 hb4
  replace B := bb B hb4
  have XV := hid hx5
  have hs6 : ((w.alloc (.cells #[.string a, .string b] 23)).alloc (.cells #[.bool false, .slice none 0 0, .bool false, .slice none 0 0, .bool false, .slice none 0 0, .bool false, .slice none 0 0] 42)).heap.size = w.heap.size + 1 + 1 := by simp [hs3]
  clear hb4 hx5
  clear hs6 h1 h2 h3
  go_enter Try.func16, Try.ntmps16
  obtain ⟨cc7a, cc7b⟩ := X1.out.both
  obtain ⟨cc8a, cc8b, cc8c, cc8d, cc8e, cc8f, cc8g, cc8h⟩ := XV.out.cells
  go_wp2_with fail
  generalize hW : (w.alloc (.cells #[.string a, .string b] 23)).alloc (.cells #[.bool false, .slice none 0 0, .bool false, .slice none 0 0, .bool false, .slice none 0 0, .bool false, .slice none 0 0] 42) = W9 at *
  clear hW
  refine (H1.out _).mono ?_
  rintro e w10 ⟨v, rfl, hv, hb⟩
  obtain ⟨s2a, p2a, n2a, c2a, s2b, p2b, n2b, c2b, rfl⟩ := hv.opened
  obtain ⟨ht2, d2, hu2, hd2⟩ := hv.two
  have HD2 := hid hd2
  replace X1 := vx X1 hb
  replace XV := ix XV hb
  replace B := bb B hb
  clear cc7a cc7b cc8a cc8b cc8c cc8d cc8e cc8f cc8g cc8h
  have HT2 := hid ht2
  have HU2 := hid hu2
  clear hb hv ht2 hu2 hd2 H1
  have hb11 := (Below.refl _ _).alloc (Nat.le_refl w10.heap.size) (.cells #[.bool s2a, .slice p2a n2a c2a, .bool s2b, .slice p2b n2b c2b] 40)
  have hx12 := Nbx.new w10 s2a s2b (.slice p2a n2a c2a) (.slice p2b n2b c2b)
  have L0 := hid XV.out.lt
  replace X1 := vx X1 hb11
  replace XV := ix XV hb11
  replace HT2 := wl HT2 hb11
  replace HU2 := wl HU2 hb11
  replace B := bb B hb11
  have XA := hid hx12
  have hs13 : (w10.alloc (.cells #[.bool s2a, .slice p2a n2a c2a, .bool s2b, .slice p2b n2b c2b] 40)).heap.size = w10.heap.size + 1 := by simp
  clear hb11 hx12
  obtain ⟨cc14a, cc14b⟩ := X1.out.both
  obtain ⟨cc15a, cc15b, cc15c, cc15d, cc15e, cc15f, cc15g, cc15h⟩ := XV.out.cells
  obtain ⟨cc16a, cc16b, cc16c, cc16d⟩ := XA.out.cells
  go_wp2_with fail
  generalize hW : w10.alloc (.cells #[.bool s2a, .slice p2a n2a c2a, .bool s2b, .slice p2b n2b c2b] 40) = W17 at *
  clear hW
  refine (H2.out _).mono ?_
  rintro e w18 ⟨v, rfl, hv, hb⟩
  obtain ⟨s3a, p3a, n3a, c3a, s3b, p3b, n3b, c3b, rfl⟩ := hv.opened
  obtain ⟨ht3, d3, hu3, hd3⟩ := hv.two
  have HD3 := hid hd3
  replace X1 := vx X1 hb
  replace XV := ix XV hb
  replace XA := nx XA hb
  replace HT2 := wl HT2 hb
  replace HU2 := wl HU2 hb
  replace B := bb B hb
  clear cc14a cc14b cc15a cc15b cc15c cc15d cc15e cc15f cc15g cc15h cc16a cc16b cc16c cc16d
  have HT3 := hid ht3
  have HU3 := hid hu3
  clear hb hv ht3 hu3 hd3 H2
  have hb19 := (Below.refl _ _).alloc (Nat.le_refl w18.heap.size) (.cells #[.bool s3a, .slice p3a n3a c3a, .bool s3b, .slice p3b n3b c3b] 40)
  have hx20 := Nbx.new w18 s3a s3b (.slice p3a n3a c3a) (.slice p3b n3b c3b)
  have L1 := hid XA.out.lt
  replace X1 := vx X1 hb19
  replace XV := ix XV hb19
  replace XA := nx XA hb19
  replace HT2 := wl HT2 hb19
  replace HU2 := wl HU2 hb19
  replace HT3 := wl HT3 hb19
  replace HU3 := wl HU3 hb19
  replace B := bb B hb19
  have XB := hid hx20
  have hs21 : (w18.alloc (.cells #[.bool s3a, .slice p3a n3a c3a, .bool s3b, .slice p3b n3b c3b] 40)).heap.size = w18.heap.size + 1 := by simp
  clear hb19 hx20
  obtain ⟨cc22a, cc22b⟩ := X1.out.both
  obtain ⟨cc23a, cc23b, cc23c, cc23d, cc23e, cc23f, cc23g, cc23h⟩ := XV.out.cells
  obtain ⟨cc24a, cc24b, cc24c, cc24d⟩ := XA.out.cells
  obtain ⟨cc25a, cc25b, cc25c, cc25d⟩ := XB.out.cells
  go_wp2_with fail
  generalize hW : w18.alloc (.cells #[.bool s3a, .slice p3a n3a c3a, .bool s3b, .slice p3b n3b c3b] 40) = W26 at *
  clear hW
  refine (lessq_rtl (Rtl.mk2 HT3.out HU3.out HD3.out) (Rtl.mk2 HT2.out HU2.out HD2.out) (by decide) (by decide)).mono ?_
  rintro e w27 ⟨rfl, hb⟩
  replace XV := ix XV hb
  replace XA := nx XA hb
  replace XB := nx XB hb
  replace HT2 := wl HT2 hb
  replace HU2 := wl HU2 hb
  replace HT3 := wl HT3 hb
  replace HU3 := wl HU3 hb
  replace B := bb B hb
  clear cc22a cc22b cc23a cc23b cc23c cc23d cc23e cc23f cc23g cc23h cc24a cc24b cc24c cc24d cc25a cc25b cc25c cc25d
  clear hb 
  rw [HA.out]
  obtain ⟨cc28a, cc28b, cc28c, cc28d, cc28e, cc28f, cc28g, cc28h⟩ := XV.out.cells
  obtain ⟨cc29a, cc29b, cc29c, cc29d⟩ := XA.out.cells
  obtain ⟨cc30a, cc30b, cc30c, cc30d⟩ := XB.out.cells
  obtain ⟨⟨cc31a, cc31b⟩, ⟨cc31c, cc31d⟩, ⟨cc31e, cc31f⟩, ⟨cc31g, cc31h⟩, ⟨cc31i, cc31j⟩, ⟨cc31k, cc31l⟩, ⟨cc31m, cc31n⟩, cc31o, cc31p⟩ := XV.out.stores
  obtain ⟨r32a, r32b, r32c⟩ := XV.out.last B.out (by have := L0.out; have := L1.out; omega) false none 0 0 false none 0 0 false none 0 0 false none 0 0
  replace XA := hid ((((((((XA.out.other (g2 := w.heap.size + 1) (by have := L0.out; have := L1.out; omega) 0 (.bool false)).other (g2 := w.heap.size + 1) (by have := L0.out; have := L1.out; omega) 1 (.slice none 0 0)).other (g2 := w.heap.size + 1) (by have := L0.out; have := L1.out; omega) 2 (.bool false)).other (g2 := w.heap.size + 1) (by have := L0.out; have := L1.out; omega) 3 (.slice none 0 0)).other (g2 := w.heap.size + 1) (by have := L0.out; have := L1.out; omega) 4 (.bool false)).other (g2 := w.heap.size + 1) (by have := L0.out; have := L1.out; omega) 5 (.slice none 0 0)).other (g2 := w.heap.size + 1) (by have := L0.out; have := L1.out; omega) 6 (.bool false)).other (g2 := w.heap.size + 1) (by have := L0.out; have := L1.out; omega) 7 (.slice none 0 0))
  replace XB := hid ((((((((XB.out.other (g2 := w.heap.size + 1) (by have := L0.out; have := L1.out; omega) 0 (.bool false)).other (g2 := w.heap.size + 1) (by have := L0.out; have := L1.out; omega) 1 (.slice none 0 0)).other (g2 := w.heap.size + 1) (by have := L0.out; have := L1.out; omega) 2 (.bool false)).other (g2 := w.heap.size + 1) (by have := L0.out; have := L1.out; omega) 3 (.slice none 0 0)).other (g2 := w.heap.size + 1) (by have := L0.out; have := L1.out; omega) 4 (.bool false)).other (g2 := w.heap.size + 1) (by have := L0.out; have := L1.out; omega) 5 (.slice none 0 0)).other (g2 := w.heap.size + 1) (by have := L0.out; have := L1.out; omega) 6 (.bool false)).other (g2 := w.heap.size + 1) (by have := L0.out; have := L1.out; omega) 7 (.slice none 0 0))
  replace HT2 := hid (r32c HT2.out)
  replace HU2 := hid (r32c HU2.out)
  replace HT3 := hid (r32c HT3.out)
  replace HU3 := hid (r32c HU3.out)
  replace XV := hid r32a
  replace B := hid r32b
  clear r32a r32b r32c
  obtain ⟨cc33a, cc33b, cc33c, cc33d, cc33e, cc33f, cc33g, cc33h⟩ := XV.out.cells
  obtain ⟨cc34a, cc34b, cc34c, cc34d⟩ := XA.out.cells
  obtain ⟨cc35a, cc35b, cc35c, cc35d⟩ := XB.out.cells
  go_wp2_with fail
  refine bodyPost_ret (res_ivl_tmp rfl rfl rfl XV.out) rfl ?_
  exact ⟨rfl, B.out⟩

set_option maxHeartbeats 2000000 in
theorem iread_ok {a b : ByteArray} {k : Int} (h1 : GoodQ a) (h2 : GoodQ b) (h3 : ¬ qnum b < qnum a) (w : World) :
    Calls Try.prog 16 #[.agg #[.string a, .string b]] w fun e w' => ∃ v, e = .returned (.tuple #[v, .nilIface]) ∧ Ivl w' v (qnum a) (qnum b) 100 ∧ Below w.heap.size w w' := by
  have hne := errv_neq
  have hgd := errv_guard
  have H1 := hid (fun w => qread_good h1 w)
  have H2 := hid (fun w => qread_good h2 w)
  have HA := hid (show decide (qnum b < qnum a) = false by simp [h3])
  have B := hid (Below.refl w.heap.size w)
  have hb1 := (Below.refl _ _).alloc (Nat.le_refl w.heap.size) (.cells #[.string a, .string b] 23)
  have hx2 := Vbx.new w a b
  replace B := bb B hb1
  have X1 := hid hx2
  have hs3 : (w.alloc (.cells #[.string a, .string b] 23)).heap.size = w.heap.size + 1 := by simp
  clear hb1 hx2
  have hb4 := (Below.refl _ _).alloc (Nat.le_refl (w.alloc (.cells #[.string a, .string b] 23)).heap.size) (.cells #[.bool false, .slice none 0 0, .bool false, .slice none 0 0, .bool false, .slice none 0 0, .bool false, .slice none 0 0] 42)
  have hx5 := Ibx.new (w.alloc (.cells #[.string a, .string b] 23)) false none 0 0 false none 0 0 false none 0 0 false none 0 0
  rw [hs3] at hx5
  replace X1 := vx X1 hb4
  replace B := bb B hb4
  have XV := hid hx5
  have hs6 : ((w.alloc (.cells #[.string a, .string b] 23)).alloc (.cells #[.bool false, .slice none 0 0, .bool false, .slice none 0 0, .bool false, .slice none 0 0, .bool false, .slice none 0 0] 42)).heap.size = w.heap.size + 1 + 1 := by simp [hs3]
  clear hb4 hx5
  clear hs6 h1 h2 h3
  go_enter Try.func16, Try.ntmps16
  obtain ⟨cc7a, cc7b⟩ := X1.out.both
  obtain ⟨cc8a, cc8b, cc8c, cc8d, cc8e, cc8f, cc8g, cc8h⟩ := XV.out.cells
  go_wp2_with fail
  generalize hW : (w.alloc (.cells #[.string a, .string b] 23)).alloc (.cells #[.bool false, .slice none 0 0, .bool false, .slice none 0 0, .bool false, .slice none 0 0, .bool false, .slice none 0 0] 42) = W9 at *
  clear hW
  refine (H1.out _).mono ?_
  rintro e w10 ⟨v, rfl, hv, hb⟩
  obtain ⟨s2a, p2a, n2a, c2a, s2b, p2b, n2b, c2b, rfl⟩ := hv.opened
  obtain ⟨ht2, d2, hu2, hd2⟩ := hv.two
  have HD2 := hid hd2
  replace X1 := vx X1 hb
  replace XV := ix XV hb
  replace B := bb B hb
  clear cc7a cc7b cc8a cc8b cc8c cc8d cc8e cc8f cc8g cc8h
  have HT2 := hid ht2
  have HU2 := hid hu2
  clear hb hv ht2 hu2 hd2 H1
  have hb11 := (Below.refl _ _).alloc (Nat.le_refl w10.heap.size) (.cells #[.bool s2a, .slice p2a n2a c2a, .bool s2b, .slice p2b n2b c2b] 40)
  have hx12 := Nbx.new w10 s2a s2b (.slice p2a n2a c2a) (.slice p2b n2b c2b)
  have L0 := hid XV.out.lt
  replace X1 := vx X1 hb11
  replace XV := ix XV hb11
  replace HT2 := wl HT2 hb11
  replace HU2 := wl HU2 hb11
  replace B := bb B hb11
  have XA := hid hx12
  have hs13 : (w10.alloc (.cells #[.bool s2a, .slice p2a n2a c2a, .bool s2b, .slice p2b n2b c2b] 40)).heap.size = w10.heap.size + 1 := by simp
  clear hb11 hx12
  obtain ⟨cc14a, cc14b⟩ := X1.out.both
  obtain ⟨cc15a, cc15b, cc15c, cc15d, cc15e, cc15f, cc15g, cc15h⟩ := XV.out.cells
  obtain ⟨cc16a, cc16b, cc16c, cc16d⟩ := XA.out.cells
  go_wp2_with fail
  generalize hW : w10.alloc (.cells #[.bool s2a, .slice p2a n2a c2a, .bool s2b, .slice p2b n2b c2b] 40) = W17 at *
  clear hW
  refine (H2.out _).mono ?_
  rintro e w18 ⟨v, rfl, hv, hb⟩
  obtain ⟨s3a, p3a, n3a, c3a, s3b, p3b, n3b, c3b, rfl⟩ := hv.opened
  obtain ⟨ht3, d3, hu3, hd3⟩ := hv.two
  have HD3 := hid hd3
  replace X1 := vx X1 hb
  replace XV := ix XV hb
  replace XA := nx XA hb
  replace HT2 := wl HT2 hb
  replace HU2 := wl HU2 hb
  replace B := bb B hb
  clear cc14a cc14b cc15a cc15b cc15c cc15d cc15e cc15f cc15g cc15h cc16a cc16b cc16c cc16d
  have HT3 := hid ht3
  have HU3 := hid hu3
  clear hb hv ht3 hu3 hd3 H2
  have hb19 := (Below.refl _ _).alloc (Nat.le_refl w18.heap.size) (.cells #[.bool s3a, .slice p3a n3a c3a, .bool s3b, .slice p3b n3b c3b] 40)
  have hx20 := Nbx.new w18 s3a s3b (.slice p3a n3a c3a) (.slice p3b n3b c3b)
  have L1 := hid XA.out.lt
  replace X1 := vx X1 hb19
  replace XV := ix XV hb19
  replace XA := nx XA hb19
  replace HT2 := wl HT2 hb19
  replace HU2 := wl HU2 hb19
  replace HT3 := wl HT3 hb19
  replace HU3 := wl HU3 hb19
  replace B := bb B hb19
  have XB := hid hx20
  have hs21 : (w18.alloc (.cells #[.bool s3a, .slice p3a n3a c3a, .bool s3b, .slice p3b n3b c3b] 40)).heap.size = w18.heap.size + 1 := by simp
  clear hb19 hx20
  obtain ⟨cc22a, cc22b⟩ := X1.out.both
  obtain ⟨cc23a, cc23b, cc23c, cc23d, cc23e, cc23f, cc23g, cc23h⟩ := XV.out.cells
  obtain ⟨cc24a, cc24b, cc24c, cc24d⟩ := XA.out.cells
  obtain ⟨cc25a, cc25b, cc25c, cc25d⟩ := XB.out.cells
  go_wp2_with fail
  generalize hW : w18.alloc (.cells #[.bool s3a, .slice p3a n3a c3a, .bool s3b, .slice p3b n3b c3b] 40) = W26 at *
  clear hW
  refine (lessq_rtl (Rtl.mk2 HT3.out HU3.out HD3.out) (Rtl.mk2 HT2.out HU2.out HD2.out) (by decide) (by decide)).mono ?_
  rintro e w27 ⟨rfl, hb⟩
  replace XV := ix XV hb
  replace XA := nx XA hb
  replace XB := nx XB hb
  replace HT2 := wl HT2 hb
  replace HU2 := wl HU2 hb
  replace HT3 := wl HT3 hb
  replace HU3 := wl HU3 hb
  replace B := bb B hb
  clear cc22a cc22b cc23a cc23b cc23c cc23d cc23e cc23f cc23g cc23h cc24a cc24b cc24c cc24d cc25a cc25b cc25c cc25d
  clear hb 
  rw [HA.out]
  obtain ⟨cc28a, cc28b, cc28c, cc28d, cc28e, cc28f, cc28g, cc28h⟩ := XV.out.cells
  obtain ⟨cc29a, cc29b, cc29c, cc29d⟩ := XA.out.cells
  obtain ⟨cc30a, cc30b, cc30c, cc30d⟩ := XB.out.cells
  obtain ⟨⟨cc31a, cc31b⟩, ⟨cc31c, cc31d⟩, ⟨cc31e, cc31f⟩, ⟨cc31g, cc31h⟩, ⟨cc31i, cc31j⟩, ⟨cc31k, cc31l⟩, ⟨cc31m, cc31n⟩, cc31o, cc31p⟩ := XV.out.stores
  obtain ⟨r32a, r32b, r32c⟩ := XV.out.last B.out (by have := L0.out; have := L1.out; omega) s2a p2a n2a c2a s2b p2b n2b c2b s3a p3a n3a c3a s3b p3b n3b c3b
  replace XA := hid ((((((((XA.out.other (g2 := w.heap.size + 1) (by have := L0.out; have := L1.out; omega) 0 (.bool s2a)).other (g2 := w.heap.size + 1) (by have := L0.out; have := L1.out; omega) 1 (.slice p2a n2a c2a)).other (g2 := w.heap.size + 1) (by have := L0.out; have := L1.out; omega) 2 (.bool s2b)).other (g2 := w.heap.size + 1) (by have := L0.out; have := L1.out; omega) 3 (.slice p2b n2b c2b)).other (g2 := w.heap.size + 1) (by have := L0.out; have := L1.out; omega) 4 (.bool s3a)).other (g2 := w.heap.size + 1) (by have := L0.out; have := L1.out; omega) 5 (.slice p3a n3a c3a)).other (g2 := w.heap.size + 1) (by have := L0.out; have := L1.out; omega) 6 (.bool s3b)).other (g2 := w.heap.size + 1) (by have := L0.out; have := L1.out; omega) 7 (.slice p3b n3b c3b))
  replace XB := hid ((((((((XB.out.other (g2 := w.heap.size + 1) (by have := L0.out; have := L1.out; omega) 0 (.bool s2a)).other (g2 := w.heap.size + 1) (by have := L0.out; have := L1.out; omega) 1 (.slice p2a n2a c2a)).other (g2 := w.heap.size + 1) (by have := L0.out; have := L1.out; omega) 2 (.bool s2b)).other (g2 := w.heap.size + 1) (by have := L0.out; have := L1.out; omega) 3 (.slice p2b n2b c2b)).other (g2 := w.heap.size + 1) (by have := L0.out; have := L1.out; omega) 4 (.bool s3a)).other (g2 := w.heap.size + 1) (by have := L0.out; have := L1.out; omega) 5 (.slice p3a n3a c3a)).other (g2 := w.heap.size + 1) (by have := L0.out; have := L1.out; omega) 6 (.bool s3b)).other (g2 := w.heap.size + 1) (by have := L0.out; have := L1.out; omega) 7 (.slice p3b n3b c3b))
  replace HT2 := hid (r32c HT2.out)
  replace HU2 := hid (r32c HU2.out)
  replace HT3 := hid (r32c HT3.out)
  replace HU3 := hid (r32c HU3.out)
  replace XV := hid r32a
  replace B := hid r32b
  clear r32a r32b r32c
  obtain ⟨cc33a, cc33b, cc33c, cc33d, cc33e, cc33f, cc33g, cc33h⟩ := XV.out.cells
  obtain ⟨cc34a, cc34b, cc34c, cc34d⟩ := XA.out.cells
  obtain ⟨cc35a, cc35b, cc35c, cc35d⟩ := XB.out.cells
  go_wp2_with fail
  refine bodyPost_ret (res_ivl_tmp rfl rfl rfl XV.out) rfl ?_
  exact ⟨_, rfl, Ivl.mk2 (Rtl.mk2 HT2.out HU2.out HD2.out) (Rtl.mk2 HT3.out HU3.out HD3.out), B.out⟩

/-- An interval that may be handed in. -/
def GoodI (a b : ByteArray) : Prop := GoodQ a ∧ GoodQ b ∧ qnum a ≤ qnum b
/-- What is wrong with an interval. -/
def BadI (a b : ByteArray) (k : Int) : Prop := WrongQ a b k ∨ (GoodQ a ∧ GoodQ b ∧ qnum b < qnum a ∧ k = 2)
theorem BadI.ne {a b : ByteArray} {k : Int} (h : BadI a b k) : k ≠ 0 := by
  rcases h with h | ⟨_, _, _, rfl⟩
  · exact h.ne
  · decide
theorem BadI.not {a b : ByteArray} {k : Int} (h : BadI a b k) : ¬ GoodI a b := by
  rintro ⟨h1, h2, h3⟩
  rcases h with h | ⟨_, _, h4, _⟩
  · exact h.not ⟨h1, h2⟩
  · exact absurd h4 (by grind)
theorem goodI_or_bad (a b : ByteArray) : GoodI a b ∨ ∃ k, BadI a b k := by
  rcases rightQ_or_wrong a b with ⟨h1, h2⟩ | ⟨k, h⟩
  · by_cases h3 : qnum b < qnum a
    · exact .inr ⟨2, .inr ⟨h1, h2, h3, rfl⟩⟩
    · exact .inl ⟨h1, h2, by grind⟩
  · exact .inr ⟨k, .inl h⟩
theorem iread_bad {a b : ByteArray} {k : Int} (h : BadI a b k) (ha : a.size ≤ maxLen) (hb0 : b.size ≤ maxLen) (w : World) :
    Calls Try.prog 16 #[.agg #[.string a, .string b]] w fun e w' => e = .returned (.tuple #[.agg #[.bool false, .slice none 0 0, .bool false, .slice none 0 0, .bool false, .slice none 0 0, .bool false, .slice none 0 0], errno k]) ∧ Below w.heap.size w w' := by
  rcases h with h | ⟨h1, h2, h3, rfl⟩
  · rcases h with h | ⟨h1, h2⟩
    · exact iread_a h ha w
    · exact iread_b h1 h2 hb0 w
  · exact iread_c (k := 0) h1 h2 h3 w
theorem iread_good {a b : ByteArray} (h : GoodI a b) (w : World) :
    Calls Try.prog 16 #[.agg #[.string a, .string b]] w fun e w' => ∃ v, e = .returned (.tuple #[v, .nilIface]) ∧ Ivl w' v (qnum a) (qnum b) 100 ∧ Below w.heap.size w w' :=
  iread_ok (k := 0) h.1 h.2.1 (by have := h.2.2; grind) w

end Go.Proofs.Ytkdeopikojgboaa

/-
  PACKAGE ival: readBoth.
-/
namespace Go.Proofs.Ytkdeopikojgboaa
open Go.RowKit
open Num
set_option linter.unusedVariables false
set_option maxRecDepth 100000
set_option linter.unusedSimpArgs false

set_option maxHeartbeats 4000000 in
theorem iboth_1 {a b c d : ByteArray} {k : Int} (h : BadI a b k) (ha : a.size ≤ maxLen) (hb0 : b.size ≤ maxLen) (hc0 : c.size ≤ maxLen) (hd0 : d.size ≤ maxLen) (w : World) :
    Calls Try.prog 27 #[.agg #[.string a, .string b], .agg #[.string c, .string d]] w fun e w' => e = .returned (.tuple #[.agg #[.bool false, .slice none 0 0, .bool false, .slice none 0 0, .bool false, .slice none 0 0, .bool false, .slice none 0 0], .agg #[.bool false, .slice none 0 0, .bool false, .slice none 0 0, .bool false, .slice none 0 0, .bool false, .slice none 0 0], errno k]) ∧ Below w.heap.size w w' := by
  have hne := errv_neq
  have hgd := errv_guard
  have hkk := errv_some h.ne
  have H1 := hid (fun w => iread_bad h ha hb0 w)
  have B := hid (Below.refl w.heap.size w)
  have hb1 := (Below.refl _ _).alloc (Nat.le_refl w.heap.size) (.cells #[.string a, .string b] 23)
  have hx2 := Vbx.new w a b
  replace B := bb B hb1
  have X1 := hid hx2
  have hs3 : (w.alloc (.cells #[.string a, .string b] 23)).heap.size = w.heap.size + 1 := by simp
  clear hb1 hx2
  have hb4 := (Below.refl _ _).alloc (Nat.le_refl (w.alloc (.cells #[.string a, .string b] 23)).heap.size) (.cells #[.string c, .string d] 23)
  have hx5 := Vbx.new (w.alloc (.cells #[.string a, .string b] 23)) c d
  rw [hs3] at hx5
  replace X1 := vx X1 hb4
  replace B := bb B hb4
  have X2 := hid hx5
  have hs6 : ((w.alloc (.cells #[.string a, .string b] 23)).alloc (.cells #[.string c, .string d] 23)).heap.size = w.heap.size + 1 + 1 := by simp [hs3]
  clear hb4 hx5
  have hb7 := (Below.refl _ _).alloc (Nat.le_refl ((w.alloc (.cells #[.string a, .string b] 23)).alloc (.cells #[.string c, .string d] 23)).heap.size) (.cells #[.bool false, .slice none 0 0, .bool false, .slice none 0 0, .bool false, .slice none 0 0, .bool false, .slice none 0 0] 42)
  have hx8 := Ibx.new ((w.alloc (.cells #[.string a, .string b] 23)).alloc (.cells #[.string c, .string d] 23)) false none 0 0 false none 0 0 false none 0 0 false none 0 0
  rw [hs6] at hx8
  replace X1 := vx X1 hb7
  replace X2 := vx X2 hb7
  replace B := bb B hb7
  have R1 := hid hx8
  have hs9 : (((w.alloc (.cells #[.string a, .string b] 23)).alloc (.cells #[.string c, .string d] 23)).alloc (.cells #[.bool false, .slice none 0 0, .bool false, .slice none 0 0, .bool false, .slice none 0 0, .bool false, .slice none 0 0] 42)).heap.size = w.heap.size + 1 + 1 + 1 := by simp [hs6]
  clear hb7 hx8
  have hb10 := (Below.refl _ _).alloc (Nat.le_refl (((w.alloc (.cells #[.string a, .string b] 23)).alloc (.cells #[.string c, .string d] 23)).alloc (.cells #[.bool false, .slice none 0 0, .bool false, .slice none 0 0, .bool false, .slice none 0 0, .bool false, .slice none 0 0] 42)).heap.size) (.cells #[.bool false, .slice none 0 0, .bool false, .slice none 0 0, .bool false, .slice none 0 0, .bool false, .slice none 0 0] 42)
  have hx11 := Ibx.new (((w.alloc (.cells #[.string a, .string b] 23)).alloc (.cells #[.string c, .string d] 23)).alloc (.cells #[.bool false, .slice none 0 0, .bool false, .slice none 0 0, .bool false, .slice none 0 0, .bool false, .slice none 0 0] 42)) false none 0 0 false none 0 0 false none 0 0 false none 0 0
  rw [hs9] at hx11
  replace X1 := vx X1 hb10
  replace X2 := vx X2 hb10
  replace R1 := ix R1 hb10
  replace B := bb B hb10
  have R2 := hid hx11
  have hs12 : ((((w.alloc (.cells #[.string a, .string b] 23)).alloc (.cells #[.string c, .string d] 23)).alloc (.cells #[.bool false, .slice none 0 0, .bool false, .slice none 0 0, .bool false, .slice none 0 0, .bool false, .slice none 0 0] 42)).alloc (.cells #[.bool false, .slice none 0 0, .bool false, .slice none 0 0, .bool false, .slice none 0 0, .bool false, .slice none 0 0] 42)).heap.size = w.heap.size + 1 + 1 + 1 + 1 := by simp [hs9]
  clear hb10 hx11
  clear hs12 h
  go_enter Try.func27, Try.ntmps27
  obtain ⟨cc13a, cc13b⟩ := X1.out.both
  obtain ⟨cc14a, cc14b⟩ := X2.out.both
  obtain ⟨cc15a, cc15b, cc15c, cc15d, cc15e, cc15f, cc15g, cc15h⟩ := R1.out.cells
  obtain ⟨cc16a, cc16b, cc16c, cc16d, cc16e, cc16f, cc16g, cc16h⟩ := R2.out.cells
  go_wp2_with fail
  generalize hW : (((w.alloc (.cells #[.string a, .string b] 23)).alloc (.cells #[.string c, .string d] 23)).alloc (.cells #[.bool false, .slice none 0 0, .bool false, .slice none 0 0, .bool false, .slice none 0 0, .bool false, .slice none 0 0] 42)).alloc (.cells #[.bool false, .slice none 0 0, .bool false, .slice none 0 0, .bool false, .slice none 0 0, .bool false, .slice none 0 0] 42) = W17 at *
  clear hW
  refine (H1.out _).mono ?_
  rintro e w18 ⟨rfl, hb⟩
  replace X2 := vx X2 hb
  replace R1 := ix R1 hb
  replace R2 := ix R2 hb
  replace B := bb B hb
  clear cc13a cc13b cc14a cc14b cc15a cc15b cc15c cc15d cc15e cc15f cc15g cc15h cc16a cc16b cc16c cc16d cc16e cc16f cc16g cc16h
  clear hb H1
  obtain ⟨cc19a, cc19b, cc19c, cc19d, cc19e, cc19f, cc19g, cc19h⟩ := R1.out.cells
  obtain ⟨cc20a, cc20b, cc20c, cc20d, cc20e, cc20f, cc20g, cc20h⟩ := R2.out.cells
  obtain ⟨⟨cc21a, cc21b⟩, ⟨cc21c, cc21d⟩, ⟨cc21e, cc21f⟩, ⟨cc21g, cc21h⟩, ⟨cc21i, cc21j⟩, ⟨cc21k, cc21l⟩, ⟨cc21m, cc21n⟩, cc21o, cc21p⟩ := R1.out.stores
  obtain ⟨r22a, r22b, r22c⟩ := R1.out.last B.out (by omega) false none 0 0 false none 0 0 false none 0 0 false none 0 0
  replace R2 := hid ((((((((R2.out.other (g2 := w.heap.size + 1 + 1) (by omega) 0 (.bool false)).other (g2 := w.heap.size + 1 + 1) (by omega) 1 (.slice none 0 0)).other (g2 := w.heap.size + 1 + 1) (by omega) 2 (.bool false)).other (g2 := w.heap.size + 1 + 1) (by omega) 3 (.slice none 0 0)).other (g2 := w.heap.size + 1 + 1) (by omega) 4 (.bool false)).other (g2 := w.heap.size + 1 + 1) (by omega) 5 (.slice none 0 0)).other (g2 := w.heap.size + 1 + 1) (by omega) 6 (.bool false)).other (g2 := w.heap.size + 1 + 1) (by omega) 7 (.slice none 0 0))
  replace R1 := hid r22a
  replace B := hid r22b
  clear r22a r22b r22c
  obtain ⟨cc23a, cc23b, cc23c, cc23d, cc23e, cc23f, cc23g, cc23h⟩ := R1.out.cells
  obtain ⟨cc24a, cc24b, cc24c, cc24d, cc24e, cc24f, cc24g, cc24h⟩ := R2.out.cells
  obtain ⟨⟨cc25a, cc25b⟩, ⟨cc25c, cc25d⟩, ⟨cc25e, cc25f⟩, ⟨cc25g, cc25h⟩, ⟨cc25i, cc25j⟩, ⟨cc25k, cc25l⟩, ⟨cc25m, cc25n⟩, cc25o, cc25p⟩ := R1.out.stores
  obtain ⟨r26a, r26b, r26c⟩ := R1.out.last B.out (by omega) false none 0 0 false none 0 0 false none 0 0 false none 0 0
  replace R2 := hid ((((((((R2.out.other (g2 := w.heap.size + 1 + 1) (by omega) 0 (.bool false)).other (g2 := w.heap.size + 1 + 1) (by omega) 1 (.slice none 0 0)).other (g2 := w.heap.size + 1 + 1) (by omega) 2 (.bool false)).other (g2 := w.heap.size + 1 + 1) (by omega) 3 (.slice none 0 0)).other (g2 := w.heap.size + 1 + 1) (by omega) 4 (.bool false)).other (g2 := w.heap.size + 1 + 1) (by omega) 5 (.slice none 0 0)).other (g2 := w.heap.size + 1 + 1) (by omega) 6 (.bool false)).other (g2 := w.heap.size + 1 + 1) (by omega) 7 (.slice none 0 0))
  replace R1 := hid r26a
  replace B := hid r26b
  clear r26a r26b r26c
  obtain ⟨cc27a, cc27b, cc27c, cc27d, cc27e, cc27f, cc27g, cc27h⟩ := R1.out.cells
  obtain ⟨cc28a, cc28b, cc28c, cc28d, cc28e, cc28f, cc28g, cc28h⟩ := R2.out.cells
  obtain ⟨⟨cc29a, cc29b⟩, ⟨cc29c, cc29d⟩, ⟨cc29e, cc29f⟩, ⟨cc29g, cc29h⟩, ⟨cc29i, cc29j⟩, ⟨cc29k, cc29l⟩, ⟨cc29m, cc29n⟩, cc29o, cc29p⟩ := R2.out.stores
  obtain ⟨r30a, r30b, r30c⟩ := R2.out.last B.out (by omega) false none 0 0 false none 0 0 false none 0 0 false none 0 0
  replace R1 := hid ((((((((R1.out.other (g2 := w.heap.size + 1 + 1 + 1) (by omega) 0 (.bool false)).other (g2 := w.heap.size + 1 + 1 + 1) (by omega) 1 (.slice none 0 0)).other (g2 := w.heap.size + 1 + 1 + 1) (by omega) 2 (.bool false)).other (g2 := w.heap.size + 1 + 1 + 1) (by omega) 3 (.slice none 0 0)).other (g2 := w.heap.size + 1 + 1 + 1) (by omega) 4 (.bool false)).other (g2 := w.heap.size + 1 + 1 + 1) (by omega) 5 (.slice none 0 0)).other (g2 := w.heap.size + 1 + 1 + 1) (by omega) 6 (.bool false)).other (g2 := w.heap.size + 1 + 1 + 1) (by omega) 7 (.slice none 0 0))
  replace R2 := hid r30a
  replace B := hid r30b
  clear r30a r30b r30c
  obtain ⟨cc31a, cc31b, cc31c, cc31d, cc31e, cc31f, cc31g, cc31h⟩ := R1.out.cells
  obtain ⟨cc32a, cc32b, cc32c, cc32d, cc32e, cc32f, cc32g, cc32h⟩ := R2.out.cells
  go_wp2_with fail
  refine bodyPost_ret (res_ii_tmp rfl rfl rfl rfl R1.out R2.out) rfl ?_
  exact ⟨rfl, B.out⟩

set_option maxHeartbeats 4000000 in
theorem iboth_2 {a b c d : ByteArray} {k : Int} (h1 : GoodI a b) (h2 : BadI c d k) (ha : a.size ≤ maxLen) (hb0 : b.size ≤ maxLen) (hc0 : c.size ≤ maxLen) (hd0 : d.size ≤ maxLen) (w : World) :
    Calls Try.prog 27 #[.agg #[.string a, .string b], .agg #[.string c, .string d]] w fun e w' => e = .returned (.tuple #[.agg #[.bool false, .slice none 0 0, .bool false, .slice none 0 0, .bool false, .slice none 0 0, .bool false, .slice none 0 0], .agg #[.bool false, .slice none 0 0, .bool false, .slice none 0 0, .bool false, .slice none 0 0, .bool false, .slice none 0 0], errno k]) ∧ Below w.heap.size w w' := by
  have hne := errv_neq
  have hgd := errv_guard
  have hkk := errv_some h2.ne
  have H1 := hid (fun w => iread_good h1 w)
  have H2 := hid (fun w => iread_bad h2 hc0 hd0 w)
  have B := hid (Below.refl w.heap.size w)
  have hb1 := (Below.refl _ _).alloc (Nat.le_refl w.heap.size) (.cells #[.string a, .string b] 23)
  have hx2 := Vbx.new w a b
  replace B := bb B hb1
  have X1 := hid hx2
  have hs3 : (w.alloc (.cells #[.string a, .string b] 23)).heap.size = w.heap.size + 1 := by simp
  clear hb1 hx2
  have hb4 := (Below.refl _ _).alloc (Nat.le_refl (w.alloc (.cells #[.string a, .string b] 23)).heap.size) (.cells #[.string c, .string d] 23)
  have hx5 := Vbx.new (w.alloc (.cells #[.string a, .string b] 23)) c d
  rw [hs3] at hx5
  replace X1 := vx X1 hb4
  replace B := bb B hb4
  have X2 := hid hx5
  have hs6 : ((w.alloc (.cells #[.string a, .string b] 23)).alloc (.cells #[.string c, .string d] 23)).heap.size = w.heap.size + 1 + 1 := by simp [hs3]
  clear hb4 hx5
  have hb7 := (Below.refl _ _).alloc (Nat.le_refl ((w.alloc (.cells #[.string a, .string b] 23)).alloc (.cells #[.string c, .string d] 23)).heap.size) (.cells #[.bool false, .slice none 0 0, .bool false, .slice none 0 0, .bool false, .slice none 0 0, .bool false, .slice none 0 0] 42)
  have hx8 := Ibx.new ((w.alloc (.cells #[.string a, .string b] 23)).alloc (.cells #[.string c, .string d] 23)) false none 0 0 false none 0 0 false none 0 0 false none 0 0
  rw [hs6] at hx8
  replace X1 := vx X1 hb7
  replace X2 := vx X2 hb7
  replace B := bb B hb7
  have R1 := hid hx8
  have hs9 : (((w.alloc (.cells #[.string a, .string b] 23)).alloc (.cells #[.string c, .string d] 23)).alloc (.cells #[.bool false, .slice none 0 0, .bool false, .slice none 0 0, .bool false, .slice none 0 0, .bool false, .slice none 0 0] 42)).heap.size = w.heap.size + 1 + 1 + 1 := by simp [hs6]
  clear hb7 hx8
  have hb10 := (Below.refl _ _).alloc (Nat.le_refl (((w.alloc (.cells #[.string a, .string b] 23)).alloc (.cells #[.string c, .string d] 23)).alloc (.cells #[.bool false, .slice none 0 0, .bool false, .slice none 0 0, .bool false, .slice none 0 0, .bool false, .slice none 0 0] 42)).heap.size) (.cells #[.bool false, .slice none 0 0, .bool false, .slice none 0 0, .bool false, .slice none 0 0, .bool false, .slice none 0 0] 42)
  have hx11 := Ibx.new (((w.alloc (.cells #[.string a, .string b] 23)).alloc (.cells #[.string c, .string d] 23)).alloc (.cells #[.bool false, .slice none 0 0, .bool false, .slice none 0 0, .bool false, .slice none 0 0, .bool false, .slice none 0 0] 42)) false none 0 0 false none 0 0 false none 0 0 false none 0 0
  rw [hs9] at hx11
  replace X1 := vx X1 hb10
  replace X2 := vx X2 hb10
  replace R1 := ix R1 hb10
  replace B := bb B hb10
  have R2 := hid hx11
  have hs12 : ((((w.alloc (.cells #[.string a, .string b] 23)).alloc (.cells #[.string c, .string d] 23)).alloc (.cells #[.bool false, .slice none 0 0, .bool false, .slice none 0 0, .bool false, .slice none 0 0, .bool false, .slice none 0 0] 42)).alloc (.cells #[.bool false, .slice none 0 0, .bool false, .slice none 0 0, .bool false, .slice none 0 0, .bool false, .slice none 0 0] 42)).heap.size = w.heap.size + 1 + 1 + 1 + 1 := by simp [hs9]
  clear hb10 hx11
  clear hs12 h1 h2
  go_enter Try.func27, Try.ntmps27
  obtain ⟨cc13a, cc13b⟩ := X1.out.both
  obtain ⟨cc14a, cc14b⟩ := X2.out.both
  obtain ⟨cc15a, cc15b, cc15c, cc15d, cc15e, cc15f, cc15g, cc15h⟩ := R1.out.cells
  obtain ⟨cc16a, cc16b, cc16c, cc16d, cc16e, cc16f, cc16g, cc16h⟩ := R2.out.cells
  go_wp2_with fail
  generalize hW : (((w.alloc (.cells #[.string a, .string b] 23)).alloc (.cells #[.string c, .string d] 23)).alloc (.cells #[.bool false, .slice none 0 0, .bool false, .slice none 0 0, .bool false, .slice none 0 0, .bool false, .slice none 0 0] 42)).alloc (.cells #[.bool false, .slice none 0 0, .bool false, .slice none 0 0, .bool false, .slice none 0 0, .bool false, .slice none 0 0] 42) = W17 at *
  clear hW
  refine (H1.out _).mono ?_
  rintro e w18 ⟨v, rfl, hv, hb⟩
  obtain ⟨s5a, p5a, n5a, c5a, s5b, p5b, n5b, c5b, s5c, p5c, n5c, c5c, s5d, p5d, n5d, c5d, rfl⟩ := hv.opened
  obtain ⟨hl5, hh5⟩ := hv.two
  obtain ⟨ht5l, d5l, hu5l, hd5l⟩ := hl5.two
  have HD5l := hid hd5l
  obtain ⟨ht5h, d5h, hu5h, hd5h⟩ := hh5.two
  have HD5h := hid hd5h
  replace X2 := vx X2 hb
  replace R1 := ix R1 hb
  replace R2 := ix R2 hb
  replace B := bb B hb
  clear cc13a cc13b cc14a cc14b cc15a cc15b cc15c cc15d cc15e cc15f cc15g cc15h cc16a cc16b cc16c cc16d cc16e cc16f cc16g cc16h
  have HT5l := hid ht5l
  have HU5l := hid hu5l
  have HT5h := hid ht5h
  have HU5h := hid hu5h
  clear hb hv hl5 hh5 ht5l hu5l hd5l ht5h hu5h hd5h H1
  obtain ⟨cc19a, cc19b⟩ := X2.out.both
  obtain ⟨cc20a, cc20b, cc20c, cc20d, cc20e, cc20f, cc20g, cc20h⟩ := R1.out.cells
  obtain ⟨cc21a, cc21b, cc21c, cc21d, cc21e, cc21f, cc21g, cc21h⟩ := R2.out.cells
  obtain ⟨⟨cc22a, cc22b⟩, ⟨cc22c, cc22d⟩, ⟨cc22e, cc22f⟩, ⟨cc22g, cc22h⟩, ⟨cc22i, cc22j⟩, ⟨cc22k, cc22l⟩, ⟨cc22m, cc22n⟩, cc22o, cc22p⟩ := R1.out.stores
  obtain ⟨r23a, r23b, r23c⟩ := R1.out.last B.out (by omega) s5a p5a n5a c5a s5b p5b n5b c5b s5c p5c n5c c5c s5d p5d n5d c5d
  replace X2 := hid ((((((((X2.out.other (g2 := w.heap.size + 1 + 1) (by omega) 0 (.bool s5a)).other (g2 := w.heap.size + 1 + 1) (by omega) 1 (.slice p5a n5a c5a)).other (g2 := w.heap.size + 1 + 1) (by omega) 2 (.bool s5b)).other (g2 := w.heap.size + 1 + 1) (by omega) 3 (.slice p5b n5b c5b)).other (g2 := w.heap.size + 1 + 1) (by omega) 4 (.bool s5c)).other (g2 := w.heap.size + 1 + 1) (by omega) 5 (.slice p5c n5c c5c)).other (g2 := w.heap.size + 1 + 1) (by omega) 6 (.bool s5d)).other (g2 := w.heap.size + 1 + 1) (by omega) 7 (.slice p5d n5d c5d))
  replace R2 := hid ((((((((R2.out.other (g2 := w.heap.size + 1 + 1) (by omega) 0 (.bool s5a)).other (g2 := w.heap.size + 1 + 1) (by omega) 1 (.slice p5a n5a c5a)).other (g2 := w.heap.size + 1 + 1) (by omega) 2 (.bool s5b)).other (g2 := w.heap.size + 1 + 1) (by omega) 3 (.slice p5b n5b c5b)).other (g2 := w.heap.size + 1 + 1) (by omega) 4 (.bool s5c)).other (g2 := w.heap.size + 1 + 1) (by omega) 5 (.slice p5c n5c c5c)).other (g2 := w.heap.size + 1 + 1) (by omega) 6 (.bool s5d)).other (g2 := w.heap.size + 1 + 1) (by omega) 7 (.slice p5d n5d c5d))
  replace HT5l := hid (r23c HT5l.out)
  replace HU5l := hid (r23c HU5l.out)
  replace HT5h := hid (r23c HT5h.out)
  replace HU5h := hid (r23c HU5h.out)
  replace R1 := hid r23a
  replace B := hid r23b
  clear r23a r23b r23c
  obtain ⟨cc24a, cc24b⟩ := X2.out.both
  obtain ⟨cc25a, cc25b, cc25c, cc25d, cc25e, cc25f, cc25g, cc25h⟩ := R1.out.cells
  obtain ⟨cc26a, cc26b, cc26c, cc26d, cc26e, cc26f, cc26g, cc26h⟩ := R2.out.cells
  go_wp2_with fail
  generalize hW : (((((((w18.setCell ⟨w.heap.size + 1 + 1, 0, none⟩ (.bool s5a)).setCell ⟨w.heap.size + 1 + 1, 1, none⟩ (.slice p5a n5a c5a)).setCell ⟨w.heap.size + 1 + 1, 2, none⟩ (.bool s5b)).setCell ⟨w.heap.size + 1 + 1, 3, none⟩ (.slice p5b n5b c5b)).setCell ⟨w.heap.size + 1 + 1, 4, none⟩ (.bool s5c)).setCell ⟨w.heap.size + 1 + 1, 5, none⟩ (.slice p5c n5c c5c)).setCell ⟨w.heap.size + 1 + 1, 6, none⟩ (.bool s5d)).setCell ⟨w.heap.size + 1 + 1, 7, none⟩ (.slice p5d n5d c5d) = W27 at *
  clear hW
  refine (H2.out _).mono ?_
  rintro e w28 ⟨rfl, hb⟩
  replace R1 := ix R1 hb
  replace R2 := ix R2 hb
  replace HT5l := wl HT5l hb
  replace HU5l := wl HU5l hb
  replace HT5h := wl HT5h hb
  replace HU5h := wl HU5h hb
  replace B := bb B hb
  clear cc19a cc19b cc20a cc20b cc20c cc20d cc20e cc20f cc20g cc20h cc21a cc21b cc21c cc21d cc21e cc21f cc21g cc21h cc22a cc22b cc22c cc22d cc22e cc22f cc22g cc22h cc22i cc22j cc22k cc22l cc22m cc22n cc22o cc22p cc24a cc24b cc25a cc25b cc25c cc25d cc25e cc25f cc25g cc25h cc26a cc26b cc26c cc26d cc26e cc26f cc26g cc26h
  clear hb H2
  obtain ⟨cc29a, cc29b, cc29c, cc29d, cc29e, cc29f, cc29g, cc29h⟩ := R1.out.cells
  obtain ⟨cc30a, cc30b, cc30c, cc30d, cc30e, cc30f, cc30g, cc30h⟩ := R2.out.cells
  obtain ⟨⟨cc31a, cc31b⟩, ⟨cc31c, cc31d⟩, ⟨cc31e, cc31f⟩, ⟨cc31g, cc31h⟩, ⟨cc31i, cc31j⟩, ⟨cc31k, cc31l⟩, ⟨cc31m, cc31n⟩, cc31o, cc31p⟩ := R2.out.stores
  obtain ⟨r32a, r32b, r32c⟩ := R2.out.last B.out (by omega) false none 0 0 false none 0 0 false none 0 0 false none 0 0
  replace R1 := hid ((((((((R1.out.other (g2 := w.heap.size + 1 + 1 + 1) (by omega) 0 (.bool false)).other (g2 := w.heap.size + 1 + 1 + 1) (by omega) 1 (.slice none 0 0)).other (g2 := w.heap.size + 1 + 1 + 1) (by omega) 2 (.bool false)).other (g2 := w.heap.size + 1 + 1 + 1) (by omega) 3 (.slice none 0 0)).other (g2 := w.heap.size + 1 + 1 + 1) (by omega) 4 (.bool false)).other (g2 := w.heap.size + 1 + 1 + 1) (by omega) 5 (.slice none 0 0)).other (g2 := w.heap.size + 1 + 1 + 1) (by omega) 6 (.bool false)).other (g2 := w.heap.size + 1 + 1 + 1) (by omega) 7 (.slice none 0 0))
  replace HT5l := hid (r32c HT5l.out)
  replace HU5l := hid (r32c HU5l.out)
  replace HT5h := hid (r32c HT5h.out)
  replace HU5h := hid (r32c HU5h.out)
  replace R2 := hid r32a
  replace B := hid r32b
  clear r32a r32b r32c
  obtain ⟨cc33a, cc33b, cc33c, cc33d, cc33e, cc33f, cc33g, cc33h⟩ := R1.out.cells
  obtain ⟨cc34a, cc34b, cc34c, cc34d, cc34e, cc34f, cc34g, cc34h⟩ := R2.out.cells
  obtain ⟨⟨cc35a, cc35b⟩, ⟨cc35c, cc35d⟩, ⟨cc35e, cc35f⟩, ⟨cc35g, cc35h⟩, ⟨cc35i, cc35j⟩, ⟨cc35k, cc35l⟩, ⟨cc35m, cc35n⟩, cc35o, cc35p⟩ := R1.out.stores
  obtain ⟨r36a, r36b, r36c⟩ := R1.out.last B.out (by omega) false none 0 0 false none 0 0 false none 0 0 false none 0 0
  replace R2 := hid ((((((((R2.out.other (g2 := w.heap.size + 1 + 1) (by omega) 0 (.bool false)).other (g2 := w.heap.size + 1 + 1) (by omega) 1 (.slice none 0 0)).other (g2 := w.heap.size + 1 + 1) (by omega) 2 (.bool false)).other (g2 := w.heap.size + 1 + 1) (by omega) 3 (.slice none 0 0)).other (g2 := w.heap.size + 1 + 1) (by omega) 4 (.bool false)).other (g2 := w.heap.size + 1 + 1) (by omega) 5 (.slice none 0 0)).other (g2 := w.heap.size + 1 + 1) (by omega) 6 (.bool false)).other (g2 := w.heap.size + 1 + 1) (by omega) 7 (.slice none 0 0))
  replace HT5l := hid (r36c HT5l.out)
  replace HU5l := hid (r36c HU5l.out)
  replace HT5h := hid (r36c HT5h.out)
  replace HU5h := hid (r36c HU5h.out)
  replace R1 := hid r36a
  replace B := hid r36b
  clear r36a r36b r36c
  obtain ⟨cc37a, cc37b, cc37c, cc37d, cc37e, cc37f, cc37g, cc37h⟩ := R1.out.cells
  obtain ⟨cc38a, cc38b, cc38c, cc38d, cc38e, cc38f, cc38g, cc38h⟩ := R2.out.cells
  obtain ⟨⟨cc39a, cc39b⟩, ⟨cc39c, cc39d⟩, ⟨cc39e, cc39f⟩, ⟨cc39g, cc39h⟩, ⟨cc39i, cc39j⟩, ⟨cc39k, cc39l⟩, ⟨cc39m, cc39n⟩, cc39o, cc39p⟩ := R2.out.stores
  obtain ⟨r40a, r40b, r40c⟩ := R2.out.last B.out (by omega) false none 0 0 false none 0 0 false none 0 0 false none 0 0
  replace R1 := hid ((((((((R1.out.other (g2 := w.heap.size + 1 + 1 + 1) (by omega) 0 (.bool false)).other (g2 := w.heap.size + 1 + 1 + 1) (by omega) 1 (.slice none 0 0)).other (g2 := w.heap.size + 1 + 1 + 1) (by omega) 2 (.bool false)).other (g2 := w.heap.size + 1 + 1 + 1) (by omega) 3 (.slice none 0 0)).other (g2 := w.heap.size + 1 + 1 + 1) (by omega) 4 (.bool false)).other (g2 := w.heap.size + 1 + 1 + 1) (by omega) 5 (.slice none 0 0)).other (g2 := w.heap.size + 1 + 1 + 1) (by omega) 6 (.bool false)).other (g2 := w.heap.size + 1 + 1 + 1) (by omega) 7 (.slice none 0 0))
  replace HT5l := hid (r40c HT5l.out)
  replace HU5l := hid (r40c HU5l.out)
  replace HT5h := hid (r40c HT5h.out)
  replace HU5h := hid (r40c HU5h.out)
  replace R2 := hid r40a
  replace B := hid r40b
  clear r40a r40b r40c
  obtain ⟨cc41a, cc41b, cc41c, cc41d, cc41e, cc41f, cc41g, cc41h⟩ := R1.out.cells
  obtain ⟨cc42a, cc42b, cc42c, cc42d, cc42e, cc42f, cc42g, cc42h⟩ := R2.out.cells
  go_wp2_with fail
  refine bodyPost_ret (res_ii_tmp rfl rfl rfl rfl R1.out R2.out) rfl ?_
  exact ⟨rfl, B.out⟩

set_option maxHeartbeats 4000000 in
theorem iboth_3 {a b c d : ByteArray} (h1 : GoodI a b) (h2 : GoodI c d) (w : World) :
    Calls Try.prog 27 #[.agg #[.string a, .string b], .agg #[.string c, .string d]] w fun e w' => ∃ v u, e = .returned (.tuple #[v, u, .nilIface]) ∧ Ivl w' v (qnum a) (qnum b) 100 ∧ Ivl w' u (qnum c) (qnum d) 100 ∧ Below w.heap.size w w' := by
  have hne := errv_neq
  have hgd := errv_guard
  have H1 := hid (fun w => iread_good h1 w)
  have H2 := hid (fun w => iread_good h2 w)
  have B := hid (Below.refl w.heap.size w)
  have hb1 := (Below.refl _ _).alloc (Nat.le_refl w.heap.size) (.cells #[.string a, .string b] 23)
  have hx2 := Vbx.new w a b
  replace B := bb B hb1
  have X1 := hid hx2
  have hs3 : (w.alloc (.cells #[.string a, .string b] 23)).heap.size = w.heap.size + 1 := by simp
  clear hb1 hx2
  have hb4 := (Below.refl _ _).alloc (Nat.le_refl (w.alloc (.cells #[.string a, .string b] 23)).heap.size) (.cells #[.string c, .string d] 23)
  have hx5 := Vbx.new (w.alloc (.cells #[.string a, .string b] 23)) c d
  rw [hs3] at hx5
  replace X1 := vx X1 hb4
  replace B := bb B hb4
  have X2 := hid hx5
  have hs6 : ((w.alloc (.cells #[.string a, .string b] 23)).alloc (.cells #[.string c, .string d] 23)).heap.size = w.heap.size + 1 + 1 := by simp [hs3]
  clear hb4 hx5
  have hb7 := (Below.refl _ _).alloc (Nat.le_refl ((w.alloc (.cells #[.string a, .string b] 23)).alloc (.cells #[.string c, .string d] 23)).heap.size) (.cells #[.bool false, .slice none 0 0, .bool false, .slice none 0 0, .bool false, .slice none 0 0, .bool false, .slice none 0 0] 42)
  have hx8 := Ibx.new ((w.alloc (.cells #[.string a, .string b] 23)).alloc (.cells #[.string c, .string d] 23)) false none 0 0 false none 0 0 false none 0 0 false none 0 0
  rw [hs6] at hx8
  replace X1 := vx X1 hb7
  replace X2 := vx X2 hb7
  replace B := bb B hb7
  have R1 := hid hx8
  have hs9 : (((w.alloc (.cells #[.string a, .string b] 23)).alloc (.cells #[.string c, .string d] 23)).alloc (.cells #[.bool false, .slice none 0 0, .bool false, .slice none 0 0, .bool false, .slice none 0 0, .bool false, .slice none 0 0] 42)).heap.size = w.heap.size + 1 + 1 + 1 := by simp [hs6]
  clear hb7 hx8
  have hb10 := (Below.refl _ _).alloc (Nat.le_refl (((w.alloc (.cells #[.string a, .string b] 23)).alloc (.cells #[.string c, .string d] 23)).alloc (.cells #[.bool false, .slice none 0 0, .bool false, .slice none 0 0, .bool false, .slice none 0 0, .bool false, .slice none 0 0] 42)).heap.size) (.cells #[.bool false, .slice none 0 0, .bool false, .slice none 0 0, .bool false, .slice none 0 0, .bool false, .slice none 0 0] 42)
  have hx11 := Ibx.new (((w.alloc (.cells #[.string a, .string b] 23)).alloc (.cells #[.string c, .string d] 23)).alloc (.cells #[.bool false, .slice none 0 0, .bool false, .slice none 0 0, .bool false, .slice none 0 0, .bool false, .slice none 0 0] 42)) false none 0 0 false none 0 0 false none 0 0 false none 0 0
  rw [hs9] at hx11
  replace X1 := vx X1 hb10
  replace X2 := vx X2 hb10
  replace R1 := ix R1 hb10
  replace B := bb B hb10
  have R2 := hid hx11
  have hs12 : ((((w.alloc (.cells #[.string a, .string b] 23)).alloc (.cells #[.string c, .string d] 23)).alloc (.cells #[.bool false, .slice none 0 0, .bool false, .slice none 0 0, .bool false, .slice none 0 0, .bool false, .slice none 0 0] 42)).alloc (.cells #[.bool false, .slice none 0 0, .bool false, .slice none 0 0, .bool false, .slice none 0 0, .bool false, .slice none 0 0] 42)).heap.size = w.heap.size + 1 + 1 + 1 + 1 := by simp [hs9]
  clear hb10 hx11
  clear hs12 h1 h2
  go_enter Try.func27, Try.ntmps27
  obtain ⟨cc13a, cc13b⟩ := X1.out.both
  obtain ⟨cc14a, cc14b⟩ := X2.out.both
  obtain ⟨cc15a, cc15b, cc15c, cc15d, cc15e, cc15f, cc15g, cc15h⟩ := R1.out.cells
  obtain ⟨cc16a, cc16b, cc16c, cc16d, cc16e, cc16f, cc16g, cc16h⟩ := R2.out.cells
  go_wp2_with fail
  generalize hW : (((w.alloc (.cells #[.string a, .string b] 23)).alloc (.cells #[.string c, .string d] 23)).alloc (.cells #[.bool false, .slice none 0 0, .bool false, .slice none 0 0, .bool false, .slice none 0 0, .bool false, .slice none 0 0] 42)).alloc (.cells #[.bool false, .slice none 0 0, .bool false, .slice none 0 0, .bool false, .slice none 0 0, .bool false, .slice none 0 0] 42) = W17 at *
  clear hW
  refine (H1.out _).mono ?_
  rintro e w18 ⟨v, rfl, hv, hb⟩
  obtain ⟨s5a, p5a, n5a, c5a, s5b, p5b, n5b, c5b, s5c, p5c, n5c, c5c, s5d, p5d, n5d, c5d, rfl⟩ := hv.opened
  obtain ⟨hl5, hh5⟩ := hv.two
  obtain ⟨ht5l, d5l, hu5l, hd5l⟩ := hl5.two
  have HD5l := hid hd5l
  obtain ⟨ht5h, d5h, hu5h, hd5h⟩ := hh5.two
  have HD5h := hid hd5h
  replace X2 := vx X2 hb
  replace R1 := ix R1 hb
  replace R2 := ix R2 hb
  replace B := bb B hb
  clear cc13a cc13b cc14a cc14b cc15a cc15b cc15c cc15d cc15e cc15f cc15g cc15h cc16a cc16b cc16c cc16d cc16e cc16f cc16g cc16h
  have HT5l := hid ht5l
  have HU5l := hid hu5l
  have HT5h := hid ht5h
  have HU5h := hid hu5h
  clear hb hv hl5 hh5 ht5l hu5l hd5l ht5h hu5h hd5h H1
  obtain ⟨cc19a, cc19b⟩ := X2.out.both
  obtain ⟨cc20a, cc20b, cc20c, cc20d, cc20e, cc20f, cc20g, cc20h⟩ := R1.out.cells
  obtain ⟨cc21a, cc21b, cc21c, cc21d, cc21e, cc21f, cc21g, cc21h⟩ := R2.out.cells
  obtain ⟨⟨cc22a, cc22b⟩, ⟨cc22c, cc22d⟩, ⟨cc22e, cc22f⟩, ⟨cc22g, cc22h⟩, ⟨cc22i, cc22j⟩, ⟨cc22k, cc22l⟩, ⟨cc22m, cc22n⟩, cc22o, cc22p⟩ := R1.out.stores
  obtain ⟨r23a, r23b, r23c⟩ := R1.out.last B.out (by omega) s5a p5a n5a c5a s5b p5b n5b c5b s5c p5c n5c c5c s5d p5d n5d c5d
  replace X2 := hid ((((((((X2.out.other (g2 := w.heap.size + 1 + 1) (by omega) 0 (.bool s5a)).other (g2 := w.heap.size + 1 + 1) (by omega) 1 (.slice p5a n5a c5a)).other (g2 := w.heap.size + 1 + 1) (by omega) 2 (.bool s5b)).other (g2 := w.heap.size + 1 + 1) (by omega) 3 (.slice p5b n5b c5b)).other (g2 := w.heap.size + 1 + 1) (by omega) 4 (.bool s5c)).other (g2 := w.heap.size + 1 + 1) (by omega) 5 (.slice p5c n5c c5c)).other (g2 := w.heap.size + 1 + 1) (by omega) 6 (.bool s5d)).other (g2 := w.heap.size + 1 + 1) (by omega) 7 (.slice p5d n5d c5d))
  replace R2 := hid ((((((((R2.out.other (g2 := w.heap.size + 1 + 1) (by omega) 0 (.bool s5a)).other (g2 := w.heap.size + 1 + 1) (by omega) 1 (.slice p5a n5a c5a)).other (g2 := w.heap.size + 1 + 1) (by omega) 2 (.bool s5b)).other (g2 := w.heap.size + 1 + 1) (by omega) 3 (.slice p5b n5b c5b)).other (g2 := w.heap.size + 1 + 1) (by omega) 4 (.bool s5c)).other (g2 := w.heap.size + 1 + 1) (by omega) 5 (.slice p5c n5c c5c)).other (g2 := w.heap.size + 1 + 1) (by omega) 6 (.bool s5d)).other (g2 := w.heap.size + 1 + 1) (by omega) 7 (.slice p5d n5d c5d))
  replace HT5l := hid (r23c HT5l.out)
  replace HU5l := hid (r23c HU5l.out)
  replace HT5h := hid (r23c HT5h.out)
  replace HU5h := hid (r23c HU5h.out)
  replace R1 := hid r23a
  replace B := hid r23b
  clear r23a r23b r23c
  obtain ⟨cc24a, cc24b⟩ := X2.out.both
  obtain ⟨cc25a, cc25b, cc25c, cc25d, cc25e, cc25f, cc25g, cc25h⟩ := R1.out.cells
  obtain ⟨cc26a, cc26b, cc26c, cc26d, cc26e, cc26f, cc26g, cc26h⟩ := R2.out.cells
  go_wp2_with fail
  generalize hW : (((((((w18.setCell ⟨w.heap.size + 1 + 1, 0, none⟩ (.bool s5a)).setCell ⟨w.heap.size + 1 + 1, 1, none⟩ (.slice p5a n5a c5a)).setCell ⟨w.heap.size + 1 + 1, 2, none⟩ (.bool s5b)).setCell ⟨w.heap.size + 1 + 1, 3, none⟩ (.slice p5b n5b c5b)).setCell ⟨w.heap.size + 1 + 1, 4, none⟩ (.bool s5c)).setCell ⟨w.heap.size + 1 + 1, 5, none⟩ (.slice p5c n5c c5c)).setCell ⟨w.heap.size + 1 + 1, 6, none⟩ (.bool s5d)).setCell ⟨w.heap.size + 1 + 1, 7, none⟩ (.slice p5d n5d c5d) = W27 at *
  clear hW
  refine (H2.out _).mono ?_
  rintro e w28 ⟨v, rfl, hv, hb⟩
  obtain ⟨s6a, p6a, n6a, c6a, s6b, p6b, n6b, c6b, s6c, p6c, n6c, c6c, s6d, p6d, n6d, c6d, rfl⟩ := hv.opened
  obtain ⟨hl6, hh6⟩ := hv.two
  obtain ⟨ht6l, d6l, hu6l, hd6l⟩ := hl6.two
  have HD6l := hid hd6l
  obtain ⟨ht6h, d6h, hu6h, hd6h⟩ := hh6.two
  have HD6h := hid hd6h
  replace R1 := ix R1 hb
  replace R2 := ix R2 hb
  replace HT5l := wl HT5l hb
  replace HU5l := wl HU5l hb
  replace HT5h := wl HT5h hb
  replace HU5h := wl HU5h hb
  replace B := bb B hb
  clear cc19a cc19b cc20a cc20b cc20c cc20d cc20e cc20f cc20g cc20h cc21a cc21b cc21c cc21d cc21e cc21f cc21g cc21h cc22a cc22b cc22c cc22d cc22e cc22f cc22g cc22h cc22i cc22j cc22k cc22l cc22m cc22n cc22o cc22p cc24a cc24b cc25a cc25b cc25c cc25d cc25e cc25f cc25g cc25h cc26a cc26b cc26c cc26d cc26e cc26f cc26g cc26h
  have HT6l := hid ht6l
  have HU6l := hid hu6l
  have HT6h := hid ht6h
  have HU6h := hid hu6h
  clear hb hv hl6 hh6 ht6l hu6l hd6l ht6h hu6h hd6h H2
  obtain ⟨cc29a, cc29b, cc29c, cc29d, cc29e, cc29f, cc29g, cc29h⟩ := R1.out.cells
  obtain ⟨cc30a, cc30b, cc30c, cc30d, cc30e, cc30f, cc30g, cc30h⟩ := R2.out.cells
  obtain ⟨⟨cc31a, cc31b⟩, ⟨cc31c, cc31d⟩, ⟨cc31e, cc31f⟩, ⟨cc31g, cc31h⟩, ⟨cc31i, cc31j⟩, ⟨cc31k, cc31l⟩, ⟨cc31m, cc31n⟩, cc31o, cc31p⟩ := R2.out.stores
  obtain ⟨r32a, r32b, r32c⟩ := R2.out.last B.out (by omega) s6a p6a n6a c6a s6b p6b n6b c6b s6c p6c n6c c6c s6d p6d n6d c6d
  replace R1 := hid ((((((((R1.out.other (g2 := w.heap.size + 1 + 1 + 1) (by omega) 0 (.bool s6a)).other (g2 := w.heap.size + 1 + 1 + 1) (by omega) 1 (.slice p6a n6a c6a)).other (g2 := w.heap.size + 1 + 1 + 1) (by omega) 2 (.bool s6b)).other (g2 := w.heap.size + 1 + 1 + 1) (by omega) 3 (.slice p6b n6b c6b)).other (g2 := w.heap.size + 1 + 1 + 1) (by omega) 4 (.bool s6c)).other (g2 := w.heap.size + 1 + 1 + 1) (by omega) 5 (.slice p6c n6c c6c)).other (g2 := w.heap.size + 1 + 1 + 1) (by omega) 6 (.bool s6d)).other (g2 := w.heap.size + 1 + 1 + 1) (by omega) 7 (.slice p6d n6d c6d))
  replace HT5l := hid (r32c HT5l.out)
  replace HU5l := hid (r32c HU5l.out)
  replace HT5h := hid (r32c HT5h.out)
  replace HU5h := hid (r32c HU5h.out)
  replace HT6l := hid (r32c HT6l.out)
  replace HU6l := hid (r32c HU6l.out)
  replace HT6h := hid (r32c HT6h.out)
  replace HU6h := hid (r32c HU6h.out)
  replace R2 := hid r32a
  replace B := hid r32b
  clear r32a r32b r32c
  obtain ⟨cc33a, cc33b, cc33c, cc33d, cc33e, cc33f, cc33g, cc33h⟩ := R1.out.cells
  obtain ⟨cc34a, cc34b, cc34c, cc34d, cc34e, cc34f, cc34g, cc34h⟩ := R2.out.cells
  go_wp2_with fail
  generalize hW : (((((((w28.setCell ⟨w.heap.size + 1 + 1 + 1, 0, none⟩ (.bool s6a)).setCell ⟨w.heap.size + 1 + 1 + 1, 1, none⟩ (.slice p6a n6a c6a)).setCell ⟨w.heap.size + 1 + 1 + 1, 2, none⟩ (.bool s6b)).setCell ⟨w.heap.size + 1 + 1 + 1, 3, none⟩ (.slice p6b n6b c6b)).setCell ⟨w.heap.size + 1 + 1 + 1, 4, none⟩ (.bool s6c)).setCell ⟨w.heap.size + 1 + 1 + 1, 5, none⟩ (.slice p6c n6c c6c)).setCell ⟨w.heap.size + 1 + 1 + 1, 6, none⟩ (.bool s6d)).setCell ⟨w.heap.size + 1 + 1 + 1, 7, none⟩ (.slice p6d n6d c6d) = W35 at *
  clear hW
  obtain ⟨cc36a, cc36b, cc36c, cc36d, cc36e, cc36f, cc36g, cc36h⟩ := R1.out.cells
  obtain ⟨cc37a, cc37b, cc37c, cc37d, cc37e, cc37f, cc37g, cc37h⟩ := R2.out.cells
  obtain ⟨⟨cc38a, cc38b⟩, ⟨cc38c, cc38d⟩, ⟨cc38e, cc38f⟩, ⟨cc38g, cc38h⟩, ⟨cc38i, cc38j⟩, ⟨cc38k, cc38l⟩, ⟨cc38m, cc38n⟩, cc38o, cc38p⟩ := R1.out.stores
  obtain ⟨r39a, r39b, r39c⟩ := R1.out.last B.out (by omega) s5a p5a n5a c5a s5b p5b n5b c5b s5c p5c n5c c5c s5d p5d n5d c5d
  replace R2 := hid ((((((((R2.out.other (g2 := w.heap.size + 1 + 1) (by omega) 0 (.bool s5a)).other (g2 := w.heap.size + 1 + 1) (by omega) 1 (.slice p5a n5a c5a)).other (g2 := w.heap.size + 1 + 1) (by omega) 2 (.bool s5b)).other (g2 := w.heap.size + 1 + 1) (by omega) 3 (.slice p5b n5b c5b)).other (g2 := w.heap.size + 1 + 1) (by omega) 4 (.bool s5c)).other (g2 := w.heap.size + 1 + 1) (by omega) 5 (.slice p5c n5c c5c)).other (g2 := w.heap.size + 1 + 1) (by omega) 6 (.bool s5d)).other (g2 := w.heap.size + 1 + 1) (by omega) 7 (.slice p5d n5d c5d))
  replace HT5l := hid (r39c HT5l.out)
  replace HU5l := hid (r39c HU5l.out)
  replace HT5h := hid (r39c HT5h.out)
  replace HU5h := hid (r39c HU5h.out)
  replace HT6l := hid (r39c HT6l.out)
  replace HU6l := hid (r39c HU6l.out)
  replace HT6h := hid (r39c HT6h.out)
  replace HU6h := hid (r39c HU6h.out)
  replace R1 := hid r39a
  replace B := hid r39b
  clear r39a r39b r39c
  obtain ⟨cc40a, cc40b, cc40c, cc40d, cc40e, cc40f, cc40g, cc40h⟩ := R1.out.cells
  obtain ⟨cc41a, cc41b, cc41c, cc41d, cc41e, cc41f, cc41g, cc41h⟩ := R2.out.cells
  obtain ⟨⟨cc42a, cc42b⟩, ⟨cc42c, cc42d⟩, ⟨cc42e, cc42f⟩, ⟨cc42g, cc42h⟩, ⟨cc42i, cc42j⟩, ⟨cc42k, cc42l⟩, ⟨cc42m, cc42n⟩, cc42o, cc42p⟩ := R2.out.stores
  obtain ⟨r43a, r43b, r43c⟩ := R2.out.last B.out (by omega) s6a p6a n6a c6a s6b p6b n6b c6b s6c p6c n6c c6c s6d p6d n6d c6d
  replace R1 := hid ((((((((R1.out.other (g2 := w.heap.size + 1 + 1 + 1) (by omega) 0 (.bool s6a)).other (g2 := w.heap.size + 1 + 1 + 1) (by omega) 1 (.slice p6a n6a c6a)).other (g2 := w.heap.size + 1 + 1 + 1) (by omega) 2 (.bool s6b)).other (g2 := w.heap.size + 1 + 1 + 1) (by omega) 3 (.slice p6b n6b c6b)).other (g2 := w.heap.size + 1 + 1 + 1) (by omega) 4 (.bool s6c)).other (g2 := w.heap.size + 1 + 1 + 1) (by omega) 5 (.slice p6c n6c c6c)).other (g2 := w.heap.size + 1 + 1 + 1) (by omega) 6 (.bool s6d)).other (g2 := w.heap.size + 1 + 1 + 1) (by omega) 7 (.slice p6d n6d c6d))
  replace HT5l := hid (r43c HT5l.out)
  replace HU5l := hid (r43c HU5l.out)
  replace HT5h := hid (r43c HT5h.out)
  replace HU5h := hid (r43c HU5h.out)
  replace HT6l := hid (r43c HT6l.out)
  replace HU6l := hid (r43c HU6l.out)
  replace HT6h := hid (r43c HT6h.out)
  replace HU6h := hid (r43c HU6h.out)
  replace R2 := hid r43a
  replace B := hid r43b
  clear r43a r43b r43c
  obtain ⟨cc44a, cc44b, cc44c, cc44d, cc44e, cc44f, cc44g, cc44h⟩ := R1.out.cells
  obtain ⟨cc45a, cc45b, cc45c, cc45d, cc45e, cc45f, cc45g, cc45h⟩ := R2.out.cells
  go_region_held3 (fun w' => w'.cell? ⟨w.heap.size + 1 + 1, 0, none⟩ = some (.bool s5a) ∧ w'.cell? ⟨w.heap.size + 1 + 1, 1, none⟩ = some (.slice p5a n5a c5a) ∧ w'.cell? ⟨w.heap.size + 1 + 1, 2, none⟩ = some (.bool s5b) ∧ w'.cell? ⟨w.heap.size + 1 + 1, 3, none⟩ = some (.slice p5b n5b c5b) ∧ w'.cell? ⟨w.heap.size + 1 + 1, 4, none⟩ = some (.bool s5c) ∧ w'.cell? ⟨w.heap.size + 1 + 1, 5, none⟩ = some (.slice p5c n5c c5c) ∧ w'.cell? ⟨w.heap.size + 1 + 1, 6, none⟩ = some (.bool s5d) ∧ w'.cell? ⟨w.heap.size + 1 + 1, 7, none⟩ = some (.slice p5d n5d c5d) ∧ w'.cell? ⟨w.heap.size + 1 + 1 + 1, 0, none⟩ = some (.bool s6a) ∧ w'.cell? ⟨w.heap.size + 1 + 1 + 1, 1, none⟩ = some (.slice p6a n6a c6a) ∧ w'.cell? ⟨w.heap.size + 1 + 1 + 1, 2, none⟩ = some (.bool s6b) ∧ w'.cell? ⟨w.heap.size + 1 + 1 + 1, 3, none⟩ = some (.slice p6b n6b c6b) ∧ w'.cell? ⟨w.heap.size + 1 + 1 + 1, 4, none⟩ = some (.bool s6c) ∧ w'.cell? ⟨w.heap.size + 1 + 1 + 1, 5, none⟩ = some (.slice p6c n6c c6c) ∧ w'.cell? ⟨w.heap.size + 1 + 1 + 1, 6, none⟩ = some (.bool s6d) ∧ w'.cell? ⟨w.heap.size + 1 + 1 + 1, 7, none⟩ = some (.slice p6d n6d c6d)) (go_keep) (first | fail)
  replace R1 := hid R1.out.dr
  replace R2 := hid R2.out.dr
  replace HT5l := hid HT5l.out.drew
  replace HU5l := hid HU5l.out.drew
  replace HT5h := hid HT5h.out.drew
  replace HU5h := hid HU5h.out.drew
  replace HT6l := hid HT6l.out.drew
  replace HU6l := hid HU6l.out.drew
  replace HT6h := hid HT6h.out.drew
  replace HU6h := hid HU6h.out.drew
  replace B := hid (Below.drew B.out)
  go_wp2_with fail
  refine bodyPost_ret (res_ii_tmp rfl rfl rfl rfl R1.out R2.out) rfl ?_
  exact ⟨_, _, rfl, (Ivl.mk2 (Rtl.mk2 HT5l.out HU5l.out HD5l.out) (Rtl.mk2 HT5h.out HU5h.out HD5h.out)), (Ivl.mk2 (Rtl.mk2 HT6l.out HU6l.out HD6l.out) (Rtl.mk2 HT6h.out HU6h.out HD6h.out)), B.out⟩

/-- The error of two intervals. -/
def WrongI (a b c d : ByteArray) (k : Int) : Prop := BadI a b k ∨ (GoodI a b ∧ BadI c d k)
theorem rightI_or_wrong (a b c d : ByteArray) : (GoodI a b ∧ GoodI c d) ∨ ∃ k, WrongI a b c d k := by
  rcases goodI_or_bad a b with ha | ⟨k, ha⟩
  · rcases goodI_or_bad c d with hb | ⟨k, hb⟩
    · exact .inl ⟨ha, hb⟩
    · exact .inr ⟨k, .inr ⟨ha, hb⟩⟩
  · exact .inr ⟨k, .inl ha⟩
theorem WrongI.ne {a b c d : ByteArray} {k : Int} (h : WrongI a b c d k) : k ≠ 0 := by
  rcases h with h | ⟨_, h⟩ <;> exact h.ne
theorem WrongI.not {a b c d : ByteArray} {k : Int} (h : WrongI a b c d k) : ¬ (GoodI a b ∧ GoodI c d) := by
  rintro ⟨h1, h2⟩
  rcases h with h | ⟨_, h⟩
  · exact h.not h1
  · exact h.not h2
theorem iboth_bad {a b c d : ByteArray} {k : Int} (h : WrongI a b c d k) (ha : a.size ≤ maxLen) (hb0 : b.size ≤ maxLen) (hc0 : c.size ≤ maxLen) (hd0 : d.size ≤ maxLen) (w : World) :
    Calls Try.prog 27 #[.agg #[.string a, .string b], .agg #[.string c, .string d]] w fun e w' => e = .returned (.tuple #[.agg #[.bool false, .slice none 0 0, .bool false, .slice none 0 0, .bool false, .slice none 0 0, .bool false, .slice none 0 0], .agg #[.bool false, .slice none 0 0, .bool false, .slice none 0 0, .bool false, .slice none 0 0, .bool false, .slice none 0 0], errno k]) ∧ Below w.heap.size w w' := by
  rcases h with h | ⟨h1, h2⟩
  · exact iboth_1 h ha hb0 hc0 hd0 w
  · exact iboth_2 h1 h2 ha hb0 hc0 hd0 w

end Go.Proofs.Ytkdeopikojgboaa

/-
  slices.MinFunc, slices.MaxFunc over Numbers.
-/
namespace Go.Proofs.Ytkdeopikojgboaa
open Go.RowKit
open Num
set_option linter.unusedVariables false
set_option maxRecDepth 100000
set_option linter.unusedSimpArgs false

set_option maxHeartbeats 4000000 in
theorem minfunc_rtl {w : World} {b m : Nat} {qf : Nat → Rat} {k : Nat} (h : Nrw w b m qf k) (hm1 : 1 ≤ m) (hm : m ≤ 100) (hk1 : 1 ≤ k) (hk : k ≤ 68719476736) :
    Calls Try.prog 57 #[.slice (some ⟨b, 0, none⟩) m m, .func (.func 43) #[] #[]] w fun e w' => ∃ v, e = .returned v ∧ Rtl w' v (lofN qf (m - 1)) k ∧ Below w.heap.size w w' := by
  have HR := hid h
  have HK := hid hk
  have HK1 := hid hk1
  have hbl := h.lt
  have HBL := hid hbl
  obtain ⟨s0a, p0a, n0a, c0a, s0b, p0b, n0b, c0b, y0, y1, y2, y3, hr⟩ := h.at (i := 0) (by omega)
  simp only [Nat.zero_mul, Nat.zero_add] at y0 y1 y2 y3
  obtain ⟨ht0, d0, hu0, hd0⟩ := hr.two
  have HD0 := hid hd0
  have hn1 : ¬ (m : Int) < 1 := by omega
  have hn2 : (0 : Int) < (m : Int) := by omega
  have HY := hid (fun (o : Obj) (j : Nat) => World.cell?_of_block (a := ⟨b, j, none⟩) (((Below.refl w.heap.size w).alloc (Nat.le_refl _) o).block b hbl))
  have z0 := (HY.out (.cells #[.bool false, .slice none 0 0, .bool false, .slice none 0 0] 40) 0).trans y0
  have z1 := (HY.out (.cells #[.bool false, .slice none 0 0, .bool false, .slice none 0 0] 40) 1).trans y1
  have z2 := (HY.out (.cells #[.bool false, .slice none 0 0, .bool false, .slice none 0 0] 40) 2).trans y2
  have z3 := (HY.out (.cells #[.bool false, .slice none 0 0, .bool false, .slice none 0 0] 40) 3).trans y3
  have B := hid (Below.refl w.heap.size w)
  have HT0 := hid ht0
  have HU0 := hid hu0
  have hb1 := (Below.refl _ _).alloc (Nat.le_refl w.heap.size) (.cells #[.bool false, .slice none 0 0, .bool false, .slice none 0 0] 40)
  have hx2 := Nbx.new w false false (.slice none 0 0) (.slice none 0 0)
  replace HT0 := wl HT0 hb1
  replace HU0 := wl HU0 hb1
  replace B := bb B hb1
  replace HR := hid (HR.out.on hb1)
  have XQ := hid hx2
  have hs3 : (w.alloc (.cells #[.bool false, .slice none 0 0, .bool false, .slice none 0 0] 40)).heap.size = w.heap.size + 1 := by simp
  clear hb1 hx2
  have hb4 := (Below.refl _ _).alloc (Nat.le_refl (w.alloc (.cells #[.bool false, .slice none 0 0, .bool false, .slice none 0 0] 40)).heap.size) (.cells #[.bool s0a, .slice p0a n0a c0a, .bool s0b, .slice p0b n0b c0b] 40)
  have hx5 := Nbx.new (w.alloc (.cells #[.bool false, .slice none 0 0, .bool false, .slice none 0 0] 40)) s0a s0b (.slice p0a n0a c0a) (.slice p0b n0b c0b)
  rw [hs3] at hx5
  replace XQ := nx XQ hb4
  replace HT0 := wl HT0 hb4
  replace HU0 := wl HU0 hb4
  replace B := bb B hb4
  replace HR := hid (HR.out.on hb4)
  have XM := hid hx5
  have hs6 : ((w.alloc (.cells #[.bool false, .slice none 0 0, .bool false, .slice none 0 0] 40)).alloc (.cells #[.bool s0a, .slice p0a n0a c0a, .bool s0b, .slice p0b n0b c0b] 40)).heap.size = w.heap.size + 1 + 1 := by simp [hs3]
  clear hb4 hx5
  clear hs6 h hr ht0 hu0 hd0 hk hk1 y0 y1 y2 y3 HY hbl
  go_enter Try.func57, Try.ntmps57
  obtain ⟨cc7a, cc7b, cc7c, cc7d⟩ := XQ.out.cells
  obtain ⟨cc8a, cc8b, cc8c, cc8d⟩ := XM.out.cells
  go_wp2_with fail
  generalize hW : (w.alloc (.cells #[.bool false, .slice none 0 0, .bool false, .slice none 0 0] 40)).alloc (.cells #[.bool s0a, .slice p0a n0a c0a, .bool s0b, .slice p0b n0b c0b] 40) = W9 at *
  clear hW
  clear z0 z1 z2 z3 cc7a cc7b cc7c cc7d cc8a cc8b cc8c cc8d
  obtain ⟨G, hG⟩ : ∃ G, G = w.heap.size + 1 := ⟨_, rfl⟩
  rw [← hG] at XM
  have LG := hid (show w.heap.size < G by omega)
  rw [← hG]
  clear hG
  go_loopw [6] (fun i wr => ∃ (t : Nat) (sa : Bool) (pa : Option Addr) (na ca : Nat) (sb : Bool) (pb : Option Addr) (nb cb : Nat), 1 ≤ t ∧ t ≤ m ∧ i = .int .i64 t ∧ Hid (Nbx wr w.heap.size false (.slice none 0 0) false (.slice none 0 0)) ∧ Hid (Nbx wr G sa (.slice pa na ca) sb (.slice pb nb cb)) ∧ Hid (Rtl wr (.agg #[.bool sa, .slice pa na ca, .bool sb, .slice pb nb cb]) (lofN qf (t - 1)) k) ∧ Hid (Nrw wr b m qf k) ∧ Hid (Below w.heap.size w wr)) (fun i _ => m - (intOf i).toNat)
  case atStart => exact ⟨1, _, _, _, _, _, _, _, _, Nat.le_refl _, hm1, rfl, XQ, XM, hid (Rtl.mk2 HT0.out HU0.out HD0.out), HR, B⟩
  case round =>
    clear XQ XM HT0 HU0 HD0 HR B
    obtain ⟨t, sa, pa, na, ca, sb, pb, nb, cb, ht1, htm, rfl, XQ, XM, HM, HR, B⟩ := hrel
    by_cases hlt : t < m
    · have hltz : (t : Int) < (m : Int) := by omega
      have hz0 : (0 : Int) ≤ (t : Int) := by omega
      obtain ⟨ht, da, hu, hda⟩ := HM.out.two
      have HT := hid ht
      have HU := hid hu
      have HDA := hid hda
      clear ht hu hda
      obtain ⟨s9a, p9a, n9a, c9a, s9b, p9b, n9b, c9b, y0, y1, y2, y3, hr9⟩ := HR.out.at hlt
      obtain ⟨ht9, d9, hu9, hd9⟩ := hr9.two
      have HT9 := hid ht9
      have HU9 := hid hu9
      have HD9 := hid hd9
      clear hr9 ht9 hu9 hd9
      have hst := lof_step qf ht1
      by_cases hc : qf t < lofN qf (t - 1)
      · have hcz : cmpi (qf t) (lofN qf (t - 1)) < 0 := (cmpi_lt _ _).2 hc
        rw [mn, if_pos hc] at hst
        obtain ⟨cc301a, cc301b, cc301c, cc301d⟩ := XM.out.cells
        go_wp2_with fail
        obtain ⟨cc302a, cc302b, cc302c, cc302d⟩ := XM.out.cells
        replace XQ := hid XQ.out.dr
        replace XM := hid XM.out.dr
        replace HT := hid HT.out.drew
        replace HU := hid HU.out.drew
        replace HT9 := hid HT9.out.drew
        replace HU9 := hid HU9.out.drew
        replace B := hid (Below.drew B.out)
        replace HR := hid (HR.out.on (Below.drew (Below.refl _ _)))
        obtain ⟨cc303a, cc303b, cc303c, cc303d⟩ := XM.out.cells
        have y0 := (show wr.drew.cell? ⟨b, t * 4, none⟩ = some (.bool s9a) from y0)
        have y1 := (show wr.drew.cell? ⟨b, t * 4 + 1, none⟩ = some (.slice p9a n9a c9a) from y1)
        have y2 := (show wr.drew.cell? ⟨b, t * 4 + 2, none⟩ = some (.bool s9b) from y2)
        have y3 := (show wr.drew.cell? ⟨b, t * 4 + 3, none⟩ = some (.slice p9b n9b c9b) from y3)
        go_region_held3 (fun w' => w'.cell? ⟨b, t * 4, none⟩ = some (.bool s9a) ∧ w'.cell? ⟨b, t * 4 + 1, none⟩ = some (.slice p9a n9a c9a) ∧ w'.cell? ⟨b, t * 4 + 2, none⟩ = some (.bool s9b) ∧ w'.cell? ⟨b, t * 4 + 3, none⟩ = some (.slice p9b n9b c9b) ∧ w'.cell? ⟨G, 0, none⟩ = some (.bool sa) ∧ w'.cell? ⟨G, 1, none⟩ = some (.slice pa na ca) ∧ w'.cell? ⟨G, 2, none⟩ = some (.bool sb) ∧ w'.cell? ⟨G, 3, none⟩ = some (.slice pb nb cb)) (go_keep) (first
          | (go_at_call 43; refine (cmpq_rtl (Rtl.mk2 HT9.out HU9.out HD9.out) (Rtl.mk2 HT.out HU.out HDA.out) HK1.out HK.out).mono ?_; rintro e w305 ⟨rfl, hb⟩; have hbb := HR.out.lt; replace y0 := (World.cell?_of_block (a := ⟨b, t * 4, none⟩) (hb.block b hbb)).trans y0; replace y1 := (World.cell?_of_block (a := ⟨b, t * 4 + 1, none⟩) (hb.block b hbb)).trans y1; replace y2 := (World.cell?_of_block (a := ⟨b, t * 4 + 2, none⟩) (hb.block b hbb)).trans y2; replace y3 := (World.cell?_of_block (a := ⟨b, t * 4 + 3, none⟩) (hb.block b hbb)).trans y3; replace XQ := nx XQ hb; replace XM := nx XM hb; replace HT := wl HT hb; replace HU := wl HU hb; replace HT9 := wl HT9 hb; replace HU9 := wl HU9 hb; replace B := bb B hb; replace HR := hid (HR.out.on hb); clear cc301a cc301b cc301c cc301d cc302a cc302b cc302c cc302d cc303a cc303b cc303c cc303d; clear hb hbb; obtain ⟨cc306a, cc306b, cc306c, cc306d⟩ := XM.out.cells; have mk304_0 := hid True.intro))
        obtain ⟨⟨cc307a, cc307b⟩, ⟨cc307c, cc307d⟩, ⟨cc307e, cc307f⟩, cc307g, cc307h⟩ := XM.out.stores
        obtain ⟨r308a, r308b, r308c⟩ := XM.out.last B.out (by have := LG.out; omega) s9a s9b p9a p9b n9a n9b c9a c9b
        replace HR := hid (HR.out.moved (heap4 (by have := HBL.out; have := LG.out; omega) _ _ _ _) (fun v z k h => r308c h))
        replace XQ := hid ((((XQ.out.other (g2 := G) (by have := LG.out; omega) 0 (.bool s9a)).other (g2 := G) (by have := LG.out; omega) 1 (.slice p9a n9a c9a)).other (g2 := G) (by have := LG.out; omega) 2 (.bool s9b)).other (g2 := G) (by have := LG.out; omega) 3 (.slice p9b n9b c9b))
        replace HT9 := hid (r308c HT9.out)
        replace HU9 := hid (r308c HU9.out)
        replace XM := hid r308a
        replace B := hid r308b
        clear r308a r308b r308c
        obtain ⟨cc309a, cc309b, cc309c, cc309d⟩ := XQ.out.cells
        obtain ⟨cc310a, cc310b, cc310c, cc310d⟩ := XM.out.cells
        go_wp2_with fail
        go_roundw
        case rel => exact ⟨t + 1, _, _, _, _, _, _, _, _, by omega, by omega, by go_num, XQ, XM, hid (by rw [Nat.add_sub_cancel, hst]; exact Rtl.mk2 HT9.out HU9.out HD9.out), HR, B⟩
        case measure => simp [intOf]; omega
      · have hcz : ¬ cmpi (qf t) (lofN qf (t - 1)) < 0 := fun e => hc ((cmpi_lt _ _).1 e)
        rw [mn, if_neg hc] at hst
        obtain ⟨cc401a, cc401b, cc401c, cc401d⟩ := XM.out.cells
        go_wp2_with fail
        obtain ⟨cc402a, cc402b, cc402c, cc402d⟩ := XM.out.cells
        replace XQ := hid XQ.out.dr
        replace XM := hid XM.out.dr
        replace HT := hid HT.out.drew
        replace HU := hid HU.out.drew
        replace HT9 := hid HT9.out.drew
        replace HU9 := hid HU9.out.drew
        replace B := hid (Below.drew B.out)
        replace HR := hid (HR.out.on (Below.drew (Below.refl _ _)))
        obtain ⟨cc403a, cc403b, cc403c, cc403d⟩ := XM.out.cells
        have y0 := (show wr.drew.cell? ⟨b, t * 4, none⟩ = some (.bool s9a) from y0)
        have y1 := (show wr.drew.cell? ⟨b, t * 4 + 1, none⟩ = some (.slice p9a n9a c9a) from y1)
        have y2 := (show wr.drew.cell? ⟨b, t * 4 + 2, none⟩ = some (.bool s9b) from y2)
        have y3 := (show wr.drew.cell? ⟨b, t * 4 + 3, none⟩ = some (.slice p9b n9b c9b) from y3)
        go_region_held3 (fun w' => w'.cell? ⟨b, t * 4, none⟩ = some (.bool s9a) ∧ w'.cell? ⟨b, t * 4 + 1, none⟩ = some (.slice p9a n9a c9a) ∧ w'.cell? ⟨b, t * 4 + 2, none⟩ = some (.bool s9b) ∧ w'.cell? ⟨b, t * 4 + 3, none⟩ = some (.slice p9b n9b c9b) ∧ w'.cell? ⟨G, 0, none⟩ = some (.bool sa) ∧ w'.cell? ⟨G, 1, none⟩ = some (.slice pa na ca) ∧ w'.cell? ⟨G, 2, none⟩ = some (.bool sb) ∧ w'.cell? ⟨G, 3, none⟩ = some (.slice pb nb cb)) (go_keep) (first
          | (go_at_call 43; refine (cmpq_rtl (Rtl.mk2 HT9.out HU9.out HD9.out) (Rtl.mk2 HT.out HU.out HDA.out) HK1.out HK.out).mono ?_; rintro e w405 ⟨rfl, hb⟩; have hbb := HR.out.lt; replace y0 := (World.cell?_of_block (a := ⟨b, t * 4, none⟩) (hb.block b hbb)).trans y0; replace y1 := (World.cell?_of_block (a := ⟨b, t * 4 + 1, none⟩) (hb.block b hbb)).trans y1; replace y2 := (World.cell?_of_block (a := ⟨b, t * 4 + 2, none⟩) (hb.block b hbb)).trans y2; replace y3 := (World.cell?_of_block (a := ⟨b, t * 4 + 3, none⟩) (hb.block b hbb)).trans y3; replace XQ := nx XQ hb; replace XM := nx XM hb; replace HT := wl HT hb; replace HU := wl HU hb; replace HT9 := wl HT9 hb; replace HU9 := wl HU9 hb; replace B := bb B hb; replace HR := hid (HR.out.on hb); clear cc401a cc401b cc401c cc401d cc402a cc402b cc402c cc402d cc403a cc403b cc403c cc403d; clear hb hbb; obtain ⟨cc406a, cc406b, cc406c, cc406d⟩ := XM.out.cells; have mk404_0 := hid True.intro))
        go_wp2_with fail
        go_roundw
        case rel => exact ⟨t + 1, _, _, _, _, _, _, _, _, by omega, by omega, by go_num, XQ, XM, hid (by rw [Nat.add_sub_cancel, hst]; exact Rtl.mk2 HT.out HU.out HDA.out), HR, B⟩
        case measure => simp [intOf]; omega
    · obtain rfl : t = m := by omega
      obtain ⟨ht, da, hu, hda⟩ := HM.out.two
      have HT := hid ht
      have HU := hid hu
      have HDA := hid hda
      clear ht hu hda
      obtain ⟨cc501a, cc501b, cc501c, cc501d⟩ := XQ.out.cells
      obtain ⟨cc502a, cc502b, cc502c, cc502d⟩ := XM.out.cells
      obtain ⟨⟨cc503a, cc503b⟩, ⟨cc503c, cc503d⟩, ⟨cc503e, cc503f⟩, cc503g, cc503h⟩ := XQ.out.stores
      obtain ⟨r504a, r504b, r504c⟩ := XQ.out.last B.out (by have := LG.out; omega) sa sb pa pb na nb ca cb
      replace XM := hid ((((XM.out.other (g2 := w.heap.size) (by have := LG.out; omega) 0 (.bool sa)).other (g2 := w.heap.size) (by have := LG.out; omega) 1 (.slice pa na ca)).other (g2 := w.heap.size) (by have := LG.out; omega) 2 (.bool sb)).other (g2 := w.heap.size) (by have := LG.out; omega) 3 (.slice pb nb cb))
      replace HT := hid (r504c HT.out)
      replace HU := hid (r504c HU.out)
      replace XQ := hid r504a
      replace B := hid r504b
      clear r504a r504b r504c
      go_wp2_with fail
      refine bodyPost_ret (res_num rfl rfl XQ.out) rfl ?_
      exact ⟨_, rfl, Rtl.mk2 HT.out HU.out HDA.out, B.out⟩

set_option maxHeartbeats 4000000 in
theorem maxfunc_rtl {w : World} {b m : Nat} {qf : Nat → Rat} {k : Nat} (h : Nrw w b m qf k) (hm1 : 1 ≤ m) (hm : m ≤ 100) (hk1 : 1 ≤ k) (hk : k ≤ 68719476736) :
    Calls Try.prog 58 #[.slice (some ⟨b, 0, none⟩) m m, .func (.func 43) #[] #[]] w fun e w' => ∃ v, e = .returned v ∧ Rtl w' v (hifN qf (m - 1)) k ∧ Below w.heap.size w w' := by
  have HR := hid h
  have HK := hid hk
  have HK1 := hid hk1
  have hbl := h.lt
  have HBL := hid hbl
  obtain ⟨s0a, p0a, n0a, c0a, s0b, p0b, n0b, c0b, y0, y1, y2, y3, hr⟩ := h.at (i := 0) (by omega)
  simp only [Nat.zero_mul, Nat.zero_add] at y0 y1 y2 y3
  obtain ⟨ht0, d0, hu0, hd0⟩ := hr.two
  have HD0 := hid hd0
  have hn1 : ¬ (m : Int) < 1 := by omega
  have hn2 : (0 : Int) < (m : Int) := by omega
  have HY := hid (fun (o : Obj) (j : Nat) => World.cell?_of_block (a := ⟨b, j, none⟩) (((Below.refl w.heap.size w).alloc (Nat.le_refl _) o).block b hbl))
  have z0 := (HY.out (.cells #[.bool false, .slice none 0 0, .bool false, .slice none 0 0] 40) 0).trans y0
  have z1 := (HY.out (.cells #[.bool false, .slice none 0 0, .bool false, .slice none 0 0] 40) 1).trans y1
  have z2 := (HY.out (.cells #[.bool false, .slice none 0 0, .bool false, .slice none 0 0] 40) 2).trans y2
  have z3 := (HY.out (.cells #[.bool false, .slice none 0 0, .bool false, .slice none 0 0] 40) 3).trans y3
  have B := hid (Below.refl w.heap.size w)
  have HT0 := hid ht0
  have HU0 := hid hu0
  have hb1 := (Below.refl _ _).alloc (Nat.le_refl w.heap.size) (.cells #[.bool false, .slice none 0 0, .bool false, .slice none 0 0] 40)
  have hx2 := Nbx.new w false false (.slice none 0 0) (.slice none 0 0)
  replace HT0 := wl HT0 hb1
  replace HU0 := wl HU0 hb1
  replace B := bb B hb1
  replace HR := hid (HR.out.on hb1)
  have XQ := hid hx2
  have hs3 : (w.alloc (.cells #[.bool false, .slice none 0 0, .bool false, .slice none 0 0] 40)).heap.size = w.heap.size + 1 := by simp
  clear hb1 hx2
  have hb4 := (Below.refl _ _).alloc (Nat.le_refl (w.alloc (.cells #[.bool false, .slice none 0 0, .bool false, .slice none 0 0] 40)).heap.size) (.cells #[.bool s0a, .slice p0a n0a c0a, .bool s0b, .slice p0b n0b c0b] 40)
  have hx5 := Nbx.new (w.alloc (.cells #[.bool false, .slice none 0 0, .bool false, .slice none 0 0] 40)) s0a s0b (.slice p0a n0a c0a) (.slice p0b n0b c0b)
  rw [hs3] at hx5
  replace XQ := nx XQ hb4
  replace HT0 := wl HT0 hb4
  replace HU0 := wl HU0 hb4
  replace B := bb B hb4
  replace HR := hid (HR.out.on hb4)
  have XM := hid hx5
  have hs6 : ((w.alloc (.cells #[.bool false, .slice none 0 0, .bool false, .slice none 0 0] 40)).alloc (.cells #[.bool s0a, .slice p0a n0a c0a, .bool s0b, .slice p0b n0b c0b] 40)).heap.size = w.heap.size + 1 + 1 := by simp [hs3]
  clear hb4 hx5
  clear hs6 h hr ht0 hu0 hd0 hk hk1 y0 y1 y2 y3 HY hbl
  go_enter Try.func58, Try.ntmps58
  obtain ⟨cc7a, cc7b, cc7c, cc7d⟩ := XQ.out.cells
  obtain ⟨cc8a, cc8b, cc8c, cc8d⟩ := XM.out.cells
  go_wp2_with fail
  generalize hW : (w.alloc (.cells #[.bool false, .slice none 0 0, .bool false, .slice none 0 0] 40)).alloc (.cells #[.bool s0a, .slice p0a n0a c0a, .bool s0b, .slice p0b n0b c0b] 40) = W9 at *
  clear hW
  clear z0 z1 z2 z3 cc7a cc7b cc7c cc7d cc8a cc8b cc8c cc8d
  obtain ⟨G, hG⟩ : ∃ G, G = w.heap.size + 1 := ⟨_, rfl⟩
  rw [← hG] at XM
  have LG := hid (show w.heap.size < G by omega)
  rw [← hG]
  clear hG
  go_loopw [6] (fun i wr => ∃ (t : Nat) (sa : Bool) (pa : Option Addr) (na ca : Nat) (sb : Bool) (pb : Option Addr) (nb cb : Nat), 1 ≤ t ∧ t ≤ m ∧ i = .int .i64 t ∧ Hid (Nbx wr w.heap.size false (.slice none 0 0) false (.slice none 0 0)) ∧ Hid (Nbx wr G sa (.slice pa na ca) sb (.slice pb nb cb)) ∧ Hid (Rtl wr (.agg #[.bool sa, .slice pa na ca, .bool sb, .slice pb nb cb]) (hifN qf (t - 1)) k) ∧ Hid (Nrw wr b m qf k) ∧ Hid (Below w.heap.size w wr)) (fun i _ => m - (intOf i).toNat)
  case atStart => exact ⟨1, _, _, _, _, _, _, _, _, Nat.le_refl _, hm1, rfl, XQ, XM, hid (Rtl.mk2 HT0.out HU0.out HD0.out), HR, B⟩
  case round =>
    clear XQ XM HT0 HU0 HD0 HR B
    obtain ⟨t, sa, pa, na, ca, sb, pb, nb, cb, ht1, htm, rfl, XQ, XM, HM, HR, B⟩ := hrel
    by_cases hlt : t < m
    · have hltz : (t : Int) < (m : Int) := by omega
      have hz0 : (0 : Int) ≤ (t : Int) := by omega
      obtain ⟨ht, da, hu, hda⟩ := HM.out.two
      have HT := hid ht
      have HU := hid hu
      have HDA := hid hda
      clear ht hu hda
      obtain ⟨s9a, p9a, n9a, c9a, s9b, p9b, n9b, c9b, y0, y1, y2, y3, hr9⟩ := HR.out.at hlt
      obtain ⟨ht9, d9, hu9, hd9⟩ := hr9.two
      have HT9 := hid ht9
      have HU9 := hid hu9
      have HD9 := hid hd9
      clear hr9 ht9 hu9 hd9
      have hst := hif_step qf ht1
      by_cases hc : hifN qf (t - 1) < qf t
      · have hcz : 0 < cmpi (qf t) (hifN qf (t - 1)) := (cmpi_gt _ _).2 hc
        rw [mx, if_pos hc] at hst
        obtain ⟨cc301a, cc301b, cc301c, cc301d⟩ := XM.out.cells
        go_wp2_with fail
        obtain ⟨cc302a, cc302b, cc302c, cc302d⟩ := XM.out.cells
        replace XQ := hid XQ.out.dr
        replace XM := hid XM.out.dr
        replace HT := hid HT.out.drew
        replace HU := hid HU.out.drew
        replace HT9 := hid HT9.out.drew
        replace HU9 := hid HU9.out.drew
        replace B := hid (Below.drew B.out)
        replace HR := hid (HR.out.on (Below.drew (Below.refl _ _)))
        obtain ⟨cc303a, cc303b, cc303c, cc303d⟩ := XM.out.cells
        have y0 := (show wr.drew.cell? ⟨b, t * 4, none⟩ = some (.bool s9a) from y0)
        have y1 := (show wr.drew.cell? ⟨b, t * 4 + 1, none⟩ = some (.slice p9a n9a c9a) from y1)
        have y2 := (show wr.drew.cell? ⟨b, t * 4 + 2, none⟩ = some (.bool s9b) from y2)
        have y3 := (show wr.drew.cell? ⟨b, t * 4 + 3, none⟩ = some (.slice p9b n9b c9b) from y3)
        go_region_held3 (fun w' => w'.cell? ⟨b, t * 4, none⟩ = some (.bool s9a) ∧ w'.cell? ⟨b, t * 4 + 1, none⟩ = some (.slice p9a n9a c9a) ∧ w'.cell? ⟨b, t * 4 + 2, none⟩ = some (.bool s9b) ∧ w'.cell? ⟨b, t * 4 + 3, none⟩ = some (.slice p9b n9b c9b) ∧ w'.cell? ⟨G, 0, none⟩ = some (.bool sa) ∧ w'.cell? ⟨G, 1, none⟩ = some (.slice pa na ca) ∧ w'.cell? ⟨G, 2, none⟩ = some (.bool sb) ∧ w'.cell? ⟨G, 3, none⟩ = some (.slice pb nb cb)) (go_keep) (first
          | (go_at_call 43; refine (cmpq_rtl (Rtl.mk2 HT9.out HU9.out HD9.out) (Rtl.mk2 HT.out HU.out HDA.out) HK1.out HK.out).mono ?_; rintro e w305 ⟨rfl, hb⟩; have hbb := HR.out.lt; replace y0 := (World.cell?_of_block (a := ⟨b, t * 4, none⟩) (hb.block b hbb)).trans y0; replace y1 := (World.cell?_of_block (a := ⟨b, t * 4 + 1, none⟩) (hb.block b hbb)).trans y1; replace y2 := (World.cell?_of_block (a := ⟨b, t * 4 + 2, none⟩) (hb.block b hbb)).trans y2; replace y3 := (World.cell?_of_block (a := ⟨b, t * 4 + 3, none⟩) (hb.block b hbb)).trans y3; replace XQ := nx XQ hb; replace XM := nx XM hb; replace HT := wl HT hb; replace HU := wl HU hb; replace HT9 := wl HT9 hb; replace HU9 := wl HU9 hb; replace B := bb B hb; replace HR := hid (HR.out.on hb); clear cc301a cc301b cc301c cc301d cc302a cc302b cc302c cc302d cc303a cc303b cc303c cc303d; clear hb hbb; obtain ⟨cc306a, cc306b, cc306c, cc306d⟩ := XM.out.cells; have mk304_0 := hid True.intro))
        obtain ⟨⟨cc307a, cc307b⟩, ⟨cc307c, cc307d⟩, ⟨cc307e, cc307f⟩, cc307g, cc307h⟩ := XM.out.stores
        obtain ⟨r308a, r308b, r308c⟩ := XM.out.last B.out (by have := LG.out; omega) s9a s9b p9a p9b n9a n9b c9a c9b
        replace HR := hid (HR.out.moved (heap4 (by have := HBL.out; have := LG.out; omega) _ _ _ _) (fun v z k h => r308c h))
        replace XQ := hid ((((XQ.out.other (g2 := G) (by have := LG.out; omega) 0 (.bool s9a)).other (g2 := G) (by have := LG.out; omega) 1 (.slice p9a n9a c9a)).other (g2 := G) (by have := LG.out; omega) 2 (.bool s9b)).other (g2 := G) (by have := LG.out; omega) 3 (.slice p9b n9b c9b))
        replace HT9 := hid (r308c HT9.out)
        replace HU9 := hid (r308c HU9.out)
        replace XM := hid r308a
        replace B := hid r308b
        clear r308a r308b r308c
        obtain ⟨cc309a, cc309b, cc309c, cc309d⟩ := XQ.out.cells
        obtain ⟨cc310a, cc310b, cc310c, cc310d⟩ := XM.out.cells
        go_wp2_with fail
        go_roundw
        case rel => exact ⟨t + 1, _, _, _, _, _, _, _, _, by omega, by omega, by go_num, XQ, XM, hid (by rw [Nat.add_sub_cancel, hst]; exact Rtl.mk2 HT9.out HU9.out HD9.out), HR, B⟩
        case measure => simp [intOf]; omega
      · have hcz : ¬ 0 < cmpi (qf t) (hifN qf (t - 1)) := fun e => hc ((cmpi_gt _ _).1 e)
        rw [mx, if_neg hc] at hst
        obtain ⟨cc401a, cc401b, cc401c, cc401d⟩ := XM.out.cells
        go_wp2_with fail
        obtain ⟨cc402a, cc402b, cc402c, cc402d⟩ := XM.out.cells
        replace XQ := hid XQ.out.dr
        replace XM := hid XM.out.dr
        replace HT := hid HT.out.drew
        replace HU := hid HU.out.drew
        replace HT9 := hid HT9.out.drew
        replace HU9 := hid HU9.out.drew
        replace B := hid (Below.drew B.out)
        replace HR := hid (HR.out.on (Below.drew (Below.refl _ _)))
        obtain ⟨cc403a, cc403b, cc403c, cc403d⟩ := XM.out.cells
        have y0 := (show wr.drew.cell? ⟨b, t * 4, none⟩ = some (.bool s9a) from y0)
        have y1 := (show wr.drew.cell? ⟨b, t * 4 + 1, none⟩ = some (.slice p9a n9a c9a) from y1)
        have y2 := (show wr.drew.cell? ⟨b, t * 4 + 2, none⟩ = some (.bool s9b) from y2)
        have y3 := (show wr.drew.cell? ⟨b, t * 4 + 3, none⟩ = some (.slice p9b n9b c9b) from y3)
        go_region_held3 (fun w' => w'.cell? ⟨b, t * 4, none⟩ = some (.bool s9a) ∧ w'.cell? ⟨b, t * 4 + 1, none⟩ = some (.slice p9a n9a c9a) ∧ w'.cell? ⟨b, t * 4 + 2, none⟩ = some (.bool s9b) ∧ w'.cell? ⟨b, t * 4 + 3, none⟩ = some (.slice p9b n9b c9b) ∧ w'.cell? ⟨G, 0, none⟩ = some (.bool sa) ∧ w'.cell? ⟨G, 1, none⟩ = some (.slice pa na ca) ∧ w'.cell? ⟨G, 2, none⟩ = some (.bool sb) ∧ w'.cell? ⟨G, 3, none⟩ = some (.slice pb nb cb)) (go_keep) (first
          | (go_at_call 43; refine (cmpq_rtl (Rtl.mk2 HT9.out HU9.out HD9.out) (Rtl.mk2 HT.out HU.out HDA.out) HK1.out HK.out).mono ?_; rintro e w405 ⟨rfl, hb⟩; have hbb := HR.out.lt; replace y0 := (World.cell?_of_block (a := ⟨b, t * 4, none⟩) (hb.block b hbb)).trans y0; replace y1 := (World.cell?_of_block (a := ⟨b, t * 4 + 1, none⟩) (hb.block b hbb)).trans y1; replace y2 := (World.cell?_of_block (a := ⟨b, t * 4 + 2, none⟩) (hb.block b hbb)).trans y2; replace y3 := (World.cell?_of_block (a := ⟨b, t * 4 + 3, none⟩) (hb.block b hbb)).trans y3; replace XQ := nx XQ hb; replace XM := nx XM hb; replace HT := wl HT hb; replace HU := wl HU hb; replace HT9 := wl HT9 hb; replace HU9 := wl HU9 hb; replace B := bb B hb; replace HR := hid (HR.out.on hb); clear cc401a cc401b cc401c cc401d cc402a cc402b cc402c cc402d cc403a cc403b cc403c cc403d; clear hb hbb; obtain ⟨cc406a, cc406b, cc406c, cc406d⟩ := XM.out.cells; have mk404_0 := hid True.intro))
        go_wp2_with fail
        go_roundw
        case rel => exact ⟨t + 1, _, _, _, _, _, _, _, _, by omega, by omega, by go_num, XQ, XM, hid (by rw [Nat.add_sub_cancel, hst]; exact Rtl.mk2 HT.out HU.out HDA.out), HR, B⟩
        case measure => simp [intOf]; omega
    · obtain rfl : t = m := by omega
      obtain ⟨ht, da, hu, hda⟩ := HM.out.two
      have HT := hid ht
      have HU := hid hu
      have HDA := hid hda
      clear ht hu hda
      obtain ⟨cc501a, cc501b, cc501c, cc501d⟩ := XQ.out.cells
      obtain ⟨cc502a, cc502b, cc502c, cc502d⟩ := XM.out.cells
      obtain ⟨⟨cc503a, cc503b⟩, ⟨cc503c, cc503d⟩, ⟨cc503e, cc503f⟩, cc503g, cc503h⟩ := XQ.out.stores
      obtain ⟨r504a, r504b, r504c⟩ := XQ.out.last B.out (by have := LG.out; omega) sa sb pa pb na nb ca cb
      replace XM := hid ((((XM.out.other (g2 := w.heap.size) (by have := LG.out; omega) 0 (.bool sa)).other (g2 := w.heap.size) (by have := LG.out; omega) 1 (.slice pa na ca)).other (g2 := w.heap.size) (by have := LG.out; omega) 2 (.bool sb)).other (g2 := w.heap.size) (by have := LG.out; omega) 3 (.slice pb nb cb))
      replace HT := hid (r504c HT.out)
      replace HU := hid (r504c HU.out)
      replace XQ := hid r504a
      replace B := hid r504b
      clear r504a r504b r504c
      go_wp2_with fail
      refine bodyPost_ret (res_num rfl rfl XQ.out) rfl ?_
      exact ⟨_, rfl, Rtl.mk2 HT.out HU.out HDA.out, B.out⟩

end Go.Proofs.Ytkdeopikojgboaa

/-
  PACKAGE ival: span, hull, has.
-/
namespace Go.Proofs.Ytkdeopikojgboaa
open Go.RowKit
open Num
set_option linter.unusedVariables false
set_option maxRecDepth 100000
set_option linter.unusedSimpArgs false

set_option maxHeartbeats 4000000 in
theorem span_ivl {w : World} {b m : Nat} {qf : Nat → Rat} {k : Nat} (h : Nrw w b m qf k) (hm1 : 1 ≤ m) (hm : m ≤ 100) (hk1 : 1 ≤ k) (hk : k ≤ 68719476736) :
    Calls Try.prog 39 #[.slice (some ⟨b, 0, none⟩) m m] w fun e w' => ∃ v, e = .returned v ∧ Ivl w' v (lofN qf (m - 1)) (hifN qf (m - 1)) k ∧ Below w.heap.size w w' := by
  have HR := hid h
  have HK := hid hk
  have HK1 := hid hk1
  have HM1 := hid hm1
  have HM2 := hid hm
  have B := hid (Below.refl w.heap.size w)
  have hb1 := (Below.refl _ _).alloc (Nat.le_refl w.heap.size) (.cells #[.bool false, .slice none 0 0, .bool false, .slice none 0 0, .bool false, .slice none 0 0, .bool false, .slice none 0 0] 42)
  have hx2 := Ibx.new w false none 0 0 false none 0 0 false none 0 0 false none 0 0
  replace B := bb B hb1
  replace HR := hid (HR.out.on hb1)
  have XV := hid hx2
  have hs3 : (w.alloc (.cells #[.bool false, .slice none 0 0, .bool false, .slice none 0 0, .bool false, .slice none 0 0, .bool false, .slice none 0 0] 42)).heap.size = w.heap.size + 1 := by simp
  clear hb1 hx2
  clear hs3 h hk hk1 hm1 hm
  go_enter Try.func39, Try.ntmps39
  obtain ⟨cc4a, cc4b, cc4c, cc4d, cc4e, cc4f, cc4g, cc4h⟩ := XV.out.cells
  go_wp2_with fail
  generalize hW : w.alloc (.cells #[.bool false, .slice none 0 0, .bool false, .slice none 0 0, .bool false, .slice none 0 0, .bool false, .slice none 0 0] 42) = W5 at *
  clear hW
  refine (minfunc_rtl HR.out HM1.out HM2.out HK1.out HK.out).mono ?_
  rintro e w6 ⟨v, rfl, hv, hb⟩
  obtain ⟨s1a, p1a, n1a, c1a, s1b, p1b, n1b, c1b, rfl⟩ := hv.opened
  obtain ⟨ht1, d1, hu1, hd1⟩ := hv.two
  have HD1 := hid hd1
  replace XV := ix XV hb
  replace B := bb B hb
  replace HR := hid (HR.out.on hb)
  clear cc4a cc4b cc4c cc4d cc4e cc4f cc4g cc4h
  have HT1 := hid ht1
  have HU1 := hid hu1
  clear hb hv ht1 hu1 hd1
  obtain ⟨cc7a, cc7b, cc7c, cc7d, cc7e, cc7f, cc7g, cc7h⟩ := XV.out.cells
  go_wp2_with fail
  refine (maxfunc_rtl HR.out HM1.out HM2.out HK1.out HK.out).mono ?_
  rintro e w8 ⟨v, rfl, hv, hb⟩
  obtain ⟨s2a, p2a, n2a, c2a, s2b, p2b, n2b, c2b, rfl⟩ := hv.opened
  obtain ⟨ht2, d2, hu2, hd2⟩ := hv.two
  have HD2 := hid hd2
  replace XV := ix XV hb
  replace HT1 := wl HT1 hb
  replace HU1 := wl HU1 hb
  replace B := bb B hb
  replace HR := hid (HR.out.on hb)
  clear cc7a cc7b cc7c cc7d cc7e cc7f cc7g cc7h
  have HT2 := hid ht2
  have HU2 := hid hu2
  clear hb hv ht2 hu2 hd2
  obtain ⟨cc9a, cc9b, cc9c, cc9d, cc9e, cc9f, cc9g, cc9h⟩ := XV.out.cells
  obtain ⟨⟨cc10a, cc10b⟩, ⟨cc10c, cc10d⟩, ⟨cc10e, cc10f⟩, ⟨cc10g, cc10h⟩, ⟨cc10i, cc10j⟩, ⟨cc10k, cc10l⟩, ⟨cc10m, cc10n⟩, cc10o, cc10p⟩ := XV.out.stores
  obtain ⟨r11a, r11b, r11c⟩ := XV.out.last B.out (by omega) s1a p1a n1a c1a s1b p1b n1b c1b s2a p2a n2a c2a s2b p2b n2b c2b
  replace HT1 := hid (r11c HT1.out)
  replace HU1 := hid (r11c HU1.out)
  replace HT2 := hid (r11c HT2.out)
  replace HU2 := hid (r11c HU2.out)
  replace XV := hid r11a
  replace B := hid r11b
  clear r11a r11b r11c
  go_wp2_with fail
  refine bodyPost_ret (res_ivl rfl rfl XV.out) rfl ?_
  exact ⟨_, rfl, Ivl.mk2 (Rtl.mk2 HT1.out HU1.out HD1.out) (Rtl.mk2 HT2.out HU2.out HD2.out), B.out⟩

set_option maxHeartbeats 4000000 in
theorem hull_ivl {w : World} {v u : Value} {p q r s : Rat} {k : Nat} (h : Ivl w v p q k) (h' : Ivl w u r s k) (hk1 : 1 ≤ k) (hk : k ≤ 68719476736) :
    Calls Try.prog 26 #[v, u] w fun e w' => ∃ v, e = .returned v ∧ Ivl w' v (lo4 p q r s) (hi4 p q r s) k ∧ Below w.heap.size w w' := by
  have HK := hid hk
  have HK1 := hid hk1
  obtain ⟨s1a, p1a, n1a, c1a, s1b, p1b, n1b, c1b, s1c, p1c, n1c, c1c, s1d, p1d, n1d, c1d, rfl⟩ := h.opened
  obtain ⟨hl1, hh1⟩ := h.two
  obtain ⟨ht1l, d1l, hu1l, hd1l⟩ := hl1.two
  have HD1l := hid hd1l
  obtain ⟨ht1h, d1h, hu1h, hd1h⟩ := hh1.two
  have HD1h := hid hd1h
  obtain ⟨s2a, p2a, n2a, c2a, s2b, p2b, n2b, c2b, s2c, p2c, n2c, c2c, s2d, p2d, n2d, c2d, rfl⟩ := h'.opened
  obtain ⟨hl2, hh2⟩ := h'.two
  obtain ⟨ht2l, d2l, hu2l, hd2l⟩ := hl2.two
  have HD2l := hid hd2l
  obtain ⟨ht2h, d2h, hu2h, hd2h⟩ := hh2.two
  have HD2h := hid hd2h
  have B := hid (Below.refl w.heap.size w)
  have HT1l := hid ht1l
  have HU1l := hid hu1l
  have HT1h := hid ht1h
  have HU1h := hid hu1h
  have HT2l := hid ht2l
  have HU2l := hid hu2l
  have HT2h := hid ht2h
  have HU2h := hid hu2h
  have hb1 := (Below.refl _ _).alloc (Nat.le_refl w.heap.size) (.cells #[.bool s1a, .slice p1a n1a c1a, .bool s1b, .slice p1b n1b c1b, .bool s1c, .slice p1c n1c c1c, .bool s1d, .slice p1d n1d c1d] 42)
  have hx2 := Ibx.new w s1a p1a n1a c1a s1b p1b n1b c1b s1c p1c n1c c1c s1d p1d n1d c1d
  replace HT1l := wl HT1l hb1
  replace HU1l := wl HU1l hb1
  replace HT1h := wl HT1h hb1
  replace HU1h := wl HU1h hb1
  replace HT2l := wl HT2l hb1
  replace HU2l := wl HU2l hb1
  replace HT2h := wl HT2h hb1
  replace HU2h := wl HU2h hb1
  replace B := bb B hb1
  have X1 := hid hx2
  have hs3 : (w.alloc (.cells #[.bool s1a, .slice p1a n1a c1a, .bool s1b, .slice p1b n1b c1b, .bool s1c, .slice p1c n1c c1c, .bool s1d, .slice p1d n1d c1d] 42)).heap.size = w.heap.size + 1 := by simp
  clear hb1 hx2
  have hb4 := (Below.refl _ _).alloc (Nat.le_refl (w.alloc (.cells #[.bool s1a, .slice p1a n1a c1a, .bool s1b, .slice p1b n1b c1b, .bool s1c, .slice p1c n1c c1c, .bool s1d, .slice p1d n1d c1d] 42)).heap.size) (.cells #[.bool s2a, .slice p2a n2a c2a, .bool s2b, .slice p2b n2b c2b, .bool s2c, .slice p2c n2c c2c, .bool s2d, .slice p2d n2d c2d] 42)
  have hx5 := Ibx.new (w.alloc (.cells #[.bool s1a, .slice p1a n1a c1a, .bool s1b, .slice p1b n1b c1b, .bool s1c, .slice p1c n1c c1c, .bool s1d, .slice p1d n1d c1d] 42)) s2a p2a n2a c2a s2b p2b n2b c2b s2c p2c n2c c2c s2d p2d n2d c2d
  rw [hs3] at hx5
  replace X1 := ix X1 hb4
  replace HT1l := wl HT1l hb4
  replace HU1l := wl HU1l hb4
  replace HT1h := wl HT1h hb4
  replace HU1h := wl HU1h hb4
  replace HT2l := wl HT2l hb4
  replace HU2l := wl HU2l hb4
  replace HT2h := wl HT2h hb4
  replace HU2h := wl HU2h hb4
  replace B := bb B hb4
  have X2 := hid hx5
  have hs6 : ((w.alloc (.cells #[.bool s1a, .slice p1a n1a c1a, .bool s1b, .slice p1b n1b c1b, .bool s1c, .slice p1c n1c c1c, .bool s1d, .slice p1d n1d c1d] 42)).alloc (.cells #[.bool s2a, .slice p2a n2a c2a, .bool s2b, .slice p2b n2b c2b, .bool s2c, .slice p2c n2c c2c, .bool s2d, .slice p2d n2d c2d] 42)).heap.size = w.heap.size + 1 + 1 := by simp [hs3]
  clear hb4 hx5
  have hb7 := (Below.refl _ _).alloc (Nat.le_refl ((w.alloc (.cells #[.bool s1a, .slice p1a n1a c1a, .bool s1b, .slice p1b n1b c1b, .bool s1c, .slice p1c n1c c1c, .bool s1d, .slice p1d n1d c1d] 42)).alloc (.cells #[.bool s2a, .slice p2a n2a c2a, .bool s2b, .slice p2b n2b c2b, .bool s2c, .slice p2c n2c c2c, .bool s2d, .slice p2d n2d c2d] 42)).heap.size) (.cells #[.bool false, .slice none 0 0, .bool false, .slice none 0 0, .bool false, .slice none 0 0, .bool false, .slice none 0 0] 42)
  have hx8 := Ibx.new ((w.alloc (.cells #[.bool s1a, .slice p1a n1a c1a, .bool s1b, .slice p1b n1b c1b, .bool s1c, .slice p1c n1c c1c, .bool s1d, .slice p1d n1d c1d] 42)).alloc (.cells #[.bool s2a, .slice p2a n2a c2a, .bool s2b, .slice p2b n2b c2b, .bool s2c, .slice p2c n2c c2c, .bool s2d, .slice p2d n2d c2d] 42)) false none 0 0 false none 0 0 false none 0 0 false none 0 0
  rw [hs6] at hx8
  replace X1 := ix X1 hb7
  replace X2 := ix X2 hb7
  replace HT1l := wl HT1l hb7
  replace HU1l := wl HU1l hb7
  replace HT1h := wl HT1h hb7
  replace HU1h := wl HU1h hb7
  replace HT2l := wl HT2l hb7
  replace HU2l := wl HU2l hb7
  replace HT2h := wl HT2h hb7
  replace HU2h := wl HU2h hb7
  replace B := bb B hb7
  have XV := hid hx8
  have hs9 : (((w.alloc (.cells #[.bool s1a, .slice p1a n1a c1a, .bool s1b, .slice p1b n1b c1b, .bool s1c, .slice p1c n1c c1c, .bool s1d, .slice p1d n1d c1d] 42)).alloc (.cells #[.bool s2a, .slice p2a n2a c2a, .bool s2b, .slice p2b n2b c2b, .bool s2c, .slice p2c n2c c2c, .bool s2d, .slice p2d n2d c2d] 42)).alloc (.cells #[.bool false, .slice none 0 0, .bool false, .slice none 0 0, .bool false, .slice none 0 0, .bool false, .slice none 0 0] 42)).heap.size = w.heap.size + 1 + 1 + 1 := by simp [hs6]
  clear hb7 hx8
  have hb10 := (Below.refl _ _).alloc (Nat.le_refl (((w.alloc (.cells #[.bool s1a, .slice p1a n1a c1a, .bool s1b, .slice p1b n1b c1b, .bool s1c, .slice p1c n1c c1c, .bool s1d, .slice p1d n1d c1d] 42)).alloc (.cells #[.bool s2a, .slice p2a n2a c2a, .bool s2b, .slice p2b n2b c2b, .bool s2c, .slice p2c n2c c2c, .bool s2d, .slice p2d n2d c2d] 42)).alloc (.cells #[.bool false, .slice none 0 0, .bool false, .slice none 0 0, .bool false, .slice none 0 0, .bool false, .slice none 0 0] 42)).heap.size) (.cells #[.bool s1a, .slice p1a n1a c1a, .bool s1b, .slice p1b n1b c1b, .bool s1c, .slice p1c n1c c1c, .bool s1d, .slice p1d n1d c1d, .bool s2a, .slice p2a n2a c2a, .bool s2b, .slice p2b n2b c2b, .bool s2c, .slice p2c n2c c2c, .bool s2d, .slice p2d n2d c2d] 40)
  have hx11 := row_new4 (w := (((w.alloc (.cells #[.bool s1a, .slice p1a n1a c1a, .bool s1b, .slice p1b n1b c1b, .bool s1c, .slice p1c n1c c1c, .bool s1d, .slice p1d n1d c1d] 42)).alloc (.cells #[.bool s2a, .slice p2a n2a c2a, .bool s2b, .slice p2b n2b c2b, .bool s2c, .slice p2c n2c c2c, .bool s2d, .slice p2d n2d c2d] 42)).alloc (.cells #[.bool false, .slice none 0 0, .bool false, .slice none 0 0, .bool false, .slice none 0 0, .bool false, .slice none 0 0] 42))) (Rtl.mk2 HT1l.out HU1l.out HD1l.out) (Rtl.mk2 HT1h.out HU1h.out HD1h.out) (Rtl.mk2 HT2l.out HU2l.out HD2l.out) (Rtl.mk2 HT2h.out HU2h.out HD2h.out)
  rw [hs9] at hx11
  replace X1 := ix X1 hb10
  replace X2 := ix X2 hb10
  replace XV := ix XV hb10
  replace B := bb B hb10
  have HR := hid hx11
  clear hb10 hx11 hs9
  clear  hk hk1 h hl1 hh1 ht1l hu1l hd1l ht1h hu1h hd1h h' hl2 hh2 ht2l hu2l hd2l ht2h hu2h hd2h
  go_enter Try.func26, Try.ntmps26
  obtain ⟨cc12a, cc12b, cc12c, cc12d, cc12e, cc12f, cc12g, cc12h⟩ := X1.out.cells
  obtain ⟨cc13a, cc13b, cc13c, cc13d, cc13e, cc13f, cc13g, cc13h⟩ := X2.out.cells
  obtain ⟨cc14a, cc14b, cc14c, cc14d, cc14e, cc14f, cc14g, cc14h⟩ := XV.out.cells
  go_wp2_with fail
  generalize hW : (((w.alloc (.cells #[.bool s1a, .slice p1a n1a c1a, .bool s1b, .slice p1b n1b c1b, .bool s1c, .slice p1c n1c c1c, .bool s1d, .slice p1d n1d c1d] 42)).alloc (.cells #[.bool s2a, .slice p2a n2a c2a, .bool s2b, .slice p2b n2b c2b, .bool s2c, .slice p2c n2c c2c, .bool s2d, .slice p2d n2d c2d] 42)).alloc (.cells #[.bool false, .slice none 0 0, .bool false, .slice none 0 0, .bool false, .slice none 0 0, .bool false, .slice none 0 0] 42)).alloc (.cells #[.bool s1a, .slice p1a n1a c1a, .bool s1b, .slice p1b n1b c1b, .bool s1c, .slice p1c n1c c1c, .bool s1d, .slice p1d n1d c1d, .bool s2a, .slice p2a n2a c2a, .bool s2b, .slice p2b n2b c2b, .bool s2c, .slice p2c n2c c2c, .bool s2d, .slice p2d n2d c2d] 40) = W15 at *
  clear hW
  refine (span_ivl HR.out (by decide) (by decide) HK1.out HK.out).mono ?_
  rintro e w16 ⟨v, rfl, hv, hb⟩
  replace hv : Ivl _ _ (lo4 p q r s) (hi4 p q r s) k := hv
  obtain ⟨s3a, p3a, n3a, c3a, s3b, p3b, n3b, c3b, s3c, p3c, n3c, c3c, s3d, p3d, n3d, c3d, rfl⟩ := hv.opened
  obtain ⟨hl3, hh3⟩ := hv.two
  obtain ⟨ht3l, d3l, hu3l, hd3l⟩ := hl3.two
  have HD3l := hid hd3l
  obtain ⟨ht3h, d3h, hu3h, hd3h⟩ := hh3.two
  have HD3h := hid hd3h
  replace XV := ix XV hb
  replace B := bb B hb
  clear cc12a cc12b cc12c cc12d cc12e cc12f cc12g cc12h cc13a cc13b cc13c cc13d cc13e cc13f cc13g cc13h cc14a cc14b cc14c cc14d cc14e cc14f cc14g cc14h
  have HT3l := hid ht3l
  have HU3l := hid hu3l
  have HT3h := hid ht3h
  have HU3h := hid hu3h
  clear hb hv hl3 hh3 ht3l hu3l hd3l ht3h hu3h hd3h
  obtain ⟨cc17a, cc17b, cc17c, cc17d, cc17e, cc17f, cc17g, cc17h⟩ := XV.out.cells
  obtain ⟨⟨cc18a, cc18b⟩, ⟨cc18c, cc18d⟩, ⟨cc18e, cc18f⟩, ⟨cc18g, cc18h⟩, ⟨cc18i, cc18j⟩, ⟨cc18k, cc18l⟩, ⟨cc18m, cc18n⟩, cc18o, cc18p⟩ := XV.out.stores
  obtain ⟨r19a, r19b, r19c⟩ := XV.out.last B.out (by omega) s3a p3a n3a c3a s3b p3b n3b c3b s3c p3c n3c c3c s3d p3d n3d c3d
  replace HT3l := hid (r19c HT3l.out)
  replace HU3l := hid (r19c HU3l.out)
  replace HT3h := hid (r19c HT3h.out)
  replace HU3h := hid (r19c HU3h.out)
  replace XV := hid r19a
  replace B := hid r19b
  clear r19a r19b r19c
  go_wp2_with fail
  refine bodyPost_ret (res_ivl rfl rfl XV.out) rfl ?_
  exact ⟨_, rfl, (Ivl.mk2 (Rtl.mk2 HT3l.out HU3l.out HD3l.out) (Rtl.mk2 HT3h.out HU3h.out HD3h.out)), B.out⟩

set_option maxHeartbeats 1000000 in
theorem has_a {w : World} {v u : Value} {p q x : Rat} {k : Nat} (h : Ivl w v p q k) (hx : Rtl w u x k) (h1 : x < p) (hk1 : 1 ≤ k) (hk : k ≤ 68719476736) :
    Calls Try.prog 18 #[v, u] w fun e w' => e = .returned (.bool false) ∧ Below w.heap.size w w' := by
  have HK := hid hk
  have HK1 := hid hk1
  have HA := hid (show decide (x < p) = true by simp [h1])
  obtain ⟨s1a, p1a, n1a, c1a, s1b, p1b, n1b, c1b, s1c, p1c, n1c, c1c, s1d, p1d, n1d, c1d, rfl⟩ := h.opened
  obtain ⟨hl1, hh1⟩ := h.two
  obtain ⟨ht1l, d1l, hu1l, hd1l⟩ := hl1.two
  have HD1l := hid hd1l
  obtain ⟨ht1h, d1h, hu1h, hd1h⟩ := hh1.two
  have HD1h := hid hd1h
  obtain ⟨s2a, p2a, n2a, c2a, s2b, p2b, n2b, c2b, rfl⟩ := hx.opened
  obtain ⟨ht2, d2, hu2, hd2⟩ := hx.two
  have HD2 := hid hd2
  have B := hid (Below.refl w.heap.size w)
  have HT1l := hid ht1l
  have HU1l := hid hu1l
  have HT1h := hid ht1h
  have HU1h := hid hu1h
  have HT2 := hid ht2
  have HU2 := hid hu2
  have hb1 := (Below.refl _ _).alloc (Nat.le_refl w.heap.size) (.cells #[.bool s1a, .slice p1a n1a c1a, .bool s1b, .slice p1b n1b c1b, .bool s1c, .slice p1c n1c c1c, .bool s1d, .slice p1d n1d c1d] 42)
  have hx2 := Ibx.new w s1a p1a n1a c1a s1b p1b n1b c1b s1c p1c n1c c1c s1d p1d n1d c1d
  replace HT1l := wl HT1l hb1
  replace HU1l := wl HU1l hb1
  replace HT2 := wl HT2 hb1
  replace HU2 := wl HU2 hb1
  replace B := bb B hb1
  have X1 := hid hx2
  have hs3 : (w.alloc (.cells #[.bool s1a, .slice p1a n1a c1a, .bool s1b, .slice p1b n1b c1b, .bool s1c, .slice p1c n1c c1c, .bool s1d, .slice p1d n1d c1d] 42)).heap.size = w.heap.size + 1 := by simp
  clear hb1 hx2
  have hb4 := (Below.refl _ _).alloc (Nat.le_refl (w.alloc (.cells #[.bool s1a, .slice p1a n1a c1a, .bool s1b, .slice p1b n1b c1b, .bool s1c, .slice p1c n1c c1c, .bool s1d, .slice p1d n1d c1d] 42)).heap.size) (.cells #[.bool s2a, .slice p2a n2a c2a, .bool s2b, .slice p2b n2b c2b] 40)
  have hx5 := Nbx.new (w.alloc (.cells #[.bool s1a, .slice p1a n1a c1a, .bool s1b, .slice p1b n1b c1b, .bool s1c, .slice p1c n1c c1c, .bool s1d, .slice p1d n1d c1d] 42)) s2a s2b (.slice p2a n2a c2a) (.slice p2b n2b c2b)
  rw [hs3] at hx5
  replace X1 := ix X1 hb4
  replace HT1l := wl HT1l hb4
  replace HU1l := wl HU1l hb4
  replace HT2 := wl HT2 hb4
  replace HU2 := wl HU2 hb4
  replace B := bb B hb4
  have X2 := hid hx5
  have hs6 : ((w.alloc (.cells #[.bool s1a, .slice p1a n1a c1a, .bool s1b, .slice p1b n1b c1b, .bool s1c, .slice p1c n1c c1c, .bool s1d, .slice p1d n1d c1d] 42)).alloc (.cells #[.bool s2a, .slice p2a n2a c2a, .bool s2b, .slice p2b n2b c2b] 40)).heap.size = w.heap.size + 1 + 1 := by simp [hs3]
  clear hb4 hx5
  clear hs6 hk hk1 h1 h hl1 hh1 ht1l hu1l hd1l ht1h hu1h hd1h hx ht2 hu2 hd2
  go_enter Try.func18, Try.ntmps18
  obtain ⟨cc7a, cc7b, cc7c, cc7d, cc7e, cc7f, cc7g, cc7h⟩ := X1.out.cells
  obtain ⟨cc8a, cc8b, cc8c, cc8d⟩ := X2.out.cells
  go_wp2_with fail
  generalize hW : (w.alloc (.cells #[.bool s1a, .slice p1a n1a c1a, .bool s1b, .slice p1b n1b c1b, .bool s1c, .slice p1c n1c c1c, .bool s1d, .slice p1d n1d c1d] 42)).alloc (.cells #[.bool s2a, .slice p2a n2a c2a, .bool s2b, .slice p2b n2b c2b] 40) = W9 at *
  clear hW
  refine (lessq_rtl (Rtl.mk2 HT2.out HU2.out HD2.out) (Rtl.mk2 HT1l.out HU1l.out HD1l.out) HK1.out HK.out).mono ?_
  rintro e w10 ⟨rfl, hb⟩
  replace X1 := ix X1 hb
  replace X2 := nx X2 hb
  replace B := bb B hb
  clear cc7a cc7b cc7c cc7d cc7e cc7f cc7g cc7h cc8a cc8b cc8c cc8d
  clear hb 
  rw [HA.out]
  obtain ⟨cc11a, cc11b, cc11c, cc11d, cc11e, cc11f, cc11g, cc11h⟩ := X1.out.cells
  obtain ⟨cc12a, cc12b, cc12c, cc12d⟩ := X2.out.cells
  go_wp2_with fail
  go_ret
  exact ⟨rfl, B.out⟩

set_option maxHeartbeats 1000000 in
theorem has_b {w : World} {v u : Value} {p q x : Rat} {k : Nat} (h : Ivl w v p q k) (hx : Rtl w u x k) (h1 : ¬ x < p) (h2 : q < x) (hk1 : 1 ≤ k) (hk : k ≤ 68719476736) :
    Calls Try.prog 18 #[v, u] w fun e w' => e = .returned (.bool false) ∧ Below w.heap.size w w' := by
  have HK := hid hk
  have HK1 := hid hk1
  have HA := hid (show decide (x < p) = false by simp [h1])
  have HB := hid (show decide (q < x) = true by simp [h2])
  obtain ⟨s1a, p1a, n1a, c1a, s1b, p1b, n1b, c1b, s1c, p1c, n1c, c1c, s1d, p1d, n1d, c1d, rfl⟩ := h.opened
  obtain ⟨hl1, hh1⟩ := h.two
  obtain ⟨ht1l, d1l, hu1l, hd1l⟩ := hl1.two
  have HD1l := hid hd1l
  obtain ⟨ht1h, d1h, hu1h, hd1h⟩ := hh1.two
  have HD1h := hid hd1h
  obtain ⟨s2a, p2a, n2a, c2a, s2b, p2b, n2b, c2b, rfl⟩ := hx.opened
  obtain ⟨ht2, d2, hu2, hd2⟩ := hx.two
  have HD2 := hid hd2
  have B := hid (Below.refl w.heap.size w)
  have HT1l := hid ht1l
  have HU1l := hid hu1l
  have HT1h := hid ht1h
  have HU1h := hid hu1h
  have HT2 := hid ht2
  have HU2 := hid hu2
  have hb1 := (Below.refl _ _).alloc (Nat.le_refl w.heap.size) (.cells #[.bool s1a, .slice p1a n1a c1a, .bool s1b, .slice p1b n1b c1b, .bool s1c, .slice p1c n1c c1c, .bool s1d, .slice p1d n1d c1d] 42)
  have hx2 := Ibx.new w s1a p1a n1a c1a s1b p1b n1b c1b s1c p1c n1c c1c s1d p1d n1d c1d
  replace HT1l := wl HT1l hb1
  replace HU1l := wl HU1l hb1
  replace HT1h := wl HT1h hb1
  replace HU1h := wl HU1h hb1
  replace HT2 := wl HT2 hb1
  replace HU2 := wl HU2 hb1
  replace B := bb B hb1
  have X1 := hid hx2
  have hs3 : (w.alloc (.cells #[.bool s1a, .slice p1a n1a c1a, .bool s1b, .slice p1b n1b c1b, .bool s1c, .slice p1c n1c c1c, .bool s1d, .slice p1d n1d c1d] 42)).heap.size = w.heap.size + 1 := by simp
  clear hb1 hx2
  have hb4 := (Below.refl _ _).alloc (Nat.le_refl (w.alloc (.cells #[.bool s1a, .slice p1a n1a c1a, .bool s1b, .slice p1b n1b c1b, .bool s1c, .slice p1c n1c c1c, .bool s1d, .slice p1d n1d c1d] 42)).heap.size) (.cells #[.bool s2a, .slice p2a n2a c2a, .bool s2b, .slice p2b n2b c2b] 40)
  have hx5 := Nbx.new (w.alloc (.cells #[.bool s1a, .slice p1a n1a c1a, .bool s1b, .slice p1b n1b c1b, .bool s1c, .slice p1c n1c c1c, .bool s1d, .slice p1d n1d c1d] 42)) s2a s2b (.slice p2a n2a c2a) (.slice p2b n2b c2b)
  rw [hs3] at hx5
  replace X1 := ix X1 hb4
  replace HT1l := wl HT1l hb4
  replace HU1l := wl HU1l hb4
  replace HT1h := wl HT1h hb4
  replace HU1h := wl HU1h hb4
  replace HT2 := wl HT2 hb4
  replace HU2 := wl HU2 hb4
  replace B := bb B hb4
  have X2 := hid hx5
  have hs6 : ((w.alloc (.cells #[.bool s1a, .slice p1a n1a c1a, .bool s1b, .slice p1b n1b c1b, .bool s1c, .slice p1c n1c c1c, .bool s1d, .slice p1d n1d c1d] 42)).alloc (.cells #[.bool s2a, .slice p2a n2a c2a, .bool s2b, .slice p2b n2b c2b] 40)).heap.size = w.heap.size + 1 + 1 := by simp [hs3]
  clear hb4 hx5
  clear hs6 hk hk1 h1 h2 h hl1 hh1 ht1l hu1l hd1l ht1h hu1h hd1h hx ht2 hu2 hd2
  go_enter Try.func18, Try.ntmps18
  obtain ⟨cc7a, cc7b, cc7c, cc7d, cc7e, cc7f, cc7g, cc7h⟩ := X1.out.cells
  obtain ⟨cc8a, cc8b, cc8c, cc8d⟩ := X2.out.cells
  go_wp2_with fail
  generalize hW : (w.alloc (.cells #[.bool s1a, .slice p1a n1a c1a, .bool s1b, .slice p1b n1b c1b, .bool s1c, .slice p1c n1c c1c, .bool s1d, .slice p1d n1d c1d] 42)).alloc (.cells #[.bool s2a, .slice p2a n2a c2a, .bool s2b, .slice p2b n2b c2b] 40) = W9 at *
  clear hW
  refine (lessq_rtl (Rtl.mk2 HT2.out HU2.out HD2.out) (Rtl.mk2 HT1l.out HU1l.out HD1l.out) HK1.out HK.out).mono ?_
  rintro e w10 ⟨rfl, hb⟩
  replace X1 := ix X1 hb
  replace X2 := nx X2 hb
  replace HT1h := wl HT1h hb
  replace HU1h := wl HU1h hb
  replace HT2 := wl HT2 hb
  replace HU2 := wl HU2 hb
  replace B := bb B hb
  clear cc7a cc7b cc7c cc7d cc7e cc7f cc7g cc7h cc8a cc8b cc8c cc8d
  clear hb 
  rw [HA.out]
  obtain ⟨cc11a, cc11b, cc11c, cc11d, cc11e, cc11f, cc11g, cc11h⟩ := X1.out.cells
  obtain ⟨cc12a, cc12b, cc12c, cc12d⟩ := X2.out.cells
  go_wp2_with fail
  refine (lessq_rtl (Rtl.mk2 HT1h.out HU1h.out HD1h.out) (Rtl.mk2 HT2.out HU2.out HD2.out) HK1.out HK.out).mono ?_
  rintro e w13 ⟨rfl, hb⟩
  replace X1 := ix X1 hb
  replace X2 := nx X2 hb
  replace B := bb B hb
  clear cc11a cc11b cc11c cc11d cc11e cc11f cc11g cc11h cc12a cc12b cc12c cc12d
  clear hb 
  rw [HB.out]
  go_wp2_with fail
  go_ret
  exact ⟨rfl, B.out⟩

set_option maxHeartbeats 1000000 in
theorem has_c {w : World} {v u : Value} {p q x : Rat} {k : Nat} (h : Ivl w v p q k) (hx : Rtl w u x k) (h1 : ¬ x < p) (h2 : ¬ q < x) (hk1 : 1 ≤ k) (hk : k ≤ 68719476736) :
    Calls Try.prog 18 #[v, u] w fun e w' => e = .returned (.bool true) ∧ Below w.heap.size w w' := by
  have HK := hid hk
  have HK1 := hid hk1
  have HA := hid (show decide (x < p) = false by simp [h1])
  have HB := hid (show decide (q < x) = false by simp [h2])
  obtain ⟨s1a, p1a, n1a, c1a, s1b, p1b, n1b, c1b, s1c, p1c, n1c, c1c, s1d, p1d, n1d, c1d, rfl⟩ := h.opened
  obtain ⟨hl1, hh1⟩ := h.two
  obtain ⟨ht1l, d1l, hu1l, hd1l⟩ := hl1.two
  have HD1l := hid hd1l
  obtain ⟨ht1h, d1h, hu1h, hd1h⟩ := hh1.two
  have HD1h := hid hd1h
  obtain ⟨s2a, p2a, n2a, c2a, s2b, p2b, n2b, c2b, rfl⟩ := hx.opened
  obtain ⟨ht2, d2, hu2, hd2⟩ := hx.two
  have HD2 := hid hd2
  have B := hid (Below.refl w.heap.size w)
  have HT1l := hid ht1l
  have HU1l := hid hu1l
  have HT1h := hid ht1h
  have HU1h := hid hu1h
  have HT2 := hid ht2
  have HU2 := hid hu2
  have hb1 := (Below.refl _ _).alloc (Nat.le_refl w.heap.size) (.cells #[.bool s1a, .slice p1a n1a c1a, .bool s1b, .slice p1b n1b c1b, .bool s1c, .slice p1c n1c c1c, .bool s1d, .slice p1d n1d c1d] 42)
  have hx2 := Ibx.new w s1a p1a n1a c1a s1b p1b n1b c1b s1c p1c n1c c1c s1d p1d n1d c1d
  replace HT1l := wl HT1l hb1
  replace HU1l := wl HU1l hb1
  replace HT1h := wl HT1h hb1
  replace HU1h := wl HU1h hb1
  replace HT2 := wl HT2 hb1
  replace HU2 := wl HU2 hb1
  replace B := bb B hb1
  have X1 := hid hx2
  have hs3 : (w.alloc (.cells #[.bool s1a, .slice p1a n1a c1a, .bool s1b, .slice p1b n1b c1b, .bool s1c, .slice p1c n1c c1c, .bool s1d, .slice p1d n1d c1d] 42)).heap.size = w.heap.size + 1 := by simp
  clear hb1 hx2
  have hb4 := (Below.refl _ _).alloc (Nat.le_refl (w.alloc (.cells #[.bool s1a, .slice p1a n1a c1a, .bool s1b, .slice p1b n1b c1b, .bool s1c, .slice p1c n1c c1c, .bool s1d, .slice p1d n1d c1d] 42)).heap.size) (.cells #[.bool s2a, .slice p2a n2a c2a, .bool s2b, .slice p2b n2b c2b] 40)
  have hx5 := Nbx.new (w.alloc (.cells #[.bool s1a, .slice p1a n1a c1a, .bool s1b, .slice p1b n1b c1b, .bool s1c, .slice p1c n1c c1c, .bool s1d, .slice p1d n1d c1d] 42)) s2a s2b (.slice p2a n2a c2a) (.slice p2b n2b c2b)
  rw [hs3] at hx5
  replace X1 := ix X1 hb4
  replace HT1l := wl HT1l hb4
  replace HU1l := wl HU1l hb4
  replace HT1h := wl HT1h hb4
  replace HU1h := wl HU1h hb4
  replace HT2 := wl HT2 hb4
  replace HU2 := wl HU2 hb4
  replace B := bb B hb4
  have X2 := hid hx5
  have hs6 : ((w.alloc (.cells #[.bool s1a, .slice p1a n1a c1a, .bool s1b, .slice p1b n1b c1b, .bool s1c, .slice p1c n1c c1c, .bool s1d, .slice p1d n1d c1d] 42)).alloc (.cells #[.bool s2a, .slice p2a n2a c2a, .bool s2b, .slice p2b n2b c2b] 40)).heap.size = w.heap.size + 1 + 1 := by simp [hs3]
  clear hb4 hx5
  clear hs6 hk hk1 h1 h2 h hl1 hh1 ht1l hu1l hd1l ht1h hu1h hd1h hx ht2 hu2 hd2
  go_enter Try.func18, Try.ntmps18
  obtain ⟨cc7a, cc7b, cc7c, cc7d, cc7e, cc7f, cc7g, cc7h⟩ := X1.out.cells
  obtain ⟨cc8a, cc8b, cc8c, cc8d⟩ := X2.out.cells
  go_wp2_with fail
  generalize hW : (w.alloc (.cells #[.bool s1a, .slice p1a n1a c1a, .bool s1b, .slice p1b n1b c1b, .bool s1c, .slice p1c n1c c1c, .bool s1d, .slice p1d n1d c1d] 42)).alloc (.cells #[.bool s2a, .slice p2a n2a c2a, .bool s2b, .slice p2b n2b c2b] 40) = W9 at *
  clear hW
  refine (lessq_rtl (Rtl.mk2 HT2.out HU2.out HD2.out) (Rtl.mk2 HT1l.out HU1l.out HD1l.out) HK1.out HK.out).mono ?_
  rintro e w10 ⟨rfl, hb⟩
  replace X1 := ix X1 hb
  replace X2 := nx X2 hb
  replace HT1h := wl HT1h hb
  replace HU1h := wl HU1h hb
  replace HT2 := wl HT2 hb
  replace HU2 := wl HU2 hb
  replace B := bb B hb
  clear cc7a cc7b cc7c cc7d cc7e cc7f cc7g cc7h cc8a cc8b cc8c cc8d
  clear hb 
  rw [HA.out]
  obtain ⟨cc11a, cc11b, cc11c, cc11d, cc11e, cc11f, cc11g, cc11h⟩ := X1.out.cells
  obtain ⟨cc12a, cc12b, cc12c, cc12d⟩ := X2.out.cells
  go_wp2_with fail
  refine (lessq_rtl (Rtl.mk2 HT1h.out HU1h.out HD1h.out) (Rtl.mk2 HT2.out HU2.out HD2.out) HK1.out HK.out).mono ?_
  rintro e w13 ⟨rfl, hb⟩
  replace X1 := ix X1 hb
  replace X2 := nx X2 hb
  replace B := bb B hb
  clear cc11a cc11b cc11c cc11d cc11e cc11f cc11g cc11h cc12a cc12b cc12c cc12d
  clear hb 
  rw [HB.out]
  go_wp2_with fail
  go_ret
  exact ⟨rfl, B.out⟩

theorem has_ivl {w : World} {v u : Value} {p q x : Rat} {k : Nat} (h : Ivl w v p q k) (hx : Rtl w u x k) (hk1 : 1 ≤ k) (hk : k ≤ 68719476736) :
    Calls Try.prog 18 #[v, u] w fun e w' => e = .returned (.bool (decide (p ≤ x ∧ x ≤ q))) ∧ Below w.heap.size w w' := by
  by_cases h1 : x < p
  · rw [decide_eq_false (by grind)]; exact has_a h hx h1 hk1 hk
  · by_cases h2 : q < x
    · rw [decide_eq_false (by grind)]; exact has_b h hx h1 h2 hk1 hk
    · rw [decide_eq_true (by grind)]; exact has_c h hx h1 h2 hk1 hk

end Go.Proofs.Ytkdeopikojgboaa

/-
  PACKAGE ival: Has, Check.
-/
namespace Go.Proofs.Ytkdeopikojgboaa
open Go.RowKit
open Num
set_option linter.unusedVariables false
set_option maxRecDepth 100000
set_option linter.unusedSimpArgs false

set_option maxHeartbeats 4000000 in
theorem ihas_a {a b x : ByteArray} {k : Int} (h : BadI a b k) (ha : a.size ≤ maxLen) (hb0 : b.size ≤ maxLen) (w : World) :
    Calls Try.prog 7 #[.agg #[.string a, .string b], .string x] w fun e w' => e = .returned (.tuple #[.bool false, errno k]) ∧ Below w.heap.size w w' := by
  have hne := errv_neq
  have hgd := errv_guard
  have hkk := errv_some h.ne
  have H1 := hid (fun w => iread_bad h ha hb0 w)
  have B := hid (Below.refl w.heap.size w)
  have hb1 := (Below.refl _ _).alloc (Nat.le_refl w.heap.size) (.cells #[.string a, .string b] 23)
  have hx2 := Vbx.new w a b
  replace B := bb B hb1
  have X1 := hid hx2
  have hs3 : (w.alloc (.cells #[.string a, .string b] 23)).heap.size = w.heap.size + 1 := by simp
  clear hb1 hx2
  clear hs3 h
  go_enter Try.func7, Try.ntmps7
  obtain ⟨cc4a, cc4b⟩ := X1.out.both
  go_wp2_with fail
  generalize hW : w.alloc (.cells #[.string a, .string b] 23) = W5 at *
  clear hW
  refine (H1.out _).mono ?_
  rintro e w6 ⟨rfl, hb⟩
  replace B := bb B hb
  clear cc4a cc4b
  clear hb H1
  have hb7 := (Below.refl _ _).alloc (Nat.le_refl w6.heap.size) (.cells #[.bool false, .slice none 0 0, .bool false, .slice none 0 0, .bool false, .slice none 0 0, .bool false, .slice none 0 0] 42)
  have hx8 := Ibx.new w6 false none 0 0 false none 0 0 false none 0 0 false none 0 0
  replace B := bb B hb7
  have X5 := hid hx8
  have hs9 : (w6.alloc (.cells #[.bool false, .slice none 0 0, .bool false, .slice none 0 0, .bool false, .slice none 0 0, .bool false, .slice none 0 0] 42)).heap.size = w6.heap.size + 1 := by simp
  clear hb7 hx8
  obtain ⟨cc10a, cc10b, cc10c, cc10d, cc10e, cc10f, cc10g, cc10h⟩ := X5.out.cells
  go_wp2_with fail
  go_ret2
  exact ⟨rfl, B.out⟩

set_option maxHeartbeats 4000000 in
theorem ihas_b {a b x : ByteArray} {k : Int} (h1 : GoodI a b) (h2 : BadQ x k) (hx0 : x.size ≤ maxLen) (w : World) :
    Calls Try.prog 7 #[.agg #[.string a, .string b], .string x] w fun e w' => e = .returned (.tuple #[.bool false, errno k]) ∧ Below w.heap.size w w' := by
  have hne := errv_neq
  have hgd := errv_guard
  have H1 := hid (fun w => iread_good h1 w)
  have hkk := errv_some h2.ne
  have H2 := hid (fun w => qread_bad h2 w hx0)
  have B := hid (Below.refl w.heap.size w)
  have hb1 := (Below.refl _ _).alloc (Nat.le_refl w.heap.size) (.cells #[.string a, .string b] 23)
  have hx2 := Vbx.new w a b
  replace B := bb B hb1
  have X1 := hid hx2
  have hs3 : (w.alloc (.cells #[.string a, .string b] 23)).heap.size = w.heap.size + 1 := by simp
  clear hb1 hx2
  clear hs3 h1 h2
  go_enter Try.func7, Try.ntmps7
  obtain ⟨cc4a, cc4b⟩ := X1.out.both
  go_wp2_with fail
  generalize hW : w.alloc (.cells #[.string a, .string b] 23) = W5 at *
  clear hW
  refine (H1.out _).mono ?_
  rintro e w6 ⟨v, rfl, hv, hb⟩
  obtain ⟨s5a, p5a, n5a, c5a, s5b, p5b, n5b, c5b, s5c, p5c, n5c, c5c, s5d, p5d, n5d, c5d, rfl⟩ := hv.opened
  obtain ⟨hl5, hh5⟩ := hv.two
  obtain ⟨ht5l, d5l, hu5l, hd5l⟩ := hl5.two
  have HD5l := hid hd5l
  obtain ⟨ht5h, d5h, hu5h, hd5h⟩ := hh5.two
  have HD5h := hid hd5h
  replace B := bb B hb
  clear cc4a cc4b
  have HT5l := hid ht5l
  have HU5l := hid hu5l
  have HT5h := hid ht5h
  have HU5h := hid hu5h
  clear hb hv hl5 hh5 ht5l hu5l hd5l ht5h hu5h hd5h H1
  have hb7 := (Below.refl _ _).alloc (Nat.le_refl w6.heap.size) (.cells #[.bool s5a, .slice p5a n5a c5a, .bool s5b, .slice p5b n5b c5b, .bool s5c, .slice p5c n5c c5c, .bool s5d, .slice p5d n5d c5d] 42)
  have hx8 := Ibx.new w6 s5a p5a n5a c5a s5b p5b n5b c5b s5c p5c n5c c5c s5d p5d n5d c5d
  replace B := bb B hb7
  have X5 := hid hx8
  have hs9 : (w6.alloc (.cells #[.bool s5a, .slice p5a n5a c5a, .bool s5b, .slice p5b n5b c5b, .bool s5c, .slice p5c n5c c5c, .bool s5d, .slice p5d n5d c5d] 42)).heap.size = w6.heap.size + 1 := by simp
  clear hb7 hx8
  obtain ⟨cc10a, cc10b, cc10c, cc10d, cc10e, cc10f, cc10g, cc10h⟩ := X5.out.cells
  go_wp2_with fail
  generalize hW : w6.alloc (.cells #[.bool s5a, .slice p5a n5a c5a, .bool s5b, .slice p5b n5b c5b, .bool s5c, .slice p5c n5c c5c, .bool s5d, .slice p5d n5d c5d] 42) = W11 at *
  clear hW
  refine (H2.out _).mono ?_
  rintro e w12 ⟨rfl, hb⟩
  replace B := bb B hb
  clear cc10a cc10b cc10c cc10d cc10e cc10f cc10g cc10h
  clear hb H2
  have hb13 := (Below.refl _ _).alloc (Nat.le_refl w12.heap.size) (.cells #[.bool false, .slice none 0 0, .bool false, .slice none 0 0] 40)
  have hx14 := Nbx.new w12 false false (.slice none 0 0) (.slice none 0 0)
  replace B := bb B hb13
  have X6 := hid hx14
  have hs15 : (w12.alloc (.cells #[.bool false, .slice none 0 0, .bool false, .slice none 0 0] 40)).heap.size = w12.heap.size + 1 := by simp
  clear hb13 hx14
  obtain ⟨cc16a, cc16b, cc16c, cc16d⟩ := X6.out.cells
  go_wp2_with fail
  go_ret2
  exact ⟨rfl, B.out⟩

set_option maxHeartbeats 4000000 in
theorem ihas_c {a b x : ByteArray} (h1 : GoodI a b) (h2 : GoodQ x) (w : World) :
    Calls Try.prog 7 #[.agg #[.string a, .string b], .string x] w fun e w' => e = .returned (.tuple #[.bool (decide (qnum a ≤ qnum x ∧ qnum x ≤ qnum b)), .nilIface]) ∧ Below w.heap.size w w' := by
  have hne := errv_neq
  have hgd := errv_guard
  have H1 := hid (fun w => iread_good h1 w)
  have H2 := hid (fun w => qread_good h2 w)
  obtain ⟨t, ht⟩ : ∃ t : Bool, t = decide (qnum a ≤ qnum x ∧ qnum x ≤ qnum b) := ⟨_, rfl⟩
  have HT := hid ht
  clear ht
  have B := hid (Below.refl w.heap.size w)
  have hb1 := (Below.refl _ _).alloc (Nat.le_refl w.heap.size) (.cells #[.string a, .string b] 23)
  have hx2 := Vbx.new w a b
  replace B := bb B hb1
  have X1 := hid hx2
  have hs3 : (w.alloc (.cells #[.string a, .string b] 23)).heap.size = w.heap.size + 1 := by simp
  clear hb1 hx2
  clear hs3 h1 h2
  go_enter Try.func7, Try.ntmps7
  obtain ⟨cc4a, cc4b⟩ := X1.out.both
  go_wp2_with fail
  generalize hW : w.alloc (.cells #[.string a, .string b] 23) = W5 at *
  clear hW
  refine (H1.out _).mono ?_
  rintro e w6 ⟨v, rfl, hv, hb⟩
  obtain ⟨s5a, p5a, n5a, c5a, s5b, p5b, n5b, c5b, s5c, p5c, n5c, c5c, s5d, p5d, n5d, c5d, rfl⟩ := hv.opened
  obtain ⟨hl5, hh5⟩ := hv.two
  obtain ⟨ht5l, d5l, hu5l, hd5l⟩ := hl5.two
  have HD5l := hid hd5l
  obtain ⟨ht5h, d5h, hu5h, hd5h⟩ := hh5.two
  have HD5h := hid hd5h
  replace B := bb B hb
  clear cc4a cc4b
  have HT5l := hid ht5l
  have HU5l := hid hu5l
  have HT5h := hid ht5h
  have HU5h := hid hu5h
  clear hb hv hl5 hh5 ht5l hu5l hd5l ht5h hu5h hd5h H1
  have hb7 := (Below.refl _ _).alloc (Nat.le_refl w6.heap.size) (.cells #[.bool s5a, .slice p5a n5a c5a, .bool s5b, .slice p5b n5b c5b, .bool s5c, .slice p5c n5c c5c, .bool s5d, .slice p5d n5d c5d] 42)
  have hx8 := Ibx.new w6 s5a p5a n5a c5a s5b p5b n5b c5b s5c p5c n5c c5c s5d p5d n5d c5d
  replace HT5l := wl HT5l hb7
  replace HU5l := wl HU5l hb7
  replace HT5h := wl HT5h hb7
  replace HU5h := wl HU5h hb7
  replace B := bb B hb7
  have X5 := hid hx8
  have hs9 : (w6.alloc (.cells #[.bool s5a, .slice p5a n5a c5a, .bool s5b, .slice p5b n5b c5b, .bool s5c, .slice p5c n5c c5c, .bool s5d, .slice p5d n5d c5d] 42)).heap.size = w6.heap.size + 1 := by simp
  clear hb7 hx8
  obtain ⟨cc10a, cc10b, cc10c, cc10d, cc10e, cc10f, cc10g, cc10h⟩ := X5.out.cells
  go_wp2_with fail
  generalize hW : w6.alloc (.cells #[.bool s5a, .slice p5a n5a c5a, .bool s5b, .slice p5b n5b c5b, .bool s5c, .slice p5c n5c c5c, .bool s5d, .slice p5d n5d c5d] 42) = W11 at *
  clear hW
  refine (H2.out _).mono ?_
  rintro e w12 ⟨v, rfl, hv, hb⟩
  obtain ⟨s6a, p6a, n6a, c6a, s6b, p6b, n6b, c6b, rfl⟩ := hv.opened
  obtain ⟨ht6, d6, hu6, hd6⟩ := hv.two
  have HD6 := hid hd6
  replace X5 := ix X5 hb
  replace HT5l := wl HT5l hb
  replace HU5l := wl HU5l hb
  replace HT5h := wl HT5h hb
  replace HU5h := wl HU5h hb
  replace B := bb B hb
  clear cc10a cc10b cc10c cc10d cc10e cc10f cc10g cc10h
  have HT6 := hid ht6
  have HU6 := hid hu6
  clear hb hv ht6 hu6 hd6 H2
  have hb13 := (Below.refl _ _).alloc (Nat.le_refl w12.heap.size) (.cells #[.bool s6a, .slice p6a n6a c6a, .bool s6b, .slice p6b n6b c6b] 40)
  have hx14 := Nbx.new w12 s6a s6b (.slice p6a n6a c6a) (.slice p6b n6b c6b)
  have L0 := hid X5.out.lt
  replace X5 := ix X5 hb13
  replace HT5l := wl HT5l hb13
  replace HU5l := wl HU5l hb13
  replace HT5h := wl HT5h hb13
  replace HU5h := wl HU5h hb13
  replace HT6 := wl HT6 hb13
  replace HU6 := wl HU6 hb13
  replace B := bb B hb13
  have X6 := hid hx14
  have hs15 : (w12.alloc (.cells #[.bool s6a, .slice p6a n6a c6a, .bool s6b, .slice p6b n6b c6b] 40)).heap.size = w12.heap.size + 1 := by simp
  clear hb13 hx14
  obtain ⟨cc16a, cc16b, cc16c, cc16d, cc16e, cc16f, cc16g, cc16h⟩ := X5.out.cells
  obtain ⟨cc17a, cc17b, cc17c, cc17d⟩ := X6.out.cells
  go_wp2_with fail
  generalize hW : w12.alloc (.cells #[.bool s6a, .slice p6a n6a c6a, .bool s6b, .slice p6b n6b c6b] 40) = W18 at *
  clear hW
  have HC := has_ivl (Ivl.mk2 (Rtl.mk2 HT5l.out HU5l.out HD5l.out) (Rtl.mk2 HT5h.out HU5h.out HD5h.out)) (Rtl.mk2 HT6.out HU6.out HD6.out) (by decide) (by decide)
  rw [← HT.out] at HC
  refine (HC).mono ?_
  rintro e w19 ⟨rfl, hb⟩
  replace B := bb B hb
  clear cc16a cc16b cc16c cc16d cc16e cc16f cc16g cc16h cc17a cc17b cc17c cc17d
  clear hb 
  clear HC
  go_wp2_with fail
  go_ret2
  refine ⟨?_, B.out⟩
  rw [← HT.out]
  rfl

end Go.Proofs.Ytkdeopikojgboaa
