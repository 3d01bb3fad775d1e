import Derived.Test.YtkdeopikojgboaaGreatDoorBunProofIvalTells18
import Derived.Deep.RegionHeld3
import Derived.Test.YtkdeopikojgboaaGreatDoorBunProofIvalTells16
import Derived.Test.YtkdeopikojgboaaGreatDoorBunProofIvalTells14
/-
  PACKAGE ival: readBoth.
-/
namespace Go.Proofs.YtkdeopikojgboaaGreatDoor
open Go.RowKit
open Num
set_option linter.unusedVariables false
set_option maxRecDepth 100000
set_option linter.unusedSimpArgs false

set_option maxHeartbeats 4000000 in
theorem iboth_1 {a b c d : ByteArray} {k : Int} (h : BadI a b k) (ha : a.size ≤ maxLen) (hb0 : b.size ≤ maxLen) (hc0 : c.size ≤ maxLen) (hd0 : d.size ≤ maxLen) (w : World) :
    Calls Tryz.prog 42 #[.agg #[.string a, .string b], .agg #[.string c, .string d]] w fun e w' => e = .returned (.tuple #[.agg #[.bool false, .slice none 0 0, .bool false, .slice none 0 0, .bool false, .slice none 0 0, .bool false, .slice none 0 0], .agg #[.bool false, .slice none 0 0, .bool false, .slice none 0 0, .bool false, .slice none 0 0, .bool false, .slice none 0 0], errno k]) ∧ Below w.heap.size w w' := by
  have hne := errv_neq
  have hgd := errv_guard
  have hkk := errv_some h.ne
  have H1 := hid (fun w => iread_bad h ha hb0 w)
  have B := hid (Below.refl w.heap.size w)
  have hb1 := (Below.refl _ _).alloc (Nat.le_refl w.heap.size) (.cells #[.string a, .string b] 23)
  have hx2 := Vbx.new w a b
  replace B := bb B hb1
  have X1 := hid hx2
  have hs3 : (w.alloc (.cells #[.string a, .string b] 23)).heap.size = w.heap.size + 1 := by simp
  clear hb1 hx2
  have hb4 := (Below.refl _ _).alloc (Nat.le_refl (w.alloc (.cells #[.string a, .string b] 23)).heap.size) (.cells #[.string c, .string d] 23)
  have hx5 := Vbx.new (w.alloc (.cells #[.string a, .string b] 23)) c d
  rw [hs3] at hx5
  replace X1 := vx X1 hb4
  replace B := bb B hb4
  have X2 := hid hx5
  have hs6 : ((w.alloc (.cells #[.string a, .string b] 23)).alloc (.cells #[.string c, .string d] 23)).heap.size = w.heap.size + 1 + 1 := by simp [hs3]
  clear hb4 hx5
  have hb7 := (Below.refl _ _).alloc (Nat.le_refl ((w.alloc (.cells #[.string a, .string b] 23)).alloc (.cells #[.string c, .string d] 23)).heap.size) (.cells #[.bool false, .slice none 0 0, .bool false, .slice none 0 0, .bool false, .slice none 0 0, .bool false, .slice none 0 0] 62)
  have hx8 := Ibx.new ((w.alloc (.cells #[.string a, .string b] 23)).alloc (.cells #[.string c, .string d] 23)) false none 0 0 false none 0 0 false none 0 0 false none 0 0
  rw [hs6] at hx8
  replace X1 := vx X1 hb7
  replace X2 := vx X2 hb7
  replace B := bb B hb7
  have R1 := hid hx8
  have hs9 : (((w.alloc (.cells #[.string a, .string b] 23)).alloc (.cells #[.string c, .string d] 23)).alloc (.cells #[.bool false, .slice none 0 0, .bool false, .slice none 0 0, .bool false, .slice none 0 0, .bool false, .slice none 0 0] 62)).heap.size = w.heap.size + 1 + 1 + 1 := by simp [hs6]
  clear hb7 hx8
  have hb10 := (Below.refl _ _).alloc (Nat.le_refl (((w.alloc (.cells #[.string a, .string b] 23)).alloc (.cells #[.string c, .string d] 23)).alloc (.cells #[.bool false, .slice none 0 0, .bool false, .slice none 0 0, .bool false, .slice none 0 0, .bool false, .slice none 0 0] 62)).heap.size) (.cells #[.bool false, .slice none 0 0, .bool false, .slice none 0 0, .bool false, .slice none 0 0, .bool false, .slice none 0 0] 62)
  have hx11 := Ibx.new (((w.alloc (.cells #[.string a, .string b] 23)).alloc (.cells #[.string c, .string d] 23)).alloc (.cells #[.bool false, .slice none 0 0, .bool false, .slice none 0 0, .bool false, .slice none 0 0, .bool false, .slice none 0 0] 62)) false none 0 0 false none 0 0 false none 0 0 false none 0 0
  rw [hs9] at hx11
  replace X1 := vx X1 hb10
  replace X2 := vx X2 hb10
  replace R1 := ix R1 hb10
  replace B := bb B hb10
  have R2 := hid hx11
  have hs12 : ((((w.alloc (.cells #[.string a, .string b] 23)).alloc (.cells #[.string c, .string d] 23)).alloc (.cells #[.bool false, .slice none 0 0, .bool false, .slice none 0 0, .bool false, .slice none 0 0, .bool false, .slice none 0 0] 62)).alloc (.cells #[.bool false, .slice none 0 0, .bool false, .slice none 0 0, .bool false, .slice none 0 0, .bool false, .slice none 0 0] 62)).heap.size = w.heap.size + 1 + 1 + 1 + 1 := by simp [hs9]
  clear hb10 hx11
  clear hs12 h
  go_enter Tryz.func42, Tryz.ntmps42
  obtain ⟨cc13a, cc13b⟩ := X1.out.both
  obtain ⟨cc14a, cc14b⟩ := X2.out.both
  obtain ⟨cc15a, cc15b, cc15c, cc15d, cc15e, cc15f, cc15g, cc15h⟩ := R1.out.cells
  obtain ⟨cc16a, cc16b, cc16c, cc16d, cc16e, cc16f, cc16g, cc16h⟩ := R2.out.cells
  go_wp2_with fail
  generalize hW : (((w.alloc (.cells #[.string a, .string b] 23)).alloc (.cells #[.string c, .string d] 23)).alloc (.cells #[.bool false, .slice none 0 0, .bool false, .slice none 0 0, .bool false, .slice none 0 0, .bool false, .slice none 0 0] 62)).alloc (.cells #[.bool false, .slice none 0 0, .bool false, .slice none 0 0, .bool false, .slice none 0 0, .bool false, .slice none 0 0] 62) = W17 at *
  clear hW
  refine (H1.out _).mono ?_
  rintro e w18 ⟨rfl, hb⟩
  replace X2 := vx X2 hb
  replace R1 := ix R1 hb
  replace R2 := ix R2 hb
  replace B := bb B hb
  clear cc13a cc13b cc14a cc14b cc15a cc15b cc15c cc15d cc15e cc15f cc15g cc15h cc16a cc16b cc16c cc16d cc16e cc16f cc16g cc16h
  clear hb H1
  obtain ⟨cc19a, cc19b, cc19c, cc19d, cc19e, cc19f, cc19g, cc19h⟩ := R1.out.cells
  obtain ⟨cc20a, cc20b, cc20c, cc20d, cc20e, cc20f, cc20g, cc20h⟩ := R2.out.cells
  obtain ⟨⟨cc21a, cc21b⟩, ⟨cc21c, cc21d⟩, ⟨cc21e, cc21f⟩, ⟨cc21g, cc21h⟩, ⟨cc21i, cc21j⟩, ⟨cc21k, cc21l⟩, ⟨cc21m, cc21n⟩, cc21o, cc21p⟩ := R1.out.stores
  obtain ⟨r22a, r22b, r22c⟩ := R1.out.last B.out (by omega) false none 0 0 false none 0 0 false none 0 0 false none 0 0
  replace R2 := hid ((((((((R2.out.other (g2 := w.heap.size + 1 + 1) (by omega) 0 (.bool false)).other (g2 := w.heap.size + 1 + 1) (by omega) 1 (.slice none 0 0)).other (g2 := w.heap.size + 1 + 1) (by omega) 2 (.bool false)).other (g2 := w.heap.size + 1 + 1) (by omega) 3 (.slice none 0 0)).other (g2 := w.heap.size + 1 + 1) (by omega) 4 (.bool false)).other (g2 := w.heap.size + 1 + 1) (by omega) 5 (.slice none 0 0)).other (g2 := w.heap.size + 1 + 1) (by omega) 6 (.bool false)).other (g2 := w.heap.size + 1 + 1) (by omega) 7 (.slice none 0 0))
  replace R1 := hid r22a
  replace B := hid r22b
  clear r22a r22b r22c
  obtain ⟨cc23a, cc23b, cc23c, cc23d, cc23e, cc23f, cc23g, cc23h⟩ := R1.out.cells
  obtain ⟨cc24a, cc24b, cc24c, cc24d, cc24e, cc24f, cc24g, cc24h⟩ := R2.out.cells
  obtain ⟨⟨cc25a, cc25b⟩, ⟨cc25c, cc25d⟩, ⟨cc25e, cc25f⟩, ⟨cc25g, cc25h⟩, ⟨cc25i, cc25j⟩, ⟨cc25k, cc25l⟩, ⟨cc25m, cc25n⟩, cc25o, cc25p⟩ := R1.out.stores
  obtain ⟨r26a, r26b, r26c⟩ := R1.out.last B.out (by omega) false none 0 0 false none 0 0 false none 0 0 false none 0 0
  replace R2 := hid ((((((((R2.out.other (g2 := w.heap.size + 1 + 1) (by omega) 0 (.bool false)).other (g2 := w.heap.size + 1 + 1) (by omega) 1 (.slice none 0 0)).other (g2 := w.heap.size + 1 + 1) (by omega) 2 (.bool false)).other (g2 := w.heap.size + 1 + 1) (by omega) 3 (.slice none 0 0)).other (g2 := w.heap.size + 1 + 1) (by omega) 4 (.bool false)).other (g2 := w.heap.size + 1 + 1) (by omega) 5 (.slice none 0 0)).other (g2 := w.heap.size + 1 + 1) (by omega) 6 (.bool false)).other (g2 := w.heap.size + 1 + 1) (by omega) 7 (.slice none 0 0))
  replace R1 := hid r26a
  replace B := hid r26b
  clear r26a r26b r26c
  obtain ⟨cc27a, cc27b, cc27c, cc27d, cc27e, cc27f, cc27g, cc27h⟩ := R1.out.cells
  obtain ⟨cc28a, cc28b, cc28c, cc28d, cc28e, cc28f, cc28g, cc28h⟩ := R2.out.cells
  obtain ⟨⟨cc29a, cc29b⟩, ⟨cc29c, cc29d⟩, ⟨cc29e, cc29f⟩, ⟨cc29g, cc29h⟩, ⟨cc29i, cc29j⟩, ⟨cc29k, cc29l⟩, ⟨cc29m, cc29n⟩, cc29o, cc29p⟩ := R2.out.stores
  obtain ⟨r30a, r30b, r30c⟩ := R2.out.last B.out (by omega) false none 0 0 false none 0 0 false none 0 0 false none 0 0
  replace R1 := hid ((((((((R1.out.other (g2 := w.heap.size + 1 + 1 + 1) (by omega) 0 (.bool false)).other (g2 := w.heap.size + 1 + 1 + 1) (by omega) 1 (.slice none 0 0)).other (g2 := w.heap.size + 1 + 1 + 1) (by omega) 2 (.bool false)).other (g2 := w.heap.size + 1 + 1 + 1) (by omega) 3 (.slice none 0 0)).other (g2 := w.heap.size + 1 + 1 + 1) (by omega) 4 (.bool false)).other (g2 := w.heap.size + 1 + 1 + 1) (by omega) 5 (.slice none 0 0)).other (g2 := w.heap.size + 1 + 1 + 1) (by omega) 6 (.bool false)).other (g2 := w.heap.size + 1 + 1 + 1) (by omega) 7 (.slice none 0 0))
  replace R2 := hid r30a
  replace B := hid r30b
  clear r30a r30b r30c
  obtain ⟨cc31a, cc31b, cc31c, cc31d, cc31e, cc31f, cc31g, cc31h⟩ := R1.out.cells
  obtain ⟨cc32a, cc32b, cc32c, cc32d, cc32e, cc32f, cc32g, cc32h⟩ := R2.out.cells
  go_wp2_with fail
  refine bodyPost_ret (res_ii_tmp rfl rfl rfl rfl R1.out R2.out) rfl ?_
  exact ⟨rfl, B.out⟩

set_option maxHeartbeats 4000000 in
theorem iboth_2 {a b c d : ByteArray} {k : Int} (h1 : GoodI a b) (h2 : BadI c d k) (ha : a.size ≤ maxLen) (hb0 : b.size ≤ maxLen) (hc0 : c.size ≤ maxLen) (hd0 : d.size ≤ maxLen) (w : World) :
    Calls Tryz.prog 42 #[.agg #[.string a, .string b], .agg #[.string c, .string d]] w fun e w' => e = .returned (.tuple #[.agg #[.bool false, .slice none 0 0, .bool false, .slice none 0 0, .bool false, .slice none 0 0, .bool false, .slice none 0 0], .agg #[.bool false, .slice none 0 0, .bool false, .slice none 0 0, .bool false, .slice none 0 0, .bool false, .slice none 0 0], errno k]) ∧ Below w.heap.size w w' := by
  have hne := errv_neq
  have hgd := errv_guard
  have hkk := errv_some h2.ne
  have H1 := hid (fun w => iread_good h1 w)
  have H2 := hid (fun w => iread_bad h2 hc0 hd0 w)
  have B := hid (Below.refl w.heap.size w)
  have hb1 := (Below.refl _ _).alloc (Nat.le_refl w.heap.size) (.cells #[.string a, .string b] 23)
  have hx2 := Vbx.new w a b
  replace B := bb B hb1
  have X1 := hid hx2
  have hs3 : (w.alloc (.cells #[.string a, .string b] 23)).heap.size = w.heap.size + 1 := by simp
  clear hb1 hx2
  have hb4 := (Below.refl _ _).alloc (Nat.le_refl (w.alloc (.cells #[.string a, .string b] 23)).heap.size) (.cells #[.string c, .string d] 23)
  have hx5 := Vbx.new (w.alloc (.cells #[.string a, .string b] 23)) c d
  rw [hs3] at hx5
  replace X1 := vx X1 hb4
  replace B := bb B hb4
  have X2 := hid hx5
  have hs6 : ((w.alloc (.cells #[.string a, .string b] 23)).alloc (.cells #[.string c, .string d] 23)).heap.size = w.heap.size + 1 + 1 := by simp [hs3]
  clear hb4 hx5
  have hb7 := (Below.refl _ _).alloc (Nat.le_refl ((w.alloc (.cells #[.string a, .string b] 23)).alloc (.cells #[.string c, .string d] 23)).heap.size) (.cells #[.bool false, .slice none 0 0, .bool false, .slice none 0 0, .bool false, .slice none 0 0, .bool false, .slice none 0 0] 62)
  have hx8 := Ibx.new ((w.alloc (.cells #[.string a, .string b] 23)).alloc (.cells #[.string c, .string d] 23)) false none 0 0 false none 0 0 false none 0 0 false none 0 0
  rw [hs6] at hx8
  replace X1 := vx X1 hb7
  replace X2 := vx X2 hb7
  replace B := bb B hb7
  have R1 := hid hx8
  have hs9 : (((w.alloc (.cells #[.string a, .string b] 23)).alloc (.cells #[.string c, .string d] 23)).alloc (.cells #[.bool false, .slice none 0 0, .bool false, .slice none 0 0, .bool false, .slice none 0 0, .bool false, .slice none 0 0] 62)).heap.size = w.heap.size + 1 + 1 + 1 := by simp [hs6]
  clear hb7 hx8
  have hb10 := (Below.refl _ _).alloc (Nat.le_refl (((w.alloc (.cells #[.string a, .string b] 23)).alloc (.cells #[.string c, .string d] 23)).alloc (.cells #[.bool false, .slice none 0 0, .bool false, .slice none 0 0, .bool false, .slice none 0 0, .bool false, .slice none 0 0] 62)).heap.size) (.cells #[.bool false, .slice none 0 0, .bool false, .slice none 0 0, .bool false, .slice none 0 0, .bool false, .slice none 0 0] 62)
  have hx11 := Ibx.new (((w.alloc (.cells #[.string a, .string b] 23)).alloc (.cells #[.string c, .string d] 23)).alloc (.cells #[.bool false, .slice none 0 0, .bool false, .slice none 0 0, .bool false, .slice none 0 0, .bool false, .slice none 0 0] 62)) false none 0 0 false none 0 0 false none 0 0 false none 0 0
  rw [hs9] at hx11
  replace X1 := vx X1 hb10
  replace X2 := vx X2 hb10
  replace R1 := ix R1 hb10
  replace B := bb B hb10
  have R2 := hid hx11
  have hs12 : ((((w.alloc (.cells #[.string a, .string b] 23)).alloc (.cells #[.string c, .string d] 23)).alloc (.cells #[.bool false, .slice none 0 0, .bool false, .slice none 0 0, .bool false, .slice none 0 0, .bool false, .slice none 0 0] 62)).alloc (.cells #[.bool false, .slice none 0 0, .bool false, .slice none 0 0, .bool false, .slice none 0 0, .bool false, .slice none 0 0] 62)).heap.size = w.heap.size + 1 + 1 + 1 + 1 := by simp [hs9]
  clear hb10 hx11
  clear hs12 h1 h2
  go_enter Tryz.func42, Tryz.ntmps42
  obtain ⟨cc13a, cc13b⟩ := X1.out.both
  obtain ⟨cc14a, cc14b⟩ := X2.out.both
  obtain ⟨cc15a, cc15b, cc15c, cc15d, cc15e, cc15f, cc15g, cc15h⟩ := R1.out.cells
  obtain ⟨cc16a, cc16b, cc16c, cc16d, cc16e, cc16f, cc16g, cc16h⟩ := R2.out.cells
  go_wp2_with fail
  generalize hW : (((w.alloc (.cells #[.string a, .string b] 23)).alloc (.cells #[.string c, .string d] 23)).alloc (.cells #[.bool false, .slice none 0 0, .bool false, .slice none 0 0, .bool false, .slice none 0 0, .bool false, .slice none 0 0] 62)).alloc (.cells #[.bool false, .slice none 0 0, .bool false, .slice none 0 0, .bool false, .slice none 0 0, .bool false, .slice none 0 0] 62) = W17 at *
  clear hW
  refine (H1.out _).mono ?_
  rintro e w18 ⟨v, rfl, hv, hb⟩
  obtain ⟨s5a, p5a, n5a, c5a, s5b, p5b, n5b, c5b, s5c, p5c, n5c, c5c, s5d, p5d, n5d, c5d, rfl⟩ := hv.opened
  obtain ⟨hl5, hh5⟩ := hv.two
  obtain ⟨ht5l, d5l, hu5l, hd5l⟩ := hl5.two
  have HD5l := hid hd5l
  obtain ⟨ht5h, d5h, hu5h, hd5h⟩ := hh5.two
  have HD5h := hid hd5h
  replace X2 := vx X2 hb
  replace R1 := ix R1 hb
  replace R2 := ix R2 hb
  replace B := bb B hb
  clear cc13a cc13b cc14a cc14b cc15a cc15b cc15c cc15d cc15e cc15f cc15g cc15h cc16a cc16b cc16c cc16d cc16e cc16f cc16g cc16h
  have HT5l := hid ht5l
  have HU5l := hid hu5l
  have HT5h := hid ht5h
  have HU5h := hid hu5h
  clear hb hv hl5 hh5 ht5l hu5l hd5l ht5h hu5h hd5h H1
  obtain ⟨cc19a, cc19b⟩ := X2.out.both
  obtain ⟨cc20a, cc20b, cc20c, cc20d, cc20e, cc20f, cc20g, cc20h⟩ := R1.out.cells
  obtain ⟨cc21a, cc21b, cc21c, cc21d, cc21e, cc21f, cc21g, cc21h⟩ := R2.out.cells
  obtain ⟨⟨cc22a, cc22b⟩, ⟨cc22c, cc22d⟩, ⟨cc22e, cc22f⟩, ⟨cc22g, cc22h⟩, ⟨cc22i, cc22j⟩, ⟨cc22k, cc22l⟩, ⟨cc22m, cc22n⟩, cc22o, cc22p⟩ := R1.out.stores
  obtain ⟨r23a, r23b, r23c⟩ := R1.out.last B.out (by omega) s5a p5a n5a c5a s5b p5b n5b c5b s5c p5c n5c c5c s5d p5d n5d c5d
  replace X2 := hid ((((((((X2.out.other (g2 := w.heap.size + 1 + 1) (by omega) 0 (.bool s5a)).other (g2 := w.heap.size + 1 + 1) (by omega) 1 (.slice p5a n5a c5a)).other (g2 := w.heap.size + 1 + 1) (by omega) 2 (.bool s5b)).other (g2 := w.heap.size + 1 + 1) (by omega) 3 (.slice p5b n5b c5b)).other (g2 := w.heap.size + 1 + 1) (by omega) 4 (.bool s5c)).other (g2 := w.heap.size + 1 + 1) (by omega) 5 (.slice p5c n5c c5c)).other (g2 := w.heap.size + 1 + 1) (by omega) 6 (.bool s5d)).other (g2 := w.heap.size + 1 + 1) (by omega) 7 (.slice p5d n5d c5d))
  replace R2 := hid ((((((((R2.out.other (g2 := w.heap.size + 1 + 1) (by omega) 0 (.bool s5a)).other (g2 := w.heap.size + 1 + 1) (by omega) 1 (.slice p5a n5a c5a)).other (g2 := w.heap.size + 1 + 1) (by omega) 2 (.bool s5b)).other (g2 := w.heap.size + 1 + 1) (by omega) 3 (.slice p5b n5b c5b)).other (g2 := w.heap.size + 1 + 1) (by omega) 4 (.bool s5c)).other (g2 := w.heap.size + 1 + 1) (by omega) 5 (.slice p5c n5c c5c)).other (g2 := w.heap.size + 1 + 1) (by omega) 6 (.bool s5d)).other (g2 := w.heap.size + 1 + 1) (by omega) 7 (.slice p5d n5d c5d))
  replace HT5l := hid (r23c HT5l.out)
  replace HU5l := hid (r23c HU5l.out)
  replace HT5h := hid (r23c HT5h.out)
  replace HU5h := hid (r23c HU5h.out)
  replace R1 := hid r23a
  replace B := hid r23b
  clear r23a r23b r23c
  obtain ⟨cc24a, cc24b⟩ := X2.out.both
  obtain ⟨cc25a, cc25b, cc25c, cc25d, cc25e, cc25f, cc25g, cc25h⟩ := R1.out.cells
  obtain ⟨cc26a, cc26b, cc26c, cc26d, cc26e, cc26f, cc26g, cc26h⟩ := R2.out.cells
  go_wp2_with fail
  generalize hW : (((((((w18.setCell ⟨w.heap.size + 1 + 1, 0, none⟩ (.bool s5a)).setCell ⟨w.heap.size + 1 + 1, 1, none⟩ (.slice p5a n5a c5a)).setCell ⟨w.heap.size + 1 + 1, 2, none⟩ (.bool s5b)).setCell ⟨w.heap.size + 1 + 1, 3, none⟩ (.slice p5b n5b c5b)).setCell ⟨w.heap.size + 1 + 1, 4, none⟩ (.bool s5c)).setCell ⟨w.heap.size + 1 + 1, 5, none⟩ (.slice p5c n5c c5c)).setCell ⟨w.heap.size + 1 + 1, 6, none⟩ (.bool s5d)).setCell ⟨w.heap.size + 1 + 1, 7, none⟩ (.slice p5d n5d c5d) = W27 at *
  clear hW
  refine (H2.out _).mono ?_
  rintro e w28 ⟨rfl, hb⟩
  replace R1 := ix R1 hb
  replace R2 := ix R2 hb
  replace HT5l := wl HT5l hb
  replace HU5l := wl HU5l hb
  replace HT5h := wl HT5h hb
  replace HU5h := wl HU5h hb
  replace B := bb B hb
  clear cc19a cc19b cc20a cc20b cc20c cc20d cc20e cc20f cc20g cc20h cc21a cc21b cc21c cc21d cc21e cc21f cc21g cc21h cc22a cc22b cc22c cc22d cc22e cc22f cc22g cc22h cc22i cc22j cc22k cc22l cc22m cc22n cc22o cc22p cc24a cc24b cc25a cc25b cc25c cc25d cc25e cc25f cc25g cc25h cc26a cc26b cc26c cc26d cc26e cc26f cc26g cc26h
  clear hb H2
  obtain ⟨cc29a, cc29b, cc29c, cc29d, cc29e, cc29f, cc29g, cc29h⟩ := R1.out.cells
  obtain ⟨cc30a, cc30b, cc30c, cc30d, cc30e, cc30f, cc30g, cc30h⟩ := R2.out.cells
  obtain ⟨⟨cc31a, cc31b⟩, ⟨cc31c, cc31d⟩, ⟨cc31e, cc31f⟩, ⟨cc31g, cc31h⟩, ⟨cc31i, cc31j⟩, ⟨cc31k, cc31l⟩, ⟨cc31m, cc31n⟩, cc31o, cc31p⟩ := R2.out.stores
  obtain ⟨r32a, r32b, r32c⟩ := R2.out.last B.out (by omega) false none 0 0 false none 0 0 false none 0 0 false none 0 0
  replace R1 := hid ((((((((R1.out.other (g2 := w.heap.size + 1 + 1 + 1) (by omega) 0 (.bool false)).other (g2 := w.heap.size + 1 + 1 + 1) (by omega) 1 (.slice none 0 0)).other (g2 := w.heap.size + 1 + 1 + 1) (by omega) 2 (.bool false)).other (g2 := w.heap.size + 1 + 1 + 1) (by omega) 3 (.slice none 0 0)).other (g2 := w.heap.size + 1 + 1 + 1) (by omega) 4 (.bool false)).other (g2 := w.heap.size + 1 + 1 + 1) (by omega) 5 (.slice none 0 0)).other (g2 := w.heap.size + 1 + 1 + 1) (by omega) 6 (.bool false)).other (g2 := w.heap.size + 1 + 1 + 1) (by omega) 7 (.slice none 0 0))
  replace HT5l := hid (r32c HT5l.out)
  replace HU5l := hid (r32c HU5l.out)
  replace HT5h := hid (r32c HT5h.out)
  replace HU5h := hid (r32c HU5h.out)
  replace R2 := hid r32a
  replace B := hid r32b
  clear r32a r32b r32c
  obtain ⟨cc33a, cc33b, cc33c, cc33d, cc33e, cc33f, cc33g, cc33h⟩ := R1.out.cells
  obtain ⟨cc34a, cc34b, cc34c, cc34d, cc34e, cc34f, cc34g, cc34h⟩ := R2.out.cells
  obtain ⟨⟨cc35a, cc35b⟩, ⟨cc35c, cc35d⟩, ⟨cc35e, cc35f⟩, ⟨cc35g, cc35h⟩, ⟨cc35i, cc35j⟩, ⟨cc35k, cc35l⟩, ⟨cc35m, cc35n⟩, cc35o, cc35p⟩ := R1.out.stores
  obtain ⟨r36a, r36b, r36c⟩ := R1.out.last B.out (by omega) false none 0 0 false none 0 0 false none 0 0 false none 0 0
  replace R2 := hid ((((((((R2.out.other (g2 := w.heap.size + 1 + 1) (by omega) 0 (.bool false)).other (g2 := w.heap.size + 1 + 1) (by omega) 1 (.slice none 0 0)).other (g2 := w.heap.size + 1 + 1) (by omega) 2 (.bool false)).other (g2 := w.heap.size + 1 + 1) (by omega) 3 (.slice none 0 0)).other (g2 := w.heap.size + 1 + 1) (by omega) 4 (.bool false)).other (g2 := w.heap.size + 1 + 1) (by omega) 5 (.slice none 0 0)).other (g2 := w.heap.size + 1 + 1) (by omega) 6 (.bool false)).other (g2 := w.heap.size + 1 + 1) (by omega) 7 (.slice none 0 0))
  replace HT5l := hid (r36c HT5l.out)
  replace HU5l := hid (r36c HU5l.out)
  replace HT5h := hid (r36c HT5h.out)
  replace HU5h := hid (r36c HU5h.out)
  replace R1 := hid r36a
  replace B := hid r36b
  clear r36a r36b r36c
  obtain ⟨cc37a, cc37b, cc37c, cc37d, cc37e, cc37f, cc37g, cc37h⟩ := R1.out.cells
  obtain ⟨cc38a, cc38b, cc38c, cc38d, cc38e, cc38f, cc38g, cc38h⟩ := R2.out.cells
  obtain ⟨⟨cc39a, cc39b⟩, ⟨cc39c, cc39d⟩, ⟨cc39e, cc39f⟩, ⟨cc39g, cc39h⟩, ⟨cc39i, cc39j⟩, ⟨cc39k, cc39l⟩, ⟨cc39m, cc39n⟩, cc39o, cc39p⟩ := R2.out.stores
  obtain ⟨r40a, r40b, r40c⟩ := R2.out.last B.out (by omega) false none 0 0 false none 0 0 false none 0 0 false none 0 0
  replace R1 := hid ((((((((R1.out.other (g2 := w.heap.size + 1 + 1 + 1) (by omega) 0 (.bool false)).other (g2 := w.heap.size + 1 + 1 + 1) (by omega) 1 (.slice none 0 0)).other (g2 := w.heap.size + 1 + 1 + 1) (by omega) 2 (.bool false)).other (g2 := w.heap.size + 1 + 1 + 1) (by omega) 3 (.slice none 0 0)).other (g2 := w.heap.size + 1 + 1 + 1) (by omega) 4 (.bool false)).other (g2 := w.heap.size + 1 + 1 + 1) (by omega) 5 (.slice none 0 0)).other (g2 := w.heap.size + 1 + 1 + 1) (by omega) 6 (.bool false)).other (g2 := w.heap.size + 1 + 1 + 1) (by omega) 7 (.slice none 0 0))
  replace HT5l := hid (r40c HT5l.out)
  replace HU5l := hid (r40c HU5l.out)
  replace HT5h := hid (r40c HT5h.out)
  replace HU5h := hid (r40c HU5h.out)
  replace R2 := hid r40a
  replace B := hid r40b
  clear r40a r40b r40c
  obtain ⟨cc41a, cc41b, cc41c, cc41d, cc41e, cc41f, cc41g, cc41h⟩ := R1.out.cells
  obtain ⟨cc42a, cc42b, cc42c, cc42d, cc42e, cc42f, cc42g, cc42h⟩ := R2.out.cells
  go_wp2_with fail
  refine bodyPost_ret (res_ii_tmp rfl rfl rfl rfl R1.out R2.out) rfl ?_
  exact ⟨rfl, B.out⟩

set_option maxHeartbeats 4000000 in
theorem iboth_3 {a b c d : ByteArray} (h1 : GoodI a b) (h2 : GoodI c d) (w : World) :
    Calls Tryz.prog 42 #[.agg #[.string a, .string b], .agg #[.string c, .string d]] w fun e w' => ∃ v u, e = .returned (.tuple #[v, u, .nilIface]) ∧ Ivl w' v (qnum a) (qnum b) 100 ∧ Ivl w' u (qnum c) (qnum d) 100 ∧ Below w.heap.size w w' := by
  have hne := errv_neq
  have hgd := errv_guard
  have H1 := hid (fun w => iread_good h1 w)
  have H2 := hid (fun w => iread_good h2 w)
  have B := hid (Below.refl w.heap.size w)
  have hb1 := (Below.refl _ _).alloc (Nat.le_refl w.heap.size) (.cells #[.string a, .string b] 23)
  have hx2 := Vbx.new w a b
  replace B := bb B hb1
  have X1 := hid hx2
  have hs3 : (w.alloc (.cells #[.string a, .string b] 23)).heap.size = w.heap.size + 1 := by simp
  clear hb1 hx2
  have hb4 := (Below.refl _ _).alloc (Nat.le_refl (w.alloc (.cells #[.string a, .string b] 23)).heap.size) (.cells #[.string c, .string d] 23)
  have hx5 := Vbx.new (w.alloc (.cells #[.string a, .string b] 23)) c d
  rw [hs3] at hx5
  replace X1 := vx X1 hb4
  replace B := bb B hb4
  have X2 := hid hx5
  have hs6 : ((w.alloc (.cells #[.string a, .string b] 23)).alloc (.cells #[.string c, .string d] 23)).heap.size = w.heap.size + 1 + 1 := by simp [hs3]
  clear hb4 hx5
  have hb7 := (Below.refl _ _).alloc (Nat.le_refl ((w.alloc (.cells #[.string a, .string b] 23)).alloc (.cells #[.string c, .string d] 23)).heap.size) (.cells #[.bool false, .slice none 0 0, .bool false, .slice none 0 0, .bool false, .slice none 0 0, .bool false, .slice none 0 0] 62)
  have hx8 := Ibx.new ((w.alloc (.cells #[.string a, .string b] 23)).alloc (.cells #[.string c, .string d] 23)) false none 0 0 false none 0 0 false none 0 0 false none 0 0
  rw [hs6] at hx8
  replace X1 := vx X1 hb7
  replace X2 := vx X2 hb7
  replace B := bb B hb7
  have R1 := hid hx8
  have hs9 : (((w.alloc (.cells #[.string a, .string b] 23)).alloc (.cells #[.string c, .string d] 23)).alloc (.cells #[.bool false, .slice none 0 0, .bool false, .slice none 0 0, .bool false, .slice none 0 0, .bool false, .slice none 0 0] 62)).heap.size = w.heap.size + 1 + 1 + 1 := by simp [hs6]
  clear hb7 hx8
  have hb10 := (Below.refl _ _).alloc (Nat.le_refl (((w.alloc (.cells #[.string a, .string b] 23)).alloc (.cells #[.string c, .string d] 23)).alloc (.cells #[.bool false, .slice none 0 0, .bool false, .slice none 0 0, .bool false, .slice none 0 0, .bool false, .slice none 0 0] 62)).heap.size) (.cells #[.bool false, .slice none 0 0, .bool false, .slice none 0 0, .bool false, .slice none 0 0, .bool false, .slice none 0 0] 62)
  have hx11 := Ibx.new (((w.alloc (.cells #[.string a, .string b] 23)).alloc (.cells #[.string c, .string d] 23)).alloc (.cells #[.bool false, .slice none 0 0, .bool false, .slice none 0 0, .bool false, .slice none 0 0, .bool false, .slice none 0 0] 62)) false none 0 0 false none 0 0 false none 0 0 false none 0 0
  rw [hs9] at hx11
  replace X1 := vx X1 hb10
  replace X2 := vx X2 hb10
  replace R1 := ix R1 hb10
  replace B := bb B hb10
  have R2 := hid hx11
  have hs12 : ((((w.alloc (.cells #[.string a, .string b] 23)).alloc (.cells #[.string c, .string d] 23)).alloc (.cells #[.bool false, .slice none 0 0, .bool false, .slice none 0 0, .bool false, .slice none 0 0, .bool false, .slice none 0 0] 62)).alloc (.cells #[.bool false, .slice none 0 0, .bool false, .slice none 0 0, .bool false, .slice none 0 0, .bool false, .slice none 0 0] 62)).heap.size = w.heap.size + 1 + 1 + 1 + 1 := by simp [hs9]
  clear hb10 hx11
  clear hs12 h1 h2
  go_enter Tryz.func42, Tryz.ntmps42
  obtain ⟨cc13a, cc13b⟩ := X1.out.both
  obtain ⟨cc14a, cc14b⟩ := X2.out.both
  obtain ⟨cc15a, cc15b, cc15c, cc15d, cc15e, cc15f, cc15g, cc15h⟩ := R1.out.cells
  obtain ⟨cc16a, cc16b, cc16c, cc16d, cc16e, cc16f, cc16g, cc16h⟩ := R2.out.cells
  go_wp2_with fail
  generalize hW : (((w.alloc (.cells #[.string a, .string b] 23)).alloc (.cells #[.string c, .string d] 23)).alloc (.cells #[.bool false, .slice none 0 0, .bool false, .slice none 0 0, .bool false, .slice none 0 0, .bool false, .slice none 0 0] 62)).alloc (.cells #[.bool false, .slice none 0 0, .bool false, .slice none 0 0, .bool false, .slice none 0 0, .bool false, .slice none 0 0] 62) = W17 at *
  clear hW
  refine (H1.out _).mono ?_
  rintro e w18 ⟨v, rfl, hv, hb⟩
  obtain ⟨s5a, p5a, n5a, c5a, s5b, p5b, n5b, c5b, s5c, p5c, n5c, c5c, s5d, p5d, n5d, c5d, rfl⟩ := hv.opened
  obtain ⟨hl5, hh5⟩ := hv.two
  obtain ⟨ht5l, d5l, hu5l, hd5l⟩ := hl5.two
  have HD5l := hid hd5l
  obtain ⟨ht5h, d5h, hu5h, hd5h⟩ := hh5.two
  have HD5h := hid hd5h
  replace X2 := vx X2 hb
  replace R1 := ix R1 hb
  replace R2 := ix R2 hb
  replace B := bb B hb
  clear cc13a cc13b cc14a cc14b cc15a cc15b cc15c cc15d cc15e cc15f cc15g cc15h cc16a cc16b cc16c cc16d cc16e cc16f cc16g cc16h
  have HT5l := hid ht5l
  have HU5l := hid hu5l
  have HT5h := hid ht5h
  have HU5h := hid hu5h
  clear hb hv hl5 hh5 ht5l hu5l hd5l ht5h hu5h hd5h H1
  obtain ⟨cc19a, cc19b⟩ := X2.out.both
  obtain ⟨cc20a, cc20b, cc20c, cc20d, cc20e, cc20f, cc20g, cc20h⟩ := R1.out.cells
  obtain ⟨cc21a, cc21b, cc21c, cc21d, cc21e, cc21f, cc21g, cc21h⟩ := R2.out.cells
  obtain ⟨⟨cc22a, cc22b⟩, ⟨cc22c, cc22d⟩, ⟨cc22e, cc22f⟩, ⟨cc22g, cc22h⟩, ⟨cc22i, cc22j⟩, ⟨cc22k, cc22l⟩, ⟨cc22m, cc22n⟩, cc22o, cc22p⟩ := R1.out.stores
  obtain ⟨r23a, r23b, r23c⟩ := R1.out.last B.out (by omega) s5a p5a n5a c5a s5b p5b n5b c5b s5c p5c n5c c5c s5d p5d n5d c5d
  replace X2 := hid ((((((((X2.out.other (g2 := w.heap.size + 1 + 1) (by omega) 0 (.bool s5a)).other (g2 := w.heap.size + 1 + 1) (by omega) 1 (.slice p5a n5a c5a)).other (g2 := w.heap.size + 1 + 1) (by omega) 2 (.bool s5b)).other (g2 := w.heap.size + 1 + 1) (by omega) 3 (.slice p5b n5b c5b)).other (g2 := w.heap.size + 1 + 1) (by omega) 4 (.bool s5c)).other (g2 := w.heap.size + 1 + 1) (by omega) 5 (.slice p5c n5c c5c)).other (g2 := w.heap.size + 1 + 1) (by omega) 6 (.bool s5d)).other (g2 := w.heap.size + 1 + 1) (by omega) 7 (.slice p5d n5d c5d))
  replace R2 := hid ((((((((R2.out.other (g2 := w.heap.size + 1 + 1) (by omega) 0 (.bool s5a)).other (g2 := w.heap.size + 1 + 1) (by omega) 1 (.slice p5a n5a c5a)).other (g2 := w.heap.size + 1 + 1) (by omega) 2 (.bool s5b)).other (g2 := w.heap.size + 1 + 1) (by omega) 3 (.slice p5b n5b c5b)).other (g2 := w.heap.size + 1 + 1) (by omega) 4 (.bool s5c)).other (g2 := w.heap.size + 1 + 1) (by omega) 5 (.slice p5c n5c c5c)).other (g2 := w.heap.size + 1 + 1) (by omega) 6 (.bool s5d)).other (g2 := w.heap.size + 1 + 1) (by omega) 7 (.slice p5d n5d c5d))
  replace HT5l := hid (r23c HT5l.out)
  replace HU5l := hid (r23c HU5l.out)
  replace HT5h := hid (r23c HT5h.out)
  replace HU5h := hid (r23c HU5h.out)
  replace R1 := hid r23a
  replace B := hid r23b
  clear r23a r23b r23c
  obtain ⟨cc24a, cc24b⟩ := X2.out.both
  obtain ⟨cc25a, cc25b, cc25c, cc25d, cc25e, cc25f, cc25g, cc25h⟩ := R1.out.cells
  obtain ⟨cc26a, cc26b, cc26c, cc26d, cc26e, cc26f, cc26g, cc26h⟩ := R2.out.cells
  go_wp2_with fail
  generalize hW : (((((((w18.setCell ⟨w.heap.size + 1 + 1, 0, none⟩ (.bool s5a)).setCell ⟨w.heap.size + 1 + 1, 1, none⟩ (.slice p5a n5a c5a)).setCell ⟨w.heap.size + 1 + 1, 2, none⟩ (.bool s5b)).setCell ⟨w.heap.size + 1 + 1, 3, none⟩ (.slice p5b n5b c5b)).setCell ⟨w.heap.size + 1 + 1, 4, none⟩ (.bool s5c)).setCell ⟨w.heap.size + 1 + 1, 5, none⟩ (.slice p5c n5c c5c)).setCell ⟨w.heap.size + 1 + 1, 6, none⟩ (.bool s5d)).setCell ⟨w.heap.size + 1 + 1, 7, none⟩ (.slice p5d n5d c5d) = W27 at *
  clear hW
  refine (H2.out _).mono ?_
  rintro e w28 ⟨v, rfl, hv, hb⟩
  obtain ⟨s6a, p6a, n6a, c6a, s6b, p6b, n6b, c6b, s6c, p6c, n6c, c6c, s6d, p6d, n6d, c6d, rfl⟩ := hv.opened
  obtain ⟨hl6, hh6⟩ := hv.two
  obtain ⟨ht6l, d6l, hu6l, hd6l⟩ := hl6.two
  have HD6l := hid hd6l
  obtain ⟨ht6h, d6h, hu6h, hd6h⟩ := hh6.two
  have HD6h := hid hd6h
  replace R1 := ix R1 hb
  replace R2 := ix R2 hb
  replace HT5l := wl HT5l hb
  replace HU5l := wl HU5l hb
  replace HT5h := wl HT5h hb
  replace HU5h := wl HU5h hb
  replace B := bb B hb
  clear cc19a cc19b cc20a cc20b cc20c cc20d cc20e cc20f cc20g cc20h cc21a cc21b cc21c cc21d cc21e cc21f cc21g cc21h cc22a cc22b cc22c cc22d cc22e cc22f cc22g cc22h cc22i cc22j cc22k cc22l cc22m cc22n cc22o cc22p cc24a cc24b cc25a cc25b cc25c cc25d cc25e cc25f cc25g cc25h cc26a cc26b cc26c cc26d cc26e cc26f cc26g cc26h
  have HT6l := hid ht6l
  have HU6l := hid hu6l
  have HT6h := hid ht6h
  have HU6h := hid hu6h
  clear hb hv hl6 hh6 ht6l hu6l hd6l ht6h hu6h hd6h H2
  obtain ⟨cc29a, cc29b, cc29c, cc29d, cc29e, cc29f, cc29g, cc29h⟩ := R1.out.cells
  obtain ⟨cc30a, cc30b, cc30c, cc30d, cc30e, cc30f, cc30g, cc30h⟩ := R2.out.cells
  obtain ⟨⟨cc31a, cc31b⟩, ⟨cc31c, cc31d⟩, ⟨cc31e, cc31f⟩, ⟨cc31g, cc31h⟩, ⟨cc31i, cc31j⟩, ⟨cc31k, cc31l⟩, ⟨cc31m, cc31n⟩, cc31o, cc31p⟩ := R2.out.stores
  obtain ⟨r32a, r32b, r32c⟩ := R2.out.last B.out (by omega) s6a p6a n6a c6a s6b p6b n6b c6b s6c p6c n6c c6c s6d p6d n6d c6d
  replace R1 := hid ((((((((R1.out.other (g2 := w.heap.size + 1 + 1 + 1) (by omega) 0 (.bool s6a)).other (g2 := w.heap.size + 1 + 1 + 1) (by omega) 1 (.slice p6a n6a c6a)).other (g2 := w.heap.size + 1 + 1 + 1) (by omega) 2 (.bool s6b)).other (g2 := w.heap.size + 1 + 1 + 1) (by omega) 3 (.slice p6b n6b c6b)).other (g2 := w.heap.size + 1 + 1 + 1) (by omega) 4 (.bool s6c)).other (g2 := w.heap.size + 1 + 1 + 1) (by omega) 5 (.slice p6c n6c c6c)).other (g2 := w.heap.size + 1 + 1 + 1) (by omega) 6 (.bool s6d)).other (g2 := w.heap.size + 1 + 1 + 1) (by omega) 7 (.slice p6d n6d c6d))
  replace HT5l := hid (r32c HT5l.out)
  replace HU5l := hid (r32c HU5l.out)
  replace HT5h := hid (r32c HT5h.out)
  replace HU5h := hid (r32c HU5h.out)
  replace HT6l := hid (r32c HT6l.out)
  replace HU6l := hid (r32c HU6l.out)
  replace HT6h := hid (r32c HT6h.out)
  replace HU6h := hid (r32c HU6h.out)
  replace R2 := hid r32a
  replace B := hid r32b
  clear r32a r32b r32c
  obtain ⟨cc33a, cc33b, cc33c, cc33d, cc33e, cc33f, cc33g, cc33h⟩ := R1.out.cells
  obtain ⟨cc34a, cc34b, cc34c, cc34d, cc34e, cc34f, cc34g, cc34h⟩ := R2.out.cells
  go_wp2_with fail
  generalize hW : (((((((w28.setCell ⟨w.heap.size + 1 + 1 + 1, 0, none⟩ (.bool s6a)).setCell ⟨w.heap.size + 1 + 1 + 1, 1, none⟩ (.slice p6a n6a c6a)).setCell ⟨w.heap.size + 1 + 1 + 1, 2, none⟩ (.bool s6b)).setCell ⟨w.heap.size + 1 + 1 + 1, 3, none⟩ (.slice p6b n6b c6b)).setCell ⟨w.heap.size + 1 + 1 + 1, 4, none⟩ (.bool s6c)).setCell ⟨w.heap.size + 1 + 1 + 1, 5, none⟩ (.slice p6c n6c c6c)).setCell ⟨w.heap.size + 1 + 1 + 1, 6, none⟩ (.bool s6d)).setCell ⟨w.heap.size + 1 + 1 + 1, 7, none⟩ (.slice p6d n6d c6d) = W35 at *
  clear hW
  obtain ⟨cc36a, cc36b, cc36c, cc36d, cc36e, cc36f, cc36g, cc36h⟩ := R1.out.cells
  obtain ⟨cc37a, cc37b, cc37c, cc37d, cc37e, cc37f, cc37g, cc37h⟩ := R2.out.cells
  obtain ⟨⟨cc38a, cc38b⟩, ⟨cc38c, cc38d⟩, ⟨cc38e, cc38f⟩, ⟨cc38g, cc38h⟩, ⟨cc38i, cc38j⟩, ⟨cc38k, cc38l⟩, ⟨cc38m, cc38n⟩, cc38o, cc38p⟩ := R1.out.stores
  obtain ⟨r39a, r39b, r39c⟩ := R1.out.last B.out (by omega) s5a p5a n5a c5a s5b p5b n5b c5b s5c p5c n5c c5c s5d p5d n5d c5d
  replace R2 := hid ((((((((R2.out.other (g2 := w.heap.size + 1 + 1) (by omega) 0 (.bool s5a)).other (g2 := w.heap.size + 1 + 1) (by omega) 1 (.slice p5a n5a c5a)).other (g2 := w.heap.size + 1 + 1) (by omega) 2 (.bool s5b)).other (g2 := w.heap.size + 1 + 1) (by omega) 3 (.slice p5b n5b c5b)).other (g2 := w.heap.size + 1 + 1) (by omega) 4 (.bool s5c)).other (g2 := w.heap.size + 1 + 1) (by omega) 5 (.slice p5c n5c c5c)).other (g2 := w.heap.size + 1 + 1) (by omega) 6 (.bool s5d)).other (g2 := w.heap.size + 1 + 1) (by omega) 7 (.slice p5d n5d c5d))
  replace HT5l := hid (r39c HT5l.out)
  replace HU5l := hid (r39c HU5l.out)
  replace HT5h := hid (r39c HT5h.out)
  replace HU5h := hid (r39c HU5h.out)
  replace HT6l := hid (r39c HT6l.out)
  replace HU6l := hid (r39c HU6l.out)
  replace HT6h := hid (r39c HT6h.out)
  replace HU6h := hid (r39c HU6h.out)
  replace R1 := hid r39a
  replace B := hid r39b
  clear r39a r39b r39c
  obtain ⟨cc40a, cc40b, cc40c, cc40d, cc40e, cc40f, cc40g, cc40h⟩ := R1.out.cells
  obtain ⟨cc41a, cc41b, cc41c, cc41d, cc41e, cc41f, cc41g, cc41h⟩ := R2.out.cells
  obtain ⟨⟨cc42a, cc42b⟩, ⟨cc42c, cc42d⟩, ⟨cc42e, cc42f⟩, ⟨cc42g, cc42h⟩, ⟨cc42i, cc42j⟩, ⟨cc42k, cc42l⟩, ⟨cc42m, cc42n⟩, cc42o, cc42p⟩ := R2.out.stores
  obtain ⟨r43a, r43b, r43c⟩ := R2.out.last B.out (by omega) s6a p6a n6a c6a s6b p6b n6b c6b s6c p6c n6c c6c s6d p6d n6d c6d
  replace R1 := hid ((((((((R1.out.other (g2 := w.heap.size + 1 + 1 + 1) (by omega) 0 (.bool s6a)).other (g2 := w.heap.size + 1 + 1 + 1) (by omega) 1 (.slice p6a n6a c6a)).other (g2 := w.heap.size + 1 + 1 + 1) (by omega) 2 (.bool s6b)).other (g2 := w.heap.size + 1 + 1 + 1) (by omega) 3 (.slice p6b n6b c6b)).other (g2 := w.heap.size + 1 + 1 + 1) (by omega) 4 (.bool s6c)).other (g2 := w.heap.size + 1 + 1 + 1) (by omega) 5 (.slice p6c n6c c6c)).other (g2 := w.heap.size + 1 + 1 + 1) (by omega) 6 (.bool s6d)).other (g2 := w.heap.size + 1 + 1 + 1) (by omega) 7 (.slice p6d n6d c6d))
  replace HT5l := hid (r43c HT5l.out)
  replace HU5l := hid (r43c HU5l.out)
  replace HT5h := hid (r43c HT5h.out)
  replace HU5h := hid (r43c HU5h.out)
  replace HT6l := hid (r43c HT6l.out)
  replace HU6l := hid (r43c HU6l.out)
  replace HT6h := hid (r43c HT6h.out)
  replace HU6h := hid (r43c HU6h.out)
  replace R2 := hid r43a
  replace B := hid r43b
  clear r43a r43b r43c
  obtain ⟨cc44a, cc44b, cc44c, cc44d, cc44e, cc44f, cc44g, cc44h⟩ := R1.out.cells
  obtain ⟨cc45a, cc45b, cc45c, cc45d, cc45e, cc45f, cc45g, cc45h⟩ := R2.out.cells
  go_region_held3 (fun w' => w'.cell? ⟨w.heap.size + 1 + 1, 0, none⟩ = some (.bool s5a) ∧ w'.cell? ⟨w.heap.size + 1 + 1, 1, none⟩ = some (.slice p5a n5a c5a) ∧ w'.cell? ⟨w.heap.size + 1 + 1, 2, none⟩ = some (.bool s5b) ∧ w'.cell? ⟨w.heap.size + 1 + 1, 3, none⟩ = some (.slice p5b n5b c5b) ∧ w'.cell? ⟨w.heap.size + 1 + 1, 4, none⟩ = some (.bool s5c) ∧ w'.cell? ⟨w.heap.size + 1 + 1, 5, none⟩ = some (.slice p5c n5c c5c) ∧ w'.cell? ⟨w.heap.size + 1 + 1, 6, none⟩ = some (.bool s5d) ∧ w'.cell? ⟨w.heap.size + 1 + 1, 7, none⟩ = some (.slice p5d n5d c5d) ∧ w'.cell? ⟨w.heap.size + 1 + 1 + 1, 0, none⟩ = some (.bool s6a) ∧ w'.cell? ⟨w.heap.size + 1 + 1 + 1, 1, none⟩ = some (.slice p6a n6a c6a) ∧ w'.cell? ⟨w.heap.size + 1 + 1 + 1, 2, none⟩ = some (.bool s6b) ∧ w'.cell? ⟨w.heap.size + 1 + 1 + 1, 3, none⟩ = some (.slice p6b n6b c6b) ∧ w'.cell? ⟨w.heap.size + 1 + 1 + 1, 4, none⟩ = some (.bool s6c) ∧ w'.cell? ⟨w.heap.size + 1 + 1 + 1, 5, none⟩ = some (.slice p6c n6c c6c) ∧ w'.cell? ⟨w.heap.size + 1 + 1 + 1, 6, none⟩ = some (.bool s6d) ∧ w'.cell? ⟨w.heap.size + 1 + 1 + 1, 7, none⟩ = some (.slice p6d n6d c6d)) (go_keep) (first | fail)
  replace R1 := hid R1.out.dr
  replace R2 := hid R2.out.dr
  replace HT5l := hid HT5l.out.drew
  replace HU5l := hid HU5l.out.drew
  replace HT5h := hid HT5h.out.drew
  replace HU5h := hid HU5h.out.drew
  replace HT6l := hid HT6l.out.drew
  replace HU6l := hid HU6l.out.drew
  replace HT6h := hid HT6h.out.drew
  replace HU6h := hid HU6h.out.drew
  replace B := hid (Below.drew B.out)
  go_wp2_with fail
  refine bodyPost_ret (res_ii_tmp rfl rfl rfl rfl R1.out R2.out) rfl ?_
  exact ⟨_, _, rfl, (Ivl.mk2 (Rtl.mk2 HT5l.out HU5l.out HD5l.out) (Rtl.mk2 HT5h.out HU5h.out HD5h.out)), (Ivl.mk2 (Rtl.mk2 HT6l.out HU6l.out HD6l.out) (Rtl.mk2 HT6h.out HU6h.out HD6h.out)), B.out⟩

/-- The error of two intervals. -/
def WrongI (a b c d : ByteArray) (k : Int) : Prop := BadI a b k ∨ (GoodI a b ∧ BadI c d k)
theorem rightI_or_wrong (a b c d : ByteArray) : (GoodI a b ∧ GoodI c d) ∨ ∃ k, WrongI a b c d k := by
  rcases goodI_or_bad a b with ha | ⟨k, ha⟩
  · rcases goodI_or_bad c d with hb | ⟨k, hb⟩
    · exact .inl ⟨ha, hb⟩
    · exact .inr ⟨k, .inr ⟨ha, hb⟩⟩
  · exact .inr ⟨k, .inl ha⟩
theorem WrongI.ne {a b c d : ByteArray} {k : Int} (h : WrongI a b c d k) : k ≠ 0 := by
  rcases h with h | ⟨_, h⟩ <;> exact h.ne
theorem WrongI.not {a b c d : ByteArray} {k : Int} (h : WrongI a b c d k) : ¬ (GoodI a b ∧ GoodI c d) := by
  rintro ⟨h1, h2⟩
  rcases h with h | ⟨_, h⟩
  · exact h.not h1
  · exact h.not h2
theorem iboth_bad {a b c d : ByteArray} {k : Int} (h : WrongI a b c d k) (ha : a.size ≤ maxLen) (hb0 : b.size ≤ maxLen) (hc0 : c.size ≤ maxLen) (hd0 : d.size ≤ maxLen) (w : World) :
    Calls Tryz.prog 42 #[.agg #[.string a, .string b], .agg #[.string c, .string d]] w fun e w' => e = .returned (.tuple #[.agg #[.bool false, .slice none 0 0, .bool false, .slice none 0 0, .bool false, .slice none 0 0, .bool false, .slice none 0 0], .agg #[.bool false, .slice none 0 0, .bool false, .slice none 0 0, .bool false, .slice none 0 0, .bool false, .slice none 0 0], errno k]) ∧ Below w.heap.size w w' := by
  rcases h with h | ⟨h1, h2⟩
  · exact iboth_1 h ha hb0 hc0 hd0 w
  · exact iboth_2 h1 h2 ha hb0 hc0 hd0 w

end Go.Proofs.YtkdeopikojgboaaGreatDoor

/-
  PACKAGE ival: span, hull, has.
-/
namespace Go.Proofs.YtkdeopikojgboaaGreatDoor
open Go.RowKit
open Num
set_option linter.unusedVariables false
set_option maxRecDepth 100000
set_option linter.unusedSimpArgs false

set_option maxHeartbeats 4000000 in
theorem span_ivl {w : World} {b m : Nat} {qf : Nat → Rat} {k : Nat} (h : Nrw w b m qf k) (hm1 : 1 ≤ m) (hm : m ≤ 100) (hk1 : 1 ≤ k) (hk : k ≤ 68719476736) :
    Calls Tryz.prog 57 #[.slice (some ⟨b, 0, none⟩) m m] w fun e w' => ∃ v, e = .returned v ∧ Ivl w' v (lofN qf (m - 1)) (hifN qf (m - 1)) k ∧ Below w.heap.size w w' := by
  have HR := hid h
  have HK := hid hk
  have HK1 := hid hk1
  have HM1 := hid hm1
  have HM2 := hid hm
  have B := hid (Below.refl w.heap.size w)
  have hb1 := (Below.refl _ _).alloc (Nat.le_refl w.heap.size) (.cells #[.bool false, .slice none 0 0, .bool false, .slice none 0 0, .bool false, .slice none 0 0, .bool false, .slice none 0 0] 62)
  have hx2 := Ibx.new w false none 0 0 false none 0 0 false none 0 0 false none 0 0
  replace B := bb B hb1
  replace HR := hid (HR.out.on hb1)
  have XV := hid hx2
  have hs3 : (w.alloc (.cells #[.bool false, .slice none 0 0, .bool false, .slice none 0 0, .bool false, .slice none 0 0, .bool false, .slice none 0 0] 62)).heap.size = w.heap.size + 1 := by simp
  clear hb1 hx2
  clear hs3 h hk hk1 hm1 hm
  go_enter Tryz.func57, Tryz.ntmps57
  obtain ⟨cc4a, cc4b, cc4c, cc4d, cc4e, cc4f, cc4g, cc4h⟩ := XV.out.cells
  go_wp2_with fail
  generalize hW : w.alloc (.cells #[.bool false, .slice none 0 0, .bool false, .slice none 0 0, .bool false, .slice none 0 0, .bool false, .slice none 0 0] 62) = W5 at *
  clear hW
  refine (minfunc_rtl HR.out HM1.out HM2.out HK1.out HK.out).mono ?_
  rintro e w6 ⟨v, rfl, hv, hb⟩
  obtain ⟨s1a, p1a, n1a, c1a, s1b, p1b, n1b, c1b, rfl⟩ := hv.opened
  obtain ⟨ht1, d1, hu1, hd1⟩ := hv.two
  have HD1 := hid hd1
  replace XV := ix XV hb
  replace B := bb B hb
  replace HR := hid (HR.out.on hb)
  clear cc4a cc4b cc4c cc4d cc4e cc4f cc4g cc4h
  have HT1 := hid ht1
  have HU1 := hid hu1
  clear hb hv ht1 hu1 hd1
  obtain ⟨cc7a, cc7b, cc7c, cc7d, cc7e, cc7f, cc7g, cc7h⟩ := XV.out.cells
  go_wp2_with fail
  refine (maxfunc_rtl HR.out HM1.out HM2.out HK1.out HK.out).mono ?_
  rintro e w8 ⟨v, rfl, hv, hb⟩
  obtain ⟨s2a, p2a, n2a, c2a, s2b, p2b, n2b, c2b, rfl⟩ := hv.opened
  obtain ⟨ht2, d2, hu2, hd2⟩ := hv.two
  have HD2 := hid hd2
  replace XV := ix XV hb
  replace HT1 := wl HT1 hb
  replace HU1 := wl HU1 hb
  replace B := bb B hb
  replace HR := hid (HR.out.on hb)
  clear cc7a cc7b cc7c cc7d cc7e cc7f cc7g cc7h
  have HT2 := hid ht2
  have HU2 := hid hu2
  clear hb hv ht2 hu2 hd2
  obtain ⟨cc9a, cc9b, cc9c, cc9d, cc9e, cc9f, cc9g, cc9h⟩ := XV.out.cells
  obtain ⟨⟨cc10a, cc10b⟩, ⟨cc10c, cc10d⟩, ⟨cc10e, cc10f⟩, ⟨cc10g, cc10h⟩, ⟨cc10i, cc10j⟩, ⟨cc10k, cc10l⟩, ⟨cc10m, cc10n⟩, cc10o, cc10p⟩ := XV.out.stores
  obtain ⟨r11a, r11b, r11c⟩ := XV.out.last B.out (by omega) s1a p1a n1a c1a s1b p1b n1b c1b s2a p2a n2a c2a s2b p2b n2b c2b
  replace HT1 := hid (r11c HT1.out)
  replace HU1 := hid (r11c HU1.out)
  replace HT2 := hid (r11c HT2.out)
  replace HU2 := hid (r11c HU2.out)
  replace XV := hid r11a
  replace B := hid r11b
  clear r11a r11b r11c
  go_wp2_with fail
  refine bodyPost_ret (res_ivl rfl rfl XV.out) rfl ?_
  exact ⟨_, rfl, Ivl.mk2 (Rtl.mk2 HT1.out HU1.out HD1.out) (Rtl.mk2 HT2.out HU2.out HD2.out), B.out⟩

set_option maxHeartbeats 4000000 in
theorem hull_ivl {w : World} {v u : Value} {p q r s : Rat} {k : Nat} (h : Ivl w v p q k) (h' : Ivl w u r s k) (hk1 : 1 ≤ k) (hk : k ≤ 68719476736) :
    Calls Tryz.prog 41 #[v, u] w fun e w' => ∃ v, e = .returned v ∧ Ivl w' v (lo4 p q r s) (hi4 p q r s) k ∧ Below w.heap.size w w' := by
  have HK := hid hk
  have HK1 := hid hk1
  obtain ⟨s1a, p1a, n1a, c1a, s1b, p1b, n1b, c1b, s1c, p1c, n1c, c1c, s1d, p1d, n1d, c1d, rfl⟩ := h.opened
  obtain ⟨hl1, hh1⟩ := h.two
  obtain ⟨ht1l, d1l, hu1l, hd1l⟩ := hl1.two
  have HD1l := hid hd1l
  obtain ⟨ht1h, d1h, hu1h, hd1h⟩ := hh1.two
  have HD1h := hid hd1h
  obtain ⟨s2a, p2a, n2a, c2a, s2b, p2b, n2b, c2b, s2c, p2c, n2c, c2c, s2d, p2d, n2d, c2d, rfl⟩ := h'.opened
  obtain ⟨hl2, hh2⟩ := h'.two
  obtain ⟨ht2l, d2l, hu2l, hd2l⟩ := hl2.two
  have HD2l := hid hd2l
  obtain ⟨ht2h, d2h, hu2h, hd2h⟩ := hh2.two
  have HD2h := hid hd2h
  have B := hid (Below.refl w.heap.size w)
  have HT1l := hid ht1l
  have HU1l := hid hu1l
  have HT1h := hid ht1h
  have HU1h := hid hu1h
  have HT2l := hid ht2l
  have HU2l := hid hu2l
  have HT2h := hid ht2h
  have HU2h := hid hu2h
  have hb1 := (Below.refl _ _).alloc (Nat.le_refl w.heap.size) (.cells #[.bool s1a, .slice p1a n1a c1a, .bool s1b, .slice p1b n1b c1b, .bool s1c, .slice p1c n1c c1c, .bool s1d, .slice p1d n1d c1d] 62)
  have hx2 := Ibx.new w s1a p1a n1a c1a s1b p1b n1b c1b s1c p1c n1c c1c s1d p1d n1d c1d
  replace HT1l := wl HT1l hb1
  replace HU1l := wl HU1l hb1
  replace HT1h := wl HT1h hb1
  replace HU1h := wl HU1h hb1
  replace HT2l := wl HT2l hb1
  replace HU2l := wl HU2l hb1
  replace HT2h := wl HT2h hb1
  replace HU2h := wl HU2h hb1
  replace B := bb B hb1
  have X1 := hid hx2
  have hs3 : (w.alloc (.cells #[.bool s1a, .slice p1a n1a c1a, .bool s1b, .slice p1b n1b c1b, .bool s1c, .slice p1c n1c c1c, .bool s1d, .slice p1d n1d c1d] 62)).heap.size = w.heap.size + 1 := by simp
  clear hb1 hx2
  have hb4 := (Below.refl _ _).alloc (Nat.le_refl (w.alloc (.cells #[.bool s1a, .slice p1a n1a c1a, .bool s1b, .slice p1b n1b c1b, .bool s1c, .slice p1c n1c c1c, .bool s1d, .slice p1d n1d c1d] 62)).heap.size) (.cells #[.bool s2a, .slice p2a n2a c2a, .bool s2b, .slice p2b n2b c2b, .bool s2c, .slice p2c n2c c2c, .bool s2d, .slice p2d n2d c2d] 62)
  have hx5 := Ibx.new (w.alloc (.cells #[.bool s1a, .slice p1a n1a c1a, .bool s1b, .slice p1b n1b c1b, .bool s1c, .slice p1c n1c c1c, .bool s1d, .slice p1d n1d c1d] 62)) s2a p2a n2a c2a s2b p2b n2b c2b s2c p2c n2c c2c s2d p2d n2d c2d
  rw [hs3] at hx5
  replace X1 := ix X1 hb4
  replace HT1l := wl HT1l hb4
  replace HU1l := wl HU1l hb4
  replace HT1h := wl HT1h hb4
  replace HU1h := wl HU1h hb4
  replace HT2l := wl HT2l hb4
  replace HU2l := wl HU2l hb4
  replace HT2h := wl HT2h hb4
  replace HU2h := wl HU2h hb4
  replace B := bb B hb4
  have X2 := hid hx5
  have hs6 : ((w.alloc (.cells #[.bool s1a, .slice p1a n1a c1a, .bool s1b, .slice p1b n1b c1b, .bool s1c, .slice p1c n1c c1c, .bool s1d, .slice p1d n1d c1d] 62)).alloc (.cells #[.bool s2a, .slice p2a n2a c2a, .bool s2b, .slice p2b n2b c2b, .bool s2c, .slice p2c n2c c2c, .bool s2d, .slice p2d n2d c2d] 62)).heap.size = w.heap.size + 1 + 1 := by simp [hs3]
  clear hb4 hx5
  have hb7 := (Below.refl _ _).alloc (Nat.le_refl ((w.alloc (.cells #[.bool s1a, .slice p1a n1a c1a, .bool s1b, .slice p1b n1b c1b, .bool s1c, .slice p1c n1c c1c, .bool s1d, .slice p1d n1d c1d] 62)).alloc (.cells #[.bool s2a, .slice p2a n2a c2a, .bool s2b, .slice p2b n2b c2b, .bool s2c, .slice p2c n2c c2c, .bool s2d, .slice p2d n2d c2d] 62)).heap.size) (.cells #[.bool false, .slice none 0 0, .bool false, .slice none 0 0, .bool false, .slice none 0 0, .bool false, .slice none 0 0] 62)
  have hx8 := Ibx.new ((w.alloc (.cells #[.bool s1a, .slice p1a n1a c1a, .bool s1b, .slice p1b n1b c1b, .bool s1c, .slice p1c n1c c1c, .bool s1d, .slice p1d n1d c1d] 62)).alloc (.cells #[.bool s2a, .slice p2a n2a c2a, .bool s2b, .slice p2b n2b c2b, .bool s2c, .slice p2c n2c c2c, .bool s2d, .slice p2d n2d c2d] 62)) false none 0 0 false none 0 0 false none 0 0 false none 0 0
  rw [hs6] at hx8
  replace X1 := ix X1 hb7
  replace X2 := ix X2 hb7
  replace HT1l := wl HT1l hb7
  replace HU1l := wl HU1l hb7
  replace HT1h := wl HT1h hb7
  replace HU1h := wl HU1h hb7
  replace HT2l := wl HT2l hb7
  replace HU2l := wl HU2l hb7
  replace HT2h := wl HT2h hb7
  replace HU2h := wl HU2h hb7
  replace B := bb B hb7
  have XV := hid hx8
  have hs9 : (((w.alloc (.cells #[.bool s1a, .slice p1a n1a c1a, .bool s1b, .slice p1b n1b c1b, .bool s1c, .slice p1c n1c c1c, .bool s1d, .slice p1d n1d c1d] 62)).alloc (.cells #[.bool s2a, .slice p2a n2a c2a, .bool s2b, .slice p2b n2b c2b, .bool s2c, .slice p2c n2c c2c, .bool s2d, .slice p2d n2d c2d] 62)).alloc (.cells #[.bool false, .slice none 0 0, .bool false, .slice none 0 0, .bool false, .slice none 0 0, .bool false, .slice none 0 0] 62)).heap.size = w.heap.size + 1 + 1 + 1 := by simp [hs6]
  clear hb7 hx8
  have hb10 := (Below.refl _ _).alloc (Nat.le_refl (((w.alloc (.cells #[.bool s1a, .slice p1a n1a c1a, .bool s1b, .slice p1b n1b c1b, .bool s1c, .slice p1c n1c c1c, .bool s1d, .slice p1d n1d c1d] 62)).alloc (.cells #[.bool s2a, .slice p2a n2a c2a, .bool s2b, .slice p2b n2b c2b, .bool s2c, .slice p2c n2c c2c, .bool s2d, .slice p2d n2d c2d] 62)).alloc (.cells #[.bool false, .slice none 0 0, .bool false, .slice none 0 0, .bool false, .slice none 0 0, .bool false, .slice none 0 0] 62)).heap.size) (.cells #[.bool s1a, .slice p1a n1a c1a, .bool s1b, .slice p1b n1b c1b, .bool s1c, .slice p1c n1c c1c, .bool s1d, .slice p1d n1d c1d, .bool s2a, .slice p2a n2a c2a, .bool s2b, .slice p2b n2b c2b, .bool s2c, .slice p2c n2c c2c, .bool s2d, .slice p2d n2d c2d] 60)
  have hx11 := row_new4 (w := (((w.alloc (.cells #[.bool s1a, .slice p1a n1a c1a, .bool s1b, .slice p1b n1b c1b, .bool s1c, .slice p1c n1c c1c, .bool s1d, .slice p1d n1d c1d] 62)).alloc (.cells #[.bool s2a, .slice p2a n2a c2a, .bool s2b, .slice p2b n2b c2b, .bool s2c, .slice p2c n2c c2c, .bool s2d, .slice p2d n2d c2d] 62)).alloc (.cells #[.bool false, .slice none 0 0, .bool false, .slice none 0 0, .bool false, .slice none 0 0, .bool false, .slice none 0 0] 62))) (Rtl.mk2 HT1l.out HU1l.out HD1l.out) (Rtl.mk2 HT1h.out HU1h.out HD1h.out) (Rtl.mk2 HT2l.out HU2l.out HD2l.out) (Rtl.mk2 HT2h.out HU2h.out HD2h.out)
  rw [hs9] at hx11
  replace X1 := ix X1 hb10
  replace X2 := ix X2 hb10
  replace XV := ix XV hb10
  replace B := bb B hb10
  have HR := hid hx11
  clear hb10 hx11 hs9
  clear  hk hk1 h hl1 hh1 ht1l hu1l hd1l ht1h hu1h hd1h h' hl2 hh2 ht2l hu2l hd2l ht2h hu2h hd2h
  go_enter Tryz.func41, Tryz.ntmps41
  obtain ⟨cc12a, cc12b, cc12c, cc12d, cc12e, cc12f, cc12g, cc12h⟩ := X1.out.cells
  obtain ⟨cc13a, cc13b, cc13c, cc13d, cc13e, cc13f, cc13g, cc13h⟩ := X2.out.cells
  obtain ⟨cc14a, cc14b, cc14c, cc14d, cc14e, cc14f, cc14g, cc14h⟩ := XV.out.cells
  go_wp2_with fail
  generalize hW : (((w.alloc (.cells #[.bool s1a, .slice p1a n1a c1a, .bool s1b, .slice p1b n1b c1b, .bool s1c, .slice p1c n1c c1c, .bool s1d, .slice p1d n1d c1d] 62)).alloc (.cells #[.bool s2a, .slice p2a n2a c2a, .bool s2b, .slice p2b n2b c2b, .bool s2c, .slice p2c n2c c2c, .bool s2d, .slice p2d n2d c2d] 62)).alloc (.cells #[.bool false, .slice none 0 0, .bool false, .slice none 0 0, .bool false, .slice none 0 0, .bool false, .slice none 0 0] 62)).alloc (.cells #[.bool s1a, .slice p1a n1a c1a, .bool s1b, .slice p1b n1b c1b, .bool s1c, .slice p1c n1c c1c, .bool s1d, .slice p1d n1d c1d, .bool s2a, .slice p2a n2a c2a, .bool s2b, .slice p2b n2b c2b, .bool s2c, .slice p2c n2c c2c, .bool s2d, .slice p2d n2d c2d] 60) = W15 at *
  clear hW
  refine (span_ivl HR.out (by decide) (by decide) HK1.out HK.out).mono ?_
  rintro e w16 ⟨v, rfl, hv, hb⟩
  replace hv : Ivl _ _ (lo4 p q r s) (hi4 p q r s) k := hv
  obtain ⟨s3a, p3a, n3a, c3a, s3b, p3b, n3b, c3b, s3c, p3c, n3c, c3c, s3d, p3d, n3d, c3d, rfl⟩ := hv.opened
  obtain ⟨hl3, hh3⟩ := hv.two
  obtain ⟨ht3l, d3l, hu3l, hd3l⟩ := hl3.two
  have HD3l := hid hd3l
  obtain ⟨ht3h, d3h, hu3h, hd3h⟩ := hh3.two
  have HD3h := hid hd3h
  replace XV := ix XV hb
  replace B := bb B hb
  clear cc12a cc12b cc12c cc12d cc12e cc12f cc12g cc12h cc13a cc13b cc13c cc13d cc13e cc13f cc13g cc13h cc14a cc14b cc14c cc14d cc14e cc14f cc14g cc14h
  have HT3l := hid ht3l
  have HU3l := hid hu3l
  have HT3h := hid ht3h
  have HU3h := hid hu3h
  clear hb hv hl3 hh3 ht3l hu3l hd3l ht3h hu3h hd3h
  obtain ⟨cc17a, cc17b, cc17c, cc17d, cc17e, cc17f, cc17g, cc17h⟩ := XV.out.cells
  obtain ⟨⟨cc18a, cc18b⟩, ⟨cc18c, cc18d⟩, ⟨cc18e, cc18f⟩, ⟨cc18g, cc18h⟩, ⟨cc18i, cc18j⟩, ⟨cc18k, cc18l⟩, ⟨cc18m, cc18n⟩, cc18o, cc18p⟩ := XV.out.stores
  obtain ⟨r19a, r19b, r19c⟩ := XV.out.last B.out (by omega) s3a p3a n3a c3a s3b p3b n3b c3b s3c p3c n3c c3c s3d p3d n3d c3d
  replace HT3l := hid (r19c HT3l.out)
  replace HU3l := hid (r19c HU3l.out)
  replace HT3h := hid (r19c HT3h.out)
  replace HU3h := hid (r19c HU3h.out)
  replace XV := hid r19a
  replace B := hid r19b
  clear r19a r19b r19c
  go_wp2_with fail
  refine bodyPost_ret (res_ivl rfl rfl XV.out) rfl ?_
  exact ⟨_, rfl, (Ivl.mk2 (Rtl.mk2 HT3l.out HU3l.out HD3l.out) (Rtl.mk2 HT3h.out HU3h.out HD3h.out)), B.out⟩

set_option maxHeartbeats 1000000 in
theorem has_a {w : World} {v u : Value} {p q x : Rat} {k : Nat} (h : Ivl w v p q k) (hx : Rtl w u x k) (h1 : x < p) (hk1 : 1 ≤ k) (hk : k ≤ 68719476736) :
    Calls Tryz.prog 30 #[v, u] w fun e w' => e = .returned (.bool false) ∧ Below w.heap.size w w' := by
  have HK := hid hk
  have HK1 := hid hk1
  have HA := hid (show decide (x < p) = true by simp [h1])
  obtain ⟨s1a, p1a, n1a, c1a, s1b, p1b, n1b, c1b, s1c, p1c, n1c, c1c, s1d, p1d, n1d, c1d, rfl⟩ := h.opened
  obtain ⟨hl1, hh1⟩ := h.two
  obtain ⟨ht1l, d1l, hu1l, hd1l⟩ := hl1.two
  have HD1l := hid hd1l
  obtain ⟨ht1h, d1h, hu1h, hd1h⟩ := hh1.two
  have HD1h := hid hd1h
  obtain ⟨s2a, p2a, n2a, c2a, s2b, p2b, n2b, c2b, rfl⟩ := hx.opened
  obtain ⟨ht2, d2, hu2, hd2⟩ := hx.two
  have HD2 := hid hd2
  have B := hid (Below.refl w.heap.size w)
  have HT1l := hid ht1l
  have HU1l := hid hu1l
  have HT1h := hid ht1h
  have HU1h := hid hu1h
  have HT2 := hid ht2
  have HU2 := hid hu2
  have hb1 := (Below.refl _ _).alloc (Nat.le_refl w.heap.size) (.cells #[.bool s1a, .slice p1a n1a c1a, .bool s1b, .slice p1b n1b c1b, .bool s1c, .slice p1c n1c c1c, .bool s1d, .slice p1d n1d c1d] 62)
  have hx2 := Ibx.new w s1a p1a n1a c1a s1b p1b n1b c1b s1c p1c n1c c1c s1d p1d n1d c1d
  replace HT1l := wl HT1l hb1
  replace HU1l := wl HU1l hb1
  replace HT2 := wl HT2 hb1
  replace HU2 := wl HU2 hb1
  replace B := bb B hb1
  have X1 := hid hx2
  have hs3 : (w.alloc (.cells #[.bool s1a, .slice p1a n1a c1a, .bool s1b, .slice p1b n1b c1b, .bool s1c, .slice p1c n1c c1c, .bool s1d, .slice p1d n1d c1d] 62)).heap.size = w.heap.size + 1 := by simp
  clear hb1 hx2
  have hb4 := (Below.refl _ _).alloc (Nat.le_refl (w.alloc (.cells #[.bool s1a, .slice p1a n1a c1a, .bool s1b, .slice p1b n1b c1b, .bool s1c, .slice p1c n1c c1c, .bool s1d, .slice p1d n1d c1d] 62)).heap.size) (.cells #[.bool s2a, .slice p2a n2a c2a, .bool s2b, .slice p2b n2b c2b] 60)
  have hx5 := Nbx.new (w.alloc (.cells #[.bool s1a, .slice p1a n1a c1a, .bool s1b, .slice p1b n1b c1b, .bool s1c, .slice p1c n1c c1c, .bool s1d, .slice p1d n1d c1d] 62)) s2a s2b (.slice p2a n2a c2a) (.slice p2b n2b c2b)
  rw [hs3] at hx5
  replace X1 := ix X1 hb4
  replace HT1l := wl HT1l hb4
  replace HU1l := wl HU1l hb4
  replace HT2 := wl HT2 hb4
  replace HU2 := wl HU2 hb4
  replace B := bb B hb4
  have X2 := hid hx5
  have hs6 : ((w.alloc (.cells #[.bool s1a, .slice p1a n1a c1a, .bool s1b, .slice p1b n1b c1b, .bool s1c, .slice p1c n1c c1c, .bool s1d, .slice p1d n1d c1d] 62)).alloc (.cells #[.bool s2a, .slice p2a n2a c2a, .bool s2b, .slice p2b n2b c2b] 60)).heap.size = w.heap.size + 1 + 1 := by simp [hs3]
  clear hb4 hx5
  clear hs6 hk hk1 h1 h hl1 hh1 ht1l hu1l hd1l ht1h hu1h hd1h hx ht2 hu2 hd2
  go_enter Tryz.func30, Tryz.ntmps30
  obtain ⟨cc7a, cc7b, cc7c, cc7d, cc7e, cc7f, cc7g, cc7h⟩ := X1.out.cells
  obtain ⟨cc8a, cc8b, cc8c, cc8d⟩ := X2.out.cells
  go_wp2_with fail
  generalize hW : (w.alloc (.cells #[.bool s1a, .slice p1a n1a c1a, .bool s1b, .slice p1b n1b c1b, .bool s1c, .slice p1c n1c c1c, .bool s1d, .slice p1d n1d c1d] 62)).alloc (.cells #[.bool s2a, .slice p2a n2a c2a, .bool s2b, .slice p2b n2b c2b] 60) = W9 at *
  clear hW
  refine (lessq_rtl (Rtl.mk2 HT2.out HU2.out HD2.out) (Rtl.mk2 HT1l.out HU1l.out HD1l.out) HK1.out HK.out).mono ?_
  rintro e w10 ⟨rfl, hb⟩
  replace X1 := ix X1 hb
  replace X2 := nx X2 hb
  replace B := bb B hb
  clear cc7a cc7b cc7c cc7d cc7e cc7f cc7g cc7h cc8a cc8b cc8c cc8d
  clear hb 
  rw [HA.out]
  obtain ⟨cc11a, cc11b, cc11c, cc11d, cc11e, cc11f, cc11g, cc11h⟩ := X1.out.cells
  obtain ⟨cc12a, cc12b, cc12c, cc12d⟩ := X2.out.cells
  go_wp2_with fail
  go_ret
  exact ⟨rfl, B.out⟩

set_option maxHeartbeats 1000000 in
theorem has_b {w : World} {v u : Value} {p q x : Rat} {k : Nat} (h : Ivl w v p q k) (hx : Rtl w u x k) (h1 : ¬ x < p) (h2 : q < x) (hk1 : 1 ≤ k) (hk : k ≤ 68719476736) :
    Calls Tryz.prog 30 #[v, u] w fun e w' => e = .returned (.bool false) ∧ Below w.heap.size w w' := by
  have HK := hid hk
  have HK1 := hid hk1
  have HA := hid (show decide (x < p) = false by simp [h1])
  have HB := hid (show decide (q < x) = true by simp [h2])
  obtain ⟨s1a, p1a, n1a, c1a, s1b, p1b, n1b, c1b, s1c, p1c, n1c, c1c, s1d, p1d, n1d, c1d, rfl⟩ := h.opened
  obtain ⟨hl1, hh1⟩ := h.two
  obtain ⟨ht1l, d1l, hu1l, hd1l⟩ := hl1.two
  have HD1l := hid hd1l
  obtain ⟨ht1h, d1h, hu1h, hd1h⟩ := hh1.two
  have HD1h := hid hd1h
  obtain ⟨s2a, p2a, n2a, c2a, s2b, p2b, n2b, c2b, rfl⟩ := hx.opened
  obtain ⟨ht2, d2, hu2, hd2⟩ := hx.two
  have HD2 := hid hd2
  have B := hid (Below.refl w.heap.size w)
  have HT1l := hid ht1l
  have HU1l := hid hu1l
  have HT1h := hid ht1h
  have HU1h := hid hu1h
  have HT2 := hid ht2
  have HU2 := hid hu2
  have hb1 := (Below.refl _ _).alloc (Nat.le_refl w.heap.size) (.cells #[.bool s1a, .slice p1a n1a c1a, .bool s1b, .slice p1b n1b c1b, .bool s1c, .slice p1c n1c c1c, .bool s1d, .slice p1d n1d c1d] 62)
  have hx2 := Ibx.new w s1a p1a n1a c1a s1b p1b n1b c1b s1c p1c n1c c1c s1d p1d n1d c1d
  replace HT1l := wl HT1l hb1
  replace HU1l := wl HU1l hb1
  replace HT1h := wl HT1h hb1
  replace HU1h := wl HU1h hb1
  replace HT2 := wl HT2 hb1
  replace HU2 := wl HU2 hb1
  replace B := bb B hb1
  have X1 := hid hx2
  have hs3 : (w.alloc (.cells #[.bool s1a, .slice p1a n1a c1a, .bool s1b, .slice p1b n1b c1b, .bool s1c, .slice p1c n1c c1c, .bool s1d, .slice p1d n1d c1d] 62)).heap.size = w.heap.size + 1 := by simp
  clear hb1 hx2
  have hb4 := (Below.refl _ _).alloc (Nat.le_refl (w.alloc (.cells #[.bool s1a, .slice p1a n1a c1a, .bool s1b, .slice p1b n1b c1b, .bool s1c, .slice p1c n1c c1c, .bool s1d, .slice p1d n1d c1d] 62)).heap.size) (.cells #[.bool s2a, .slice p2a n2a c2a, .bool s2b, .slice p2b n2b c2b] 60)
  have hx5 := Nbx.new (w.alloc (.cells #[.bool s1a, .slice p1a n1a c1a, .bool s1b, .slice p1b n1b c1b, .bool s1c, .slice p1c n1c c1c, .bool s1d, .slice p1d n1d c1d] 62)) s2a s2b (.slice p2a n2a c2a) (.slice p2b n2b c2b)
  rw [hs3] at hx5
  replace X1 := ix X1 hb4
  replace HT1l := wl HT1l hb4
  replace HU1l := wl HU1l hb4
  replace HT1h := wl HT1h hb4
  replace HU1h := wl HU1h hb4
  replace HT2 := wl HT2 hb4
  replace HU2 := wl HU2 hb4
  replace B := bb B hb4
  have X2 := hid hx5
  have hs6 : ((w.alloc (.cells #[.bool s1a, .slice p1a n1a c1a, .bool s1b, .slice p1b n1b c1b, .bool s1c, .slice p1c n1c c1c, .bool s1d, .slice p1d n1d c1d] 62)).alloc (.cells #[.bool s2a, .slice p2a n2a c2a, .bool s2b, .slice p2b n2b c2b] 60)).heap.size = w.heap.size + 1 + 1 := by simp [hs3]
  clear hb4 hx5
  clear hs6 hk hk1 h1 h2 h hl1 hh1 ht1l hu1l hd1l ht1h hu1h hd1h hx ht2 hu2 hd2
  go_enter Tryz.func30, Tryz.ntmps30
  obtain ⟨cc7a, cc7b, cc7c, cc7d, cc7e, cc7f, cc7g, cc7h⟩ := X1.out.cells
  obtain ⟨cc8a, cc8b, cc8c, cc8d⟩ := X2.out.cells
  go_wp2_with fail
  generalize hW : (w.alloc (.cells #[.bool s1a, .slice p1a n1a c1a, .bool s1b, .slice p1b n1b c1b, .bool s1c, .slice p1c n1c c1c, .bool s1d, .slice p1d n1d c1d] 62)).alloc (.cells #[.bool s2a, .slice p2a n2a c2a, .bool s2b, .slice p2b n2b c2b] 60) = W9 at *
  clear hW
  refine (lessq_rtl (Rtl.mk2 HT2.out HU2.out HD2.out) (Rtl.mk2 HT1l.out HU1l.out HD1l.out) HK1.out HK.out).mono ?_
  rintro e w10 ⟨rfl, hb⟩
  replace X1 := ix X1 hb
  replace X2 := nx X2 hb
  replace HT1h := wl HT1h hb
  replace HU1h := wl HU1h hb
  replace HT2 := wl HT2 hb
  replace HU2 := wl HU2 hb
  replace B := bb B hb
  clear cc7a cc7b cc7c cc7d cc7e cc7f cc7g cc7h cc8a cc8b cc8c cc8d
  clear hb 
  rw [HA.out]
  obtain ⟨cc11a, cc11b, cc11c, cc11d, cc11e, cc11f, cc11g, cc11h⟩ := X1.out.cells
  obtain ⟨cc12a, cc12b, cc12c, cc12d⟩ := X2.out.cells
  go_wp2_with fail
  refine (lessq_rtl (Rtl.mk2 HT1h.out HU1h.out HD1h.out) (Rtl.mk2 HT2.out HU2.out HD2.out) HK1.out HK.out).mono ?_
  rintro e w13 ⟨rfl, hb⟩
  replace X1 := ix X1 hb
  replace X2 := nx X2 hb
  replace B := bb B hb
  clear cc11a cc11b cc11c cc11d cc11e cc11f cc11g cc11h cc12a cc12b cc12c cc12d
  clear hb 
  rw [HB.out]
  go_wp2_with fail
  go_ret
  exact ⟨rfl, B.out⟩

set_option maxHeartbeats 1000000 in
theorem has_c {w : World} {v u : Value} {p q x : Rat} {k : Nat} (h : Ivl w v p q k) (hx : Rtl w u x k) (h1 : ¬ x < p) (h2 : ¬ q < x) (hk1 : 1 ≤ k) (hk : k ≤ 68719476736) :
    Calls Tryz.prog 30 #[v, u] w fun e w' => e = .returned (.bool true) ∧ Below w.heap.size w w' := by
  have HK := hid hk
  have HK1 := hid hk1
  have HA := hid (show decide (x < p) = false by simp [h1])
  have HB := hid (show decide (q < x) = false by simp [h2])
  obtain ⟨s1a, p1a, n1a, c1a, s1b, p1b, n1b, c1b, s1c, p1c, n1c, c1c, s1d, p1d, n1d, c1d, rfl⟩ := h.opened
  obtain ⟨hl1, hh1⟩ := h.two
  obtain ⟨ht1l, d1l, hu1l, hd1l⟩ := hl1.two
  have HD1l := hid hd1l
  obtain ⟨ht1h, d1h, hu1h, hd1h⟩ := hh1.two
  have HD1h := hid hd1h
  obtain ⟨s2a, p2a, n2a, c2a, s2b, p2b, n2b, c2b, rfl⟩ := hx.opened
  obtain ⟨ht2, d2, hu2, hd2⟩ := hx.two
  have HD2 := hid hd2
  have B := hid (Below.refl w.heap.size w)
  have HT1l := hid ht1l
  have HU1l := hid hu1l
  have HT1h := hid ht1h
  have HU1h := hid hu1h
  have HT2 := hid ht2
  have HU2 := hid hu2
  have hb1 := (Below.refl _ _).alloc (Nat.le_refl w.heap.size) (.cells #[.bool s1a, .slice p1a n1a c1a, .bool s1b, .slice p1b n1b c1b, .bool s1c, .slice p1c n1c c1c, .bool s1d, .slice p1d n1d c1d] 62)
  have hx2 := Ibx.new w s1a p1a n1a c1a s1b p1b n1b c1b s1c p1c n1c c1c s1d p1d n1d c1d
  replace HT1l := wl HT1l hb1
  replace HU1l := wl HU1l hb1
  replace HT1h := wl HT1h hb1
  replace HU1h := wl HU1h hb1
  replace HT2 := wl HT2 hb1
  replace HU2 := wl HU2 hb1
  replace B := bb B hb1
  have X1 := hid hx2
  have hs3 : (w.alloc (.cells #[.bool s1a, .slice p1a n1a c1a, .bool s1b, .slice p1b n1b c1b, .bool s1c, .slice p1c n1c c1c, .bool s1d, .slice p1d n1d c1d] 62)).heap.size = w.heap.size + 1 := by simp
  clear hb1 hx2
  have hb4 := (Below.refl _ _).alloc (Nat.le_refl (w.alloc (.cells #[.bool s1a, .slice p1a n1a c1a, .bool s1b, .slice p1b n1b c1b, .bool s1c, .slice p1c n1c c1c, .bool s1d, .slice p1d n1d c1d] 62)).heap.size) (.cells #[.bool s2a, .slice p2a n2a c2a, .bool s2b, .slice p2b n2b c2b] 60)
  have hx5 := Nbx.new (w.alloc (.cells #[.bool s1a, .slice p1a n1a c1a, .bool s1b, .slice p1b n1b c1b, .bool s1c, .slice p1c n1c c1c, .bool s1d, .slice p1d n1d c1d] 62)) s2a s2b (.slice p2a n2a c2a) (.slice p2b n2b c2b)
  rw [hs3] at hx5
  replace X1 := ix X1 hb4
  replace HT1l := wl HT1l hb4
  replace HU1l := wl HU1l hb4
  replace HT1h := wl HT1h hb4
  replace HU1h := wl HU1h hb4
  replace HT2 := wl HT2 hb4
  replace HU2 := wl HU2 hb4
  replace B := bb B hb4
  have X2 := hid hx5
  have hs6 : ((w.alloc (.cells #[.bool s1a, .slice p1a n1a c1a, .bool s1b, .slice p1b n1b c1b, .bool s1c, .slice p1c n1c c1c, .bool s1d, .slice p1d n1d c1d] 62)).alloc (.cells #[.bool s2a, .slice p2a n2a c2a, .bool s2b, .slice p2b n2b c2b] 60)).heap.size = w.heap.size + 1 + 1 := by simp [hs3]
  clear hb4 hx5
  clear hs6 hk hk1 h1 h2 h hl1 hh1 ht1l hu1l hd1l ht1h hu1h hd1h hx ht2 hu2 hd2
  go_enter Tryz.func30, Tryz.ntmps30
  obtain ⟨cc7a, cc7b, cc7c, cc7d, cc7e, cc7f, cc7g, cc7h⟩ := X1.out.cells
  obtain ⟨cc8a, cc8b, cc8c, cc8d⟩ := X2.out.cells
  go_wp2_with fail
  generalize hW : (w.alloc (.cells #[.bool s1a, .slice p1a n1a c1a, .bool s1b, .slice p1b n1b c1b, .bool s1c, .slice p1c n1c c1c, .bool s1d, .slice p1d n1d c1d] 62)).alloc (.cells #[.bool s2a, .slice p2a n2a c2a, .bool s2b, .slice p2b n2b c2b] 60) = W9 at *
  clear hW
  refine (lessq_rtl (Rtl.mk2 HT2.out HU2.out HD2.out) (Rtl.mk2 HT1l.out HU1l.out HD1l.out) HK1.out HK.out).mono ?_
  rintro e w10 ⟨rfl, hb⟩
  replace X1 := ix X1 hb
  replace X2 := nx X2 hb
  replace HT1h := wl HT1h hb
  replace HU1h := wl HU1h hb
  replace HT2 := wl HT2 hb
  replace HU2 := wl HU2 hb
  replace B := bb B hb
  clear cc7a cc7b cc7c cc7d cc7e cc7f cc7g cc7h cc8a cc8b cc8c cc8d
  clear hb 
  rw [HA.out]
  obtain ⟨cc11a, cc11b, cc11c, cc11d, cc11e, cc11f, cc11g, cc11h⟩ := X1.out.cells
  obtain ⟨cc12a, cc12b, cc12c, cc12d⟩ := X2.out.cells
  go_wp2_with fail
  refine (lessq_rtl (Rtl.mk2 HT1h.out HU1h.out HD1h.out) (Rtl.mk2 HT2.out HU2.out HD2.out) HK1.out HK.out).mono ?_
  rintro e w13 ⟨rfl, hb⟩
  replace X1 := ix X1 hb
  replace X2 := nx X2 hb
  replace B := bb B hb
  clear cc11a cc11b cc11c cc11d cc11e cc11f cc11g cc11h cc12a cc12b cc12c cc12d
  clear hb 
  rw [HB.out]
  go_wp2_with fail
  go_ret
  exact ⟨rfl, B.out⟩

theorem has_ivl {w : World} {v u : Value} {p q x : Rat} {k : Nat} (h : Ivl w v p q k) (hx : Rtl w u x k) (hk1 : 1 ≤ k) (hk : k ≤ 68719476736) :
    Calls Tryz.prog 30 #[v, u] w fun e w' => e = .returned (.bool (decide (p ≤ x ∧ x ≤ q))) ∧ Below w.heap.size w w' := by
  by_cases h1 : x < p
  · rw [decide_eq_false (by grind)]; exact has_a h hx h1 hk1 hk
  · by_cases h2 : q < x
    · rw [decide_eq_false (by grind)]; exact has_b h hx h1 h2 hk1 hk
    · rw [decide_eq_true (by grind)]; exact has_c h hx h1 h2 hk1 hk

end Go.Proofs.YtkdeopikojgboaaGreatDoor

/-
  PACKAGE ival: add, mul.
-/
namespace Go.Proofs.YtkdeopikojgboaaGreatDoor
open Go.RowKit
open Num
set_option linter.unusedVariables false
set_option maxRecDepth 100000
set_option linter.unusedSimpArgs false

set_option maxHeartbeats 8000000 in
theorem add_ivl {w : World} {v u : Value} {p q r s : Rat} {k : Nat} (h : Ivl w v p q k) (h' : Ivl w u r s k) (hk1 : 1 ≤ k) (hk : k ≤ 1073741824) :
    Calls Tryz.prog 39 #[v, u] w fun e w' => ∃ v, e = .returned v ∧ Ivl w' v (mn (p + r) (q + s)) (mx (p + r) (q + s)) (k + k + 1) ∧ Below w.heap.size w w' := by
  have HK := hid hk
  have HK1 := hid hk1
  obtain ⟨s1a, p1a, n1a, c1a, s1b, p1b, n1b, c1b, s1c, p1c, n1c, c1c, s1d, p1d, n1d, c1d, rfl⟩ := h.opened
  obtain ⟨hl1, hh1⟩ := h.two
  obtain ⟨ht1l, d1l, hu1l, hd1l⟩ := hl1.two
  have HD1l := hid hd1l
  obtain ⟨ht1h, d1h, hu1h, hd1h⟩ := hh1.two
  have HD1h := hid hd1h
  obtain ⟨s2a, p2a, n2a, c2a, s2b, p2b, n2b, c2b, s2c, p2c, n2c, c2c, s2d, p2d, n2d, c2d, rfl⟩ := h'.opened
  obtain ⟨hl2, hh2⟩ := h'.two
  obtain ⟨ht2l, d2l, hu2l, hd2l⟩ := hl2.two
  have HD2l := hid hd2l
  obtain ⟨ht2h, d2h, hu2h, hd2h⟩ := hh2.two
  have HD2h := hid hd2h
  have B := hid (Below.refl w.heap.size w)
  have HT1l := hid ht1l
  have HU1l := hid hu1l
  have HT1h := hid ht1h
  have HU1h := hid hu1h
  have HT2l := hid ht2l
  have HU2l := hid hu2l
  have HT2h := hid ht2h
  have HU2h := hid hu2h
  have hb1 := (Below.refl _ _).alloc (Nat.le_refl w.heap.size) (.cells #[.bool s1a, .slice p1a n1a c1a, .bool s1b, .slice p1b n1b c1b, .bool s1c, .slice p1c n1c c1c, .bool s1d, .slice p1d n1d c1d] 62)
  have hx2 := Ibx.new w s1a p1a n1a c1a s1b p1b n1b c1b s1c p1c n1c c1c s1d p1d n1d c1d
  replace HT1l := wl HT1l hb1
  replace HU1l := wl HU1l hb1
  replace HT1h := wl HT1h hb1
  replace HU1h := wl HU1h hb1
  replace HT2l := wl HT2l hb1
  replace HU2l := wl HU2l hb1
  replace HT2h := wl HT2h hb1
  replace HU2h := wl HU2h hb1
  replace B := bb B hb1
  have X1 := hid hx2
  have hs3 : (w.alloc (.cells #[.bool s1a, .slice p1a n1a c1a, .bool s1b, .slice p1b n1b c1b, .bool s1c, .slice p1c n1c c1c, .bool s1d, .slice p1d n1d c1d] 62)).heap.size = w.heap.size + 1 := by simp
  clear hb1 hx2
  have hb4 := (Below.refl _ _).alloc (Nat.le_refl (w.alloc (.cells #[.bool s1a, .slice p1a n1a c1a, .bool s1b, .slice p1b n1b c1b, .bool s1c, .slice p1c n1c c1c, .bool s1d, .slice p1d n1d c1d] 62)).heap.size) (.cells #[.bool s2a, .slice p2a n2a c2a, .bool s2b, .slice p2b n2b c2b, .bool s2c, .slice p2c n2c c2c, .bool s2d, .slice p2d n2d c2d] 62)
  have hx5 := Ibx.new (w.alloc (.cells #[.bool s1a, .slice p1a n1a c1a, .bool s1b, .slice p1b n1b c1b, .bool s1c, .slice p1c n1c c1c, .bool s1d, .slice p1d n1d c1d] 62)) s2a p2a n2a c2a s2b p2b n2b c2b s2c p2c n2c c2c s2d p2d n2d c2d
  rw [hs3] at hx5
  replace X1 := ix X1 hb4
  replace HT1l := wl HT1l hb4
  replace HU1l := wl HU1l hb4
  replace HT1h := wl HT1h hb4
  replace HU1h := wl HU1h hb4
  replace HT2l := wl HT2l hb4
  replace HU2l := wl HU2l hb4
  replace HT2h := wl HT2h hb4
  replace HU2h := wl HU2h hb4
  replace B := bb B hb4
  have X2 := hid hx5
  have hs6 : ((w.alloc (.cells #[.bool s1a, .slice p1a n1a c1a, .bool s1b, .slice p1b n1b c1b, .bool s1c, .slice p1c n1c c1c, .bool s1d, .slice p1d n1d c1d] 62)).alloc (.cells #[.bool s2a, .slice p2a n2a c2a, .bool s2b, .slice p2b n2b c2b, .bool s2c, .slice p2c n2c c2c, .bool s2d, .slice p2d n2d c2d] 62)).heap.size = w.heap.size + 1 + 1 := by simp [hs3]
  clear hb4 hx5
  have hb7 := (Below.refl _ _).alloc (Nat.le_refl ((w.alloc (.cells #[.bool s1a, .slice p1a n1a c1a, .bool s1b, .slice p1b n1b c1b, .bool s1c, .slice p1c n1c c1c, .bool s1d, .slice p1d n1d c1d] 62)).alloc (.cells #[.bool s2a, .slice p2a n2a c2a, .bool s2b, .slice p2b n2b c2b, .bool s2c, .slice p2c n2c c2c, .bool s2d, .slice p2d n2d c2d] 62)).heap.size) (.cells #[.bool false, .slice none 0 0, .bool false, .slice none 0 0, .bool false, .slice none 0 0, .bool false, .slice none 0 0] 62)
  have hx8 := Ibx.new ((w.alloc (.cells #[.bool s1a, .slice p1a n1a c1a, .bool s1b, .slice p1b n1b c1b, .bool s1c, .slice p1c n1c c1c, .bool s1d, .slice p1d n1d c1d] 62)).alloc (.cells #[.bool s2a, .slice p2a n2a c2a, .bool s2b, .slice p2b n2b c2b, .bool s2c, .slice p2c n2c c2c, .bool s2d, .slice p2d n2d c2d] 62)) false none 0 0 false none 0 0 false none 0 0 false none 0 0
  rw [hs6] at hx8
  replace X1 := ix X1 hb7
  replace X2 := ix X2 hb7
  replace HT1l := wl HT1l hb7
  replace HU1l := wl HU1l hb7
  replace HT1h := wl HT1h hb7
  replace HU1h := wl HU1h hb7
  replace HT2l := wl HT2l hb7
  replace HU2l := wl HU2l hb7
  replace HT2h := wl HT2h hb7
  replace HU2h := wl HU2h hb7
  replace B := bb B hb7
  have XV := hid hx8
  have hs9 : (((w.alloc (.cells #[.bool s1a, .slice p1a n1a c1a, .bool s1b, .slice p1b n1b c1b, .bool s1c, .slice p1c n1c c1c, .bool s1d, .slice p1d n1d c1d] 62)).alloc (.cells #[.bool s2a, .slice p2a n2a c2a, .bool s2b, .slice p2b n2b c2b, .bool s2c, .slice p2c n2c c2c, .bool s2d, .slice p2d n2d c2d] 62)).alloc (.cells #[.bool false, .slice none 0 0, .bool false, .slice none 0 0, .bool false, .slice none 0 0, .bool false, .slice none 0 0] 62)).heap.size = w.heap.size + 1 + 1 + 1 := by simp [hs6]
  clear hb7 hx8
  clear hs9 hk hk1 h hl1 hh1 ht1l hu1l hd1l ht1h hu1h hd1h h' hl2 hh2 ht2l hu2l hd2l ht2h hu2h hd2h
  go_enter Tryz.func39, Tryz.ntmps39
  obtain ⟨cc10a, cc10b, cc10c, cc10d, cc10e, cc10f, cc10g, cc10h⟩ := X1.out.cells
  obtain ⟨cc11a, cc11b, cc11c, cc11d, cc11e, cc11f, cc11g, cc11h⟩ := X2.out.cells
  obtain ⟨cc12a, cc12b, cc12c, cc12d, cc12e, cc12f, cc12g, cc12h⟩ := XV.out.cells
  go_wp2_with fail
  generalize hW : ((w.alloc (.cells #[.bool s1a, .slice p1a n1a c1a, .bool s1b, .slice p1b n1b c1b, .bool s1c, .slice p1c n1c c1c, .bool s1d, .slice p1d n1d c1d] 62)).alloc (.cells #[.bool s2a, .slice p2a n2a c2a, .bool s2b, .slice p2b n2b c2b, .bool s2c, .slice p2c n2c c2c, .bool s2d, .slice p2d n2d c2d] 62)).alloc (.cells #[.bool false, .slice none 0 0, .bool false, .slice none 0 0, .bool false, .slice none 0 0, .bool false, .slice none 0 0] 62) = W13 at *
  clear hW
  obtain ⟨cc14a, cc14b, cc14c, cc14d, cc14e, cc14f, cc14g, cc14h⟩ := X1.out.cells
  obtain ⟨cc15a, cc15b, cc15c, cc15d, cc15e, cc15f, cc15g, cc15h⟩ := X2.out.cells
  replace X1 := hid X1.out.dr
  replace X2 := hid X2.out.dr
  replace XV := hid XV.out.dr
  replace HT1l := hid HT1l.out.drew
  replace HU1l := hid HU1l.out.drew
  replace HT1h := hid HT1h.out.drew
  replace HU1h := hid HU1h.out.drew
  replace HT2l := hid HT2l.out.drew
  replace HU2l := hid HU2l.out.drew
  replace HT2h := hid HT2h.out.drew
  replace HU2h := hid HU2h.out.drew
  replace B := hid (Below.drew B.out)
  obtain ⟨cc16a, cc16b, cc16c, cc16d, cc16e, cc16f, cc16g, cc16h⟩ := X1.out.cells
  obtain ⟨cc17a, cc17b, cc17c, cc17d, cc17e, cc17f, cc17g, cc17h⟩ := X2.out.cells
  go_region_held3 (fun w' => w'.cell? ⟨w.heap.size, 0, none⟩ = some (.bool s1a) ∧ w'.cell? ⟨w.heap.size, 1, none⟩ = some (.slice p1a n1a c1a) ∧ w'.cell? ⟨w.heap.size, 2, none⟩ = some (.bool s1b) ∧ w'.cell? ⟨w.heap.size, 3, none⟩ = some (.slice p1b n1b c1b) ∧ w'.cell? ⟨w.heap.size, 4, none⟩ = some (.bool s1c) ∧ w'.cell? ⟨w.heap.size, 5, none⟩ = some (.slice p1c n1c c1c) ∧ w'.cell? ⟨w.heap.size, 6, none⟩ = some (.bool s1d) ∧ w'.cell? ⟨w.heap.size, 7, none⟩ = some (.slice p1d n1d c1d) ∧ w'.cell? ⟨w.heap.size + 1, 0, none⟩ = some (.bool s2a) ∧ w'.cell? ⟨w.heap.size + 1, 1, none⟩ = some (.slice p2a n2a c2a) ∧ w'.cell? ⟨w.heap.size + 1, 2, none⟩ = some (.bool s2b) ∧ w'.cell? ⟨w.heap.size + 1, 3, none⟩ = some (.slice p2b n2b c2b) ∧ w'.cell? ⟨w.heap.size + 1, 4, none⟩ = some (.bool s2c) ∧ w'.cell? ⟨w.heap.size + 1, 5, none⟩ = some (.slice p2c n2c c2c) ∧ w'.cell? ⟨w.heap.size + 1, 6, none⟩ = some (.bool s2d) ∧ w'.cell? ⟨w.heap.size + 1, 7, none⟩ = some (.slice p2d n2d c2d)) (go_keep) (first
    | (have hm := mk18_1; clear hm; have hb25 := (Below.refl _ _).alloc (Nat.le_refl w22.heap.size) (.cells #[.bool s4a, .slice p4a n4a c4a, .bool s4b, .slice p4b n4b c4b, .bool s5a, .slice p5a n5a c5a, .bool s5b, .slice p5b n5b c5b] 60); have hx26 := row_new2 (w := w22) (Rtl.mk2 HT4.out HU4.out HD4.out) (Rtl.mk2 HT5.out HU5.out HD5.out); replace X1 := ix X1 hb25; replace X2 := ix X2 hb25; replace XV := ix XV hb25; replace HT1l := wl HT1l hb25; replace HU1l := wl HU1l hb25; replace HT1h := wl HT1h hb25; replace HU1h := wl HU1h hb25; replace HT2l := wl HT2l hb25; replace HU2l := wl HU2l hb25; replace HT2h := wl HT2h hb25; replace HU2h := wl HU2h hb25; replace HT4 := wl HT4 hb25; replace HU4 := wl HU4 hb25; replace HT5 := wl HT5 hb25; replace HU5 := wl HU5 hb25; replace B := bb B hb25; have HR := hid hx26; clear hb25 hx26; go_at_call 57; refine (span_ivl HR.out (by decide) (by decide) (show 1 ≤ k + k + 1 by omega) (by have := HK.out; omega)).mono ?_; rintro e w27 ⟨v, rfl, hv, hb⟩; replace hv : Ivl _ _ (mn (p + r) (q + s)) (mx (p + r) (q + s)) _ := hv; obtain ⟨s3a, p3a, n3a, c3a, s3b, p3b, n3b, c3b, s3c, p3c, n3c, c3c, s3d, p3d, n3d, c3d, rfl⟩ := hv.opened; obtain ⟨hl3, hh3⟩ := hv.two; obtain ⟨ht3l, d3l, hu3l, hd3l⟩ := hl3.two; have HD3l := hid hd3l; obtain ⟨ht3h, d3h, hu3h, hd3h⟩ := hh3.two; have HD3h := hid hd3h; replace X1 := ix X1 hb; replace X2 := ix X2 hb; replace XV := ix XV hb; replace HT1l := wl HT1l hb; replace HU1l := wl HU1l hb; replace HT1h := wl HT1h hb; replace HU1h := wl HU1h hb; replace HT2l := wl HT2l hb; replace HU2l := wl HU2l hb; replace HT2h := wl HT2h hb; replace HU2h := wl HU2h hb; replace HT4 := wl HT4 hb; replace HU4 := wl HU4 hb; replace HT5 := wl HT5 hb; replace HU5 := wl HU5 hb; replace B := bb B hb; clear cc23a cc23b cc23c cc23d cc23e cc23f cc23g cc23h cc24a cc24b cc24c cc24d cc24e cc24f cc24g cc24h; have HT3l := hid ht3l; have HU3l := hid hu3l; have HT3h := hid ht3h; have HU3h := hid hu3h; clear hb hv hl3 hh3 ht3l hu3l hd3l ht3h hu3h hd3h HR; obtain ⟨cc28a, cc28b, cc28c, cc28d, cc28e, cc28f, cc28g, cc28h⟩ := X1.out.cells; obtain ⟨cc29a, cc29b, cc29c, cc29d, cc29e, cc29f, cc29g, cc29h⟩ := X2.out.cells; obtain ⟨⟨cc30a, cc30b⟩, ⟨cc30c, cc30d⟩, ⟨cc30e, cc30f⟩, ⟨cc30g, cc30h⟩, ⟨cc30i, cc30j⟩, ⟨cc30k, cc30l⟩, ⟨cc30m, cc30n⟩, cc30o, cc30p⟩ := XV.out.stores; obtain ⟨r31a, r31b, r31c⟩ := XV.out.last B.out (by omega) s3a p3a n3a c3a s3b p3b n3b c3b s3c p3c n3c c3c s3d p3d n3d c3d; replace X1 := hid ((((((((X1.out.other (g2 := w.heap.size + 1 + 1) (by omega) 0 (.bool s3a)).other (g2 := w.heap.size + 1 + 1) (by omega) 1 (.slice p3a n3a c3a)).other (g2 := w.heap.size + 1 + 1) (by omega) 2 (.bool s3b)).other (g2 := w.heap.size + 1 + 1) (by omega) 3 (.slice p3b n3b c3b)).other (g2 := w.heap.size + 1 + 1) (by omega) 4 (.bool s3c)).other (g2 := w.heap.size + 1 + 1) (by omega) 5 (.slice p3c n3c c3c)).other (g2 := w.heap.size + 1 + 1) (by omega) 6 (.bool s3d)).other (g2 := w.heap.size + 1 + 1) (by omega) 7 (.slice p3d n3d c3d)); replace X2 := hid ((((((((X2.out.other (g2 := w.heap.size + 1 + 1) (by omega) 0 (.bool s3a)).other (g2 := w.heap.size + 1 + 1) (by omega) 1 (.slice p3a n3a c3a)).other (g2 := w.heap.size + 1 + 1) (by omega) 2 (.bool s3b)).other (g2 := w.heap.size + 1 + 1) (by omega) 3 (.slice p3b n3b c3b)).other (g2 := w.heap.size + 1 + 1) (by omega) 4 (.bool s3c)).other (g2 := w.heap.size + 1 + 1) (by omega) 5 (.slice p3c n3c c3c)).other (g2 := w.heap.size + 1 + 1) (by omega) 6 (.bool s3d)).other (g2 := w.heap.size + 1 + 1) (by omega) 7 (.slice p3d n3d c3d)); replace HT1l := hid (r31c HT1l.out); replace HU1l := hid (r31c HU1l.out); replace HT1h := hid (r31c HT1h.out); replace HU1h := hid (r31c HU1h.out); replace HT2l := hid (r31c HT2l.out); replace HU2l := hid (r31c HU2l.out); replace HT2h := hid (r31c HT2h.out); replace HU2h := hid (r31c HU2h.out); replace HT4 := hid (r31c HT4.out); replace HU4 := hid (r31c HU4.out); replace HT5 := hid (r31c HT5.out); replace HU5 := hid (r31c HU5.out); replace HT3l := hid (r31c HT3l.out); replace HU3l := hid (r31c HU3l.out); replace HT3h := hid (r31c HT3h.out); replace HU3h := hid (r31c HU3h.out); replace XV := hid r31a; replace B := hid r31b; clear r31a r31b r31c; obtain ⟨cc32a, cc32b, cc32c, cc32d, cc32e, cc32f, cc32g, cc32h⟩ := X1.out.cells; obtain ⟨cc33a, cc33b, cc33c, cc33d, cc33e, cc33f, cc33g, cc33h⟩ := X2.out.cells; have mk18_2 := hid True.intro)
    | (have hm := mk18_0; clear hm; go_at_call 58; refine (addq_rtl (Rtl.mk2 HT1h.out HU1h.out HD1h.out) (Rtl.mk2 HT2h.out HU2h.out HD2h.out) HK1.out (by have := HK.out; omega)).mono ?_; rintro e w22 ⟨v, rfl, hv, hb⟩; obtain ⟨s5a, p5a, n5a, c5a, s5b, p5b, n5b, c5b, rfl⟩ := hv.opened; obtain ⟨ht5, d5, hu5, hd5⟩ := hv.two; have HD5 := hid hd5; replace X1 := ix X1 hb; replace X2 := ix X2 hb; replace XV := ix XV hb; replace HT1l := wl HT1l hb; replace HU1l := wl HU1l hb; replace HT1h := wl HT1h hb; replace HU1h := wl HU1h hb; replace HT2l := wl HT2l hb; replace HU2l := wl HU2l hb; replace HT2h := wl HT2h hb; replace HU2h := wl HU2h hb; replace HT4 := wl HT4 hb; replace HU4 := wl HU4 hb; replace B := bb B hb; clear cc20a cc20b cc20c cc20d cc20e cc20f cc20g cc20h cc21a cc21b cc21c cc21d cc21e cc21f cc21g cc21h; have HT5 := hid ht5; have HU5 := hid hu5; clear hb hv ht5 hu5 hd5; obtain ⟨cc23a, cc23b, cc23c, cc23d, cc23e, cc23f, cc23g, cc23h⟩ := X1.out.cells; obtain ⟨cc24a, cc24b, cc24c, cc24d, cc24e, cc24f, cc24g, cc24h⟩ := X2.out.cells; have mk18_1 := hid True.intro)
    | (go_at_call 58; refine (addq_rtl (Rtl.mk2 HT1l.out HU1l.out HD1l.out) (Rtl.mk2 HT2l.out HU2l.out HD2l.out) HK1.out (by have := HK.out; omega)).mono ?_; rintro e w19 ⟨v, rfl, hv, hb⟩; obtain ⟨s4a, p4a, n4a, c4a, s4b, p4b, n4b, c4b, rfl⟩ := hv.opened; obtain ⟨ht4, d4, hu4, hd4⟩ := hv.two; have HD4 := hid hd4; replace X1 := ix X1 hb; replace X2 := ix X2 hb; replace XV := ix XV hb; replace HT1l := wl HT1l hb; replace HU1l := wl HU1l hb; replace HT1h := wl HT1h hb; replace HU1h := wl HU1h hb; replace HT2l := wl HT2l hb; replace HU2l := wl HU2l hb; replace HT2h := wl HT2h hb; replace HU2h := wl HU2h hb; replace B := bb B hb; clear cc10a cc10b cc10c cc10d cc10e cc10f cc10g cc10h cc11a cc11b cc11c cc11d cc11e cc11f cc11g cc11h cc12a cc12b cc12c cc12d cc12e cc12f cc12g cc12h cc14a cc14b cc14c cc14d cc14e cc14f cc14g cc14h cc15a cc15b cc15c cc15d cc15e cc15f cc15g cc15h cc16a cc16b cc16c cc16d cc16e cc16f cc16g cc16h cc17a cc17b cc17c cc17d cc17e cc17f cc17g cc17h; have HT4 := hid ht4; have HU4 := hid hu4; clear hb hv ht4 hu4 hd4; obtain ⟨cc20a, cc20b, cc20c, cc20d, cc20e, cc20f, cc20g, cc20h⟩ := X1.out.cells; obtain ⟨cc21a, cc21b, cc21c, cc21d, cc21e, cc21f, cc21g, cc21h⟩ := X2.out.cells; have mk18_0 := hid True.intro))
  go_wp2_with fail
  refine bodyPost_ret (res_ivl rfl rfl XV.out) rfl ?_
  exact ⟨_, rfl, (Ivl.mk2 (Rtl.mk2 HT3l.out HU3l.out HD3l.out) (Rtl.mk2 HT3h.out HU3h.out HD3h.out)), B.out⟩

set_option maxHeartbeats 8000000 in
theorem mul_ivl {w : World} {v u : Value} {p q r s : Rat} {k : Nat} (h : Ivl w v p q k) (h' : Ivl w u r s k) (hk1 : 1 ≤ k) (hk : k ≤ 1073741824) :
    Calls Tryz.prog 40 #[v, u] w fun e w' => ∃ v, e = .returned v ∧ Ivl w' v (lo4 (p * r) (p * s) (q * r) (q * s)) (hi4 (p * r) (p * s) (q * r) (q * s)) (k + k + 1) ∧ Below w.heap.size w w' := by
  have HK := hid hk
  have HK1 := hid hk1
  obtain ⟨s1a, p1a, n1a, c1a, s1b, p1b, n1b, c1b, s1c, p1c, n1c, c1c, s1d, p1d, n1d, c1d, rfl⟩ := h.opened
  obtain ⟨hl1, hh1⟩ := h.two
  obtain ⟨ht1l, d1l, hu1l, hd1l⟩ := hl1.two
  have HD1l := hid hd1l
  obtain ⟨ht1h, d1h, hu1h, hd1h⟩ := hh1.two
  have HD1h := hid hd1h
  obtain ⟨s2a, p2a, n2a, c2a, s2b, p2b, n2b, c2b, s2c, p2c, n2c, c2c, s2d, p2d, n2d, c2d, rfl⟩ := h'.opened
  obtain ⟨hl2, hh2⟩ := h'.two
  obtain ⟨ht2l, d2l, hu2l, hd2l⟩ := hl2.two
  have HD2l := hid hd2l
  obtain ⟨ht2h, d2h, hu2h, hd2h⟩ := hh2.two
  have HD2h := hid hd2h
  have B := hid (Below.refl w.heap.size w)
  have HT1l := hid ht1l
  have HU1l := hid hu1l
  have HT1h := hid ht1h
  have HU1h := hid hu1h
  have HT2l := hid ht2l
  have HU2l := hid hu2l
  have HT2h := hid ht2h
  have HU2h := hid hu2h
  have hb1 := (Below.refl _ _).alloc (Nat.le_refl w.heap.size) (.cells #[.bool s1a, .slice p1a n1a c1a, .bool s1b, .slice p1b n1b c1b, .bool s1c, .slice p1c n1c c1c, .bool s1d, .slice p1d n1d c1d] 62)
  have hx2 := Ibx.new w s1a p1a n1a c1a s1b p1b n1b c1b s1c p1c n1c c1c s1d p1d n1d c1d
  replace HT1l := wl HT1l hb1
  replace HU1l := wl HU1l hb1
  replace HT1h := wl HT1h hb1
  replace HU1h := wl HU1h hb1
  replace HT2l := wl HT2l hb1
  replace HU2l := wl HU2l hb1
  replace HT2h := wl HT2h hb1
  replace HU2h := wl HU2h hb1
  replace B := bb B hb1
  have X1 := hid hx2
  have hs3 : (w.alloc (.cells #[.bool s1a, .slice p1a n1a c1a, .bool s1b, .slice p1b n1b c1b, .bool s1c, .slice p1c n1c c1c, .bool s1d, .slice p1d n1d c1d] 62)).heap.size = w.heap.size + 1 := by simp
  clear hb1 hx2
  have hb4 := (Below.refl _ _).alloc (Nat.le_refl (w.alloc (.cells #[.bool s1a, .slice p1a n1a c1a, .bool s1b, .slice p1b n1b c1b, .bool s1c, .slice p1c n1c c1c, .bool s1d, .slice p1d n1d c1d] 62)).heap.size) (.cells #[.bool s2a, .slice p2a n2a c2a, .bool s2b, .slice p2b n2b c2b, .bool s2c, .slice p2c n2c c2c, .bool s2d, .slice p2d n2d c2d] 62)
  have hx5 := Ibx.new (w.alloc (.cells #[.bool s1a, .slice p1a n1a c1a, .bool s1b, .slice p1b n1b c1b, .bool s1c, .slice p1c n1c c1c, .bool s1d, .slice p1d n1d c1d] 62)) s2a p2a n2a c2a s2b p2b n2b c2b s2c p2c n2c c2c s2d p2d n2d c2d
  rw [hs3] at hx5
  replace X1 := ix X1 hb4
  replace HT1l := wl HT1l hb4
  replace HU1l := wl HU1l hb4
  replace HT1h := wl HT1h hb4
  replace HU1h := wl HU1h hb4
  replace HT2l := wl HT2l hb4
  replace HU2l := wl HU2l hb4
  replace HT2h := wl HT2h hb4
  replace HU2h := wl HU2h hb4
  replace B := bb B hb4
  have X2 := hid hx5
  have hs6 : ((w.alloc (.cells #[.bool s1a, .slice p1a n1a c1a, .bool s1b, .slice p1b n1b c1b, .bool s1c, .slice p1c n1c c1c, .bool s1d, .slice p1d n1d c1d] 62)).alloc (.cells #[.bool s2a, .slice p2a n2a c2a, .bool s2b, .slice p2b n2b c2b, .bool s2c, .slice p2c n2c c2c, .bool s2d, .slice p2d n2d c2d] 62)).heap.size = w.heap.size + 1 + 1 := by simp [hs3]
  clear hb4 hx5
  have hb7 := (Below.refl _ _).alloc (Nat.le_refl ((w.alloc (.cells #[.bool s1a, .slice p1a n1a c1a, .bool s1b, .slice p1b n1b c1b, .bool s1c, .slice p1c n1c c1c, .bool s1d, .slice p1d n1d c1d] 62)).alloc (.cells #[.bool s2a, .slice p2a n2a c2a, .bool s2b, .slice p2b n2b c2b, .bool s2c, .slice p2c n2c c2c, .bool s2d, .slice p2d n2d c2d] 62)).heap.size) (.cells #[.bool false, .slice none 0 0, .bool false, .slice none 0 0, .bool false, .slice none 0 0, .bool false, .slice none 0 0] 62)
  have hx8 := Ibx.new ((w.alloc (.cells #[.bool s1a, .slice p1a n1a c1a, .bool s1b, .slice p1b n1b c1b, .bool s1c, .slice p1c n1c c1c, .bool s1d, .slice p1d n1d c1d] 62)).alloc (.cells #[.bool s2a, .slice p2a n2a c2a, .bool s2b, .slice p2b n2b c2b, .bool s2c, .slice p2c n2c c2c, .bool s2d, .slice p2d n2d c2d] 62)) false none 0 0 false none 0 0 false none 0 0 false none 0 0
  rw [hs6] at hx8
  replace X1 := ix X1 hb7
  replace X2 := ix X2 hb7
  replace HT1l := wl HT1l hb7
  replace HU1l := wl HU1l hb7
  replace HT1h := wl HT1h hb7
  replace HU1h := wl HU1h hb7
  replace HT2l := wl HT2l hb7
  replace HU2l := wl HU2l hb7
  replace HT2h := wl HT2h hb7
  replace HU2h := wl HU2h hb7
  replace B := bb B hb7
  have XV := hid hx8
  have hs9 : (((w.alloc (.cells #[.bool s1a, .slice p1a n1a c1a, .bool s1b, .slice p1b n1b c1b, .bool s1c, .slice p1c n1c c1c, .bool s1d, .slice p1d n1d c1d] 62)).alloc (.cells #[.bool s2a, .slice p2a n2a c2a, .bool s2b, .slice p2b n2b c2b, .bool s2c, .slice p2c n2c c2c, .bool s2d, .slice p2d n2d c2d] 62)).alloc (.cells #[.bool false, .slice none 0 0, .bool false, .slice none 0 0, .bool false, .slice none 0 0, .bool false, .slice none 0 0] 62)).heap.size = w.heap.size + 1 + 1 + 1 := by simp [hs6]
  clear hb7 hx8
  clear hs9 hk hk1 h hl1 hh1 ht1l hu1l hd1l ht1h hu1h hd1h h' hl2 hh2 ht2l hu2l hd2l ht2h hu2h hd2h
  go_enter Tryz.func40, Tryz.ntmps40
  obtain ⟨cc10a, cc10b, cc10c, cc10d, cc10e, cc10f, cc10g, cc10h⟩ := X1.out.cells
  obtain ⟨cc11a, cc11b, cc11c, cc11d, cc11e, cc11f, cc11g, cc11h⟩ := X2.out.cells
  obtain ⟨cc12a, cc12b, cc12c, cc12d, cc12e, cc12f, cc12g, cc12h⟩ := XV.out.cells
  go_wp2_with fail
  generalize hW : ((w.alloc (.cells #[.bool s1a, .slice p1a n1a c1a, .bool s1b, .slice p1b n1b c1b, .bool s1c, .slice p1c n1c c1c, .bool s1d, .slice p1d n1d c1d] 62)).alloc (.cells #[.bool s2a, .slice p2a n2a c2a, .bool s2b, .slice p2b n2b c2b, .bool s2c, .slice p2c n2c c2c, .bool s2d, .slice p2d n2d c2d] 62)).alloc (.cells #[.bool false, .slice none 0 0, .bool false, .slice none 0 0, .bool false, .slice none 0 0, .bool false, .slice none 0 0] 62) = W13 at *
  clear hW
  obtain ⟨cc14a, cc14b, cc14c, cc14d, cc14e, cc14f, cc14g, cc14h⟩ := X1.out.cells
  obtain ⟨cc15a, cc15b, cc15c, cc15d, cc15e, cc15f, cc15g, cc15h⟩ := X2.out.cells
  replace X1 := hid X1.out.dr
  replace X2 := hid X2.out.dr
  replace XV := hid XV.out.dr
  replace HT1l := hid HT1l.out.drew
  replace HU1l := hid HU1l.out.drew
  replace HT1h := hid HT1h.out.drew
  replace HU1h := hid HU1h.out.drew
  replace HT2l := hid HT2l.out.drew
  replace HU2l := hid HU2l.out.drew
  replace HT2h := hid HT2h.out.drew
  replace HU2h := hid HU2h.out.drew
  replace B := hid (Below.drew B.out)
  obtain ⟨cc16a, cc16b, cc16c, cc16d, cc16e, cc16f, cc16g, cc16h⟩ := X1.out.cells
  obtain ⟨cc17a, cc17b, cc17c, cc17d, cc17e, cc17f, cc17g, cc17h⟩ := X2.out.cells
  go_region_held3 (fun w' => w'.cell? ⟨w.heap.size, 0, none⟩ = some (.bool s1a) ∧ w'.cell? ⟨w.heap.size, 1, none⟩ = some (.slice p1a n1a c1a) ∧ w'.cell? ⟨w.heap.size, 2, none⟩ = some (.bool s1b) ∧ w'.cell? ⟨w.heap.size, 3, none⟩ = some (.slice p1b n1b c1b) ∧ w'.cell? ⟨w.heap.size, 4, none⟩ = some (.bool s1c) ∧ w'.cell? ⟨w.heap.size, 5, none⟩ = some (.slice p1c n1c c1c) ∧ w'.cell? ⟨w.heap.size, 6, none⟩ = some (.bool s1d) ∧ w'.cell? ⟨w.heap.size, 7, none⟩ = some (.slice p1d n1d c1d) ∧ w'.cell? ⟨w.heap.size + 1, 0, none⟩ = some (.bool s2a) ∧ w'.cell? ⟨w.heap.size + 1, 1, none⟩ = some (.slice p2a n2a c2a) ∧ w'.cell? ⟨w.heap.size + 1, 2, none⟩ = some (.bool s2b) ∧ w'.cell? ⟨w.heap.size + 1, 3, none⟩ = some (.slice p2b n2b c2b) ∧ w'.cell? ⟨w.heap.size + 1, 4, none⟩ = some (.bool s2c) ∧ w'.cell? ⟨w.heap.size + 1, 5, none⟩ = some (.slice p2c n2c c2c) ∧ w'.cell? ⟨w.heap.size + 1, 6, none⟩ = some (.bool s2d) ∧ w'.cell? ⟨w.heap.size + 1, 7, none⟩ = some (.slice p2d n2d c2d)) (go_keep) (first
    | (have hm := mk18_3; clear hm; have hb31 := (Below.refl _ _).alloc (Nat.le_refl w28.heap.size) (.cells #[.bool s4a, .slice p4a n4a c4a, .bool s4b, .slice p4b n4b c4b, .bool s5a, .slice p5a n5a c5a, .bool s5b, .slice p5b n5b c5b, .bool s6a, .slice p6a n6a c6a, .bool s6b, .slice p6b n6b c6b, .bool s7a, .slice p7a n7a c7a, .bool s7b, .slice p7b n7b c7b] 60); have hx32 := row_new4 (w := w28) (Rtl.mk2 HT4.out HU4.out HD4.out) (Rtl.mk2 HT5.out HU5.out HD5.out) (Rtl.mk2 HT6.out HU6.out HD6.out) (Rtl.mk2 HT7.out HU7.out HD7.out); replace X1 := ix X1 hb31; replace X2 := ix X2 hb31; replace XV := ix XV hb31; replace HT1l := wl HT1l hb31; replace HU1l := wl HU1l hb31; replace HT1h := wl HT1h hb31; replace HU1h := wl HU1h hb31; replace HT2l := wl HT2l hb31; replace HU2l := wl HU2l hb31; replace HT2h := wl HT2h hb31; replace HU2h := wl HU2h hb31; replace HT4 := wl HT4 hb31; replace HU4 := wl HU4 hb31; replace HT5 := wl HT5 hb31; replace HU5 := wl HU5 hb31; replace HT6 := wl HT6 hb31; replace HU6 := wl HU6 hb31; replace HT7 := wl HT7 hb31; replace HU7 := wl HU7 hb31; replace B := bb B hb31; have HR := hid hx32; clear hb31 hx32; go_at_call 57; refine (span_ivl HR.out (by decide) (by decide) (show 1 ≤ k + k + 1 by omega) (by have := HK.out; omega)).mono ?_; rintro e w33 ⟨v, rfl, hv, hb⟩; replace hv : Ivl _ _ (lo4 (p * r) (p * s) (q * r) (q * s)) (hi4 (p * r) (p * s) (q * r) (q * s)) _ := hv; obtain ⟨s3a, p3a, n3a, c3a, s3b, p3b, n3b, c3b, s3c, p3c, n3c, c3c, s3d, p3d, n3d, c3d, rfl⟩ := hv.opened; obtain ⟨hl3, hh3⟩ := hv.two; obtain ⟨ht3l, d3l, hu3l, hd3l⟩ := hl3.two; have HD3l := hid hd3l; obtain ⟨ht3h, d3h, hu3h, hd3h⟩ := hh3.two; have HD3h := hid hd3h; replace X1 := ix X1 hb; replace X2 := ix X2 hb; replace XV := ix XV hb; replace HT1l := wl HT1l hb; replace HU1l := wl HU1l hb; replace HT1h := wl HT1h hb; replace HU1h := wl HU1h hb; replace HT2l := wl HT2l hb; replace HU2l := wl HU2l hb; replace HT2h := wl HT2h hb; replace HU2h := wl HU2h hb; replace HT4 := wl HT4 hb; replace HU4 := wl HU4 hb; replace HT5 := wl HT5 hb; replace HU5 := wl HU5 hb; replace HT6 := wl HT6 hb; replace HU6 := wl HU6 hb; replace HT7 := wl HT7 hb; replace HU7 := wl HU7 hb; replace B := bb B hb; clear cc29a cc29b cc29c cc29d cc29e cc29f cc29g cc29h cc30a cc30b cc30c cc30d cc30e cc30f cc30g cc30h; have HT3l := hid ht3l; have HU3l := hid hu3l; have HT3h := hid ht3h; have HU3h := hid hu3h; clear hb hv hl3 hh3 ht3l hu3l hd3l ht3h hu3h hd3h HR; obtain ⟨cc34a, cc34b, cc34c, cc34d, cc34e, cc34f, cc34g, cc34h⟩ := X1.out.cells; obtain ⟨cc35a, cc35b, cc35c, cc35d, cc35e, cc35f, cc35g, cc35h⟩ := X2.out.cells; obtain ⟨⟨cc36a, cc36b⟩, ⟨cc36c, cc36d⟩, ⟨cc36e, cc36f⟩, ⟨cc36g, cc36h⟩, ⟨cc36i, cc36j⟩, ⟨cc36k, cc36l⟩, ⟨cc36m, cc36n⟩, cc36o, cc36p⟩ := XV.out.stores; obtain ⟨r37a, r37b, r37c⟩ := XV.out.last B.out (by omega) s3a p3a n3a c3a s3b p3b n3b c3b s3c p3c n3c c3c s3d p3d n3d c3d; replace X1 := hid ((((((((X1.out.other (g2 := w.heap.size + 1 + 1) (by omega) 0 (.bool s3a)).other (g2 := w.heap.size + 1 + 1) (by omega) 1 (.slice p3a n3a c3a)).other (g2 := w.heap.size + 1 + 1) (by omega) 2 (.bool s3b)).other (g2 := w.heap.size + 1 + 1) (by omega) 3 (.slice p3b n3b c3b)).other (g2 := w.heap.size + 1 + 1) (by omega) 4 (.bool s3c)).other (g2 := w.heap.size + 1 + 1) (by omega) 5 (.slice p3c n3c c3c)).other (g2 := w.heap.size + 1 + 1) (by omega) 6 (.bool s3d)).other (g2 := w.heap.size + 1 + 1) (by omega) 7 (.slice p3d n3d c3d)); replace X2 := hid ((((((((X2.out.other (g2 := w.heap.size + 1 + 1) (by omega) 0 (.bool s3a)).other (g2 := w.heap.size + 1 + 1) (by omega) 1 (.slice p3a n3a c3a)).other (g2 := w.heap.size + 1 + 1) (by omega) 2 (.bool s3b)).other (g2 := w.heap.size + 1 + 1) (by omega) 3 (.slice p3b n3b c3b)).other (g2 := w.heap.size + 1 + 1) (by omega) 4 (.bool s3c)).other (g2 := w.heap.size + 1 + 1) (by omega) 5 (.slice p3c n3c c3c)).other (g2 := w.heap.size + 1 + 1) (by omega) 6 (.bool s3d)).other (g2 := w.heap.size + 1 + 1) (by omega) 7 (.slice p3d n3d c3d)); replace HT1l := hid (r37c HT1l.out); replace HU1l := hid (r37c HU1l.out); replace HT1h := hid (r37c HT1h.out); replace HU1h := hid (r37c HU1h.out); replace HT2l := hid (r37c HT2l.out); replace HU2l := hid (r37c HU2l.out); replace HT2h := hid (r37c HT2h.out); replace HU2h := hid (r37c HU2h.out); replace HT4 := hid (r37c HT4.out); replace HU4 := hid (r37c HU4.out); replace HT5 := hid (r37c HT5.out); replace HU5 := hid (r37c HU5.out); replace HT6 := hid (r37c HT6.out); replace HU6 := hid (r37c HU6.out); replace HT7 := hid (r37c HT7.out); replace HU7 := hid (r37c HU7.out); replace HT3l := hid (r37c HT3l.out); replace HU3l := hid (r37c HU3l.out); replace HT3h := hid (r37c HT3h.out); replace HU3h := hid (r37c HU3h.out); replace XV := hid r37a; replace B := hid r37b; clear r37a r37b r37c; obtain ⟨cc38a, cc38b, cc38c, cc38d, cc38e, cc38f, cc38g, cc38h⟩ := X1.out.cells; obtain ⟨cc39a, cc39b, cc39c, cc39d, cc39e, cc39f, cc39g, cc39h⟩ := X2.out.cells; have mk18_4 := hid True.intro)
    | (have hm := mk18_2; clear hm; go_at_call 59; refine (mulq_rtl (Rtl.mk2 HT1h.out HU1h.out HD1h.out) (Rtl.mk2 HT2h.out HU2h.out HD2h.out) HK1.out (by have := HK.out; omega)).mono ?_; rintro e w28 ⟨v, rfl, hv, hb⟩; obtain ⟨s7a, p7a, n7a, c7a, s7b, p7b, n7b, c7b, rfl⟩ := hv.opened; obtain ⟨ht7, d7, hu7, hd7⟩ := hv.two; have HD7 := hid hd7; replace X1 := ix X1 hb; replace X2 := ix X2 hb; replace XV := ix XV hb; replace HT1l := wl HT1l hb; replace HU1l := wl HU1l hb; replace HT1h := wl HT1h hb; replace HU1h := wl HU1h hb; replace HT2l := wl HT2l hb; replace HU2l := wl HU2l hb; replace HT2h := wl HT2h hb; replace HU2h := wl HU2h hb; replace HT4 := wl HT4 hb; replace HU4 := wl HU4 hb; replace HT5 := wl HT5 hb; replace HU5 := wl HU5 hb; replace HT6 := wl HT6 hb; replace HU6 := wl HU6 hb; replace B := bb B hb; clear cc26a cc26b cc26c cc26d cc26e cc26f cc26g cc26h cc27a cc27b cc27c cc27d cc27e cc27f cc27g cc27h; have HT7 := hid ht7; have HU7 := hid hu7; clear hb hv ht7 hu7 hd7; obtain ⟨cc29a, cc29b, cc29c, cc29d, cc29e, cc29f, cc29g, cc29h⟩ := X1.out.cells; obtain ⟨cc30a, cc30b, cc30c, cc30d, cc30e, cc30f, cc30g, cc30h⟩ := X2.out.cells; have mk18_3 := hid True.intro)
    | (have hm := mk18_1; clear hm; go_at_call 59; refine (mulq_rtl (Rtl.mk2 HT1h.out HU1h.out HD1h.out) (Rtl.mk2 HT2l.out HU2l.out HD2l.out) HK1.out (by have := HK.out; omega)).mono ?_; rintro e w25 ⟨v, rfl, hv, hb⟩; obtain ⟨s6a, p6a, n6a, c6a, s6b, p6b, n6b, c6b, rfl⟩ := hv.opened; obtain ⟨ht6, d6, hu6, hd6⟩ := hv.two; have HD6 := hid hd6; replace X1 := ix X1 hb; replace X2 := ix X2 hb; replace XV := ix XV hb; replace HT1l := wl HT1l hb; replace HU1l := wl HU1l hb; replace HT1h := wl HT1h hb; replace HU1h := wl HU1h hb; replace HT2l := wl HT2l hb; replace HU2l := wl HU2l hb; replace HT2h := wl HT2h hb; replace HU2h := wl HU2h hb; replace HT4 := wl HT4 hb; replace HU4 := wl HU4 hb; replace HT5 := wl HT5 hb; replace HU5 := wl HU5 hb; replace B := bb B hb; clear cc23a cc23b cc23c cc23d cc23e cc23f cc23g cc23h cc24a cc24b cc24c cc24d cc24e cc24f cc24g cc24h; have HT6 := hid ht6; have HU6 := hid hu6; clear hb hv ht6 hu6 hd6; obtain ⟨cc26a, cc26b, cc26c, cc26d, cc26e, cc26f, cc26g, cc26h⟩ := X1.out.cells; obtain ⟨cc27a, cc27b, cc27c, cc27d, cc27e, cc27f, cc27g, cc27h⟩ := X2.out.cells; have mk18_2 := hid True.intro)
    | (have hm := mk18_0; clear hm; go_at_call 59; refine (mulq_rtl (Rtl.mk2 HT1l.out HU1l.out HD1l.out) (Rtl.mk2 HT2h.out HU2h.out HD2h.out) HK1.out (by have := HK.out; omega)).mono ?_; rintro e w22 ⟨v, rfl, hv, hb⟩; obtain ⟨s5a, p5a, n5a, c5a, s5b, p5b, n5b, c5b, rfl⟩ := hv.opened; obtain ⟨ht5, d5, hu5, hd5⟩ := hv.two; have HD5 := hid hd5; replace X1 := ix X1 hb; replace X2 := ix X2 hb; replace XV := ix XV hb; replace HT1l := wl HT1l hb; replace HU1l := wl HU1l hb; replace HT1h := wl HT1h hb; replace HU1h := wl HU1h hb; replace HT2l := wl HT2l hb; replace HU2l := wl HU2l hb; replace HT2h := wl HT2h hb; replace HU2h := wl HU2h hb; replace HT4 := wl HT4 hb; replace HU4 := wl HU4 hb; replace B := bb B hb; clear cc20a cc20b cc20c cc20d cc20e cc20f cc20g cc20h cc21a cc21b cc21c cc21d cc21e cc21f cc21g cc21h; have HT5 := hid ht5; have HU5 := hid hu5; clear hb hv ht5 hu5 hd5; obtain ⟨cc23a, cc23b, cc23c, cc23d, cc23e, cc23f, cc23g, cc23h⟩ := X1.out.cells; obtain ⟨cc24a, cc24b, cc24c, cc24d, cc24e, cc24f, cc24g, cc24h⟩ := X2.out.cells; have mk18_1 := hid True.intro)
    | (go_at_call 59; refine (mulq_rtl (Rtl.mk2 HT1l.out HU1l.out HD1l.out) (Rtl.mk2 HT2l.out HU2l.out HD2l.out) HK1.out (by have := HK.out; omega)).mono ?_; rintro e w19 ⟨v, rfl, hv, hb⟩; obtain ⟨s4a, p4a, n4a, c4a, s4b, p4b, n4b, c4b, rfl⟩ := hv.opened; obtain ⟨ht4, d4, hu4, hd4⟩ := hv.two; have HD4 := hid hd4; replace X1 := ix X1 hb; replace X2 := ix X2 hb; replace XV := ix XV hb; replace HT1l := wl HT1l hb; replace HU1l := wl HU1l hb; replace HT1h := wl HT1h hb; replace HU1h := wl HU1h hb; replace HT2l := wl HT2l hb; replace HU2l := wl HU2l hb; replace HT2h := wl HT2h hb; replace HU2h := wl HU2h hb; replace B := bb B hb; clear cc10a cc10b cc10c cc10d cc10e cc10f cc10g cc10h cc11a cc11b cc11c cc11d cc11e cc11f cc11g cc11h cc12a cc12b cc12c cc12d cc12e cc12f cc12g cc12h cc14a cc14b cc14c cc14d cc14e cc14f cc14g cc14h cc15a cc15b cc15c cc15d cc15e cc15f cc15g cc15h cc16a cc16b cc16c cc16d cc16e cc16f cc16g cc16h cc17a cc17b cc17c cc17d cc17e cc17f cc17g cc17h; have HT4 := hid ht4; have HU4 := hid hu4; clear hb hv ht4 hu4 hd4; obtain ⟨cc20a, cc20b, cc20c, cc20d, cc20e, cc20f, cc20g, cc20h⟩ := X1.out.cells; obtain ⟨cc21a, cc21b, cc21c, cc21d, cc21e, cc21f, cc21g, cc21h⟩ := X2.out.cells; have mk18_0 := hid True.intro))
  go_wp2_with fail
  refine bodyPost_ret (res_ivl rfl rfl XV.out) rfl ?_
  exact ⟨_, rfl, (Ivl.mk2 (Rtl.mk2 HT3l.out HU3l.out HD3l.out) (Rtl.mk2 HT3h.out HU3h.out HD3h.out)), B.out⟩

end Go.Proofs.YtkdeopikojgboaaGreatDoor

/-
  PACKAGE ival: div.
-/
namespace Go.Proofs.YtkdeopikojgboaaGreatDoor
open Go.RowKit
open Num
set_option linter.unusedVariables false
set_option maxRecDepth 100000
set_option linter.unusedSimpArgs false

theorem rtl_zero (w : World) (k : Nat) : Rtl w (.agg #[.bool false, .slice none 0 0, .bool false, .slice none 0 0]) 0 k := Rtl.mk2 (cells_whl_zero _ k) (cells_whl_zero _ k) (.inr ⟨rfl, rfl⟩)

set_option maxHeartbeats 8000000 in
theorem quo_zero {w : World} {v u : Value} {p q r s : Rat} {k : Nat} (h : Ivl w v p q k) (h' : Ivl w u r s k) (hk1 : 1 ≤ k) (hk : k ≤ 268435456) (h0 : r ≤ 0 ∧ 0 ≤ s) :
    Calls Tryz.prog 43 #[v, u] w fun e w' => e = .returned (.tuple #[.agg #[.bool false, .slice none 0 0, .bool false, .slice none 0 0, .bool false, .slice none 0 0, .bool false, .slice none 0 0], errno 5]) ∧ Below w.heap.size w w' := by
  have HK := hid hk
  have HK1 := hid hk1
  have HA := hid (show decide (r ≤ 0 ∧ (0 : Rat) ≤ s) = true from decide_eq_true h0)
  obtain ⟨s1a, p1a, n1a, c1a, s1b, p1b, n1b, c1b, s1c, p1c, n1c, c1c, s1d, p1d, n1d, c1d, rfl⟩ := h.opened
  obtain ⟨hl1, hh1⟩ := h.two
  obtain ⟨ht1l, d1l, hu1l, hd1l⟩ := hl1.two
  have HD1l := hid hd1l
  obtain ⟨ht1h, d1h, hu1h, hd1h⟩ := hh1.two
  have HD1h := hid hd1h
  obtain ⟨s2a, p2a, n2a, c2a, s2b, p2b, n2b, c2b, s2c, p2c, n2c, c2c, s2d, p2d, n2d, c2d, rfl⟩ := h'.opened
  obtain ⟨hl2, hh2⟩ := h'.two
  obtain ⟨ht2l, d2l, hu2l, hd2l⟩ := hl2.two
  have HD2l := hid hd2l
  obtain ⟨ht2h, d2h, hu2h, hd2h⟩ := hh2.two
  have HD2h := hid hd2h
  have B := hid (Below.refl w.heap.size w)
  have HT1l := hid ht1l
  have HU1l := hid hu1l
  have HT1h := hid ht1h
  have HU1h := hid hu1h
  have HT2l := hid ht2l
  have HU2l := hid hu2l
  have HT2h := hid ht2h
  have HU2h := hid hu2h
  have hb1 := (Below.refl _ _).alloc (Nat.le_refl w.heap.size) (.cells #[.bool s1a, .slice p1a n1a c1a, .bool s1b, .slice p1b n1b c1b, .bool s1c, .slice p1c n1c c1c, .bool s1d, .slice p1d n1d c1d] 62)
  have hx2 := Ibx.new w s1a p1a n1a c1a s1b p1b n1b c1b s1c p1c n1c c1c s1d p1d n1d c1d
  replace HT2l := wl HT2l hb1
  replace HU2l := wl HU2l hb1
  replace HT2h := wl HT2h hb1
  replace HU2h := wl HU2h hb1
  replace B := bb B hb1
  have X1 := hid hx2
  have hs3 : (w.alloc (.cells #[.bool s1a, .slice p1a n1a c1a, .bool s1b, .slice p1b n1b c1b, .bool s1c, .slice p1c n1c c1c, .bool s1d, .slice p1d n1d c1d] 62)).heap.size = w.heap.size + 1 := by simp
  clear hb1 hx2
  have hb4 := (Below.refl _ _).alloc (Nat.le_refl (w.alloc (.cells #[.bool s1a, .slice p1a n1a c1a, .bool s1b, .slice p1b n1b c1b, .bool s1c, .slice p1c n1c c1c, .bool s1d, .slice p1d n1d c1d] 62)).heap.size) (.cells #[.bool s2a, .slice p2a n2a c2a, .bool s2b, .slice p2b n2b c2b, .bool s2c, .slice p2c n2c c2c, .bool s2d, .slice p2d n2d c2d] 62)
  have hx5 := Ibx.new (w.alloc (.cells #[.bool s1a, .slice p1a n1a c1a, .bool s1b, .slice p1b n1b c1b, .bool s1c, .slice p1c n1c c1c, .bool s1d, .slice p1d n1d c1d] 62)) s2a p2a n2a c2a s2b p2b n2b c2b s2c p2c n2c c2c s2d p2d n2d c2d
  rw [hs3] at hx5
  replace X1 := ix X1 hb4
  replace HT2l := wl HT2l hb4
  replace HU2l := wl HU2l hb4
  replace HT2h := wl HT2h hb4
  replace HU2h := wl HU2h hb4
  replace B := bb B hb4
  have X2 := hid hx5
  have hs6 : ((w.alloc (.cells #[.bool s1a, .slice p1a n1a c1a, .bool s1b, .slice p1b n1b c1b, .bool s1c, .slice p1c n1c c1c, .bool s1d, .slice p1d n1d c1d] 62)).alloc (.cells #[.bool s2a, .slice p2a n2a c2a, .bool s2b, .slice p2b n2b c2b, .bool s2c, .slice p2c n2c c2c, .bool s2d, .slice p2d n2d c2d] 62)).heap.size = w.heap.size + 1 + 1 := by simp [hs3]
  clear hb4 hx5
  have hb7 := (Below.refl _ _).alloc (Nat.le_refl ((w.alloc (.cells #[.bool s1a, .slice p1a n1a c1a, .bool s1b, .slice p1b n1b c1b, .bool s1c, .slice p1c n1c c1c, .bool s1d, .slice p1d n1d c1d] 62)).alloc (.cells #[.bool s2a, .slice p2a n2a c2a, .bool s2b, .slice p2b n2b c2b, .bool s2c, .slice p2c n2c c2c, .bool s2d, .slice p2d n2d c2d] 62)).heap.size) (.cells #[.bool false, .slice none 0 0, .bool false, .slice none 0 0, .bool false, .slice none 0 0, .bool false, .slice none 0 0] 62)
  have hx8 := Ibx.new ((w.alloc (.cells #[.bool s1a, .slice p1a n1a c1a, .bool s1b, .slice p1b n1b c1b, .bool s1c, .slice p1c n1c c1c, .bool s1d, .slice p1d n1d c1d] 62)).alloc (.cells #[.bool s2a, .slice p2a n2a c2a, .bool s2b, .slice p2b n2b c2b, .bool s2c, .slice p2c n2c c2c, .bool s2d, .slice p2d n2d c2d] 62)) false none 0 0 false none 0 0 false none 0 0 false none 0 0
  rw [hs6] at hx8
  replace X1 := ix X1 hb7
  replace X2 := ix X2 hb7
  replace HT2l := wl HT2l hb7
  replace HU2l := wl HU2l hb7
  replace HT2h := wl HT2h hb7
  replace HU2h := wl HU2h hb7
  replace B := bb B hb7
  have XV := hid hx8
  have hs9 : (((w.alloc (.cells #[.bool s1a, .slice p1a n1a c1a, .bool s1b, .slice p1b n1b c1b, .bool s1c, .slice p1c n1c c1c, .bool s1d, .slice p1d n1d c1d] 62)).alloc (.cells #[.bool s2a, .slice p2a n2a c2a, .bool s2b, .slice p2b n2b c2b, .bool s2c, .slice p2c n2c c2c, .bool s2d, .slice p2d n2d c2d] 62)).alloc (.cells #[.bool false, .slice none 0 0, .bool false, .slice none 0 0, .bool false, .slice none 0 0, .bool false, .slice none 0 0] 62)).heap.size = w.heap.size + 1 + 1 + 1 := by simp [hs6]
  clear hb7 hx8
  clear hs9 hk hk1 h0 h hl1 hh1 ht1l hu1l hd1l ht1h hu1h hd1h h' hl2 hh2 ht2l hu2l hd2l ht2h hu2h hd2h
  go_enter Tryz.func43, Tryz.ntmps43
  obtain ⟨cc10a, cc10b, cc10c, cc10d, cc10e, cc10f, cc10g, cc10h⟩ := X1.out.cells
  obtain ⟨cc11a, cc11b, cc11c, cc11d, cc11e, cc11f, cc11g, cc11h⟩ := X2.out.cells
  obtain ⟨cc12a, cc12b, cc12c, cc12d, cc12e, cc12f, cc12g, cc12h⟩ := XV.out.cells
  go_wp2_with fail
  generalize hW : ((w.alloc (.cells #[.bool s1a, .slice p1a n1a c1a, .bool s1b, .slice p1b n1b c1b, .bool s1c, .slice p1c n1c c1c, .bool s1d, .slice p1d n1d c1d] 62)).alloc (.cells #[.bool s2a, .slice p2a n2a c2a, .bool s2b, .slice p2b n2b c2b, .bool s2c, .slice p2c n2c c2c, .bool s2d, .slice p2d n2d c2d] 62)).alloc (.cells #[.bool false, .slice none 0 0, .bool false, .slice none 0 0, .bool false, .slice none 0 0, .bool false, .slice none 0 0] 62) = W13 at *
  clear hW
  refine (has_ivl (Ivl.mk2 (Rtl.mk2 HT2l.out HU2l.out HD2l.out) (Rtl.mk2 HT2h.out HU2h.out HD2h.out)) (rtl_zero _ k) HK1.out (by have := HK.out; omega)).mono ?_
  rintro e w14 ⟨rfl, hb⟩
  replace X1 := ix X1 hb
  replace X2 := ix X2 hb
  replace XV := ix XV hb
  replace B := bb B hb
  clear cc10a cc10b cc10c cc10d cc10e cc10f cc10g cc10h cc11a cc11b cc11c cc11d cc11e cc11f cc11g cc11h cc12a cc12b cc12c cc12d cc12e cc12f cc12g cc12h
  clear hb 
  rw [HA.out]
  obtain ⟨cc15a, cc15b, cc15c, cc15d, cc15e, cc15f, cc15g, cc15h⟩ := X1.out.cells
  obtain ⟨cc16a, cc16b, cc16c, cc16d, cc16e, cc16f, cc16g, cc16h⟩ := X2.out.cells
  obtain ⟨cc17a, cc17b, cc17c, cc17d, cc17e, cc17f, cc17g, cc17h⟩ := XV.out.cells
  obtain ⟨⟨cc18a, cc18b⟩, ⟨cc18c, cc18d⟩, ⟨cc18e, cc18f⟩, ⟨cc18g, cc18h⟩, ⟨cc18i, cc18j⟩, ⟨cc18k, cc18l⟩, ⟨cc18m, cc18n⟩, cc18o, cc18p⟩ := XV.out.stores
  obtain ⟨r19a, r19b, r19c⟩ := XV.out.last B.out (by omega) false none 0 0 false none 0 0 false none 0 0 false none 0 0
  replace XV := hid r19a
  replace B := hid r19b
  clear r19a r19b r19c
  go_wp2_with fail
  refine bodyPost_ret (res_ivl_tmp rfl rfl rfl XV.out) rfl ?_
  exact ⟨rfl, B.out⟩

set_option maxHeartbeats 8000000 in
theorem quo_ivl {w : World} {v u : Value} {p q r s : Rat} {k : Nat} (h : Ivl w v p q k) (h' : Ivl w u r s k) (hk1 : 1 ≤ k) (hk : k ≤ 268435456) (hrs : r ≤ s) (h0 : ¬ (r ≤ 0 ∧ 0 ≤ s)) :
    Calls Tryz.prog 43 #[v, u] w fun e w' => ∃ v, e = .returned (.tuple #[v, .nilIface]) ∧ Ivl w' v (lo4 (p / r) (p / s) (q / r) (q / s)) (hi4 (p / r) (p / s) (q / r) (q / s)) (k + k + 1 + (k + k + 1) + 1) ∧ Below w.heap.size w w' := by
  have HK := hid hk
  have HK1 := hid hk1
  have HA := hid (show decide (r ≤ 0 ∧ (0 : Rat) ≤ s) = false from decide_eq_false h0)
  have HR0 := hid (show r ≠ 0 by grind)
  have HS0 := hid (show s ≠ 0 by grind)
  obtain ⟨s1a, p1a, n1a, c1a, s1b, p1b, n1b, c1b, s1c, p1c, n1c, c1c, s1d, p1d, n1d, c1d, rfl⟩ := h.opened
  obtain ⟨hl1, hh1⟩ := h.two
  obtain ⟨ht1l, d1l, hu1l, hd1l⟩ := hl1.two
  have HD1l := hid hd1l
  obtain ⟨ht1h, d1h, hu1h, hd1h⟩ := hh1.two
  have HD1h := hid hd1h
  obtain ⟨s2a, p2a, n2a, c2a, s2b, p2b, n2b, c2b, s2c, p2c, n2c, c2c, s2d, p2d, n2d, c2d, rfl⟩ := h'.opened
  obtain ⟨hl2, hh2⟩ := h'.two
  obtain ⟨ht2l, d2l, hu2l, hd2l⟩ := hl2.two
  have HD2l := hid hd2l
  obtain ⟨ht2h, d2h, hu2h, hd2h⟩ := hh2.two
  have HD2h := hid hd2h
  have B := hid (Below.refl w.heap.size w)
  have HT1l := hid ht1l
  have HU1l := hid hu1l
  have HT1h := hid ht1h
  have HU1h := hid hu1h
  have HT2l := hid ht2l
  have HU2l := hid hu2l
  have HT2h := hid ht2h
  have HU2h := hid hu2h
  have hb1 := (Below.refl _ _).alloc (Nat.le_refl w.heap.size) (.cells #[.bool s1a, .slice p1a n1a c1a, .bool s1b, .slice p1b n1b c1b, .bool s1c, .slice p1c n1c c1c, .bool s1d, .slice p1d n1d c1d] 62)
  have hx2 := Ibx.new w s1a p1a n1a c1a s1b p1b n1b c1b s1c p1c n1c c1c s1d p1d n1d c1d
  replace HT1l := wl HT1l hb1
  replace HU1l := wl HU1l hb1
  replace HT1h := wl HT1h hb1
  replace HU1h := wl HU1h hb1
  replace HT2l := wl HT2l hb1
  replace HU2l := wl HU2l hb1
  replace HT2h := wl HT2h hb1
  replace HU2h := wl HU2h hb1
  replace B := bb B hb1
  have X1 := hid hx2
  have hs3 : (w.alloc (.cells #[.bool s1a, .slice p1a n1a c1a, .bool s1b, .slice p1b n1b c1b, .bool s1c, .slice p1c n1c c1c, .bool s1d, .slice p1d n1d c1d] 62)).heap.size = w.heap.size + 1 := by simp
  clear hb1 hx2
  have hb4 := (Below.refl _ _).alloc (Nat.le_refl (w.alloc (.cells #[.bool s1a, .slice p1a n1a c1a, .bool s1b, .slice p1b n1b c1b, .bool s1c, .slice p1c n1c c1c, .bool s1d, .slice p1d n1d c1d] 62)).heap.size) (.cells #[.bool s2a, .slice p2a n2a c2a, .bool s2b, .slice p2b n2b c2b, .bool s2c, .slice p2c n2c c2c, .bool s2d, .slice p2d n2d c2d] 62)
  have hx5 := Ibx.new (w.alloc (.cells #[.bool s1a, .slice p1a n1a c1a, .bool s1b, .slice p1b n1b c1b, .bool s1c, .slice p1c n1c c1c, .bool s1d, .slice p1d n1d c1d] 62)) s2a p2a n2a c2a s2b p2b n2b c2b s2c p2c n2c c2c s2d p2d n2d c2d
  rw [hs3] at hx5
  replace X1 := ix X1 hb4
  replace HT1l := wl HT1l hb4
  replace HU1l := wl HU1l hb4
  replace HT1h := wl HT1h hb4
  replace HU1h := wl HU1h hb4
  replace HT2l := wl HT2l hb4
  replace HU2l := wl HU2l hb4
  replace HT2h := wl HT2h hb4
  replace HU2h := wl HU2h hb4
  replace B := bb B hb4
  have X2 := hid hx5
  have hs6 : ((w.alloc (.cells #[.bool s1a, .slice p1a n1a c1a, .bool s1b, .slice p1b n1b c1b, .bool s1c, .slice p1c n1c c1c, .bool s1d, .slice p1d n1d c1d] 62)).alloc (.cells #[.bool s2a, .slice p2a n2a c2a, .bool s2b, .slice p2b n2b c2b, .bool s2c, .slice p2c n2c c2c, .bool s2d, .slice p2d n2d c2d] 62)).heap.size = w.heap.size + 1 + 1 := by simp [hs3]
  clear hb4 hx5
  have hb7 := (Below.refl _ _).alloc (Nat.le_refl ((w.alloc (.cells #[.bool s1a, .slice p1a n1a c1a, .bool s1b, .slice p1b n1b c1b, .bool s1c, .slice p1c n1c c1c, .bool s1d, .slice p1d n1d c1d] 62)).alloc (.cells #[.bool s2a, .slice p2a n2a c2a, .bool s2b, .slice p2b n2b c2b, .bool s2c, .slice p2c n2c c2c, .bool s2d, .slice p2d n2d c2d] 62)).heap.size) (.cells #[.bool false, .slice none 0 0, .bool false, .slice none 0 0, .bool false, .slice none 0 0, .bool false, .slice none 0 0] 62)
  have hx8 := Ibx.new ((w.alloc (.cells #[.bool s1a, .slice p1a n1a c1a, .bool s1b, .slice p1b n1b c1b, .bool s1c, .slice p1c n1c c1c, .bool s1d, .slice p1d n1d c1d] 62)).alloc (.cells #[.bool s2a, .slice p2a n2a c2a, .bool s2b, .slice p2b n2b c2b, .bool s2c, .slice p2c n2c c2c, .bool s2d, .slice p2d n2d c2d] 62)) false none 0 0 false none 0 0 false none 0 0 false none 0 0
  rw [hs6] at hx8
  replace X1 := ix X1 hb7
  replace X2 := ix X2 hb7
  replace HT1l := wl HT1l hb7
  replace HU1l := wl HU1l hb7
  replace HT1h := wl HT1h hb7
  replace HU1h := wl HU1h hb7
  replace HT2l := wl HT2l hb7
  replace HU2l := wl HU2l hb7
  replace HT2h := wl HT2h hb7
  replace HU2h := wl HU2h hb7
  replace B := bb B hb7
  have XV := hid hx8
  have hs9 : (((w.alloc (.cells #[.bool s1a, .slice p1a n1a c1a, .bool s1b, .slice p1b n1b c1b, .bool s1c, .slice p1c n1c c1c, .bool s1d, .slice p1d n1d c1d] 62)).alloc (.cells #[.bool s2a, .slice p2a n2a c2a, .bool s2b, .slice p2b n2b c2b, .bool s2c, .slice p2c n2c c2c, .bool s2d, .slice p2d n2d c2d] 62)).alloc (.cells #[.bool false, .slice none 0 0, .bool false, .slice none 0 0, .bool false, .slice none 0 0, .bool false, .slice none 0 0] 62)).heap.size = w.heap.size + 1 + 1 + 1 := by simp [hs6]
  clear hb7 hx8
  clear hs9 hk hk1 h0 hrs h hl1 hh1 ht1l hu1l hd1l ht1h hu1h hd1h h' hl2 hh2 ht2l hu2l hd2l ht2h hu2h hd2h
  go_enter Tryz.func43, Tryz.ntmps43
  obtain ⟨cc10a, cc10b, cc10c, cc10d, cc10e, cc10f, cc10g, cc10h⟩ := X1.out.cells
  obtain ⟨cc11a, cc11b, cc11c, cc11d, cc11e, cc11f, cc11g, cc11h⟩ := X2.out.cells
  obtain ⟨cc12a, cc12b, cc12c, cc12d, cc12e, cc12f, cc12g, cc12h⟩ := XV.out.cells
  go_wp2_with fail
  generalize hW : ((w.alloc (.cells #[.bool s1a, .slice p1a n1a c1a, .bool s1b, .slice p1b n1b c1b, .bool s1c, .slice p1c n1c c1c, .bool s1d, .slice p1d n1d c1d] 62)).alloc (.cells #[.bool s2a, .slice p2a n2a c2a, .bool s2b, .slice p2b n2b c2b, .bool s2c, .slice p2c n2c c2c, .bool s2d, .slice p2d n2d c2d] 62)).alloc (.cells #[.bool false, .slice none 0 0, .bool false, .slice none 0 0, .bool false, .slice none 0 0, .bool false, .slice none 0 0] 62) = W13 at *
  clear hW
  refine (has_ivl (Ivl.mk2 (Rtl.mk2 HT2l.out HU2l.out HD2l.out) (Rtl.mk2 HT2h.out HU2h.out HD2h.out)) (rtl_zero _ k) HK1.out (by have := HK.out; omega)).mono ?_
  rintro e w14 ⟨rfl, hb⟩
  replace X1 := ix X1 hb
  replace X2 := ix X2 hb
  replace XV := ix XV hb
  replace HT1l := wl HT1l hb
  replace HU1l := wl HU1l hb
  replace HT1h := wl HT1h hb
  replace HU1h := wl HU1h hb
  replace HT2l := wl HT2l hb
  replace HU2l := wl HU2l hb
  replace HT2h := wl HT2h hb
  replace HU2h := wl HU2h hb
  replace B := bb B hb
  clear cc10a cc10b cc10c cc10d cc10e cc10f cc10g cc10h cc11a cc11b cc11c cc11d cc11e cc11f cc11g cc11h cc12a cc12b cc12c cc12d cc12e cc12f cc12g cc12h
  clear hb 
  rw [HA.out]
  obtain ⟨cc15a, cc15b, cc15c, cc15d, cc15e, cc15f, cc15g, cc15h⟩ := X1.out.cells
  obtain ⟨cc16a, cc16b, cc16c, cc16d, cc16e, cc16f, cc16g, cc16h⟩ := X2.out.cells
  obtain ⟨cc17a, cc17b, cc17c, cc17d, cc17e, cc17f, cc17g, cc17h⟩ := XV.out.cells
  go_wp2_with fail
  refine (of_small 1 (by decide) _).mono ?_
  rintro e w18 ⟨v, rfl, hv, hb⟩
  obtain ⟨s3, p3, n3, c3, rfl⟩ := hv.opened
  replace X1 := ix X1 hb
  replace X2 := ix X2 hb
  replace XV := ix XV hb
  replace HT1l := wl HT1l hb
  replace HU1l := wl HU1l hb
  replace HT1h := wl HT1h hb
  replace HU1h := wl HU1h hb
  replace HT2l := wl HT2l hb
  replace HU2l := wl HU2l hb
  replace HT2h := wl HT2h hb
  replace HU2h := wl HU2h hb
  replace B := bb B hb
  clear cc15a cc15b cc15c cc15d cc15e cc15f cc15g cc15h cc16a cc16b cc16c cc16d cc16e cc16f cc16g cc16h cc17a cc17b cc17c cc17d cc17e cc17f cc17g cc17h
  have H3 := hid hv
  clear hb hv
  obtain ⟨cc19a, cc19b, cc19c, cc19d, cc19e, cc19f, cc19g, cc19h⟩ := X1.out.cells
  obtain ⟨cc20a, cc20b, cc20c, cc20d, cc20e, cc20f, cc20g, cc20h⟩ := X2.out.cells
  obtain ⟨cc21a, cc21b, cc21c, cc21d, cc21e, cc21f, cc21g, cc21h⟩ := XV.out.cells
  go_wp2_with fail
  refine (wholeq H3.out).mono ?_
  rintro e w22 ⟨v, rfl, hv, hb⟩
  replace hv : Rtl _ _ (1 : Rat) k := hv.mono HK1.out
  obtain ⟨s4a, p4a, n4a, c4a, s4b, p4b, n4b, c4b, rfl⟩ := hv.opened
  obtain ⟨ht4, d4, hu4, hd4⟩ := hv.two
  have HD4 := hid hd4
  replace X1 := ix X1 hb
  replace X2 := ix X2 hb
  replace XV := ix XV hb
  replace HT1l := wl HT1l hb
  replace HU1l := wl HU1l hb
  replace HT1h := wl HT1h hb
  replace HU1h := wl HU1h hb
  replace HT2l := wl HT2l hb
  replace HU2l := wl HU2l hb
  replace HT2h := wl HT2h hb
  replace HU2h := wl HU2h hb
  replace B := bb B hb
  clear cc19a cc19b cc19c cc19d cc19e cc19f cc19g cc19h cc20a cc20b cc20c cc20d cc20e cc20f cc20g cc20h cc21a cc21b cc21c cc21d cc21e cc21f cc21g cc21h
  have HT4 := hid ht4
  have HU4 := hid hu4
  clear hb hv ht4 hu4 hd4
  have hb23 := (Below.refl _ _).alloc (Nat.le_refl w22.heap.size) (.cells #[.bool s4a, .slice p4a n4a c4a, .bool s4b, .slice p4b n4b c4b] 60)
  have hx24 := Nbx.new w22 s4a s4b (.slice p4a n4a c4a) (.slice p4b n4b c4b)
  have L0 := hid XV.out.lt
  replace X1 := ix X1 hb23
  replace X2 := ix X2 hb23
  replace XV := ix XV hb23
  replace HT1l := wl HT1l hb23
  replace HU1l := wl HU1l hb23
  replace HT1h := wl HT1h hb23
  replace HU1h := wl HU1h hb23
  replace HT2l := wl HT2l hb23
  replace HU2l := wl HU2l hb23
  replace HT2h := wl HT2h hb23
  replace HU2h := wl HU2h hb23
  replace HT4 := wl HT4 hb23
  replace HU4 := wl HU4 hb23
  replace B := bb B hb23
  have X4 := hid hx24
  have hs25 : (w22.alloc (.cells #[.bool s4a, .slice p4a n4a c4a, .bool s4b, .slice p4b n4b c4b] 60)).heap.size = w22.heap.size + 1 := by simp
  clear hb23 hx24
  obtain ⟨cc26a, cc26b, cc26c, cc26d, cc26e, cc26f, cc26g, cc26h⟩ := X1.out.cells
  obtain ⟨cc27a, cc27b, cc27c, cc27d, cc27e, cc27f, cc27g, cc27h⟩ := X2.out.cells
  obtain ⟨cc28a, cc28b, cc28c, cc28d, cc28e, cc28f, cc28g, cc28h⟩ := XV.out.cells
  obtain ⟨cc29a, cc29b, cc29c, cc29d⟩ := X4.out.cells
  go_wp2_with fail
  generalize hW : w22.alloc (.cells #[.bool s4a, .slice p4a n4a c4a, .bool s4b, .slice p4b n4b c4b] 60) = W30 at *
  clear hW
  refine (divq_some (Rtl.mk2 HT4.out HU4.out HD4.out) (Rtl.mk2 HT2l.out HU2l.out HD2l.out) HR0.out HK1.out (by have := HK.out; omega)).mono ?_
  rintro e w31 ⟨v, rfl, hv, hb⟩
  obtain ⟨s5a, p5a, n5a, c5a, s5b, p5b, n5b, c5b, rfl⟩ := hv.opened
  obtain ⟨ht5, d5, hu5, hd5⟩ := hv.two
  have HD5 := hid hd5
  replace X1 := ix X1 hb
  replace X2 := ix X2 hb
  replace XV := ix XV hb
  replace X4 := nx X4 hb
  replace HT1l := wl HT1l hb
  replace HU1l := wl HU1l hb
  replace HT1h := wl HT1h hb
  replace HU1h := wl HU1h hb
  replace HT2h := wl HT2h hb
  replace HU2h := wl HU2h hb
  replace HT4 := wl HT4 hb
  replace HU4 := wl HU4 hb
  replace B := bb B hb
  clear cc26a cc26b cc26c cc26d cc26e cc26f cc26g cc26h cc27a cc27b cc27c cc27d cc27e cc27f cc27g cc27h cc28a cc28b cc28c cc28d cc28e cc28f cc28g cc28h cc29a cc29b cc29c cc29d
  have HT5 := hid ht5
  have HU5 := hid hu5
  clear hb hv ht5 hu5 hd5
  have hb32 := (Below.refl _ _).alloc (Nat.le_refl w31.heap.size) (.cells #[.bool s5a, .slice p5a n5a c5a, .bool s5b, .slice p5b n5b c5b] 60)
  have hx33 := Nbx.new w31 s5a s5b (.slice p5a n5a c5a) (.slice p5b n5b c5b)
  have L1 := hid X4.out.lt
  replace X1 := ix X1 hb32
  replace X2 := ix X2 hb32
  replace XV := ix XV hb32
  replace X4 := nx X4 hb32
  replace HT1l := wl HT1l hb32
  replace HU1l := wl HU1l hb32
  replace HT1h := wl HT1h hb32
  replace HU1h := wl HU1h hb32
  replace HT2h := wl HT2h hb32
  replace HU2h := wl HU2h hb32
  replace HT4 := wl HT4 hb32
  replace HU4 := wl HU4 hb32
  replace HT5 := wl HT5 hb32
  replace HU5 := wl HU5 hb32
  replace B := bb B hb32
  have X5 := hid hx33
  have hs34 : (w31.alloc (.cells #[.bool s5a, .slice p5a n5a c5a, .bool s5b, .slice p5b n5b c5b] 60)).heap.size = w31.heap.size + 1 := by simp
  clear hb32 hx33
  obtain ⟨cc35a, cc35b, cc35c, cc35d, cc35e, cc35f, cc35g, cc35h⟩ := X1.out.cells
  obtain ⟨cc36a, cc36b, cc36c, cc36d, cc36e, cc36f, cc36g, cc36h⟩ := X2.out.cells
  obtain ⟨cc37a, cc37b, cc37c, cc37d, cc37e, cc37f, cc37g, cc37h⟩ := XV.out.cells
  obtain ⟨cc38a, cc38b, cc38c, cc38d⟩ := X4.out.cells
  obtain ⟨cc39a, cc39b, cc39c, cc39d⟩ := X5.out.cells
  go_wp2_with fail
  generalize hW : w31.alloc (.cells #[.bool s5a, .slice p5a n5a c5a, .bool s5b, .slice p5b n5b c5b] 60) = W40 at *
  clear hW
  refine (divq_some (Rtl.mk2 HT4.out HU4.out HD4.out) (Rtl.mk2 HT2h.out HU2h.out HD2h.out) HS0.out HK1.out (by have := HK.out; omega)).mono ?_
  rintro e w41 ⟨v, rfl, hv, hb⟩
  obtain ⟨s6a, p6a, n6a, c6a, s6b, p6b, n6b, c6b, rfl⟩ := hv.opened
  obtain ⟨ht6, d6, hu6, hd6⟩ := hv.two
  have HD6 := hid hd6
  replace X1 := ix X1 hb
  replace XV := ix XV hb
  replace X5 := nx X5 hb
  replace HT1l := wl HT1l hb
  replace HU1l := wl HU1l hb
  replace HT1h := wl HT1h hb
  replace HU1h := wl HU1h hb
  replace HT5 := wl HT5 hb
  replace HU5 := wl HU5 hb
  replace B := bb B hb
  clear cc35a cc35b cc35c cc35d cc35e cc35f cc35g cc35h cc36a cc36b cc36c cc36d cc36e cc36f cc36g cc36h cc37a cc37b cc37c cc37d cc37e cc37f cc37g cc37h cc38a cc38b cc38c cc38d cc39a cc39b cc39c cc39d
  have HT6 := hid ht6
  have HU6 := hid hu6
  clear hb hv ht6 hu6 hd6
  have hb42 := (Below.refl _ _).alloc (Nat.le_refl w41.heap.size) (.cells #[.bool s6a, .slice p6a n6a c6a, .bool s6b, .slice p6b n6b c6b] 60)
  have hx43 := Nbx.new w41 s6a s6b (.slice p6a n6a c6a) (.slice p6b n6b c6b)
  have L2 := hid X5.out.lt
  replace X1 := ix X1 hb42
  replace XV := ix XV hb42
  replace X5 := nx X5 hb42
  replace HT1l := wl HT1l hb42
  replace HU1l := wl HU1l hb42
  replace HT1h := wl HT1h hb42
  replace HU1h := wl HU1h hb42
  replace HT5 := wl HT5 hb42
  replace HU5 := wl HU5 hb42
  replace HT6 := wl HT6 hb42
  replace HU6 := wl HU6 hb42
  replace B := bb B hb42
  have X6 := hid hx43
  have hs44 : (w41.alloc (.cells #[.bool s6a, .slice p6a n6a c6a, .bool s6b, .slice p6b n6b c6b] 60)).heap.size = w41.heap.size + 1 := by simp
  clear hb42 hx43
  obtain ⟨cc45a, cc45b, cc45c, cc45d, cc45e, cc45f, cc45g, cc45h⟩ := X1.out.cells
  obtain ⟨cc46a, cc46b, cc46c, cc46d, cc46e, cc46f, cc46g, cc46h⟩ := XV.out.cells
  obtain ⟨cc47a, cc47b, cc47c, cc47d⟩ := X5.out.cells
  obtain ⟨cc48a, cc48b, cc48c, cc48d⟩ := X6.out.cells
  go_wp2_with fail
  generalize hW : w41.alloc (.cells #[.bool s6a, .slice p6a n6a c6a, .bool s6b, .slice p6b n6b c6b] 60) = W49 at *
  clear hW
  clear hs44
  have hb50 := (Below.refl _ _).alloc (Nat.le_refl W49.heap.size) (.cells #[.bool s5a, .slice p5a n5a c5a, .bool s5b, .slice p5b n5b c5b, .bool s6a, .slice p6a n6a c6a, .bool s6b, .slice p6b n6b c6b] 60)
  have hx51 := row_new2 (w := W49) (Rtl.mk2 HT5.out HU5.out HD5.out) (Rtl.mk2 HT6.out HU6.out HD6.out)
  replace X1 := ix X1 hb50
  replace XV := ix XV hb50
  replace X5 := nx X5 hb50
  replace X6 := nx X6 hb50
  replace HT1l := wl HT1l hb50
  replace HU1l := wl HU1l hb50
  replace HT1h := wl HT1h hb50
  replace HU1h := wl HU1h hb50
  replace HT5 := wl HT5 hb50
  replace HU5 := wl HU5 hb50
  replace HT6 := wl HT6 hb50
  replace HU6 := wl HU6 hb50
  replace B := bb B hb50
  have HR := hid hx51
  clear hb50 hx51
  obtain ⟨cc52a, cc52b, cc52c, cc52d, cc52e, cc52f, cc52g, cc52h⟩ := X1.out.cells
  obtain ⟨cc53a, cc53b, cc53c, cc53d⟩ := X5.out.cells
  obtain ⟨cc54a, cc54b, cc54c, cc54d⟩ := X6.out.cells
  replace X1 := hid X1.out.dr
  replace XV := hid XV.out.dr
  replace X5 := hid X5.out.dr
  replace X6 := hid X6.out.dr
  replace HT1l := hid HT1l.out.drew
  replace HU1l := hid HU1l.out.drew
  replace HT1h := hid HT1h.out.drew
  replace HU1h := hid HU1h.out.drew
  replace HT5 := hid HT5.out.drew
  replace HU5 := hid HU5.out.drew
  replace HT6 := hid HT6.out.drew
  replace HU6 := hid HU6.out.drew
  replace B := hid (Below.drew B.out)
  replace HR := hid (HR.out.on (Below.drew (Below.refl _ _)))
  obtain ⟨cc55a, cc55b, cc55c, cc55d, cc55e, cc55f, cc55g, cc55h⟩ := X1.out.cells
  obtain ⟨cc56a, cc56b, cc56c, cc56d⟩ := X5.out.cells
  obtain ⟨cc57a, cc57b, cc57c, cc57d⟩ := X6.out.cells
  go_region_held3 (fun w' => w'.cell? ⟨w.heap.size, 0, none⟩ = some (.bool s1a) ∧ w'.cell? ⟨w.heap.size, 1, none⟩ = some (.slice p1a n1a c1a) ∧ w'.cell? ⟨w.heap.size, 2, none⟩ = some (.bool s1b) ∧ w'.cell? ⟨w.heap.size, 3, none⟩ = some (.slice p1b n1b c1b) ∧ w'.cell? ⟨w.heap.size, 4, none⟩ = some (.bool s1c) ∧ w'.cell? ⟨w.heap.size, 5, none⟩ = some (.slice p1c n1c c1c) ∧ w'.cell? ⟨w.heap.size, 6, none⟩ = some (.bool s1d) ∧ w'.cell? ⟨w.heap.size, 7, none⟩ = some (.slice p1d n1d c1d) ∧ w'.cell? ⟨w31.heap.size, 0, none⟩ = some (.bool s5a) ∧ w'.cell? ⟨w31.heap.size, 1, none⟩ = some (.slice p5a n5a c5a) ∧ w'.cell? ⟨w31.heap.size, 2, none⟩ = some (.bool s5b) ∧ w'.cell? ⟨w31.heap.size, 3, none⟩ = some (.slice p5b n5b c5b) ∧ w'.cell? ⟨w41.heap.size, 0, none⟩ = some (.bool s6a) ∧ w'.cell? ⟨w41.heap.size, 1, none⟩ = some (.slice p6a n6a c6a) ∧ w'.cell? ⟨w41.heap.size, 2, none⟩ = some (.bool s6b) ∧ w'.cell? ⟨w41.heap.size, 3, none⟩ = some (.slice p6b n6b c6b)) (go_keep) (first
    | (have hm := mk58_0; clear hm; go_at_call 40; refine (mul_ivl ((Ivl.mk2 (Rtl.mk2 HT1l.out HU1l.out HD1l.out) (Rtl.mk2 HT1h.out HU1h.out HD1h.out)).mono (show k ≤ k + k + 1 by omega)) (Ivl.mk2 (Rtl.mk2 HT7l.out HU7l.out HD7l.out) (Rtl.mk2 HT7h.out HU7h.out HD7h.out)) (by omega) (by have := HK.out; omega)).mono ?_; rintro e w63 ⟨v, rfl, hv, hb⟩; rw [(div_ends p q r s).1, (div_ends p q r s).2] at hv; obtain ⟨s8a, p8a, n8a, c8a, s8b, p8b, n8b, c8b, s8c, p8c, n8c, c8c, s8d, p8d, n8d, c8d, rfl⟩ := hv.opened; obtain ⟨hl8, hh8⟩ := hv.two; obtain ⟨ht8l, d8l, hu8l, hd8l⟩ := hl8.two; have HD8l := hid hd8l; obtain ⟨ht8h, d8h, hu8h, hd8h⟩ := hh8.two; have HD8h := hid hd8h; replace X1 := ix X1 hb; replace XV := ix XV hb; replace X5 := nx X5 hb; replace X6 := nx X6 hb; replace HT1l := wl HT1l hb; replace HU1l := wl HU1l hb; replace HT1h := wl HT1h hb; replace HU1h := wl HU1h hb; replace HT5 := wl HT5 hb; replace HU5 := wl HU5 hb; replace HT6 := wl HT6 hb; replace HU6 := wl HU6 hb; replace HT7l := wl HT7l hb; replace HU7l := wl HU7l hb; replace HT7h := wl HT7h hb; replace HU7h := wl HU7h hb; replace B := bb B hb; clear cc60a cc60b cc60c cc60d cc60e cc60f cc60g cc60h cc61a cc61b cc61c cc61d cc62a cc62b cc62c cc62d; have HT8l := hid ht8l; have HU8l := hid hu8l; have HT8h := hid ht8h; have HU8h := hid hu8h; clear hb hv hl8 hh8 ht8l hu8l hd8l ht8h hu8h hd8h; obtain ⟨cc64a, cc64b, cc64c, cc64d, cc64e, cc64f, cc64g, cc64h⟩ := X1.out.cells; obtain ⟨cc65a, cc65b, cc65c, cc65d⟩ := X5.out.cells; obtain ⟨cc66a, cc66b, cc66c, cc66d⟩ := X6.out.cells; obtain ⟨⟨cc67a, cc67b⟩, ⟨cc67c, cc67d⟩, ⟨cc67e, cc67f⟩, ⟨cc67g, cc67h⟩, ⟨cc67i, cc67j⟩, ⟨cc67k, cc67l⟩, ⟨cc67m, cc67n⟩, cc67o, cc67p⟩ := XV.out.stores; obtain ⟨r68a, r68b, r68c⟩ := XV.out.last B.out (by have := L0.out; have := L1.out; have := L2.out; omega) s8a p8a n8a c8a s8b p8b n8b c8b s8c p8c n8c c8c s8d p8d n8d c8d; replace X1 := hid ((((((((X1.out.other (g2 := w.heap.size + 1 + 1) (by have := L0.out; have := L1.out; have := L2.out; omega) 0 (.bool s8a)).other (g2 := w.heap.size + 1 + 1) (by have := L0.out; have := L1.out; have := L2.out; omega) 1 (.slice p8a n8a c8a)).other (g2 := w.heap.size + 1 + 1) (by have := L0.out; have := L1.out; have := L2.out; omega) 2 (.bool s8b)).other (g2 := w.heap.size + 1 + 1) (by have := L0.out; have := L1.out; have := L2.out; omega) 3 (.slice p8b n8b c8b)).other (g2 := w.heap.size + 1 + 1) (by have := L0.out; have := L1.out; have := L2.out; omega) 4 (.bool s8c)).other (g2 := w.heap.size + 1 + 1) (by have := L0.out; have := L1.out; have := L2.out; omega) 5 (.slice p8c n8c c8c)).other (g2 := w.heap.size + 1 + 1) (by have := L0.out; have := L1.out; have := L2.out; omega) 6 (.bool s8d)).other (g2 := w.heap.size + 1 + 1) (by have := L0.out; have := L1.out; have := L2.out; omega) 7 (.slice p8d n8d c8d)); replace X5 := hid ((((((((X5.out.other (g2 := w.heap.size + 1 + 1) (by have := L0.out; have := L1.out; have := L2.out; omega) 0 (.bool s8a)).other (g2 := w.heap.size + 1 + 1) (by have := L0.out; have := L1.out; have := L2.out; omega) 1 (.slice p8a n8a c8a)).other (g2 := w.heap.size + 1 + 1) (by have := L0.out; have := L1.out; have := L2.out; omega) 2 (.bool s8b)).other (g2 := w.heap.size + 1 + 1) (by have := L0.out; have := L1.out; have := L2.out; omega) 3 (.slice p8b n8b c8b)).other (g2 := w.heap.size + 1 + 1) (by have := L0.out; have := L1.out; have := L2.out; omega) 4 (.bool s8c)).other (g2 := w.heap.size + 1 + 1) (by have := L0.out; have := L1.out; have := L2.out; omega) 5 (.slice p8c n8c c8c)).other (g2 := w.heap.size + 1 + 1) (by have := L0.out; have := L1.out; have := L2.out; omega) 6 (.bool s8d)).other (g2 := w.heap.size + 1 + 1) (by have := L0.out; have := L1.out; have := L2.out; omega) 7 (.slice p8d n8d c8d)); replace X6 := hid ((((((((X6.out.other (g2 := w.heap.size + 1 + 1) (by have := L0.out; have := L1.out; have := L2.out; omega) 0 (.bool s8a)).other (g2 := w.heap.size + 1 + 1) (by have := L0.out; have := L1.out; have := L2.out; omega) 1 (.slice p8a n8a c8a)).other (g2 := w.heap.size + 1 + 1) (by have := L0.out; have := L1.out; have := L2.out; omega) 2 (.bool s8b)).other (g2 := w.heap.size + 1 + 1) (by have := L0.out; have := L1.out; have := L2.out; omega) 3 (.slice p8b n8b c8b)).other (g2 := w.heap.size + 1 + 1) (by have := L0.out; have := L1.out; have := L2.out; omega) 4 (.bool s8c)).other (g2 := w.heap.size + 1 + 1) (by have := L0.out; have := L1.out; have := L2.out; omega) 5 (.slice p8c n8c c8c)).other (g2 := w.heap.size + 1 + 1) (by have := L0.out; have := L1.out; have := L2.out; omega) 6 (.bool s8d)).other (g2 := w.heap.size + 1 + 1) (by have := L0.out; have := L1.out; have := L2.out; omega) 7 (.slice p8d n8d c8d)); replace HT1l := hid (r68c HT1l.out); replace HU1l := hid (r68c HU1l.out); replace HT1h := hid (r68c HT1h.out); replace HU1h := hid (r68c HU1h.out); replace HT5 := hid (r68c HT5.out); replace HU5 := hid (r68c HU5.out); replace HT6 := hid (r68c HT6.out); replace HU6 := hid (r68c HU6.out); replace HT7l := hid (r68c HT7l.out); replace HU7l := hid (r68c HU7l.out); replace HT7h := hid (r68c HT7h.out); replace HU7h := hid (r68c HU7h.out); replace HT8l := hid (r68c HT8l.out); replace HU8l := hid (r68c HU8l.out); replace HT8h := hid (r68c HT8h.out); replace HU8h := hid (r68c HU8h.out); replace XV := hid r68a; replace B := hid r68b; clear r68a r68b r68c; obtain ⟨cc69a, cc69b, cc69c, cc69d, cc69e, cc69f, cc69g, cc69h⟩ := X1.out.cells; obtain ⟨cc70a, cc70b, cc70c, cc70d⟩ := X5.out.cells; obtain ⟨cc71a, cc71b, cc71c, cc71d⟩ := X6.out.cells; have mk58_1 := hid True.intro)
    | (go_at_call 57; refine (span_ivl HR.out (by decide) (by decide) (show 1 ≤ k + k + 1 by omega) (by have := HK.out; omega)).mono ?_; rintro e w59 ⟨v, rfl, hv, hb⟩; replace hv : Ivl _ _ (mn (1 / r) (1 / s)) (mx (1 / r) (1 / s)) _ := hv; obtain ⟨s7a, p7a, n7a, c7a, s7b, p7b, n7b, c7b, s7c, p7c, n7c, c7c, s7d, p7d, n7d, c7d, rfl⟩ := hv.opened; obtain ⟨hl7, hh7⟩ := hv.two; obtain ⟨ht7l, d7l, hu7l, hd7l⟩ := hl7.two; have HD7l := hid hd7l; obtain ⟨ht7h, d7h, hu7h, hd7h⟩ := hh7.two; have HD7h := hid hd7h; replace X1 := ix X1 hb; replace XV := ix XV hb; replace X5 := nx X5 hb; replace X6 := nx X6 hb; replace HT1l := wl HT1l hb; replace HU1l := wl HU1l hb; replace HT1h := wl HT1h hb; replace HU1h := wl HU1h hb; replace HT5 := wl HT5 hb; replace HU5 := wl HU5 hb; replace HT6 := wl HT6 hb; replace HU6 := wl HU6 hb; replace B := bb B hb; clear cc45a cc45b cc45c cc45d cc45e cc45f cc45g cc45h cc46a cc46b cc46c cc46d cc46e cc46f cc46g cc46h cc47a cc47b cc47c cc47d cc48a cc48b cc48c cc48d cc52a cc52b cc52c cc52d cc52e cc52f cc52g cc52h cc53a cc53b cc53c cc53d cc54a cc54b cc54c cc54d cc55a cc55b cc55c cc55d cc55e cc55f cc55g cc55h cc56a cc56b cc56c cc56d cc57a cc57b cc57c cc57d; have HT7l := hid ht7l; have HU7l := hid hu7l; have HT7h := hid ht7h; have HU7h := hid hu7h; clear hb hv hl7 hh7 ht7l hu7l hd7l ht7h hu7h hd7h HR; obtain ⟨cc60a, cc60b, cc60c, cc60d, cc60e, cc60f, cc60g, cc60h⟩ := X1.out.cells; obtain ⟨cc61a, cc61b, cc61c, cc61d⟩ := X5.out.cells; obtain ⟨cc62a, cc62b, cc62c, cc62d⟩ := X6.out.cells; have mk58_0 := hid True.intro))
  go_wp2_with fail
  refine bodyPost_ret (res_ivl_tmp rfl rfl rfl XV.out) rfl ?_
  exact ⟨_, rfl, (Ivl.mk2 (Rtl.mk2 HT8l.out HU8l.out HD8l.out) (Rtl.mk2 HT8h.out HU8h.out HD8h.out)), B.out⟩

end Go.Proofs.YtkdeopikojgboaaGreatDoor

/-
  PACKAGE ival: texts.
-/
namespace Go.Proofs.YtkdeopikojgboaaGreatDoor
open Go.RowKit
open Num
set_option linter.unusedVariables false
set_option maxRecDepth 100000
set_option linter.unusedSimpArgs false

set_option maxHeartbeats 4000000 in
theorem texts_ivl {w : World} {v : Value} {p q : Rat} {k : Nat} (h : Ivl w v p q k) (hk : k ≤ 4294967296) :
    Calls Tryz.prog 44 #[v] w fun e w' => e = .returned (.agg #[.string (qtxt p), .string (qtxt q)]) ∧ Below w.heap.size w w' := by
  have HK := hid hk
  obtain ⟨s1a, p1a, n1a, c1a, s1b, p1b, n1b, c1b, s1c, p1c, n1c, c1c, s1d, p1d, n1d, c1d, rfl⟩ := h.opened
  obtain ⟨hl1, hh1⟩ := h.two
  obtain ⟨ht1l, d1l, hu1l, hd1l⟩ := hl1.two
  have HD1l := hid hd1l
  obtain ⟨ht1h, d1h, hu1h, hd1h⟩ := hh1.two
  have HD1h := hid hd1h
  have B := hid (Below.refl w.heap.size w)
  have HT1l := hid ht1l
  have HU1l := hid hu1l
  have HT1h := hid ht1h
  have HU1h := hid hu1h
  have hb1 := (Below.refl _ _).alloc (Nat.le_refl w.heap.size) (.cells #[.bool s1a, .slice p1a n1a c1a, .bool s1b, .slice p1b n1b c1b, .bool s1c, .slice p1c n1c c1c, .bool s1d, .slice p1d n1d c1d] 62)
  have hx2 := Ibx.new w s1a p1a n1a c1a s1b p1b n1b c1b s1c p1c n1c c1c s1d p1d n1d c1d
  replace HT1l := wl HT1l hb1
  replace HU1l := wl HU1l hb1
  replace HT1h := wl HT1h hb1
  replace HU1h := wl HU1h hb1
  replace B := bb B hb1
  have X1 := hid hx2
  have hs3 : (w.alloc (.cells #[.bool s1a, .slice p1a n1a c1a, .bool s1b, .slice p1b n1b c1b, .bool s1c, .slice p1c n1c c1c, .bool s1d, .slice p1d n1d c1d] 62)).heap.size = w.heap.size + 1 := by simp
  clear hb1 hx2
  have hb4 := (Below.refl _ _).alloc (Nat.le_refl (w.alloc (.cells #[.bool s1a, .slice p1a n1a c1a, .bool s1b, .slice p1b n1b c1b, .bool s1c, .slice p1c n1c c1c, .bool s1d, .slice p1d n1d c1d] 62)).heap.size) (.cells #[.string ⟨#[]⟩, .string ⟨#[]⟩] 23)
  have hx5 := Vbx.new (w.alloc (.cells #[.bool s1a, .slice p1a n1a c1a, .bool s1b, .slice p1b n1b c1b, .bool s1c, .slice p1c n1c c1c, .bool s1d, .slice p1d n1d c1d] 62)) ⟨#[]⟩ ⟨#[]⟩
  rw [hs3] at hx5
  replace X1 := ix X1 hb4
  replace HT1l := wl HT1l hb4
  replace HU1l := wl HU1l hb4
  replace HT1h := wl HT1h hb4
  replace HU1h := wl HU1h hb4
  replace B := bb B hb4
  have XV := hid hx5
  have hs6 : ((w.alloc (.cells #[.bool s1a, .slice p1a n1a c1a, .bool s1b, .slice p1b n1b c1b, .bool s1c, .slice p1c n1c c1c, .bool s1d, .slice p1d n1d c1d] 62)).alloc (.cells #[.string ⟨#[]⟩, .string ⟨#[]⟩] 23)).heap.size = w.heap.size + 1 + 1 := by simp [hs3]
  clear hb4 hx5
  clear hs6 hk h hl1 hh1 ht1l hu1l hd1l ht1h hu1h hd1h
  go_enter Tryz.func44, Tryz.ntmps44
  obtain ⟨cc7a, cc7b, cc7c, cc7d, cc7e, cc7f, cc7g, cc7h⟩ := X1.out.cells
  obtain ⟨cc8a, cc8b⟩ := XV.out.both
  go_wp2_with fail
  generalize hW : (w.alloc (.cells #[.bool s1a, .slice p1a n1a c1a, .bool s1b, .slice p1b n1b c1b, .bool s1c, .slice p1c n1c c1c, .bool s1d, .slice p1d n1d c1d] 62)).alloc (.cells #[.string ⟨#[]⟩, .string ⟨#[]⟩] 23) = W9 at *
  clear hW
  obtain ⟨cc10a, cc10b, cc10c, cc10d, cc10e, cc10f, cc10g, cc10h⟩ := X1.out.cells
  replace X1 := hid X1.out.dr
  replace XV := hid XV.out.dr
  replace HT1l := hid HT1l.out.drew
  replace HU1l := hid HU1l.out.drew
  replace HT1h := hid HT1h.out.drew
  replace HU1h := hid HU1h.out.drew
  replace B := hid (Below.drew B.out)
  obtain ⟨cc11a, cc11b, cc11c, cc11d, cc11e, cc11f, cc11g, cc11h⟩ := X1.out.cells
  go_region_held3 (fun w' => w'.cell? ⟨w.heap.size, 0, none⟩ = some (.bool s1a) ∧ w'.cell? ⟨w.heap.size, 1, none⟩ = some (.slice p1a n1a c1a) ∧ w'.cell? ⟨w.heap.size, 2, none⟩ = some (.bool s1b) ∧ w'.cell? ⟨w.heap.size, 3, none⟩ = some (.slice p1b n1b c1b) ∧ w'.cell? ⟨w.heap.size, 4, none⟩ = some (.bool s1c) ∧ w'.cell? ⟨w.heap.size, 5, none⟩ = some (.slice p1c n1c c1c) ∧ w'.cell? ⟨w.heap.size, 6, none⟩ = some (.bool s1d) ∧ w'.cell? ⟨w.heap.size, 7, none⟩ = some (.slice p1d n1d c1d)) (go_keep) (first
    | (have hm := mk12_0; clear hm; go_at_call 63; refine (qstring (Rtl.mk2 HT1h.out HU1h.out HD1h.out) HK.out).mono ?_; rintro e w15 ⟨rfl, hb⟩; replace X1 := ix X1 hb; replace XV := vx XV hb; replace HT1l := wl HT1l hb; replace HU1l := wl HU1l hb; replace HT1h := wl HT1h hb; replace HU1h := wl HU1h hb; replace B := bb B hb; clear cc14a cc14b cc14c cc14d cc14e cc14f cc14g cc14h; clear hb ; obtain ⟨cc16a, cc16b, cc16c, cc16d, cc16e, cc16f, cc16g, cc16h⟩ := X1.out.cells; obtain ⟨cc17a, cc17b, cc17c, cc17d⟩ := XV.out.stores; obtain ⟨r18a, r18b, r18c⟩ := XV.out.last B.out (by omega) (qtxt p) (qtxt q); replace X1 := hid ((X1.out.other (g2 := w.heap.size + 1) (by omega) 0 (.string (qtxt p))).other (g2 := w.heap.size + 1) (by omega) 1 (.string (qtxt q))); replace HT1l := hid (r18c HT1l.out); replace HU1l := hid (r18c HU1l.out); replace HT1h := hid (r18c HT1h.out); replace HU1h := hid (r18c HU1h.out); replace XV := hid r18a; replace B := hid r18b; clear r18a r18b r18c; obtain ⟨cc19a, cc19b, cc19c, cc19d, cc19e, cc19f, cc19g, cc19h⟩ := X1.out.cells; have mk12_1 := hid True.intro)
    | (go_at_call 63; refine (qstring (Rtl.mk2 HT1l.out HU1l.out HD1l.out) HK.out).mono ?_; rintro e w13 ⟨rfl, hb⟩; replace X1 := ix X1 hb; replace XV := vx XV hb; replace HT1l := wl HT1l hb; replace HU1l := wl HU1l hb; replace HT1h := wl HT1h hb; replace HU1h := wl HU1h hb; replace B := bb B hb; clear cc7a cc7b cc7c cc7d cc7e cc7f cc7g cc7h cc8a cc8b cc10a cc10b cc10c cc10d cc10e cc10f cc10g cc10h cc11a cc11b cc11c cc11d cc11e cc11f cc11g cc11h; clear hb ; obtain ⟨cc14a, cc14b, cc14c, cc14d, cc14e, cc14f, cc14g, cc14h⟩ := X1.out.cells; have mk12_0 := hid True.intro))
  go_wp2_with fail
  refine bodyPost_ret (res_ival rfl rfl XV.out) rfl ?_
  exact ⟨rfl, B.out⟩

end Go.Proofs.YtkdeopikojgboaaGreatDoor

/-
  PACKAGE ival: Has, Check.
-/
namespace Go.Proofs.YtkdeopikojgboaaGreatDoor
open Go.RowKit
open Num
set_option linter.unusedVariables false
set_option maxRecDepth 100000
set_option linter.unusedSimpArgs false

set_option maxHeartbeats 4000000 in
theorem ihas_a {a b x : ByteArray} {k : Int} (h : BadI a b k) (ha : a.size ≤ maxLen) (hb0 : b.size ≤ maxLen) (w : World) :
    Calls Tryz.prog 10 #[.agg #[.string a, .string b], .string x] w fun e w' => e = .returned (.tuple #[.bool false, errno k]) ∧ Below w.heap.size w w' := by
  have hne := errv_neq
  have hgd := errv_guard
  have hkk := errv_some h.ne
  have H1 := hid (fun w => iread_bad h ha hb0 w)
  have B := hid (Below.refl w.heap.size w)
  have hb1 := (Below.refl _ _).alloc (Nat.le_refl w.heap.size) (.cells #[.string a, .string b] 23)
  have hx2 := Vbx.new w a b
  replace B := bb B hb1
  have X1 := hid hx2
  have hs3 : (w.alloc (.cells #[.string a, .string b] 23)).heap.size = w.heap.size + 1 := by simp
  clear hb1 hx2
  clear hs3 h
  go_enter Tryz.func10, Tryz.ntmps10
  obtain ⟨cc4a, cc4b⟩ := X1.out.both
  go_wp2_with fail
  generalize hW : w.alloc (.cells #[.string a, .string b] 23) = W5 at *
  clear hW
  refine (H1.out _).mono ?_
  rintro e w6 ⟨rfl, hb⟩
  replace B := bb B hb
  clear cc4a cc4b
  clear hb H1
  have hb7 := (Below.refl _ _).alloc (Nat.le_refl w6.heap.size) (.cells #[.bool false, .slice none 0 0, .bool false, .slice none 0 0, .bool false, .slice none 0 0, .bool false, .slice none 0 0] 62)
  have hx8 := Ibx.new w6 false none 0 0 false none 0 0 false none 0 0 false none 0 0
  replace B := bb B hb7
  have X5 := hid hx8
  have hs9 : (w6.alloc (.cells #[.bool false, .slice none 0 0, .bool false, .slice none 0 0, .bool false, .slice none 0 0, .bool false, .slice none 0 0] 62)).heap.size = w6.heap.size + 1 := by simp
  clear hb7 hx8
  obtain ⟨cc10a, cc10b, cc10c, cc10d, cc10e, cc10f, cc10g, cc10h⟩ := X5.out.cells
  go_wp2_with fail
  go_ret2
  exact ⟨rfl, B.out⟩

set_option maxHeartbeats 4000000 in
theorem ihas_b {a b x : ByteArray} {k : Int} (h1 : GoodI a b) (h2 : BadQ x k) (hx0 : x.size ≤ maxLen) (w : World) :
    Calls Tryz.prog 10 #[.agg #[.string a, .string b], .string x] w fun e w' => e = .returned (.tuple #[.bool false, errno k]) ∧ Below w.heap.size w w' := by
  have hne := errv_neq
  have hgd := errv_guard
  have H1 := hid (fun w => iread_good h1 w)
  have hkk := errv_some h2.ne
  have H2 := hid (fun w => qread_bad h2 w hx0)
  have B := hid (Below.refl w.heap.size w)
  have hb1 := (Below.refl _ _).alloc (Nat.le_refl w.heap.size) (.cells #[.string a, .string b] 23)
  have hx2 := Vbx.new w a b
  replace B := bb B hb1
  have X1 := hid hx2
  have hs3 : (w.alloc (.cells #[.string a, .string b] 23)).heap.size = w.heap.size + 1 := by simp
  clear hb1 hx2
  clear hs3 h1 h2
  go_enter Tryz.func10, Tryz.ntmps10
  obtain ⟨cc4a, cc4b⟩ := X1.out.both
  go_wp2_with fail
  generalize hW : w.alloc (.cells #[.string a, .string b] 23) = W5 at *
  clear hW
  refine (H1.out _).mono ?_
  rintro e w6 ⟨v, rfl, hv, hb⟩
  obtain ⟨s5a, p5a, n5a, c5a, s5b, p5b, n5b, c5b, s5c, p5c, n5c, c5c, s5d, p5d, n5d, c5d, rfl⟩ := hv.opened
  obtain ⟨hl5, hh5⟩ := hv.two
  obtain ⟨ht5l, d5l, hu5l, hd5l⟩ := hl5.two
  have HD5l := hid hd5l
  obtain ⟨ht5h, d5h, hu5h, hd5h⟩ := hh5.two
  have HD5h := hid hd5h
  replace B := bb B hb
  clear cc4a cc4b
  have HT5l := hid ht5l
  have HU5l := hid hu5l
  have HT5h := hid ht5h
  have HU5h := hid hu5h
  clear hb hv hl5 hh5 ht5l hu5l hd5l ht5h hu5h hd5h H1
  have hb7 := (Below.refl _ _).alloc (Nat.le_refl w6.heap.size) (.cells #[.bool s5a, .slice p5a n5a c5a, .bool s5b, .slice p5b n5b c5b, .bool s5c, .slice p5c n5c c5c, .bool s5d, .slice p5d n5d c5d] 62)
  have hx8 := Ibx.new w6 s5a p5a n5a c5a s5b p5b n5b c5b s5c p5c n5c c5c s5d p5d n5d c5d
  replace B := bb B hb7
  have X5 := hid hx8
  have hs9 : (w6.alloc (.cells #[.bool s5a, .slice p5a n5a c5a, .bool s5b, .slice p5b n5b c5b, .bool s5c, .slice p5c n5c c5c, .bool s5d, .slice p5d n5d c5d] 62)).heap.size = w6.heap.size + 1 := by simp
  clear hb7 hx8
  obtain ⟨cc10a, cc10b, cc10c, cc10d, cc10e, cc10f, cc10g, cc10h⟩ := X5.out.cells
  go_wp2_with fail
  generalize hW : w6.alloc (.cells #[.bool s5a, .slice p5a n5a c5a, .bool s5b, .slice p5b n5b c5b, .bool s5c, .slice p5c n5c c5c, .bool s5d, .slice p5d n5d c5d] 62) = W11 at *
  clear hW
  refine (H2.out _).mono ?_
  rintro e w12 ⟨rfl, hb⟩
  replace B := bb B hb
  clear cc10a cc10b cc10c cc10d cc10e cc10f cc10g cc10h
  clear hb H2
  have hb13 := (Below.refl _ _).alloc (Nat.le_refl w12.heap.size) (.cells #[.bool false, .slice none 0 0, .bool false, .slice none 0 0] 60)
  have hx14 := Nbx.new w12 false false (.slice none 0 0) (.slice none 0 0)
  replace B := bb B hb13
  have X6 := hid hx14
  have hs15 : (w12.alloc (.cells #[.bool false, .slice none 0 0, .bool false, .slice none 0 0] 60)).heap.size = w12.heap.size + 1 := by simp
  clear hb13 hx14
  obtain ⟨cc16a, cc16b, cc16c, cc16d⟩ := X6.out.cells
  go_wp2_with fail
  go_ret2
  exact ⟨rfl, B.out⟩

set_option maxHeartbeats 4000000 in
theorem ihas_c {a b x : ByteArray} (h1 : GoodI a b) (h2 : GoodQ x) (w : World) :
    Calls Tryz.prog 10 #[.agg #[.string a, .string b], .string x] w fun e w' => e = .returned (.tuple #[.bool (decide (qnum a ≤ qnum x ∧ qnum x ≤ qnum b)), .nilIface]) ∧ Below w.heap.size w w' := by
  have hne := errv_neq
  have hgd := errv_guard
  have H1 := hid (fun w => iread_good h1 w)
  have H2 := hid (fun w => qread_good h2 w)
  obtain ⟨t, ht⟩ : ∃ t : Bool, t = decide (qnum a ≤ qnum x ∧ qnum x ≤ qnum b) := ⟨_, rfl⟩
  have HT := hid ht
  clear ht
  have B := hid (Below.refl w.heap.size w)
  have hb1 := (Below.refl _ _).alloc (Nat.le_refl w.heap.size) (.cells #[.string a, .string b] 23)
  have hx2 := Vbx.new w a b
  replace B := bb B hb1
  have X1 := hid hx2
  have hs3 : (w.alloc (.cells #[.string a, .string b] 23)).heap.size = w.heap.size + 1 := by simp
  clear hb1 hx2
  clear hs3 h1 h2
  go_enter Tryz.func10, Tryz.ntmps10
  obtain ⟨cc4a, cc4b⟩ := X1.out.both
  go_wp2_with fail
  generalize hW : w.alloc (.cells #[.string a, .string b] 23) = W5 at *
  clear hW
  refine (H1.out _).mono ?_
  rintro e w6 ⟨v, rfl, hv, hb⟩
  obtain ⟨s5a, p5a, n5a, c5a, s5b, p5b, n5b, c5b, s5c, p5c, n5c, c5c, s5d, p5d, n5d, c5d, rfl⟩ := hv.opened
  obtain ⟨hl5, hh5⟩ := hv.two
  obtain ⟨ht5l, d5l, hu5l, hd5l⟩ := hl5.two
  have HD5l := hid hd5l
  obtain ⟨ht5h, d5h, hu5h, hd5h⟩ := hh5.two
  have HD5h := hid hd5h
  replace B := bb B hb
  clear cc4a cc4b
  have HT5l := hid ht5l
  have HU5l := hid hu5l
  have HT5h := hid ht5h
  have HU5h := hid hu5h
  clear hb hv hl5 hh5 ht5l hu5l hd5l ht5h hu5h hd5h H1
  have hb7 := (Below.refl _ _).alloc (Nat.le_refl w6.heap.size) (.cells #[.bool s5a, .slice p5a n5a c5a, .bool s5b, .slice p5b n5b c5b, .bool s5c, .slice p5c n5c c5c, .bool s5d, .slice p5d n5d c5d] 62)
  have hx8 := Ibx.new w6 s5a p5a n5a c5a s5b p5b n5b c5b s5c p5c n5c c5c s5d p5d n5d c5d
  replace HT5l := wl HT5l hb7
  replace HU5l := wl HU5l hb7
  replace HT5h := wl HT5h hb7
  replace HU5h := wl HU5h hb7
  replace B := bb B hb7
  have X5 := hid hx8
  have hs9 : (w6.alloc (.cells #[.bool s5a, .slice p5a n5a c5a, .bool s5b, .slice p5b n5b c5b, .bool s5c, .slice p5c n5c c5c, .bool s5d, .slice p5d n5d c5d] 62)).heap.size = w6.heap.size + 1 := by simp
  clear hb7 hx8
  obtain ⟨cc10a, cc10b, cc10c, cc10d, cc10e, cc10f, cc10g, cc10h⟩ := X5.out.cells
  go_wp2_with fail
  generalize hW : w6.alloc (.cells #[.bool s5a, .slice p5a n5a c5a, .bool s5b, .slice p5b n5b c5b, .bool s5c, .slice p5c n5c c5c, .bool s5d, .slice p5d n5d c5d] 62) = W11 at *
  clear hW
  refine (H2.out _).mono ?_
  rintro e w12 ⟨v, rfl, hv, hb⟩
  obtain ⟨s6a, p6a, n6a, c6a, s6b, p6b, n6b, c6b, rfl⟩ := hv.opened
  obtain ⟨ht6, d6, hu6, hd6⟩ := hv.two
  have HD6 := hid hd6
  replace X5 := ix X5 hb
  replace HT5l := wl HT5l hb
  replace HU5l := wl HU5l hb
  replace HT5h := wl HT5h hb
  replace HU5h := wl HU5h hb
  replace B := bb B hb
  clear cc10a cc10b cc10c cc10d cc10e cc10f cc10g cc10h
  have HT6 := hid ht6
  have HU6 := hid hu6
  clear hb hv ht6 hu6 hd6 H2
  have hb13 := (Below.refl _ _).alloc (Nat.le_refl w12.heap.size) (.cells #[.bool s6a, .slice p6a n6a c6a, .bool s6b, .slice p6b n6b c6b] 60)
  have hx14 := Nbx.new w12 s6a s6b (.slice p6a n6a c6a) (.slice p6b n6b c6b)
  have L0 := hid X5.out.lt
  replace X5 := ix X5 hb13
  replace HT5l := wl HT5l hb13
  replace HU5l := wl HU5l hb13
  replace HT5h := wl HT5h hb13
  replace HU5h := wl HU5h hb13
  replace HT6 := wl HT6 hb13
  replace HU6 := wl HU6 hb13
  replace B := bb B hb13
  have X6 := hid hx14
  have hs15 : (w12.alloc (.cells #[.bool s6a, .slice p6a n6a c6a, .bool s6b, .slice p6b n6b c6b] 60)).heap.size = w12.heap.size + 1 := by simp
  clear hb13 hx14
  obtain ⟨cc16a, cc16b, cc16c, cc16d, cc16e, cc16f, cc16g, cc16h⟩ := X5.out.cells
  obtain ⟨cc17a, cc17b, cc17c, cc17d⟩ := X6.out.cells
  go_wp2_with fail
  generalize hW : w12.alloc (.cells #[.bool s6a, .slice p6a n6a c6a, .bool s6b, .slice p6b n6b c6b] 60) = W18 at *
  clear hW
  have HC := has_ivl (Ivl.mk2 (Rtl.mk2 HT5l.out HU5l.out HD5l.out) (Rtl.mk2 HT5h.out HU5h.out HD5h.out)) (Rtl.mk2 HT6.out HU6.out HD6.out) (by decide) (by decide)
  rw [← HT.out] at HC
  refine (HC).mono ?_
  rintro e w19 ⟨rfl, hb⟩
  replace B := bb B hb
  clear cc16a cc16b cc16c cc16d cc16e cc16f cc16g cc16h cc17a cc17b cc17c cc17d
  clear hb 
  clear HC
  go_wp2_with fail
  go_ret2
  refine ⟨?_, B.out⟩
  rw [← HT.out]
  rfl

set_option maxHeartbeats 4000000 in
theorem icheck_good {a b : ByteArray} (h : GoodI a b) (w : World) :
    Calls Tryz.prog 7 #[.agg #[.string a, .string b]] w fun e w' => e = .returned (.nilIface) ∧ Below w.heap.size w w' := by
  have hne := errv_neq
  have hgd := errv_guard
  have H1 := hid (fun w => iread_good h w)
  have B := hid (Below.refl w.heap.size w)
  have hb1 := (Below.refl _ _).alloc (Nat.le_refl w.heap.size) (.cells #[.string a, .string b] 23)
  have hx2 := Vbx.new w a b
  replace B := bb B hb1
  have X1 := hid hx2
  have hs3 : (w.alloc (.cells #[.string a, .string b] 23)).heap.size = w.heap.size + 1 := by simp
  clear hb1 hx2
  clear hs3 h
  go_enter Tryz.func7, Tryz.ntmps7
  obtain ⟨cc4a, cc4b⟩ := X1.out.both
  go_wp2_with fail
  generalize hW : w.alloc (.cells #[.string a, .string b] 23) = W5 at *
  clear hW
  refine (H1.out _).mono ?_
  rintro e w6 ⟨v, rfl, hv, hb⟩
  obtain ⟨s5a, p5a, n5a, c5a, s5b, p5b, n5b, c5b, s5c, p5c, n5c, c5c, s5d, p5d, n5d, c5d, rfl⟩ := hv.opened
  obtain ⟨hl5, hh5⟩ := hv.two
  obtain ⟨ht5l, d5l, hu5l, hd5l⟩ := hl5.two
  have HD5l := hid hd5l
  obtain ⟨ht5h, d5h, hu5h, hd5h⟩ := hh5.two
  have HD5h := hid hd5h
  replace B := bb B hb
  clear cc4a cc4b
  have HT5l := hid ht5l
  have HU5l := hid hu5l
  have HT5h := hid ht5h
  have HU5h := hid hu5h
  clear hb hv hl5 hh5 ht5l hu5l hd5l ht5h hu5h hd5h H1
  have hb7 := (Below.refl _ _).alloc (Nat.le_refl w6.heap.size) (.cells #[.bool s5a, .slice p5a n5a c5a, .bool s5b, .slice p5b n5b c5b, .bool s5c, .slice p5c n5c c5c, .bool s5d, .slice p5d n5d c5d] 62)
  have hx8 := Ibx.new w6 s5a p5a n5a c5a s5b p5b n5b c5b s5c p5c n5c c5c s5d p5d n5d c5d
  replace B := bb B hb7
  have X5 := hid hx8
  have hs9 : (w6.alloc (.cells #[.bool s5a, .slice p5a n5a c5a, .bool s5b, .slice p5b n5b c5b, .bool s5c, .slice p5c n5c c5c, .bool s5d, .slice p5d n5d c5d] 62)).heap.size = w6.heap.size + 1 := by simp
  clear hb7 hx8
  obtain ⟨cc10a, cc10b, cc10c, cc10d, cc10e, cc10f, cc10g, cc10h⟩ := X5.out.cells
  go_wp2_with fail
  go_ret
  exact ⟨rfl, B.out⟩

set_option maxHeartbeats 4000000 in
theorem icheck_bad {a b : ByteArray} {k : Int} (h : BadI a b k) (ha : a.size ≤ maxLen) (hb0 : b.size ≤ maxLen) (w : World) :
    Calls Tryz.prog 7 #[.agg #[.string a, .string b]] w fun e w' => e = .returned (errno k) ∧ Below w.heap.size w w' := by
  have hne := errv_neq
  have hgd := errv_guard
  have hkk := errv_some h.ne
  have H1 := hid (fun w => iread_bad h ha hb0 w)
  have B := hid (Below.refl w.heap.size w)
  have hb1 := (Below.refl _ _).alloc (Nat.le_refl w.heap.size) (.cells #[.string a, .string b] 23)
  have hx2 := Vbx.new w a b
  replace B := bb B hb1
  have X1 := hid hx2
  have hs3 : (w.alloc (.cells #[.string a, .string b] 23)).heap.size = w.heap.size + 1 := by simp
  clear hb1 hx2
  clear hs3 h
  go_enter Tryz.func7, Tryz.ntmps7
  obtain ⟨cc4a, cc4b⟩ := X1.out.both
  go_wp2_with fail
  generalize hW : w.alloc (.cells #[.string a, .string b] 23) = W5 at *
  clear hW
  refine (H1.out _).mono ?_
  rintro e w6 ⟨rfl, hb⟩
  replace B := bb B hb
  clear cc4a cc4b
  clear hb H1
  have hb7 := (Below.refl _ _).alloc (Nat.le_refl w6.heap.size) (.cells #[.bool false, .slice none 0 0, .bool false, .slice none 0 0, .bool false, .slice none 0 0, .bool false, .slice none 0 0] 62)
  have hx8 := Ibx.new w6 false none 0 0 false none 0 0 false none 0 0 false none 0 0
  replace B := bb B hb7
  have X5 := hid hx8
  have hs9 : (w6.alloc (.cells #[.bool false, .slice none 0 0, .bool false, .slice none 0 0, .bool false, .slice none 0 0, .bool false, .slice none 0 0] 62)).heap.size = w6.heap.size + 1 := by simp
  clear hb7 hx8
  obtain ⟨cc10a, cc10b, cc10c, cc10d, cc10e, cc10f, cc10g, cc10h⟩ := X5.out.cells
  go_wp2_with fail
  go_ret
  exact ⟨rfl, B.out⟩

end Go.Proofs.YtkdeopikojgboaaGreatDoor
