import Derived.Test.YtkdeopikojgboaaGreatDoorBunProofIvalTells19
import Derived.Test.YtkdeopikojgboaaGreatDoorBunProofIvalTells18
import Derived.Test.YtkdeopikojgboaaGreatDoorBunProofIvalTells14
/-
  PACKAGE ival: Div.
-/
namespace Go.Proofs.YtkdeopikojgboaaGreatDoor
open Go.RowKit
open Num
set_option linter.unusedVariables false
set_option maxRecDepth 100000
set_option linter.unusedSimpArgs false

set_option maxHeartbeats 4000000 in
theorem idiv_bad {a b c d : ByteArray} {k : Int} (h : WrongI a b c d k) (ha : a.size ≤ maxLen) (hb0 : b.size ≤ maxLen) (hc0 : c.size ≤ maxLen) (hd0 : d.size ≤ maxLen) (w : World) :
    Calls Tryz.prog 21 #[.agg #[.string a, .string b], .agg #[.string c, .string d]] w fun e w' => e = .returned (.tuple #[.agg #[.string ⟨#[]⟩, .string ⟨#[]⟩], errno k]) ∧ Below w.heap.size w w' := by
  have hne := errv_neq
  have hgd := errv_guard
  have hkk := errv_some h.ne
  have H1 := hid (fun w => iboth_bad h ha hb0 hc0 hd0 w)
  have B := hid (Below.refl w.heap.size w)
  have hb1 := (Below.refl _ _).alloc (Nat.le_refl w.heap.size) (.cells #[.string a, .string b] 23)
  have hx2 := Vbx.new w a b
  replace B := bb B hb1
  have X1 := hid hx2
  have hs3 : (w.alloc (.cells #[.string a, .string b] 23)).heap.size = w.heap.size + 1 := by simp
  clear hb1 hx2
  have hb4 := (Below.refl _ _).alloc (Nat.le_refl (w.alloc (.cells #[.string a, .string b] 23)).heap.size) (.cells #[.string c, .string d] 23)
  have hx5 := Vbx.new (w.alloc (.cells #[.string a, .string b] 23)) c d
  rw [hs3] at hx5
  replace X1 := vx X1 hb4
  replace B := bb B hb4
  have X2 := hid hx5
  have hs6 : ((w.alloc (.cells #[.string a, .string b] 23)).alloc (.cells #[.string c, .string d] 23)).heap.size = w.heap.size + 1 + 1 := by simp [hs3]
  clear hb4 hx5
  have hb7 := (Below.refl _ _).alloc (Nat.le_refl ((w.alloc (.cells #[.string a, .string b] 23)).alloc (.cells #[.string c, .string d] 23)).heap.size) (.cells #[.string ⟨#[]⟩, .string ⟨#[]⟩] 23)
  have hx8 := Vbx.new ((w.alloc (.cells #[.string a, .string b] 23)).alloc (.cells #[.string c, .string d] 23)) ⟨#[]⟩ ⟨#[]⟩
  rw [hs6] at hx8
  replace X1 := vx X1 hb7
  replace X2 := vx X2 hb7
  replace B := bb B hb7
  have XV := hid hx8
  have hs9 : (((w.alloc (.cells #[.string a, .string b] 23)).alloc (.cells #[.string c, .string d] 23)).alloc (.cells #[.string ⟨#[]⟩, .string ⟨#[]⟩] 23)).heap.size = w.heap.size + 1 + 1 + 1 := by simp [hs6]
  clear hb7 hx8
  clear hs9 h
  go_enter Tryz.func21, Tryz.ntmps21
  obtain ⟨cc10a, cc10b⟩ := X1.out.both
  obtain ⟨cc11a, cc11b⟩ := X2.out.both
  obtain ⟨cc12a, cc12b⟩ := XV.out.both
  go_wp2_with fail
  generalize hW : ((w.alloc (.cells #[.string a, .string b] 23)).alloc (.cells #[.string c, .string d] 23)).alloc (.cells #[.string ⟨#[]⟩, .string ⟨#[]⟩] 23) = W13 at *
  clear hW
  refine (H1.out _).mono ?_
  rintro e w14 ⟨rfl, hb⟩
  replace XV := vx XV hb
  replace B := bb B hb
  clear cc10a cc10b cc11a cc11b cc12a cc12b
  clear hb H1
  have hb15 := (Below.refl _ _).alloc (Nat.le_refl w14.heap.size) (.cells #[.bool false, .slice none 0 0, .bool false, .slice none 0 0, .bool false, .slice none 0 0, .bool false, .slice none 0 0] 62)
  have hx16 := Ibx.new w14 false none 0 0 false none 0 0 false none 0 0 false none 0 0
  have L0 := hid XV.out.lt
  replace XV := vx XV hb15
  replace B := bb B hb15
  have X5 := hid hx16
  have hs17 : (w14.alloc (.cells #[.bool false, .slice none 0 0, .bool false, .slice none 0 0, .bool false, .slice none 0 0, .bool false, .slice none 0 0] 62)).heap.size = w14.heap.size + 1 := by simp
  clear hb15 hx16
  have hb18 := (Below.refl _ _).alloc (Nat.le_refl (w14.alloc (.cells #[.bool false, .slice none 0 0, .bool false, .slice none 0 0, .bool false, .slice none 0 0, .bool false, .slice none 0 0] 62)).heap.size) (.cells #[.bool false, .slice none 0 0, .bool false, .slice none 0 0, .bool false, .slice none 0 0, .bool false, .slice none 0 0] 62)
  have hx19 := Ibx.new (w14.alloc (.cells #[.bool false, .slice none 0 0, .bool false, .slice none 0 0, .bool false, .slice none 0 0, .bool false, .slice none 0 0] 62)) false none 0 0 false none 0 0 false none 0 0 false none 0 0
  rw [hs17] at hx19
  replace XV := vx XV hb18
  replace X5 := ix X5 hb18
  replace B := bb B hb18
  have X6 := hid hx19
  have hs20 : ((w14.alloc (.cells #[.bool false, .slice none 0 0, .bool false, .slice none 0 0, .bool false, .slice none 0 0, .bool false, .slice none 0 0] 62)).alloc (.cells #[.bool false, .slice none 0 0, .bool false, .slice none 0 0, .bool false, .slice none 0 0, .bool false, .slice none 0 0] 62)).heap.size = w14.heap.size + 1 + 1 := by simp [hs17]
  clear hb18 hx19
  obtain ⟨cc21a, cc21b⟩ := XV.out.both
  obtain ⟨cc22a, cc22b, cc22c, cc22d, cc22e, cc22f, cc22g, cc22h⟩ := X5.out.cells
  obtain ⟨cc23a, cc23b, cc23c, cc23d, cc23e, cc23f, cc23g, cc23h⟩ := X6.out.cells
  obtain ⟨cc24a, cc24b, cc24c, cc24d⟩ := XV.out.stores
  obtain ⟨r25a, r25b, r25c⟩ := XV.out.last B.out (by have := L0.out; omega) ⟨#[]⟩ ⟨#[]⟩
  replace X5 := hid ((X5.out.other (g2 := w.heap.size + 1 + 1) (by have := L0.out; omega) 0 (.string ⟨#[]⟩)).other (g2 := w.heap.size + 1 + 1) (by have := L0.out; omega) 1 (.string ⟨#[]⟩))
  replace X6 := hid ((X6.out.other (g2 := w.heap.size + 1 + 1) (by have := L0.out; omega) 0 (.string ⟨#[]⟩)).other (g2 := w.heap.size + 1 + 1) (by have := L0.out; omega) 1 (.string ⟨#[]⟩))
  replace XV := hid r25a
  replace B := hid r25b
  clear r25a r25b r25c
  obtain ⟨cc26a, cc26b⟩ := XV.out.both
  obtain ⟨cc27a, cc27b, cc27c, cc27d, cc27e, cc27f, cc27g, cc27h⟩ := X5.out.cells
  obtain ⟨cc28a, cc28b, cc28c, cc28d, cc28e, cc28f, cc28g, cc28h⟩ := X6.out.cells
  go_wp2_with fail
  refine bodyPost_ret (res_ival_tmp rfl rfl rfl XV.out) rfl ?_
  exact ⟨rfl, B.out⟩

set_option maxHeartbeats 4000000 in
theorem idiv_zero {a b c d : ByteArray} (h1 : GoodI a b) (h2 : GoodI c d) (h0 : qnum c ≤ 0 ∧ 0 ≤ qnum d) (w : World) :
    Calls Tryz.prog 21 #[.agg #[.string a, .string b], .agg #[.string c, .string d]] w fun e w' => e = .returned (.tuple #[.agg #[.string ⟨#[]⟩, .string ⟨#[]⟩], errno 5]) ∧ Below w.heap.size w w' := by
  have hne := errv_neq
  have hgd := errv_guard
  have H1 := hid (fun w => iboth_3 h1 h2 w)
  have H0 := hid h0
  have HRS := hid h2.2.2
  have hkk := errv_some (show (5 : Int) ≠ 0 by decide)
  have B := hid (Below.refl w.heap.size w)
  have hb1 := (Below.refl _ _).alloc (Nat.le_refl w.heap.size) (.cells #[.string a, .string b] 23)
  have hx2 := Vbx.new w a b
  replace B := bb B hb1
  have X1 := hid hx2
  have hs3 : (w.alloc (.cells #[.string a, .string b] 23)).heap.size = w.heap.size + 1 := by simp
  clear hb1 hx2
  have hb4 := (Below.refl _ _).alloc (Nat.le_refl (w.alloc (.cells #[.string a, .string b] 23)).heap.size) (.cells #[.string c, .string d] 23)
  have hx5 := Vbx.new (w.alloc (.cells #[.string a, .string b] 23)) c d
  rw [hs3] at hx5
  replace X1 := vx X1 hb4
  replace B := bb B hb4
  have X2 := hid hx5
  have hs6 : ((w.alloc (.cells #[.string a, .string b] 23)).alloc (.cells #[.string c, .string d] 23)).heap.size = w.heap.size + 1 + 1 := by simp [hs3]
  clear hb4 hx5
  have hb7 := (Below.refl _ _).alloc (Nat.le_refl ((w.alloc (.cells #[.string a, .string b] 23)).alloc (.cells #[.string c, .string d] 23)).heap.size) (.cells #[.string ⟨#[]⟩, .string ⟨#[]⟩] 23)
  have hx8 := Vbx.new ((w.alloc (.cells #[.string a, .string b] 23)).alloc (.cells #[.string c, .string d] 23)) ⟨#[]⟩ ⟨#[]⟩
  rw [hs6] at hx8
  replace X1 := vx X1 hb7
  replace X2 := vx X2 hb7
  replace B := bb B hb7
  have XV := hid hx8
  have hs9 : (((w.alloc (.cells #[.string a, .string b] 23)).alloc (.cells #[.string c, .string d] 23)).alloc (.cells #[.string ⟨#[]⟩, .string ⟨#[]⟩] 23)).heap.size = w.heap.size + 1 + 1 + 1 := by simp [hs6]
  clear hb7 hx8
  clear hs9 h1 h2 h0
  go_enter Tryz.func21, Tryz.ntmps21
  obtain ⟨cc10a, cc10b⟩ := X1.out.both
  obtain ⟨cc11a, cc11b⟩ := X2.out.both
  obtain ⟨cc12a, cc12b⟩ := XV.out.both
  go_wp2_with fail
  generalize hW : ((w.alloc (.cells #[.string a, .string b] 23)).alloc (.cells #[.string c, .string d] 23)).alloc (.cells #[.string ⟨#[]⟩, .string ⟨#[]⟩] 23) = W13 at *
  clear hW
  refine (H1.out _).mono ?_
  rintro e w14 ⟨v, u, rfl, hv, hu, hb⟩
  obtain ⟨s5a, p5a, n5a, c5a, s5b, p5b, n5b, c5b, s5c, p5c, n5c, c5c, s5d, p5d, n5d, c5d, rfl⟩ := hv.opened
  obtain ⟨hl5, hh5⟩ := hv.two
  obtain ⟨ht5l, d5l, hu5l, hd5l⟩ := hl5.two
  have HD5l := hid hd5l
  obtain ⟨ht5h, d5h, hu5h, hd5h⟩ := hh5.two
  have HD5h := hid hd5h
  obtain ⟨s6a, p6a, n6a, c6a, s6b, p6b, n6b, c6b, s6c, p6c, n6c, c6c, s6d, p6d, n6d, c6d, rfl⟩ := hu.opened
  obtain ⟨hl6, hh6⟩ := hu.two
  obtain ⟨ht6l, d6l, hu6l, hd6l⟩ := hl6.two
  have HD6l := hid hd6l
  obtain ⟨ht6h, d6h, hu6h, hd6h⟩ := hh6.two
  have HD6h := hid hd6h
  replace XV := vx XV hb
  replace B := bb B hb
  clear cc10a cc10b cc11a cc11b cc12a cc12b
  have HT5l := hid ht5l
  have HU5l := hid hu5l
  have HT5h := hid ht5h
  have HU5h := hid hu5h
  have HT6l := hid ht6l
  have HU6l := hid hu6l
  have HT6h := hid ht6h
  have HU6h := hid hu6h
  clear hb hv hl5 hh5 ht5l hu5l hd5l ht5h hu5h hd5h hu hl6 hh6 ht6l hu6l hd6l ht6h hu6h hd6h H1
  have hb15 := (Below.refl _ _).alloc (Nat.le_refl w14.heap.size) (.cells #[.bool s5a, .slice p5a n5a c5a, .bool s5b, .slice p5b n5b c5b, .bool s5c, .slice p5c n5c c5c, .bool s5d, .slice p5d n5d c5d] 62)
  have hx16 := Ibx.new w14 s5a p5a n5a c5a s5b p5b n5b c5b s5c p5c n5c c5c s5d p5d n5d c5d
  have L0 := hid XV.out.lt
  replace XV := vx XV hb15
  replace HT5l := wl HT5l hb15
  replace HU5l := wl HU5l hb15
  replace HT5h := wl HT5h hb15
  replace HU5h := wl HU5h hb15
  replace HT6l := wl HT6l hb15
  replace HU6l := wl HU6l hb15
  replace HT6h := wl HT6h hb15
  replace HU6h := wl HU6h hb15
  replace B := bb B hb15
  have X5 := hid hx16
  have hs17 : (w14.alloc (.cells #[.bool s5a, .slice p5a n5a c5a, .bool s5b, .slice p5b n5b c5b, .bool s5c, .slice p5c n5c c5c, .bool s5d, .slice p5d n5d c5d] 62)).heap.size = w14.heap.size + 1 := by simp
  clear hb15 hx16
  have hb18 := (Below.refl _ _).alloc (Nat.le_refl (w14.alloc (.cells #[.bool s5a, .slice p5a n5a c5a, .bool s5b, .slice p5b n5b c5b, .bool s5c, .slice p5c n5c c5c, .bool s5d, .slice p5d n5d c5d] 62)).heap.size) (.cells #[.bool s6a, .slice p6a n6a c6a, .bool s6b, .slice p6b n6b c6b, .bool s6c, .slice p6c n6c c6c, .bool s6d, .slice p6d n6d c6d] 62)
  have hx19 := Ibx.new (w14.alloc (.cells #[.bool s5a, .slice p5a n5a c5a, .bool s5b, .slice p5b n5b c5b, .bool s5c, .slice p5c n5c c5c, .bool s5d, .slice p5d n5d c5d] 62)) s6a p6a n6a c6a s6b p6b n6b c6b s6c p6c n6c c6c s6d p6d n6d c6d
  rw [hs17] at hx19
  replace XV := vx XV hb18
  replace X5 := ix X5 hb18
  replace HT5l := wl HT5l hb18
  replace HU5l := wl HU5l hb18
  replace HT5h := wl HT5h hb18
  replace HU5h := wl HU5h hb18
  replace HT6l := wl HT6l hb18
  replace HU6l := wl HU6l hb18
  replace HT6h := wl HT6h hb18
  replace HU6h := wl HU6h hb18
  replace B := bb B hb18
  have X6 := hid hx19
  have hs20 : ((w14.alloc (.cells #[.bool s5a, .slice p5a n5a c5a, .bool s5b, .slice p5b n5b c5b, .bool s5c, .slice p5c n5c c5c, .bool s5d, .slice p5d n5d c5d] 62)).alloc (.cells #[.bool s6a, .slice p6a n6a c6a, .bool s6b, .slice p6b n6b c6b, .bool s6c, .slice p6c n6c c6c, .bool s6d, .slice p6d n6d c6d] 62)).heap.size = w14.heap.size + 1 + 1 := by simp [hs17]
  clear hb18 hx19
  obtain ⟨cc21a, cc21b⟩ := XV.out.both
  obtain ⟨cc22a, cc22b, cc22c, cc22d, cc22e, cc22f, cc22g, cc22h⟩ := X5.out.cells
  obtain ⟨cc23a, cc23b, cc23c, cc23d, cc23e, cc23f, cc23g, cc23h⟩ := X6.out.cells
  go_wp2_with fail
  generalize hW : (w14.alloc (.cells #[.bool s5a, .slice p5a n5a c5a, .bool s5b, .slice p5b n5b c5b, .bool s5c, .slice p5c n5c c5c, .bool s5d, .slice p5d n5d c5d] 62)).alloc (.cells #[.bool s6a, .slice p6a n6a c6a, .bool s6b, .slice p6b n6b c6b, .bool s6c, .slice p6c n6c c6c, .bool s6d, .slice p6d n6d c6d] 62) = W24 at *
  clear hW
  refine (quo_zero (Ivl.mk2 (Rtl.mk2 HT5l.out HU5l.out HD5l.out) (Rtl.mk2 HT5h.out HU5h.out HD5h.out)) (Ivl.mk2 (Rtl.mk2 HT6l.out HU6l.out HD6l.out) (Rtl.mk2 HT6h.out HU6h.out HD6h.out)) (by decide) (by decide) H0.out).mono ?_
  rintro e w25 ⟨rfl, hb⟩
  replace XV := vx XV hb
  replace X5 := ix X5 hb
  replace X6 := ix X6 hb
  replace HT5l := wl HT5l hb
  replace HU5l := wl HU5l hb
  replace HT5h := wl HT5h hb
  replace HU5h := wl HU5h hb
  replace HT6l := wl HT6l hb
  replace HU6l := wl HU6l hb
  replace HT6h := wl HT6h hb
  replace HU6h := wl HU6h hb
  replace B := bb B hb
  clear cc21a cc21b cc22a cc22b cc22c cc22d cc22e cc22f cc22g cc22h cc23a cc23b cc23c cc23d cc23e cc23f cc23g cc23h
  clear hb 
  have hb26 := (Below.refl _ _).alloc (Nat.le_refl w25.heap.size) (.cells #[.bool false, .slice none 0 0, .bool false, .slice none 0 0, .bool false, .slice none 0 0, .bool false, .slice none 0 0] 62)
  have hx27 := Ibx.new w25 false none 0 0 false none 0 0 false none 0 0 false none 0 0
  have L1 := hid XV.out.lt
  replace XV := vx XV hb26
  replace HT5l := wl HT5l hb26
  replace HU5l := wl HU5l hb26
  replace HT5h := wl HT5h hb26
  replace HU5h := wl HU5h hb26
  replace HT6l := wl HT6l hb26
  replace HU6l := wl HU6l hb26
  replace HT6h := wl HT6h hb26
  replace HU6h := wl HU6h hb26
  replace B := bb B hb26
  have X7 := hid hx27
  have hs28 : (w25.alloc (.cells #[.bool false, .slice none 0 0, .bool false, .slice none 0 0, .bool false, .slice none 0 0, .bool false, .slice none 0 0] 62)).heap.size = w25.heap.size + 1 := by simp
  clear hb26 hx27
  obtain ⟨cc29a, cc29b⟩ := XV.out.both
  obtain ⟨cc30a, cc30b, cc30c, cc30d, cc30e, cc30f, cc30g, cc30h⟩ := X7.out.cells
  obtain ⟨cc31a, cc31b, cc31c, cc31d⟩ := XV.out.stores
  obtain ⟨r32a, r32b, r32c⟩ := XV.out.last B.out (by have := L0.out; have := L1.out; omega) ⟨#[]⟩ ⟨#[]⟩
  replace X7 := hid ((X7.out.other (g2 := w.heap.size + 1 + 1) (by have := L0.out; have := L1.out; omega) 0 (.string ⟨#[]⟩)).other (g2 := w.heap.size + 1 + 1) (by have := L0.out; have := L1.out; omega) 1 (.string ⟨#[]⟩))
  replace HT5l := hid (r32c HT5l.out)
  replace HU5l := hid (r32c HU5l.out)
  replace HT5h := hid (r32c HT5h.out)
  replace HU5h := hid (r32c HU5h.out)
  replace HT6l := hid (r32c HT6l.out)
  replace HU6l := hid (r32c HU6l.out)
  replace HT6h := hid (r32c HT6h.out)
  replace HU6h := hid (r32c HU6h.out)
  replace XV := hid r32a
  replace B := hid r32b
  clear r32a r32b r32c
  obtain ⟨cc33a, cc33b⟩ := XV.out.both
  obtain ⟨cc34a, cc34b, cc34c, cc34d, cc34e, cc34f, cc34g, cc34h⟩ := X7.out.cells
  go_wp2_with fail
  refine bodyPost_ret (res_ival_tmp rfl rfl rfl XV.out) rfl ?_
  exact ⟨rfl, B.out⟩

set_option maxHeartbeats 4000000 in
theorem idiv_good {a b c d : ByteArray} (h1 : GoodI a b) (h2 : GoodI c d) (h0 : ¬ (qnum c ≤ 0 ∧ 0 ≤ qnum d)) (w : World) :
    Calls Tryz.prog 21 #[.agg #[.string a, .string b], .agg #[.string c, .string d]] w fun e w' => e = .returned (.tuple #[.agg #[.string (qtxt (lo4 ((qnum a) / (qnum c)) ((qnum a) / (qnum d)) ((qnum b) / (qnum c)) ((qnum b) / (qnum d)))), .string (qtxt (hi4 ((qnum a) / (qnum c)) ((qnum a) / (qnum d)) ((qnum b) / (qnum c)) ((qnum b) / (qnum d))))], .nilIface]) ∧ Below w.heap.size w w' := by
  have hne := errv_neq
  have hgd := errv_guard
  have H1 := hid (fun w => iboth_3 h1 h2 w)
  have H0 := hid h0
  have HRS := hid h2.2.2
  have B := hid (Below.refl w.heap.size w)
  have hb1 := (Below.refl _ _).alloc (Nat.le_refl w.heap.size) (.cells #[.string a, .string b] 23)
  have hx2 := Vbx.new w a b
  replace B := bb B hb1
  have X1 := hid hx2
  have hs3 : (w.alloc (.cells #[.string a, .string b] 23)).heap.size = w.heap.size + 1 := by simp
  clear hb1 hx2
  have hb4 := (Below.refl _ _).alloc (Nat.le_refl (w.alloc (.cells #[.string a, .string b] 23)).heap.size) (.cells #[.string c, .string d] 23)
  have hx5 := Vbx.new (w.alloc (.cells #[.string a, .string b] 23)) c d
  rw [hs3] at hx5
  replace X1 := vx X1 hb4
  replace B := bb B hb4
  have X2 := hid hx5
  have hs6 : ((w.alloc (.cells #[.string a, .string b] 23)).alloc (.cells #[.string c, .string d] 23)).heap.size = w.heap.size + 1 + 1 := by simp [hs3]
  clear hb4 hx5
  have hb7 := (Below.refl _ _).alloc (Nat.le_refl ((w.alloc (.cells #[.string a, .string b] 23)).alloc (.cells #[.string c, .string d] 23)).heap.size) (.cells #[.string ⟨#[]⟩, .string ⟨#[]⟩] 23)
  have hx8 := Vbx.new ((w.alloc (.cells #[.string a, .string b] 23)).alloc (.cells #[.string c, .string d] 23)) ⟨#[]⟩ ⟨#[]⟩
  rw [hs6] at hx8
  replace X1 := vx X1 hb7
  replace X2 := vx X2 hb7
  replace B := bb B hb7
  have XV := hid hx8
  have hs9 : (((w.alloc (.cells #[.string a, .string b] 23)).alloc (.cells #[.string c, .string d] 23)).alloc (.cells #[.string ⟨#[]⟩, .string ⟨#[]⟩] 23)).heap.size = w.heap.size + 1 + 1 + 1 := by simp [hs6]
  clear hb7 hx8
  clear hs9 h1 h2 h0
  go_enter Tryz.func21, Tryz.ntmps21
  obtain ⟨cc10a, cc10b⟩ := X1.out.both
  obtain ⟨cc11a, cc11b⟩ := X2.out.both
  obtain ⟨cc12a, cc12b⟩ := XV.out.both
  go_wp2_with fail
  generalize hW : ((w.alloc (.cells #[.string a, .string b] 23)).alloc (.cells #[.string c, .string d] 23)).alloc (.cells #[.string ⟨#[]⟩, .string ⟨#[]⟩] 23) = W13 at *
  clear hW
  refine (H1.out _).mono ?_
  rintro e w14 ⟨v, u, rfl, hv, hu, hb⟩
  obtain ⟨s5a, p5a, n5a, c5a, s5b, p5b, n5b, c5b, s5c, p5c, n5c, c5c, s5d, p5d, n5d, c5d, rfl⟩ := hv.opened
  obtain ⟨hl5, hh5⟩ := hv.two
  obtain ⟨ht5l, d5l, hu5l, hd5l⟩ := hl5.two
  have HD5l := hid hd5l
  obtain ⟨ht5h, d5h, hu5h, hd5h⟩ := hh5.two
  have HD5h := hid hd5h
  obtain ⟨s6a, p6a, n6a, c6a, s6b, p6b, n6b, c6b, s6c, p6c, n6c, c6c, s6d, p6d, n6d, c6d, rfl⟩ := hu.opened
  obtain ⟨hl6, hh6⟩ := hu.two
  obtain ⟨ht6l, d6l, hu6l, hd6l⟩ := hl6.two
  have HD6l := hid hd6l
  obtain ⟨ht6h, d6h, hu6h, hd6h⟩ := hh6.two
  have HD6h := hid hd6h
  replace XV := vx XV hb
  replace B := bb B hb
  clear cc10a cc10b cc11a cc11b cc12a cc12b
  have HT5l := hid ht5l
  have HU5l := hid hu5l
  have HT5h := hid ht5h
  have HU5h := hid hu5h
  have HT6l := hid ht6l
  have HU6l := hid hu6l
  have HT6h := hid ht6h
  have HU6h := hid hu6h
  clear hb hv hl5 hh5 ht5l hu5l hd5l ht5h hu5h hd5h hu hl6 hh6 ht6l hu6l hd6l ht6h hu6h hd6h H1
  have hb15 := (Below.refl _ _).alloc (Nat.le_refl w14.heap.size) (.cells #[.bool s5a, .slice p5a n5a c5a, .bool s5b, .slice p5b n5b c5b, .bool s5c, .slice p5c n5c c5c, .bool s5d, .slice p5d n5d c5d] 62)
  have hx16 := Ibx.new w14 s5a p5a n5a c5a s5b p5b n5b c5b s5c p5c n5c c5c s5d p5d n5d c5d
  have L0 := hid XV.out.lt
  replace XV := vx XV hb15
  replace HT5l := wl HT5l hb15
  replace HU5l := wl HU5l hb15
  replace HT5h := wl HT5h hb15
  replace HU5h := wl HU5h hb15
  replace HT6l := wl HT6l hb15
  replace HU6l := wl HU6l hb15
  replace HT6h := wl HT6h hb15
  replace HU6h := wl HU6h hb15
  replace B := bb B hb15
  have X5 := hid hx16
  have hs17 : (w14.alloc (.cells #[.bool s5a, .slice p5a n5a c5a, .bool s5b, .slice p5b n5b c5b, .bool s5c, .slice p5c n5c c5c, .bool s5d, .slice p5d n5d c5d] 62)).heap.size = w14.heap.size + 1 := by simp
  clear hb15 hx16
  have hb18 := (Below.refl _ _).alloc (Nat.le_refl (w14.alloc (.cells #[.bool s5a, .slice p5a n5a c5a, .bool s5b, .slice p5b n5b c5b, .bool s5c, .slice p5c n5c c5c, .bool s5d, .slice p5d n5d c5d] 62)).heap.size) (.cells #[.bool s6a, .slice p6a n6a c6a, .bool s6b, .slice p6b n6b c6b, .bool s6c, .slice p6c n6c c6c, .bool s6d, .slice p6d n6d c6d] 62)
  have hx19 := Ibx.new (w14.alloc (.cells #[.bool s5a, .slice p5a n5a c5a, .bool s5b, .slice p5b n5b c5b, .bool s5c, .slice p5c n5c c5c, .bool s5d, .slice p5d n5d c5d] 62)) s6a p6a n6a c6a s6b p6b n6b c6b s6c p6c n6c c6c s6d p6d n6d c6d
  rw [hs17] at hx19
  replace XV := vx XV hb18
  replace X5 := ix X5 hb18
  replace HT5l := wl HT5l hb18
  replace HU5l := wl HU5l hb18
  replace HT5h := wl HT5h hb18
  replace HU5h := wl HU5h hb18
  replace HT6l := wl HT6l hb18
  replace HU6l := wl HU6l hb18
  replace HT6h := wl HT6h hb18
  replace HU6h := wl HU6h hb18
  replace B := bb B hb18
  have X6 := hid hx19
  have hs20 : ((w14.alloc (.cells #[.bool s5a, .slice p5a n5a c5a, .bool s5b, .slice p5b n5b c5b, .bool s5c, .slice p5c n5c c5c, .bool s5d, .slice p5d n5d c5d] 62)).alloc (.cells #[.bool s6a, .slice p6a n6a c6a, .bool s6b, .slice p6b n6b c6b, .bool s6c, .slice p6c n6c c6c, .bool s6d, .slice p6d n6d c6d] 62)).heap.size = w14.heap.size + 1 + 1 := by simp [hs17]
  clear hb18 hx19
  obtain ⟨cc21a, cc21b⟩ := XV.out.both
  obtain ⟨cc22a, cc22b, cc22c, cc22d, cc22e, cc22f, cc22g, cc22h⟩ := X5.out.cells
  obtain ⟨cc23a, cc23b, cc23c, cc23d, cc23e, cc23f, cc23g, cc23h⟩ := X6.out.cells
  go_wp2_with fail
  generalize hW : (w14.alloc (.cells #[.bool s5a, .slice p5a n5a c5a, .bool s5b, .slice p5b n5b c5b, .bool s5c, .slice p5c n5c c5c, .bool s5d, .slice p5d n5d c5d] 62)).alloc (.cells #[.bool s6a, .slice p6a n6a c6a, .bool s6b, .slice p6b n6b c6b, .bool s6c, .slice p6c n6c c6c, .bool s6d, .slice p6d n6d c6d] 62) = W24 at *
  clear hW
  refine (quo_ivl (Ivl.mk2 (Rtl.mk2 HT5l.out HU5l.out HD5l.out) (Rtl.mk2 HT5h.out HU5h.out HD5h.out)) (Ivl.mk2 (Rtl.mk2 HT6l.out HU6l.out HD6l.out) (Rtl.mk2 HT6h.out HU6h.out HD6h.out)) (by decide) (by decide) HRS.out H0.out).mono ?_
  rintro e w25 ⟨v, rfl, hv, hb⟩
  obtain ⟨s7a, p7a, n7a, c7a, s7b, p7b, n7b, c7b, s7c, p7c, n7c, c7c, s7d, p7d, n7d, c7d, rfl⟩ := hv.opened
  obtain ⟨hl7, hh7⟩ := hv.two
  obtain ⟨ht7l, d7l, hu7l, hd7l⟩ := hl7.two
  have HD7l := hid hd7l
  obtain ⟨ht7h, d7h, hu7h, hd7h⟩ := hh7.two
  have HD7h := hid hd7h
  replace XV := vx XV hb
  replace X5 := ix X5 hb
  replace X6 := ix X6 hb
  replace HT5l := wl HT5l hb
  replace HU5l := wl HU5l hb
  replace HT5h := wl HT5h hb
  replace HU5h := wl HU5h hb
  replace HT6l := wl HT6l hb
  replace HU6l := wl HU6l hb
  replace HT6h := wl HT6h hb
  replace HU6h := wl HU6h hb
  replace B := bb B hb
  clear cc21a cc21b cc22a cc22b cc22c cc22d cc22e cc22f cc22g cc22h cc23a cc23b cc23c cc23d cc23e cc23f cc23g cc23h
  have HT7l := hid ht7l
  have HU7l := hid hu7l
  have HT7h := hid ht7h
  have HU7h := hid hu7h
  clear hb hv hl7 hh7 ht7l hu7l hd7l ht7h hu7h hd7h
  have hb26 := (Below.refl _ _).alloc (Nat.le_refl w25.heap.size) (.cells #[.bool s7a, .slice p7a n7a c7a, .bool s7b, .slice p7b n7b c7b, .bool s7c, .slice p7c n7c c7c, .bool s7d, .slice p7d n7d c7d] 62)
  have hx27 := Ibx.new w25 s7a p7a n7a c7a s7b p7b n7b c7b s7c p7c n7c c7c s7d p7d n7d c7d
  have L1 := hid XV.out.lt
  replace XV := vx XV hb26
  replace HT5l := wl HT5l hb26
  replace HU5l := wl HU5l hb26
  replace HT5h := wl HT5h hb26
  replace HU5h := wl HU5h hb26
  replace HT6l := wl HT6l hb26
  replace HU6l := wl HU6l hb26
  replace HT6h := wl HT6h hb26
  replace HU6h := wl HU6h hb26
  replace HT7l := wl HT7l hb26
  replace HU7l := wl HU7l hb26
  replace HT7h := wl HT7h hb26
  replace HU7h := wl HU7h hb26
  replace B := bb B hb26
  have X7 := hid hx27
  have hs28 : (w25.alloc (.cells #[.bool s7a, .slice p7a n7a c7a, .bool s7b, .slice p7b n7b c7b, .bool s7c, .slice p7c n7c c7c, .bool s7d, .slice p7d n7d c7d] 62)).heap.size = w25.heap.size + 1 := by simp
  clear hb26 hx27
  obtain ⟨cc29a, cc29b⟩ := XV.out.both
  obtain ⟨cc30a, cc30b, cc30c, cc30d, cc30e, cc30f, cc30g, cc30h⟩ := X7.out.cells
  go_wp2_with fail
  generalize hW : w25.alloc (.cells #[.bool s7a, .slice p7a n7a c7a, .bool s7b, .slice p7b n7b c7b, .bool s7c, .slice p7c n7c c7c, .bool s7d, .slice p7d n7d c7d] 62) = W31 at *
  clear hW
  refine (texts_ivl (Ivl.mk2 (Rtl.mk2 HT7l.out HU7l.out HD7l.out) (Rtl.mk2 HT7h.out HU7h.out HD7h.out)) (by decide)).mono ?_
  rintro e w32 ⟨rfl, hb⟩
  replace XV := vx XV hb
  replace X7 := ix X7 hb
  replace HT5l := wl HT5l hb
  replace HU5l := wl HU5l hb
  replace HT5h := wl HT5h hb
  replace HU5h := wl HU5h hb
  replace HT6l := wl HT6l hb
  replace HU6l := wl HU6l hb
  replace HT6h := wl HT6h hb
  replace HU6h := wl HU6h hb
  replace HT7l := wl HT7l hb
  replace HU7l := wl HU7l hb
  replace HT7h := wl HT7h hb
  replace HU7h := wl HU7h hb
  replace B := bb B hb
  clear cc29a cc29b cc30a cc30b cc30c cc30d cc30e cc30f cc30g cc30h
  clear hb 
  obtain ⟨cc33a, cc33b⟩ := XV.out.both
  obtain ⟨cc34a, cc34b, cc34c, cc34d⟩ := XV.out.stores
  obtain ⟨r35a, r35b, r35c⟩ := XV.out.last B.out (by have := L0.out; have := L1.out; omega) (qtxt (lo4 ((qnum a) / (qnum c)) ((qnum a) / (qnum d)) ((qnum b) / (qnum c)) ((qnum b) / (qnum d)))) (qtxt (hi4 ((qnum a) / (qnum c)) ((qnum a) / (qnum d)) ((qnum b) / (qnum c)) ((qnum b) / (qnum d))))
  replace HT5l := hid (r35c HT5l.out)
  replace HU5l := hid (r35c HU5l.out)
  replace HT5h := hid (r35c HT5h.out)
  replace HU5h := hid (r35c HU5h.out)
  replace HT6l := hid (r35c HT6l.out)
  replace HU6l := hid (r35c HU6l.out)
  replace HT6h := hid (r35c HT6h.out)
  replace HU6h := hid (r35c HU6h.out)
  replace HT7l := hid (r35c HT7l.out)
  replace HU7l := hid (r35c HU7l.out)
  replace HT7h := hid (r35c HT7h.out)
  replace HU7h := hid (r35c HU7h.out)
  replace XV := hid r35a
  replace B := hid r35b
  clear r35a r35b r35c
  obtain ⟨cc36a, cc36b⟩ := XV.out.both
  go_wp2_with fail
  refine bodyPost_ret (res_ival_tmp rfl rfl rfl XV.out) rfl ?_
  exact ⟨rfl, B.out⟩

end Go.Proofs.YtkdeopikojgboaaGreatDoor

/-
  PACKAGE ival: combine, Add, Mul, Hull.
-/
namespace Go.Proofs.YtkdeopikojgboaaGreatDoor
open Go.RowKit
open Num
set_option linter.unusedVariables false
set_option maxRecDepth 100000
set_option linter.unusedSimpArgs false

set_option maxHeartbeats 4000000 in
theorem combine_bad {a b c d : ByteArray} {k : Int} {f : Value} (h : WrongI a b c d k) (ha : a.size ≤ maxLen) (hb0 : b.size ≤ maxLen) (hc0 : c.size ≤ maxLen) (hd0 : d.size ≤ maxLen) (w : World) :
    Calls Tryz.prog 38 #[.agg #[.string a, .string b], .agg #[.string c, .string d], f] w fun e w' => e = .returned (.tuple #[.agg #[.string ⟨#[]⟩, .string ⟨#[]⟩], errno k]) ∧ Below w.heap.size w w' := by
  have hne := errv_neq
  have hgd := errv_guard
  have hkk := errv_some h.ne
  have H1 := hid (fun w => iboth_bad h ha hb0 hc0 hd0 w)
  have B := hid (Below.refl w.heap.size w)
  have hb1 := (Below.refl _ _).alloc (Nat.le_refl w.heap.size) (.cells #[.string a, .string b] 23)
  have hx2 := Vbx.new w a b
  replace B := bb B hb1
  have X1 := hid hx2
  have hs3 : (w.alloc (.cells #[.string a, .string b] 23)).heap.size = w.heap.size + 1 := by simp
  clear hb1 hx2
  have hb4 := (Below.refl _ _).alloc (Nat.le_refl (w.alloc (.cells #[.string a, .string b] 23)).heap.size) (.cells #[.string c, .string d] 23)
  have hx5 := Vbx.new (w.alloc (.cells #[.string a, .string b] 23)) c d
  rw [hs3] at hx5
  replace X1 := vx X1 hb4
  replace B := bb B hb4
  have X2 := hid hx5
  have hs6 : ((w.alloc (.cells #[.string a, .string b] 23)).alloc (.cells #[.string c, .string d] 23)).heap.size = w.heap.size + 1 + 1 := by simp [hs3]
  clear hb4 hx5
  have hb7 := (Below.refl _ _).alloc (Nat.le_refl ((w.alloc (.cells #[.string a, .string b] 23)).alloc (.cells #[.string c, .string d] 23)).heap.size) (.cells #[.string ⟨#[]⟩, .string ⟨#[]⟩] 23)
  have hx8 := Vbx.new ((w.alloc (.cells #[.string a, .string b] 23)).alloc (.cells #[.string c, .string d] 23)) ⟨#[]⟩ ⟨#[]⟩
  rw [hs6] at hx8
  replace X1 := vx X1 hb7
  replace X2 := vx X2 hb7
  replace B := bb B hb7
  have XV := hid hx8
  have hs9 : (((w.alloc (.cells #[.string a, .string b] 23)).alloc (.cells #[.string c, .string d] 23)).alloc (.cells #[.string ⟨#[]⟩, .string ⟨#[]⟩] 23)).heap.size = w.heap.size + 1 + 1 + 1 := by simp [hs6]
  clear hb7 hx8
  clear hs9 h
  go_enter Tryz.func38, Tryz.ntmps38
  obtain ⟨cc10a, cc10b⟩ := X1.out.both
  obtain ⟨cc11a, cc11b⟩ := X2.out.both
  obtain ⟨cc12a, cc12b⟩ := XV.out.both
  go_wp2_with fail
  generalize hW : ((w.alloc (.cells #[.string a, .string b] 23)).alloc (.cells #[.string c, .string d] 23)).alloc (.cells #[.string ⟨#[]⟩, .string ⟨#[]⟩] 23) = W13 at *
  clear hW
  refine (H1.out _).mono ?_
  rintro e w14 ⟨rfl, hb⟩
  replace XV := vx XV hb
  replace B := bb B hb
  clear cc10a cc10b cc11a cc11b cc12a cc12b
  clear hb H1
  have hb15 := (Below.refl _ _).alloc (Nat.le_refl w14.heap.size) (.cells #[.bool false, .slice none 0 0, .bool false, .slice none 0 0, .bool false, .slice none 0 0, .bool false, .slice none 0 0] 62)
  have hx16 := Ibx.new w14 false none 0 0 false none 0 0 false none 0 0 false none 0 0
  have L0 := hid XV.out.lt
  replace XV := vx XV hb15
  replace B := bb B hb15
  have X5 := hid hx16
  have hs17 : (w14.alloc (.cells #[.bool false, .slice none 0 0, .bool false, .slice none 0 0, .bool false, .slice none 0 0, .bool false, .slice none 0 0] 62)).heap.size = w14.heap.size + 1 := by simp
  clear hb15 hx16
  have hb18 := (Below.refl _ _).alloc (Nat.le_refl (w14.alloc (.cells #[.bool false, .slice none 0 0, .bool false, .slice none 0 0, .bool false, .slice none 0 0, .bool false, .slice none 0 0] 62)).heap.size) (.cells #[.bool false, .slice none 0 0, .bool false, .slice none 0 0, .bool false, .slice none 0 0, .bool false, .slice none 0 0] 62)
  have hx19 := Ibx.new (w14.alloc (.cells #[.bool false, .slice none 0 0, .bool false, .slice none 0 0, .bool false, .slice none 0 0, .bool false, .slice none 0 0] 62)) false none 0 0 false none 0 0 false none 0 0 false none 0 0
  rw [hs17] at hx19
  replace XV := vx XV hb18
  replace X5 := ix X5 hb18
  replace B := bb B hb18
  have X6 := hid hx19
  have hs20 : ((w14.alloc (.cells #[.bool false, .slice none 0 0, .bool false, .slice none 0 0, .bool false, .slice none 0 0, .bool false, .slice none 0 0] 62)).alloc (.cells #[.bool false, .slice none 0 0, .bool false, .slice none 0 0, .bool false, .slice none 0 0, .bool false, .slice none 0 0] 62)).heap.size = w14.heap.size + 1 + 1 := by simp [hs17]
  clear hb18 hx19
  obtain ⟨cc21a, cc21b⟩ := XV.out.both
  obtain ⟨cc22a, cc22b, cc22c, cc22d, cc22e, cc22f, cc22g, cc22h⟩ := X5.out.cells
  obtain ⟨cc23a, cc23b, cc23c, cc23d, cc23e, cc23f, cc23g, cc23h⟩ := X6.out.cells
  obtain ⟨cc24a, cc24b, cc24c, cc24d⟩ := XV.out.stores
  obtain ⟨r25a, r25b, r25c⟩ := XV.out.last B.out (by have := L0.out; omega) ⟨#[]⟩ ⟨#[]⟩
  replace X5 := hid ((X5.out.other (g2 := w.heap.size + 1 + 1) (by have := L0.out; omega) 0 (.string ⟨#[]⟩)).other (g2 := w.heap.size + 1 + 1) (by have := L0.out; omega) 1 (.string ⟨#[]⟩))
  replace X6 := hid ((X6.out.other (g2 := w.heap.size + 1 + 1) (by have := L0.out; omega) 0 (.string ⟨#[]⟩)).other (g2 := w.heap.size + 1 + 1) (by have := L0.out; omega) 1 (.string ⟨#[]⟩))
  replace XV := hid r25a
  replace B := hid r25b
  clear r25a r25b r25c
  obtain ⟨cc26a, cc26b⟩ := XV.out.both
  obtain ⟨cc27a, cc27b, cc27c, cc27d, cc27e, cc27f, cc27g, cc27h⟩ := X5.out.cells
  obtain ⟨cc28a, cc28b, cc28c, cc28d, cc28e, cc28f, cc28g, cc28h⟩ := X6.out.cells
  go_wp2_with fail
  refine bodyPost_ret (res_ival_tmp rfl rfl rfl XV.out) rfl ?_
  exact ⟨rfl, B.out⟩

set_option maxHeartbeats 4000000 in
theorem combine_add {a b c d : ByteArray} (h1 : GoodI a b) (h2 : GoodI c d) (w : World) :
    Calls Tryz.prog 38 #[.agg #[.string a, .string b], .agg #[.string c, .string d], .func (.func 39) #[] #[]] w fun e w' => e = .returned (.tuple #[.agg #[.string (qtxt (mn ((qnum a) + (qnum c)) ((qnum b) + (qnum d)))), .string (qtxt (mx ((qnum a) + (qnum c)) ((qnum b) + (qnum d))))], .nilIface]) ∧ Below w.heap.size w w' := by
  have hne := errv_neq
  have hgd := errv_guard
  have H1 := hid (fun w => iboth_3 h1 h2 w)
  have B := hid (Below.refl w.heap.size w)
  have hb1 := (Below.refl _ _).alloc (Nat.le_refl w.heap.size) (.cells #[.string a, .string b] 23)
  have hx2 := Vbx.new w a b
  replace B := bb B hb1
  have X1 := hid hx2
  have hs3 : (w.alloc (.cells #[.string a, .string b] 23)).heap.size = w.heap.size + 1 := by simp
  clear hb1 hx2
  have hb4 := (Below.refl _ _).alloc (Nat.le_refl (w.alloc (.cells #[.string a, .string b] 23)).heap.size) (.cells #[.string c, .string d] 23)
  have hx5 := Vbx.new (w.alloc (.cells #[.string a, .string b] 23)) c d
  rw [hs3] at hx5
  replace X1 := vx X1 hb4
  replace B := bb B hb4
  have X2 := hid hx5
  have hs6 : ((w.alloc (.cells #[.string a, .string b] 23)).alloc (.cells #[.string c, .string d] 23)).heap.size = w.heap.size + 1 + 1 := by simp [hs3]
  clear hb4 hx5
  have hb7 := (Below.refl _ _).alloc (Nat.le_refl ((w.alloc (.cells #[.string a, .string b] 23)).alloc (.cells #[.string c, .string d] 23)).heap.size) (.cells #[.string ⟨#[]⟩, .string ⟨#[]⟩] 23)
  have hx8 := Vbx.new ((w.alloc (.cells #[.string a, .string b] 23)).alloc (.cells #[.string c, .string d] 23)) ⟨#[]⟩ ⟨#[]⟩
  rw [hs6] at hx8
  replace X1 := vx X1 hb7
  replace X2 := vx X2 hb7
  replace B := bb B hb7
  have XV := hid hx8
  have hs9 : (((w.alloc (.cells #[.string a, .string b] 23)).alloc (.cells #[.string c, .string d] 23)).alloc (.cells #[.string ⟨#[]⟩, .string ⟨#[]⟩] 23)).heap.size = w.heap.size + 1 + 1 + 1 := by simp [hs6]
  clear hb7 hx8
  clear hs9 h1 h2
  go_enter Tryz.func38, Tryz.ntmps38
  obtain ⟨cc10a, cc10b⟩ := X1.out.both
  obtain ⟨cc11a, cc11b⟩ := X2.out.both
  obtain ⟨cc12a, cc12b⟩ := XV.out.both
  go_wp2_with fail
  generalize hW : ((w.alloc (.cells #[.string a, .string b] 23)).alloc (.cells #[.string c, .string d] 23)).alloc (.cells #[.string ⟨#[]⟩, .string ⟨#[]⟩] 23) = W13 at *
  clear hW
  refine (H1.out _).mono ?_
  rintro e w14 ⟨v, u, rfl, hv, hu, hb⟩
  obtain ⟨s5a, p5a, n5a, c5a, s5b, p5b, n5b, c5b, s5c, p5c, n5c, c5c, s5d, p5d, n5d, c5d, rfl⟩ := hv.opened
  obtain ⟨hl5, hh5⟩ := hv.two
  obtain ⟨ht5l, d5l, hu5l, hd5l⟩ := hl5.two
  have HD5l := hid hd5l
  obtain ⟨ht5h, d5h, hu5h, hd5h⟩ := hh5.two
  have HD5h := hid hd5h
  obtain ⟨s6a, p6a, n6a, c6a, s6b, p6b, n6b, c6b, s6c, p6c, n6c, c6c, s6d, p6d, n6d, c6d, rfl⟩ := hu.opened
  obtain ⟨hl6, hh6⟩ := hu.two
  obtain ⟨ht6l, d6l, hu6l, hd6l⟩ := hl6.two
  have HD6l := hid hd6l
  obtain ⟨ht6h, d6h, hu6h, hd6h⟩ := hh6.two
  have HD6h := hid hd6h
  replace XV := vx XV hb
  replace B := bb B hb
  clear cc10a cc10b cc11a cc11b cc12a cc12b
  have HT5l := hid ht5l
  have HU5l := hid hu5l
  have HT5h := hid ht5h
  have HU5h := hid hu5h
  have HT6l := hid ht6l
  have HU6l := hid hu6l
  have HT6h := hid ht6h
  have HU6h := hid hu6h
  clear hb hv hl5 hh5 ht5l hu5l hd5l ht5h hu5h hd5h hu hl6 hh6 ht6l hu6l hd6l ht6h hu6h hd6h H1
  have hb15 := (Below.refl _ _).alloc (Nat.le_refl w14.heap.size) (.cells #[.bool s5a, .slice p5a n5a c5a, .bool s5b, .slice p5b n5b c5b, .bool s5c, .slice p5c n5c c5c, .bool s5d, .slice p5d n5d c5d] 62)
  have hx16 := Ibx.new w14 s5a p5a n5a c5a s5b p5b n5b c5b s5c p5c n5c c5c s5d p5d n5d c5d
  have L0 := hid XV.out.lt
  replace XV := vx XV hb15
  replace HT5l := wl HT5l hb15
  replace HU5l := wl HU5l hb15
  replace HT5h := wl HT5h hb15
  replace HU5h := wl HU5h hb15
  replace HT6l := wl HT6l hb15
  replace HU6l := wl HU6l hb15
  replace HT6h := wl HT6h hb15
  replace HU6h := wl HU6h hb15
  replace B := bb B hb15
  have X5 := hid hx16
  have hs17 : (w14.alloc (.cells #[.bool s5a, .slice p5a n5a c5a, .bool s5b, .slice p5b n5b c5b, .bool s5c, .slice p5c n5c c5c, .bool s5d, .slice p5d n5d c5d] 62)).heap.size = w14.heap.size + 1 := by simp
  clear hb15 hx16
  have hb18 := (Below.refl _ _).alloc (Nat.le_refl (w14.alloc (.cells #[.bool s5a, .slice p5a n5a c5a, .bool s5b, .slice p5b n5b c5b, .bool s5c, .slice p5c n5c c5c, .bool s5d, .slice p5d n5d c5d] 62)).heap.size) (.cells #[.bool s6a, .slice p6a n6a c6a, .bool s6b, .slice p6b n6b c6b, .bool s6c, .slice p6c n6c c6c, .bool s6d, .slice p6d n6d c6d] 62)
  have hx19 := Ibx.new (w14.alloc (.cells #[.bool s5a, .slice p5a n5a c5a, .bool s5b, .slice p5b n5b c5b, .bool s5c, .slice p5c n5c c5c, .bool s5d, .slice p5d n5d c5d] 62)) s6a p6a n6a c6a s6b p6b n6b c6b s6c p6c n6c c6c s6d p6d n6d c6d
  rw [hs17] at hx19
  replace XV := vx XV hb18
  replace X5 := ix X5 hb18
  replace HT5l := wl HT5l hb18
  replace HU5l := wl HU5l hb18
  replace HT5h := wl HT5h hb18
  replace HU5h := wl HU5h hb18
  replace HT6l := wl HT6l hb18
  replace HU6l := wl HU6l hb18
  replace HT6h := wl HT6h hb18
  replace HU6h := wl HU6h hb18
  replace B := bb B hb18
  have X6 := hid hx19
  have hs20 : ((w14.alloc (.cells #[.bool s5a, .slice p5a n5a c5a, .bool s5b, .slice p5b n5b c5b, .bool s5c, .slice p5c n5c c5c, .bool s5d, .slice p5d n5d c5d] 62)).alloc (.cells #[.bool s6a, .slice p6a n6a c6a, .bool s6b, .slice p6b n6b c6b, .bool s6c, .slice p6c n6c c6c, .bool s6d, .slice p6d n6d c6d] 62)).heap.size = w14.heap.size + 1 + 1 := by simp [hs17]
  clear hb18 hx19
  obtain ⟨cc21a, cc21b⟩ := XV.out.both
  obtain ⟨cc22a, cc22b, cc22c, cc22d, cc22e, cc22f, cc22g, cc22h⟩ := X5.out.cells
  obtain ⟨cc23a, cc23b, cc23c, cc23d, cc23e, cc23f, cc23g, cc23h⟩ := X6.out.cells
  go_wp2_with fail
  generalize hW : (w14.alloc (.cells #[.bool s5a, .slice p5a n5a c5a, .bool s5b, .slice p5b n5b c5b, .bool s5c, .slice p5c n5c c5c, .bool s5d, .slice p5d n5d c5d] 62)).alloc (.cells #[.bool s6a, .slice p6a n6a c6a, .bool s6b, .slice p6b n6b c6b, .bool s6c, .slice p6c n6c c6c, .bool s6d, .slice p6d n6d c6d] 62) = W24 at *
  clear hW
  refine (add_ivl (Ivl.mk2 (Rtl.mk2 HT5l.out HU5l.out HD5l.out) (Rtl.mk2 HT5h.out HU5h.out HD5h.out)) (Ivl.mk2 (Rtl.mk2 HT6l.out HU6l.out HD6l.out) (Rtl.mk2 HT6h.out HU6h.out HD6h.out)) (by decide) (by decide)).mono ?_
  rintro e w25 ⟨v, rfl, hv, hb⟩
  obtain ⟨s7a, p7a, n7a, c7a, s7b, p7b, n7b, c7b, s7c, p7c, n7c, c7c, s7d, p7d, n7d, c7d, rfl⟩ := hv.opened
  obtain ⟨hl7, hh7⟩ := hv.two
  obtain ⟨ht7l, d7l, hu7l, hd7l⟩ := hl7.two
  have HD7l := hid hd7l
  obtain ⟨ht7h, d7h, hu7h, hd7h⟩ := hh7.two
  have HD7h := hid hd7h
  replace XV := vx XV hb
  replace X5 := ix X5 hb
  replace X6 := ix X6 hb
  replace HT5l := wl HT5l hb
  replace HU5l := wl HU5l hb
  replace HT5h := wl HT5h hb
  replace HU5h := wl HU5h hb
  replace HT6l := wl HT6l hb
  replace HU6l := wl HU6l hb
  replace HT6h := wl HT6h hb
  replace HU6h := wl HU6h hb
  replace B := bb B hb
  clear cc21a cc21b cc22a cc22b cc22c cc22d cc22e cc22f cc22g cc22h cc23a cc23b cc23c cc23d cc23e cc23f cc23g cc23h
  have HT7l := hid ht7l
  have HU7l := hid hu7l
  have HT7h := hid ht7h
  have HU7h := hid hu7h
  clear hb hv hl7 hh7 ht7l hu7l hd7l ht7h hu7h hd7h
  obtain ⟨cc26a, cc26b⟩ := XV.out.both
  go_wp2_with fail
  refine (texts_ivl (Ivl.mk2 (Rtl.mk2 HT7l.out HU7l.out HD7l.out) (Rtl.mk2 HT7h.out HU7h.out HD7h.out)) (by decide)).mono ?_
  rintro e w27 ⟨rfl, hb⟩
  replace XV := vx XV hb
  replace HT5l := wl HT5l hb
  replace HU5l := wl HU5l hb
  replace HT5h := wl HT5h hb
  replace HU5h := wl HU5h hb
  replace HT6l := wl HT6l hb
  replace HU6l := wl HU6l hb
  replace HT6h := wl HT6h hb
  replace HU6h := wl HU6h hb
  replace HT7l := wl HT7l hb
  replace HU7l := wl HU7l hb
  replace HT7h := wl HT7h hb
  replace HU7h := wl HU7h hb
  replace B := bb B hb
  clear cc26a cc26b
  clear hb 
  obtain ⟨cc28a, cc28b⟩ := XV.out.both
  obtain ⟨cc29a, cc29b, cc29c, cc29d⟩ := XV.out.stores
  obtain ⟨r30a, r30b, r30c⟩ := XV.out.last B.out (by have := L0.out; omega) (qtxt (mn ((qnum a) + (qnum c)) ((qnum b) + (qnum d)))) (qtxt (mx ((qnum a) + (qnum c)) ((qnum b) + (qnum d))))
  replace HT5l := hid (r30c HT5l.out)
  replace HU5l := hid (r30c HU5l.out)
  replace HT5h := hid (r30c HT5h.out)
  replace HU5h := hid (r30c HU5h.out)
  replace HT6l := hid (r30c HT6l.out)
  replace HU6l := hid (r30c HU6l.out)
  replace HT6h := hid (r30c HT6h.out)
  replace HU6h := hid (r30c HU6h.out)
  replace HT7l := hid (r30c HT7l.out)
  replace HU7l := hid (r30c HU7l.out)
  replace HT7h := hid (r30c HT7h.out)
  replace HU7h := hid (r30c HU7h.out)
  replace XV := hid r30a
  replace B := hid r30b
  clear r30a r30b r30c
  obtain ⟨cc31a, cc31b⟩ := XV.out.both
  go_wp2_with fail
  refine bodyPost_ret (res_ival_tmp rfl rfl rfl XV.out) rfl ?_
  exact ⟨rfl, B.out⟩

set_option maxHeartbeats 4000000 in
theorem combine_mul {a b c d : ByteArray} (h1 : GoodI a b) (h2 : GoodI c d) (w : World) :
    Calls Tryz.prog 38 #[.agg #[.string a, .string b], .agg #[.string c, .string d], .func (.func 40) #[] #[]] w fun e w' => e = .returned (.tuple #[.agg #[.string (qtxt (lo4 ((qnum a) * (qnum c)) ((qnum a) * (qnum d)) ((qnum b) * (qnum c)) ((qnum b) * (qnum d)))), .string (qtxt (hi4 ((qnum a) * (qnum c)) ((qnum a) * (qnum d)) ((qnum b) * (qnum c)) ((qnum b) * (qnum d))))], .nilIface]) ∧ Below w.heap.size w w' := by
  have hne := errv_neq
  have hgd := errv_guard
  have H1 := hid (fun w => iboth_3 h1 h2 w)
  have B := hid (Below.refl w.heap.size w)
  have hb1 := (Below.refl _ _).alloc (Nat.le_refl w.heap.size) (.cells #[.string a, .string b] 23)
  have hx2 := Vbx.new w a b
  replace B := bb B hb1
  have X1 := hid hx2
  have hs3 : (w.alloc (.cells #[.string a, .string b] 23)).heap.size = w.heap.size + 1 := by simp
  clear hb1 hx2
  have hb4 := (Below.refl _ _).alloc (Nat.le_refl (w.alloc (.cells #[.string a, .string b] 23)).heap.size) (.cells #[.string c, .string d] 23)
  have hx5 := Vbx.new (w.alloc (.cells #[.string a, .string b] 23)) c d
  rw [hs3] at hx5
  replace X1 := vx X1 hb4
  replace B := bb B hb4
  have X2 := hid hx5
  have hs6 : ((w.alloc (.cells #[.string a, .string b] 23)).alloc (.cells #[.string c, .string d] 23)).heap.size = w.heap.size + 1 + 1 := by simp [hs3]
  clear hb4 hx5
  have hb7 := (Below.refl _ _).alloc (Nat.le_refl ((w.alloc (.cells #[.string a, .string b] 23)).alloc (.cells #[.string c, .string d] 23)).heap.size) (.cells #[.string ⟨#[]⟩, .string ⟨#[]⟩] 23)
  have hx8 := Vbx.new ((w.alloc (.cells #[.string a, .string b] 23)).alloc (.cells #[.string c, .string d] 23)) ⟨#[]⟩ ⟨#[]⟩
  rw [hs6] at hx8
  replace X1 := vx X1 hb7
  replace X2 := vx X2 hb7
  replace B := bb B hb7
  have XV := hid hx8
  have hs9 : (((w.alloc (.cells #[.string a, .string b] 23)).alloc (.cells #[.string c, .string d] 23)).alloc (.cells #[.string ⟨#[]⟩, .string ⟨#[]⟩] 23)).heap.size = w.heap.size + 1 + 1 + 1 := by simp [hs6]
  clear hb7 hx8
  clear hs9 h1 h2
  go_enter Tryz.func38, Tryz.ntmps38
  obtain ⟨cc10a, cc10b⟩ := X1.out.both
  obtain ⟨cc11a, cc11b⟩ := X2.out.both
  obtain ⟨cc12a, cc12b⟩ := XV.out.both
  go_wp2_with fail
  generalize hW : ((w.alloc (.cells #[.string a, .string b] 23)).alloc (.cells #[.string c, .string d] 23)).alloc (.cells #[.string ⟨#[]⟩, .string ⟨#[]⟩] 23) = W13 at *
  clear hW
  refine (H1.out _).mono ?_
  rintro e w14 ⟨v, u, rfl, hv, hu, hb⟩
  obtain ⟨s5a, p5a, n5a, c5a, s5b, p5b, n5b, c5b, s5c, p5c, n5c, c5c, s5d, p5d, n5d, c5d, rfl⟩ := hv.opened
  obtain ⟨hl5, hh5⟩ := hv.two
  obtain ⟨ht5l, d5l, hu5l, hd5l⟩ := hl5.two
  have HD5l := hid hd5l
  obtain ⟨ht5h, d5h, hu5h, hd5h⟩ := hh5.two
  have HD5h := hid hd5h
  obtain ⟨s6a, p6a, n6a, c6a, s6b, p6b, n6b, c6b, s6c, p6c, n6c, c6c, s6d, p6d, n6d, c6d, rfl⟩ := hu.opened
  obtain ⟨hl6, hh6⟩ := hu.two
  obtain ⟨ht6l, d6l, hu6l, hd6l⟩ := hl6.two
  have HD6l := hid hd6l
  obtain ⟨ht6h, d6h, hu6h, hd6h⟩ := hh6.two
  have HD6h := hid hd6h
  replace XV := vx XV hb
  replace B := bb B hb
  clear cc10a cc10b cc11a cc11b cc12a cc12b
  have HT5l := hid ht5l
  have HU5l := hid hu5l
  have HT5h := hid ht5h
  have HU5h := hid hu5h
  have HT6l := hid ht6l
  have HU6l := hid hu6l
  have HT6h := hid ht6h
  have HU6h := hid hu6h
  clear hb hv hl5 hh5 ht5l hu5l hd5l ht5h hu5h hd5h hu hl6 hh6 ht6l hu6l hd6l ht6h hu6h hd6h H1
  have hb15 := (Below.refl _ _).alloc (Nat.le_refl w14.heap.size) (.cells #[.bool s5a, .slice p5a n5a c5a, .bool s5b, .slice p5b n5b c5b, .bool s5c, .slice p5c n5c c5c, .bool s5d, .slice p5d n5d c5d] 62)
  have hx16 := Ibx.new w14 s5a p5a n5a c5a s5b p5b n5b c5b s5c p5c n5c c5c s5d p5d n5d c5d
  have L0 := hid XV.out.lt
  replace XV := vx XV hb15
  replace HT5l := wl HT5l hb15
  replace HU5l := wl HU5l hb15
  replace HT5h := wl HT5h hb15
  replace HU5h := wl HU5h hb15
  replace HT6l := wl HT6l hb15
  replace HU6l := wl HU6l hb15
  replace HT6h := wl HT6h hb15
  replace HU6h := wl HU6h hb15
  replace B := bb B hb15
  have X5 := hid hx16
  have hs17 : (w14.alloc (.cells #[.bool s5a, .slice p5a n5a c5a, .bool s5b, .slice p5b n5b c5b, .bool s5c, .slice p5c n5c c5c, .bool s5d, .slice p5d n5d c5d] 62)).heap.size = w14.heap.size + 1 := by simp
  clear hb15 hx16
  have hb18 := (Below.refl _ _).alloc (Nat.le_refl (w14.alloc (.cells #[.bool s5a, .slice p5a n5a c5a, .bool s5b, .slice p5b n5b c5b, .bool s5c, .slice p5c n5c c5c, .bool s5d, .slice p5d n5d c5d] 62)).heap.size) (.cells #[.bool s6a, .slice p6a n6a c6a, .bool s6b, .slice p6b n6b c6b, .bool s6c, .slice p6c n6c c6c, .bool s6d, .slice p6d n6d c6d] 62)
  have hx19 := Ibx.new (w14.alloc (.cells #[.bool s5a, .slice p5a n5a c5a, .bool s5b, .slice p5b n5b c5b, .bool s5c, .slice p5c n5c c5c, .bool s5d, .slice p5d n5d c5d] 62)) s6a p6a n6a c6a s6b p6b n6b c6b s6c p6c n6c c6c s6d p6d n6d c6d
  rw [hs17] at hx19
  replace XV := vx XV hb18
  replace X5 := ix X5 hb18
  replace HT5l := wl HT5l hb18
  replace HU5l := wl HU5l hb18
  replace HT5h := wl HT5h hb18
  replace HU5h := wl HU5h hb18
  replace HT6l := wl HT6l hb18
  replace HU6l := wl HU6l hb18
  replace HT6h := wl HT6h hb18
  replace HU6h := wl HU6h hb18
  replace B := bb B hb18
  have X6 := hid hx19
  have hs20 : ((w14.alloc (.cells #[.bool s5a, .slice p5a n5a c5a, .bool s5b, .slice p5b n5b c5b, .bool s5c, .slice p5c n5c c5c, .bool s5d, .slice p5d n5d c5d] 62)).alloc (.cells #[.bool s6a, .slice p6a n6a c6a, .bool s6b, .slice p6b n6b c6b, .bool s6c, .slice p6c n6c c6c, .bool s6d, .slice p6d n6d c6d] 62)).heap.size = w14.heap.size + 1 + 1 := by simp [hs17]
  clear hb18 hx19
  obtain ⟨cc21a, cc21b⟩ := XV.out.both
  obtain ⟨cc22a, cc22b, cc22c, cc22d, cc22e, cc22f, cc22g, cc22h⟩ := X5.out.cells
  obtain ⟨cc23a, cc23b, cc23c, cc23d, cc23e, cc23f, cc23g, cc23h⟩ := X6.out.cells
  go_wp2_with fail
  generalize hW : (w14.alloc (.cells #[.bool s5a, .slice p5a n5a c5a, .bool s5b, .slice p5b n5b c5b, .bool s5c, .slice p5c n5c c5c, .bool s5d, .slice p5d n5d c5d] 62)).alloc (.cells #[.bool s6a, .slice p6a n6a c6a, .bool s6b, .slice p6b n6b c6b, .bool s6c, .slice p6c n6c c6c, .bool s6d, .slice p6d n6d c6d] 62) = W24 at *
  clear hW
  refine (mul_ivl (Ivl.mk2 (Rtl.mk2 HT5l.out HU5l.out HD5l.out) (Rtl.mk2 HT5h.out HU5h.out HD5h.out)) (Ivl.mk2 (Rtl.mk2 HT6l.out HU6l.out HD6l.out) (Rtl.mk2 HT6h.out HU6h.out HD6h.out)) (by decide) (by decide)).mono ?_
  rintro e w25 ⟨v, rfl, hv, hb⟩
  obtain ⟨s7a, p7a, n7a, c7a, s7b, p7b, n7b, c7b, s7c, p7c, n7c, c7c, s7d, p7d, n7d, c7d, rfl⟩ := hv.opened
  obtain ⟨hl7, hh7⟩ := hv.two
  obtain ⟨ht7l, d7l, hu7l, hd7l⟩ := hl7.two
  have HD7l := hid hd7l
  obtain ⟨ht7h, d7h, hu7h, hd7h⟩ := hh7.two
  have HD7h := hid hd7h
  replace XV := vx XV hb
  replace X5 := ix X5 hb
  replace X6 := ix X6 hb
  replace HT5l := wl HT5l hb
  replace HU5l := wl HU5l hb
  replace HT5h := wl HT5h hb
  replace HU5h := wl HU5h hb
  replace HT6l := wl HT6l hb
  replace HU6l := wl HU6l hb
  replace HT6h := wl HT6h hb
  replace HU6h := wl HU6h hb
  replace B := bb B hb
  clear cc21a cc21b cc22a cc22b cc22c cc22d cc22e cc22f cc22g cc22h cc23a cc23b cc23c cc23d cc23e cc23f cc23g cc23h
  have HT7l := hid ht7l
  have HU7l := hid hu7l
  have HT7h := hid ht7h
  have HU7h := hid hu7h
  clear hb hv hl7 hh7 ht7l hu7l hd7l ht7h hu7h hd7h
  obtain ⟨cc26a, cc26b⟩ := XV.out.both
  go_wp2_with fail
  refine (texts_ivl (Ivl.mk2 (Rtl.mk2 HT7l.out HU7l.out HD7l.out) (Rtl.mk2 HT7h.out HU7h.out HD7h.out)) (by decide)).mono ?_
  rintro e w27 ⟨rfl, hb⟩
  replace XV := vx XV hb
  replace HT5l := wl HT5l hb
  replace HU5l := wl HU5l hb
  replace HT5h := wl HT5h hb
  replace HU5h := wl HU5h hb
  replace HT6l := wl HT6l hb
  replace HU6l := wl HU6l hb
  replace HT6h := wl HT6h hb
  replace HU6h := wl HU6h hb
  replace HT7l := wl HT7l hb
  replace HU7l := wl HU7l hb
  replace HT7h := wl HT7h hb
  replace HU7h := wl HU7h hb
  replace B := bb B hb
  clear cc26a cc26b
  clear hb 
  obtain ⟨cc28a, cc28b⟩ := XV.out.both
  obtain ⟨cc29a, cc29b, cc29c, cc29d⟩ := XV.out.stores
  obtain ⟨r30a, r30b, r30c⟩ := XV.out.last B.out (by have := L0.out; omega) (qtxt (lo4 ((qnum a) * (qnum c)) ((qnum a) * (qnum d)) ((qnum b) * (qnum c)) ((qnum b) * (qnum d)))) (qtxt (hi4 ((qnum a) * (qnum c)) ((qnum a) * (qnum d)) ((qnum b) * (qnum c)) ((qnum b) * (qnum d))))
  replace HT5l := hid (r30c HT5l.out)
  replace HU5l := hid (r30c HU5l.out)
  replace HT5h := hid (r30c HT5h.out)
  replace HU5h := hid (r30c HU5h.out)
  replace HT6l := hid (r30c HT6l.out)
  replace HU6l := hid (r30c HU6l.out)
  replace HT6h := hid (r30c HT6h.out)
  replace HU6h := hid (r30c HU6h.out)
  replace HT7l := hid (r30c HT7l.out)
  replace HU7l := hid (r30c HU7l.out)
  replace HT7h := hid (r30c HT7h.out)
  replace HU7h := hid (r30c HU7h.out)
  replace XV := hid r30a
  replace B := hid r30b
  clear r30a r30b r30c
  obtain ⟨cc31a, cc31b⟩ := XV.out.both
  go_wp2_with fail
  refine bodyPost_ret (res_ival_tmp rfl rfl rfl XV.out) rfl ?_
  exact ⟨rfl, B.out⟩

set_option maxHeartbeats 4000000 in
theorem combine_hull {a b c d : ByteArray} (h1 : GoodI a b) (h2 : GoodI c d) (w : World) :
    Calls Tryz.prog 38 #[.agg #[.string a, .string b], .agg #[.string c, .string d], .func (.func 41) #[] #[]] w fun e w' => e = .returned (.tuple #[.agg #[.string (qtxt (lo4 (qnum a) (qnum b) (qnum c) (qnum d))), .string (qtxt (hi4 (qnum a) (qnum b) (qnum c) (qnum d)))], .nilIface]) ∧ Below w.heap.size w w' := by
  have hne := errv_neq
  have hgd := errv_guard
  have H1 := hid (fun w => iboth_3 h1 h2 w)
  have B := hid (Below.refl w.heap.size w)
  have hb1 := (Below.refl _ _).alloc (Nat.le_refl w.heap.size) (.cells #[.string a, .string b] 23)
  have hx2 := Vbx.new w a b
  replace B := bb B hb1
  have X1 := hid hx2
  have hs3 : (w.alloc (.cells #[.string a, .string b] 23)).heap.size = w.heap.size + 1 := by simp
  clear hb1 hx2
  have hb4 := (Below.refl _ _).alloc (Nat.le_refl (w.alloc (.cells #[.string a, .string b] 23)).heap.size) (.cells #[.string c, .string d] 23)
  have hx5 := Vbx.new (w.alloc (.cells #[.string a, .string b] 23)) c d
  rw [hs3] at hx5
  replace X1 := vx X1 hb4
  replace B := bb B hb4
  have X2 := hid hx5
  have hs6 : ((w.alloc (.cells #[.string a, .string b] 23)).alloc (.cells #[.string c, .string d] 23)).heap.size = w.heap.size + 1 + 1 := by simp [hs3]
  clear hb4 hx5
  have hb7 := (Below.refl _ _).alloc (Nat.le_refl ((w.alloc (.cells #[.string a, .string b] 23)).alloc (.cells #[.string c, .string d] 23)).heap.size) (.cells #[.string ⟨#[]⟩, .string ⟨#[]⟩] 23)
  have hx8 := Vbx.new ((w.alloc (.cells #[.string a, .string b] 23)).alloc (.cells #[.string c, .string d] 23)) ⟨#[]⟩ ⟨#[]⟩
  rw [hs6] at hx8
  replace X1 := vx X1 hb7
  replace X2 := vx X2 hb7
  replace B := bb B hb7
  have XV := hid hx8
  have hs9 : (((w.alloc (.cells #[.string a, .string b] 23)).alloc (.cells #[.string c, .string d] 23)).alloc (.cells #[.string ⟨#[]⟩, .string ⟨#[]⟩] 23)).heap.size = w.heap.size + 1 + 1 + 1 := by simp [hs6]
  clear hb7 hx8
  clear hs9 h1 h2
  go_enter Tryz.func38, Tryz.ntmps38
  obtain ⟨cc10a, cc10b⟩ := X1.out.both
  obtain ⟨cc11a, cc11b⟩ := X2.out.both
  obtain ⟨cc12a, cc12b⟩ := XV.out.both
  go_wp2_with fail
  generalize hW : ((w.alloc (.cells #[.string a, .string b] 23)).alloc (.cells #[.string c, .string d] 23)).alloc (.cells #[.string ⟨#[]⟩, .string ⟨#[]⟩] 23) = W13 at *
  clear hW
  refine (H1.out _).mono ?_
  rintro e w14 ⟨v, u, rfl, hv, hu, hb⟩
  obtain ⟨s5a, p5a, n5a, c5a, s5b, p5b, n5b, c5b, s5c, p5c, n5c, c5c, s5d, p5d, n5d, c5d, rfl⟩ := hv.opened
  obtain ⟨hl5, hh5⟩ := hv.two
  obtain ⟨ht5l, d5l, hu5l, hd5l⟩ := hl5.two
  have HD5l := hid hd5l
  obtain ⟨ht5h, d5h, hu5h, hd5h⟩ := hh5.two
  have HD5h := hid hd5h
  obtain ⟨s6a, p6a, n6a, c6a, s6b, p6b, n6b, c6b, s6c, p6c, n6c, c6c, s6d, p6d, n6d, c6d, rfl⟩ := hu.opened
  obtain ⟨hl6, hh6⟩ := hu.two
  obtain ⟨ht6l, d6l, hu6l, hd6l⟩ := hl6.two
  have HD6l := hid hd6l
  obtain ⟨ht6h, d6h, hu6h, hd6h⟩ := hh6.two
  have HD6h := hid hd6h
  replace XV := vx XV hb
  replace B := bb B hb
  clear cc10a cc10b cc11a cc11b cc12a cc12b
  have HT5l := hid ht5l
  have HU5l := hid hu5l
  have HT5h := hid ht5h
  have HU5h := hid hu5h
  have HT6l := hid ht6l
  have HU6l := hid hu6l
  have HT6h := hid ht6h
  have HU6h := hid hu6h
  clear hb hv hl5 hh5 ht5l hu5l hd5l ht5h hu5h hd5h hu hl6 hh6 ht6l hu6l hd6l ht6h hu6h hd6h H1
  have hb15 := (Below.refl _ _).alloc (Nat.le_refl w14.heap.size) (.cells #[.bool s5a, .slice p5a n5a c5a, .bool s5b, .slice p5b n5b c5b, .bool s5c, .slice p5c n5c c5c, .bool s5d, .slice p5d n5d c5d] 62)
  have hx16 := Ibx.new w14 s5a p5a n5a c5a s5b p5b n5b c5b s5c p5c n5c c5c s5d p5d n5d c5d
  have L0 := hid XV.out.lt
  replace XV := vx XV hb15
  replace HT5l := wl HT5l hb15
  replace HU5l := wl HU5l hb15
  replace HT5h := wl HT5h hb15
  replace HU5h := wl HU5h hb15
  replace HT6l := wl HT6l hb15
  replace HU6l := wl HU6l hb15
  replace HT6h := wl HT6h hb15
  replace HU6h := wl HU6h hb15
  replace B := bb B hb15
  have X5 := hid hx16
  have hs17 : (w14.alloc (.cells #[.bool s5a, .slice p5a n5a c5a, .bool s5b, .slice p5b n5b c5b, .bool s5c, .slice p5c n5c c5c, .bool s5d, .slice p5d n5d c5d] 62)).heap.size = w14.heap.size + 1 := by simp
  clear hb15 hx16
  have hb18 := (Below.refl _ _).alloc (Nat.le_refl (w14.alloc (.cells #[.bool s5a, .slice p5a n5a c5a, .bool s5b, .slice p5b n5b c5b, .bool s5c, .slice p5c n5c c5c, .bool s5d, .slice p5d n5d c5d] 62)).heap.size) (.cells #[.bool s6a, .slice p6a n6a c6a, .bool s6b, .slice p6b n6b c6b, .bool s6c, .slice p6c n6c c6c, .bool s6d, .slice p6d n6d c6d] 62)
  have hx19 := Ibx.new (w14.alloc (.cells #[.bool s5a, .slice p5a n5a c5a, .bool s5b, .slice p5b n5b c5b, .bool s5c, .slice p5c n5c c5c, .bool s5d, .slice p5d n5d c5d] 62)) s6a p6a n6a c6a s6b p6b n6b c6b s6c p6c n6c c6c s6d p6d n6d c6d
  rw [hs17] at hx19
  replace XV := vx XV hb18
  replace X5 := ix X5 hb18
  replace HT5l := wl HT5l hb18
  replace HU5l := wl HU5l hb18
  replace HT5h := wl HT5h hb18
  replace HU5h := wl HU5h hb18
  replace HT6l := wl HT6l hb18
  replace HU6l := wl HU6l hb18
  replace HT6h := wl HT6h hb18
  replace HU6h := wl HU6h hb18
  replace B := bb B hb18
  have X6 := hid hx19
  have hs20 : ((w14.alloc (.cells #[.bool s5a, .slice p5a n5a c5a, .bool s5b, .slice p5b n5b c5b, .bool s5c, .slice p5c n5c c5c, .bool s5d, .slice p5d n5d c5d] 62)).alloc (.cells #[.bool s6a, .slice p6a n6a c6a, .bool s6b, .slice p6b n6b c6b, .bool s6c, .slice p6c n6c c6c, .bool s6d, .slice p6d n6d c6d] 62)).heap.size = w14.heap.size + 1 + 1 := by simp [hs17]
  clear hb18 hx19
  obtain ⟨cc21a, cc21b⟩ := XV.out.both
  obtain ⟨cc22a, cc22b, cc22c, cc22d, cc22e, cc22f, cc22g, cc22h⟩ := X5.out.cells
  obtain ⟨cc23a, cc23b, cc23c, cc23d, cc23e, cc23f, cc23g, cc23h⟩ := X6.out.cells
  go_wp2_with fail
  generalize hW : (w14.alloc (.cells #[.bool s5a, .slice p5a n5a c5a, .bool s5b, .slice p5b n5b c5b, .bool s5c, .slice p5c n5c c5c, .bool s5d, .slice p5d n5d c5d] 62)).alloc (.cells #[.bool s6a, .slice p6a n6a c6a, .bool s6b, .slice p6b n6b c6b, .bool s6c, .slice p6c n6c c6c, .bool s6d, .slice p6d n6d c6d] 62) = W24 at *
  clear hW
  refine (hull_ivl (Ivl.mk2 (Rtl.mk2 HT5l.out HU5l.out HD5l.out) (Rtl.mk2 HT5h.out HU5h.out HD5h.out)) (Ivl.mk2 (Rtl.mk2 HT6l.out HU6l.out HD6l.out) (Rtl.mk2 HT6h.out HU6h.out HD6h.out)) (by decide) (by decide)).mono ?_
  rintro e w25 ⟨v, rfl, hv, hb⟩
  obtain ⟨s7a, p7a, n7a, c7a, s7b, p7b, n7b, c7b, s7c, p7c, n7c, c7c, s7d, p7d, n7d, c7d, rfl⟩ := hv.opened
  obtain ⟨hl7, hh7⟩ := hv.two
  obtain ⟨ht7l, d7l, hu7l, hd7l⟩ := hl7.two
  have HD7l := hid hd7l
  obtain ⟨ht7h, d7h, hu7h, hd7h⟩ := hh7.two
  have HD7h := hid hd7h
  replace XV := vx XV hb
  replace X5 := ix X5 hb
  replace X6 := ix X6 hb
  replace HT5l := wl HT5l hb
  replace HU5l := wl HU5l hb
  replace HT5h := wl HT5h hb
  replace HU5h := wl HU5h hb
  replace HT6l := wl HT6l hb
  replace HU6l := wl HU6l hb
  replace HT6h := wl HT6h hb
  replace HU6h := wl HU6h hb
  replace B := bb B hb
  clear cc21a cc21b cc22a cc22b cc22c cc22d cc22e cc22f cc22g cc22h cc23a cc23b cc23c cc23d cc23e cc23f cc23g cc23h
  have HT7l := hid ht7l
  have HU7l := hid hu7l
  have HT7h := hid ht7h
  have HU7h := hid hu7h
  clear hb hv hl7 hh7 ht7l hu7l hd7l ht7h hu7h hd7h
  obtain ⟨cc26a, cc26b⟩ := XV.out.both
  go_wp2_with fail
  refine (texts_ivl (Ivl.mk2 (Rtl.mk2 HT7l.out HU7l.out HD7l.out) (Rtl.mk2 HT7h.out HU7h.out HD7h.out)) (by decide)).mono ?_
  rintro e w27 ⟨rfl, hb⟩
  replace XV := vx XV hb
  replace HT5l := wl HT5l hb
  replace HU5l := wl HU5l hb
  replace HT5h := wl HT5h hb
  replace HU5h := wl HU5h hb
  replace HT6l := wl HT6l hb
  replace HU6l := wl HU6l hb
  replace HT6h := wl HT6h hb
  replace HU6h := wl HU6h hb
  replace HT7l := wl HT7l hb
  replace HU7l := wl HU7l hb
  replace HT7h := wl HT7h hb
  replace HU7h := wl HU7h hb
  replace B := bb B hb
  clear cc26a cc26b
  clear hb 
  obtain ⟨cc28a, cc28b⟩ := XV.out.both
  obtain ⟨cc29a, cc29b, cc29c, cc29d⟩ := XV.out.stores
  obtain ⟨r30a, r30b, r30c⟩ := XV.out.last B.out (by have := L0.out; omega) (qtxt (lo4 (qnum a) (qnum b) (qnum c) (qnum d))) (qtxt (hi4 (qnum a) (qnum b) (qnum c) (qnum d)))
  replace HT5l := hid (r30c HT5l.out)
  replace HU5l := hid (r30c HU5l.out)
  replace HT5h := hid (r30c HT5h.out)
  replace HU5h := hid (r30c HU5h.out)
  replace HT6l := hid (r30c HT6l.out)
  replace HU6l := hid (r30c HU6l.out)
  replace HT6h := hid (r30c HT6h.out)
  replace HU6h := hid (r30c HU6h.out)
  replace HT7l := hid (r30c HT7l.out)
  replace HU7l := hid (r30c HU7l.out)
  replace HT7h := hid (r30c HT7h.out)
  replace HU7h := hid (r30c HU7h.out)
  replace XV := hid r30a
  replace B := hid r30b
  clear r30a r30b r30c
  obtain ⟨cc31a, cc31b⟩ := XV.out.both
  go_wp2_with fail
  refine bodyPost_ret (res_ival_tmp rfl rfl rfl XV.out) rfl ?_
  exact ⟨rfl, B.out⟩

set_option maxHeartbeats 4000000 in
theorem iadd_bad {a b c d : ByteArray} {k : Int} (h : WrongI a b c d k) (ha : a.size ≤ maxLen) (hb0 : b.size ≤ maxLen) (hc0 : c.size ≤ maxLen) (hd0 : d.size ≤ maxLen) (w : World) :
    Calls Tryz.prog 18 #[.agg #[.string a, .string b], .agg #[.string c, .string d]] w fun e w' => e = .returned (.tuple #[.agg #[.string ⟨#[]⟩, .string ⟨#[]⟩], errno k]) ∧ Below w.heap.size w w' := by
  have hne := errv_neq
  have hgd := errv_guard
  have hkk := errv_some h.ne
  have H1 := hid (fun w f => combine_bad (f := f) h ha hb0 hc0 hd0 w)
  have B := hid (Below.refl w.heap.size w)
  have hb1 := (Below.refl _ _).alloc (Nat.le_refl w.heap.size) (.cells #[.string a, .string b] 23)
  have hx2 := Vbx.new w a b
  replace B := bb B hb1
  have X1 := hid hx2
  have hs3 : (w.alloc (.cells #[.string a, .string b] 23)).heap.size = w.heap.size + 1 := by simp
  clear hb1 hx2
  have hb4 := (Below.refl _ _).alloc (Nat.le_refl (w.alloc (.cells #[.string a, .string b] 23)).heap.size) (.cells #[.string c, .string d] 23)
  have hx5 := Vbx.new (w.alloc (.cells #[.string a, .string b] 23)) c d
  rw [hs3] at hx5
  replace X1 := vx X1 hb4
  replace B := bb B hb4
  have X2 := hid hx5
  have hs6 : ((w.alloc (.cells #[.string a, .string b] 23)).alloc (.cells #[.string c, .string d] 23)).heap.size = w.heap.size + 1 + 1 := by simp [hs3]
  clear hb4 hx5
  have hb7 := (Below.refl _ _).alloc (Nat.le_refl ((w.alloc (.cells #[.string a, .string b] 23)).alloc (.cells #[.string c, .string d] 23)).heap.size) (.cells #[.string ⟨#[]⟩, .string ⟨#[]⟩] 23)
  have hx8 := Vbx.new ((w.alloc (.cells #[.string a, .string b] 23)).alloc (.cells #[.string c, .string d] 23)) ⟨#[]⟩ ⟨#[]⟩
  rw [hs6] at hx8
  replace X1 := vx X1 hb7
  replace X2 := vx X2 hb7
  replace B := bb B hb7
  have XV := hid hx8
  have hs9 : (((w.alloc (.cells #[.string a, .string b] 23)).alloc (.cells #[.string c, .string d] 23)).alloc (.cells #[.string ⟨#[]⟩, .string ⟨#[]⟩] 23)).heap.size = w.heap.size + 1 + 1 + 1 := by simp [hs6]
  clear hb7 hx8
  clear hs9 h
  go_enter Tryz.func18, Tryz.ntmps18
  obtain ⟨cc10a, cc10b⟩ := X1.out.both
  obtain ⟨cc11a, cc11b⟩ := X2.out.both
  obtain ⟨cc12a, cc12b⟩ := XV.out.both
  go_wp2_with fail
  generalize hW : ((w.alloc (.cells #[.string a, .string b] 23)).alloc (.cells #[.string c, .string d] 23)).alloc (.cells #[.string ⟨#[]⟩, .string ⟨#[]⟩] 23) = W13 at *
  clear hW
  refine (H1.out _ _).mono ?_
  rintro e w14 ⟨rfl, hb⟩
  replace XV := vx XV hb
  replace B := bb B hb
  clear cc10a cc10b cc11a cc11b cc12a cc12b
  clear hb H1
  obtain ⟨cc15a, cc15b⟩ := XV.out.both
  obtain ⟨cc16a, cc16b, cc16c, cc16d⟩ := XV.out.stores
  obtain ⟨r17a, r17b, r17c⟩ := XV.out.last B.out (by omega) ⟨#[]⟩ ⟨#[]⟩
  replace XV := hid r17a
  replace B := hid r17b
  clear r17a r17b r17c
  obtain ⟨cc18a, cc18b⟩ := XV.out.both
  go_wp2_with fail
  refine bodyPost_ret (res_ival_tmp rfl rfl rfl XV.out) rfl ?_
  exact ⟨rfl, B.out⟩

set_option maxHeartbeats 4000000 in
theorem iadd_good {a b c d : ByteArray} (h1 : GoodI a b) (h2 : GoodI c d) (w : World) :
    Calls Tryz.prog 18 #[.agg #[.string a, .string b], .agg #[.string c, .string d]] w fun e w' => e = .returned (.tuple #[.agg #[.string (qtxt (mn ((qnum a) + (qnum c)) ((qnum b) + (qnum d)))), .string (qtxt (mx ((qnum a) + (qnum c)) ((qnum b) + (qnum d))))], .nilIface]) ∧ Below w.heap.size w w' := by
  have hne := errv_neq
  have hgd := errv_guard
  have H1 := hid (fun w => combine_add h1 h2 w)
  have B := hid (Below.refl w.heap.size w)
  have hb1 := (Below.refl _ _).alloc (Nat.le_refl w.heap.size) (.cells #[.string a, .string b] 23)
  have hx2 := Vbx.new w a b
  replace B := bb B hb1
  have X1 := hid hx2
  have hs3 : (w.alloc (.cells #[.string a, .string b] 23)).heap.size = w.heap.size + 1 := by simp
  clear hb1 hx2
  have hb4 := (Below.refl _ _).alloc (Nat.le_refl (w.alloc (.cells #[.string a, .string b] 23)).heap.size) (.cells #[.string c, .string d] 23)
  have hx5 := Vbx.new (w.alloc (.cells #[.string a, .string b] 23)) c d
  rw [hs3] at hx5
  replace X1 := vx X1 hb4
  replace B := bb B hb4
  have X2 := hid hx5
  have hs6 : ((w.alloc (.cells #[.string a, .string b] 23)).alloc (.cells #[.string c, .string d] 23)).heap.size = w.heap.size + 1 + 1 := by simp [hs3]
  clear hb4 hx5
  have hb7 := (Below.refl _ _).alloc (Nat.le_refl ((w.alloc (.cells #[.string a, .string b] 23)).alloc (.cells #[.string c, .string d] 23)).heap.size) (.cells #[.string ⟨#[]⟩, .string ⟨#[]⟩] 23)
  have hx8 := Vbx.new ((w.alloc (.cells #[.string a, .string b] 23)).alloc (.cells #[.string c, .string d] 23)) ⟨#[]⟩ ⟨#[]⟩
  rw [hs6] at hx8
  replace X1 := vx X1 hb7
  replace X2 := vx X2 hb7
  replace B := bb B hb7
  have XV := hid hx8
  have hs9 : (((w.alloc (.cells #[.string a, .string b] 23)).alloc (.cells #[.string c, .string d] 23)).alloc (.cells #[.string ⟨#[]⟩, .string ⟨#[]⟩] 23)).heap.size = w.heap.size + 1 + 1 + 1 := by simp [hs6]
  clear hb7 hx8
  clear hs9 h1 h2
  go_enter Tryz.func18, Tryz.ntmps18
  obtain ⟨cc10a, cc10b⟩ := X1.out.both
  obtain ⟨cc11a, cc11b⟩ := X2.out.both
  obtain ⟨cc12a, cc12b⟩ := XV.out.both
  go_wp2_with fail
  generalize hW : ((w.alloc (.cells #[.string a, .string b] 23)).alloc (.cells #[.string c, .string d] 23)).alloc (.cells #[.string ⟨#[]⟩, .string ⟨#[]⟩] 23) = W13 at *
  clear hW
  refine (H1.out _).mono ?_
  rintro e w14 ⟨rfl, hb⟩
  replace XV := vx XV hb
  replace B := bb B hb
  clear cc10a cc10b cc11a cc11b cc12a cc12b
  clear hb H1
  obtain ⟨cc15a, cc15b⟩ := XV.out.both
  obtain ⟨cc16a, cc16b, cc16c, cc16d⟩ := XV.out.stores
  obtain ⟨r17a, r17b, r17c⟩ := XV.out.last B.out (by omega) (qtxt (mn ((qnum a) + (qnum c)) ((qnum b) + (qnum d)))) (qtxt (mx ((qnum a) + (qnum c)) ((qnum b) + (qnum d))))
  replace XV := hid r17a
  replace B := hid r17b
  clear r17a r17b r17c
  obtain ⟨cc18a, cc18b⟩ := XV.out.both
  go_wp2_with fail
  refine bodyPost_ret (res_ival_tmp rfl rfl rfl XV.out) rfl ?_
  exact ⟨rfl, B.out⟩

set_option maxHeartbeats 4000000 in
theorem imul_bad {a b c d : ByteArray} {k : Int} (h : WrongI a b c d k) (ha : a.size ≤ maxLen) (hb0 : b.size ≤ maxLen) (hc0 : c.size ≤ maxLen) (hd0 : d.size ≤ maxLen) (w : World) :
    Calls Tryz.prog 19 #[.agg #[.string a, .string b], .agg #[.string c, .string d]] w fun e w' => e = .returned (.tuple #[.agg #[.string ⟨#[]⟩, .string ⟨#[]⟩], errno k]) ∧ Below w.heap.size w w' := by
  have hne := errv_neq
  have hgd := errv_guard
  have hkk := errv_some h.ne
  have H1 := hid (fun w f => combine_bad (f := f) h ha hb0 hc0 hd0 w)
  have B := hid (Below.refl w.heap.size w)
  have hb1 := (Below.refl _ _).alloc (Nat.le_refl w.heap.size) (.cells #[.string a, .string b] 23)
  have hx2 := Vbx.new w a b
  replace B := bb B hb1
  have X1 := hid hx2
  have hs3 : (w.alloc (.cells #[.string a, .string b] 23)).heap.size = w.heap.size + 1 := by simp
  clear hb1 hx2
  have hb4 := (Below.refl _ _).alloc (Nat.le_refl (w.alloc (.cells #[.string a, .string b] 23)).heap.size) (.cells #[.string c, .string d] 23)
  have hx5 := Vbx.new (w.alloc (.cells #[.string a, .string b] 23)) c d
  rw [hs3] at hx5
  replace X1 := vx X1 hb4
  replace B := bb B hb4
  have X2 := hid hx5
  have hs6 : ((w.alloc (.cells #[.string a, .string b] 23)).alloc (.cells #[.string c, .string d] 23)).heap.size = w.heap.size + 1 + 1 := by simp [hs3]
  clear hb4 hx5
  have hb7 := (Below.refl _ _).alloc (Nat.le_refl ((w.alloc (.cells #[.string a, .string b] 23)).alloc (.cells #[.string c, .string d] 23)).heap.size) (.cells #[.string ⟨#[]⟩, .string ⟨#[]⟩] 23)
  have hx8 := Vbx.new ((w.alloc (.cells #[.string a, .string b] 23)).alloc (.cells #[.string c, .string d] 23)) ⟨#[]⟩ ⟨#[]⟩
  rw [hs6] at hx8
  replace X1 := vx X1 hb7
  replace X2 := vx X2 hb7
  replace B := bb B hb7
  have XV := hid hx8
  have hs9 : (((w.alloc (.cells #[.string a, .string b] 23)).alloc (.cells #[.string c, .string d] 23)).alloc (.cells #[.string ⟨#[]⟩, .string ⟨#[]⟩] 23)).heap.size = w.heap.size + 1 + 1 + 1 := by simp [hs6]
  clear hb7 hx8
  clear hs9 h
  go_enter Tryz.func19, Tryz.ntmps19
  obtain ⟨cc10a, cc10b⟩ := X1.out.both
  obtain ⟨cc11a, cc11b⟩ := X2.out.both
  obtain ⟨cc12a, cc12b⟩ := XV.out.both
  go_wp2_with fail
  generalize hW : ((w.alloc (.cells #[.string a, .string b] 23)).alloc (.cells #[.string c, .string d] 23)).alloc (.cells #[.string ⟨#[]⟩, .string ⟨#[]⟩] 23) = W13 at *
  clear hW
  refine (H1.out _ _).mono ?_
  rintro e w14 ⟨rfl, hb⟩
  replace XV := vx XV hb
  replace B := bb B hb
  clear cc10a cc10b cc11a cc11b cc12a cc12b
  clear hb H1
  obtain ⟨cc15a, cc15b⟩ := XV.out.both
  obtain ⟨cc16a, cc16b, cc16c, cc16d⟩ := XV.out.stores
  obtain ⟨r17a, r17b, r17c⟩ := XV.out.last B.out (by omega) ⟨#[]⟩ ⟨#[]⟩
  replace XV := hid r17a
  replace B := hid r17b
  clear r17a r17b r17c
  obtain ⟨cc18a, cc18b⟩ := XV.out.both
  go_wp2_with fail
  refine bodyPost_ret (res_ival_tmp rfl rfl rfl XV.out) rfl ?_
  exact ⟨rfl, B.out⟩

set_option maxHeartbeats 4000000 in
theorem imul_good {a b c d : ByteArray} (h1 : GoodI a b) (h2 : GoodI c d) (w : World) :
    Calls Tryz.prog 19 #[.agg #[.string a, .string b], .agg #[.string c, .string d]] w fun e w' => e = .returned (.tuple #[.agg #[.string (qtxt (lo4 ((qnum a) * (qnum c)) ((qnum a) * (qnum d)) ((qnum b) * (qnum c)) ((qnum b) * (qnum d)))), .string (qtxt (hi4 ((qnum a) * (qnum c)) ((qnum a) * (qnum d)) ((qnum b) * (qnum c)) ((qnum b) * (qnum d))))], .nilIface]) ∧ Below w.heap.size w w' := by
  have hne := errv_neq
  have hgd := errv_guard
  have H1 := hid (fun w => combine_mul h1 h2 w)
  have B := hid (Below.refl w.heap.size w)
  have hb1 := (Below.refl _ _).alloc (Nat.le_refl w.heap.size) (.cells #[.string a, .string b] 23)
  have hx2 := Vbx.new w a b
  replace B := bb B hb1
  have X1 := hid hx2
  have hs3 : (w.alloc (.cells #[.string a, .string b] 23)).heap.size = w.heap.size + 1 := by simp
  clear hb1 hx2
  have hb4 := (Below.refl _ _).alloc (Nat.le_refl (w.alloc (.cells #[.string a, .string b] 23)).heap.size) (.cells #[.string c, .string d] 23)
  have hx5 := Vbx.new (w.alloc (.cells #[.string a, .string b] 23)) c d
  rw [hs3] at hx5
  replace X1 := vx X1 hb4
  replace B := bb B hb4
  have X2 := hid hx5
  have hs6 : ((w.alloc (.cells #[.string a, .string b] 23)).alloc (.cells #[.string c, .string d] 23)).heap.size = w.heap.size + 1 + 1 := by simp [hs3]
  clear hb4 hx5
  have hb7 := (Below.refl _ _).alloc (Nat.le_refl ((w.alloc (.cells #[.string a, .string b] 23)).alloc (.cells #[.string c, .string d] 23)).heap.size) (.cells #[.string ⟨#[]⟩, .string ⟨#[]⟩] 23)
  have hx8 := Vbx.new ((w.alloc (.cells #[.string a, .string b] 23)).alloc (.cells #[.string c, .string d] 23)) ⟨#[]⟩ ⟨#[]⟩
  rw [hs6] at hx8
  replace X1 := vx X1 hb7
  replace X2 := vx X2 hb7
  replace B := bb B hb7
  have XV := hid hx8
  have hs9 : (((w.alloc (.cells #[.string a, .string b] 23)).alloc (.cells #[.string c, .string d] 23)).alloc (.cells #[.string ⟨#[]⟩, .string ⟨#[]⟩] 23)).heap.size = w.heap.size + 1 + 1 + 1 := by simp [hs6]
  clear hb7 hx8
  clear hs9 h1 h2
  go_enter Tryz.func19, Tryz.ntmps19
  obtain ⟨cc10a, cc10b⟩ := X1.out.both
  obtain ⟨cc11a, cc11b⟩ := X2.out.both
  obtain ⟨cc12a, cc12b⟩ := XV.out.both
  go_wp2_with fail
  generalize hW : ((w.alloc (.cells #[.string a, .string b] 23)).alloc (.cells #[.string c, .string d] 23)).alloc (.cells #[.string ⟨#[]⟩, .string ⟨#[]⟩] 23) = W13 at *
  clear hW
  refine (H1.out _).mono ?_
  rintro e w14 ⟨rfl, hb⟩
  replace XV := vx XV hb
  replace B := bb B hb
  clear cc10a cc10b cc11a cc11b cc12a cc12b
  clear hb H1
  obtain ⟨cc15a, cc15b⟩ := XV.out.both
  obtain ⟨cc16a, cc16b, cc16c, cc16d⟩ := XV.out.stores
  obtain ⟨r17a, r17b, r17c⟩ := XV.out.last B.out (by omega) (qtxt (lo4 ((qnum a) * (qnum c)) ((qnum a) * (qnum d)) ((qnum b) * (qnum c)) ((qnum b) * (qnum d)))) (qtxt (hi4 ((qnum a) * (qnum c)) ((qnum a) * (qnum d)) ((qnum b) * (qnum c)) ((qnum b) * (qnum d))))
  replace XV := hid r17a
  replace B := hid r17b
  clear r17a r17b r17c
  obtain ⟨cc18a, cc18b⟩ := XV.out.both
  go_wp2_with fail
  refine bodyPost_ret (res_ival_tmp rfl rfl rfl XV.out) rfl ?_
  exact ⟨rfl, B.out⟩

set_option maxHeartbeats 4000000 in
theorem ihull_bad {a b c d : ByteArray} {k : Int} (h : WrongI a b c d k) (ha : a.size ≤ maxLen) (hb0 : b.size ≤ maxLen) (hc0 : c.size ≤ maxLen) (hd0 : d.size ≤ maxLen) (w : World) :
    Calls Tryz.prog 20 #[.agg #[.string a, .string b], .agg #[.string c, .string d]] w fun e w' => e = .returned (.tuple #[.agg #[.string ⟨#[]⟩, .string ⟨#[]⟩], errno k]) ∧ Below w.heap.size w w' := by
  have hne := errv_neq
  have hgd := errv_guard
  have hkk := errv_some h.ne
  have H1 := hid (fun w f => combine_bad (f := f) h ha hb0 hc0 hd0 w)
  have B := hid (Below.refl w.heap.size w)
  have hb1 := (Below.refl _ _).alloc (Nat.le_refl w.heap.size) (.cells #[.string a, .string b] 23)
  have hx2 := Vbx.new w a b
  replace B := bb B hb1
  have X1 := hid hx2
  have hs3 : (w.alloc (.cells #[.string a, .string b] 23)).heap.size = w.heap.size + 1 := by simp
  clear hb1 hx2
  have hb4 := (Below.refl _ _).alloc (Nat.le_refl (w.alloc (.cells #[.string a, .string b] 23)).heap.size) (.cells #[.string c, .string d] 23)
  have hx5 := Vbx.new (w.alloc (.cells #[.string a, .string b] 23)) c d
  rw [hs3] at hx5
  replace X1 := vx X1 hb4
  replace B := bb B hb4
  have X2 := hid hx5
  have hs6 : ((w.alloc (.cells #[.string a, .string b] 23)).alloc (.cells #[.string c, .string d] 23)).heap.size = w.heap.size + 1 + 1 := by simp [hs3]
  clear hb4 hx5
  have hb7 := (Below.refl _ _).alloc (Nat.le_refl ((w.alloc (.cells #[.string a, .string b] 23)).alloc (.cells #[.string c, .string d] 23)).heap.size) (.cells #[.string ⟨#[]⟩, .string ⟨#[]⟩] 23)
  have hx8 := Vbx.new ((w.alloc (.cells #[.string a, .string b] 23)).alloc (.cells #[.string c, .string d] 23)) ⟨#[]⟩ ⟨#[]⟩
  rw [hs6] at hx8
  replace X1 := vx X1 hb7
  replace X2 := vx X2 hb7
  replace B := bb B hb7
  have XV := hid hx8
  have hs9 : (((w.alloc (.cells #[.string a, .string b] 23)).alloc (.cells #[.string c, .string d] 23)).alloc (.cells #[.string ⟨#[]⟩, .string ⟨#[]⟩] 23)).heap.size = w.heap.size + 1 + 1 + 1 := by simp [hs6]
  clear hb7 hx8
  clear hs9 h
  go_enter Tryz.func20, Tryz.ntmps20
  obtain ⟨cc10a, cc10b⟩ := X1.out.both
  obtain ⟨cc11a, cc11b⟩ := X2.out.both
  obtain ⟨cc12a, cc12b⟩ := XV.out.both
  go_wp2_with fail
  generalize hW : ((w.alloc (.cells #[.string a, .string b] 23)).alloc (.cells #[.string c, .string d] 23)).alloc (.cells #[.string ⟨#[]⟩, .string ⟨#[]⟩] 23) = W13 at *
  clear hW
  refine (H1.out _ _).mono ?_
  rintro e w14 ⟨rfl, hb⟩
  replace XV := vx XV hb
  replace B := bb B hb
  clear cc10a cc10b cc11a cc11b cc12a cc12b
  clear hb H1
  obtain ⟨cc15a, cc15b⟩ := XV.out.both
  obtain ⟨cc16a, cc16b, cc16c, cc16d⟩ := XV.out.stores
  obtain ⟨r17a, r17b, r17c⟩ := XV.out.last B.out (by omega) ⟨#[]⟩ ⟨#[]⟩
  replace XV := hid r17a
  replace B := hid r17b
  clear r17a r17b r17c
  obtain ⟨cc18a, cc18b⟩ := XV.out.both
  go_wp2_with fail
  refine bodyPost_ret (res_ival_tmp rfl rfl rfl XV.out) rfl ?_
  exact ⟨rfl, B.out⟩

set_option maxHeartbeats 4000000 in
theorem ihull_good {a b c d : ByteArray} (h1 : GoodI a b) (h2 : GoodI c d) (w : World) :
    Calls Tryz.prog 20 #[.agg #[.string a, .string b], .agg #[.string c, .string d]] w fun e w' => e = .returned (.tuple #[.agg #[.string (qtxt (lo4 (qnum a) (qnum b) (qnum c) (qnum d))), .string (qtxt (hi4 (qnum a) (qnum b) (qnum c) (qnum d)))], .nilIface]) ∧ Below w.heap.size w w' := by
  have hne := errv_neq
  have hgd := errv_guard
  have H1 := hid (fun w => combine_hull h1 h2 w)
  have B := hid (Below.refl w.heap.size w)
  have hb1 := (Below.refl _ _).alloc (Nat.le_refl w.heap.size) (.cells #[.string a, .string b] 23)
  have hx2 := Vbx.new w a b
  replace B := bb B hb1
  have X1 := hid hx2
  have hs3 : (w.alloc (.cells #[.string a, .string b] 23)).heap.size = w.heap.size + 1 := by simp
  clear hb1 hx2
  have hb4 := (Below.refl _ _).alloc (Nat.le_refl (w.alloc (.cells #[.string a, .string b] 23)).heap.size) (.cells #[.string c, .string d] 23)
  have hx5 := Vbx.new (w.alloc (.cells #[.string a, .string b] 23)) c d
  rw [hs3] at hx5
  replace X1 := vx X1 hb4
  replace B := bb B hb4
  have X2 := hid hx5
  have hs6 : ((w.alloc (.cells #[.string a, .string b] 23)).alloc (.cells #[.string c, .string d] 23)).heap.size = w.heap.size + 1 + 1 := by simp [hs3]
  clear hb4 hx5
  have hb7 := (Below.refl _ _).alloc (Nat.le_refl ((w.alloc (.cells #[.string a, .string b] 23)).alloc (.cells #[.string c, .string d] 23)).heap.size) (.cells #[.string ⟨#[]⟩, .string ⟨#[]⟩] 23)
  have hx8 := Vbx.new ((w.alloc (.cells #[.string a, .string b] 23)).alloc (.cells #[.string c, .string d] 23)) ⟨#[]⟩ ⟨#[]⟩
  rw [hs6] at hx8
  replace X1 := vx X1 hb7
  replace X2 := vx X2 hb7
  replace B := bb B hb7
  have XV := hid hx8
  have hs9 : (((w.alloc (.cells #[.string a, .string b] 23)).alloc (.cells #[.string c, .string d] 23)).alloc (.cells #[.string ⟨#[]⟩, .string ⟨#[]⟩] 23)).heap.size = w.heap.size + 1 + 1 + 1 := by simp [hs6]
  clear hb7 hx8
  clear hs9 h1 h2
  go_enter Tryz.func20, Tryz.ntmps20
  obtain ⟨cc10a, cc10b⟩ := X1.out.both
  obtain ⟨cc11a, cc11b⟩ := X2.out.both
  obtain ⟨cc12a, cc12b⟩ := XV.out.both
  go_wp2_with fail
  generalize hW : ((w.alloc (.cells #[.string a, .string b] 23)).alloc (.cells #[.string c, .string d] 23)).alloc (.cells #[.string ⟨#[]⟩, .string ⟨#[]⟩] 23) = W13 at *
  clear hW
  refine (H1.out _).mono ?_
  rintro e w14 ⟨rfl, hb⟩
  replace XV := vx XV hb
  replace B := bb B hb
  clear cc10a cc10b cc11a cc11b cc12a cc12b
  clear hb H1
  obtain ⟨cc15a, cc15b⟩ := XV.out.both
  obtain ⟨cc16a, cc16b, cc16c, cc16d⟩ := XV.out.stores
  obtain ⟨r17a, r17b, r17c⟩ := XV.out.last B.out (by omega) (qtxt (lo4 (qnum a) (qnum b) (qnum c) (qnum d))) (qtxt (hi4 (qnum a) (qnum b) (qnum c) (qnum d)))
  replace XV := hid r17a
  replace B := hid r17b
  clear r17a r17b r17c
  obtain ⟨cc18a, cc18b⟩ := XV.out.both
  go_wp2_with fail
  refine bodyPost_ret (res_ival_tmp rfl rfl rfl XV.out) rfl ?_
  exact ⟨rfl, B.out⟩

end Go.Proofs.YtkdeopikojgboaaGreatDoor

/-
  PACKAGE ival AT WHATEVER TEXTS.
-/
namespace Go.Proofs.YtkdeopikojgboaaGreatDoor
open Go.RowKit
open Num
set_option linter.unusedVariables false
set_option maxRecDepth 100000
set_option linter.unusedSimpArgs false

/-- What the functions make of four ends. -/
def addF (p q r s : Rat) : Rat × Rat := (mn (p + r) (q + s), mx (p + r) (q + s))
def mulF (p q r s : Rat) : Rat × Rat := (lo4 (p * r) (p * s) (q * r) (q * s), hi4 (p * r) (p * s) (q * r) (q * s))
def hullF (p q r s : Rat) : Rat × Rat := (lo4 p q r s, hi4 p q r s)
def divF (p q r s : Rat) : Rat × Rat := (lo4 (p / r) (p / s) (q / r) (q / s), hi4 (p / r) (p / s) (q / r) (q / s))
/-- What is told of two intervals. -/
def ITells (F : Rat → Rat → Rat → Rat → Rat × Rat) (a b c d x y : ByteArray) (k : Int) : Prop :=
  (k = 0 ∧ GoodI a b ∧ GoodI c d ∧ x = qtxt (F (qnum a) (qnum b) (qnum c) (qnum d)).1 ∧ y = qtxt (F (qnum a) (qnum b) (qnum c) (qnum d)).2) ∨ (k ≠ 0 ∧ WrongI a b c d k ∧ x = ⟨#[]⟩ ∧ y = ⟨#[]⟩)
theorem ITells.yes {F : Rat → Rat → Rat → Rat → Rat × Rat} {a b c d x y : ByteArray} {k : Int} (h : ITells F a b c d x y k) (hk : k = 0) : GoodI a b ∧ GoodI c d ∧ qnum x = (F (qnum a) (qnum b) (qnum c) (qnum d)).1 ∧ qnum y = (F (qnum a) (qnum b) (qnum c) (qnum d)).2 := by
  rcases h with ⟨_, h1, h2, h3, h4⟩ | ⟨h, _⟩
  · exact ⟨h1, h2, by rw [h3, qnum_qtxt], by rw [h4, qnum_qtxt]⟩
  · exact absurd hk h
theorem ITells.zero {F : Rat → Rat → Rat → Rat → Rat × Rat} {a b c d x y : ByteArray} {k : Int} (h : ITells F a b c d x y k) (h1 : GoodI a b) (h2 : GoodI c d) : k = 0 := by
  rcases h with ⟨h, _⟩ | ⟨_, h, _⟩
  · exact h
  · exact absurd ⟨h1, h2⟩ h.not
def IDivs (a b c d x y : ByteArray) (k : Int) : Prop :=
  (k = 0 ∧ GoodI a b ∧ GoodI c d ∧ ¬ (qnum c ≤ 0 ∧ 0 ≤ qnum d) ∧ qnum x = (divF (qnum a) (qnum b) (qnum c) (qnum d)).1 ∧ qnum y = (divF (qnum a) (qnum b) (qnum c) (qnum d)).2) ∨ k ≠ 0
def IHas (a b x : ByteArray) (t : Bool) (k : Int) : Prop :=
  (k = 0 ∧ GoodI a b ∧ GoodQ x ∧ t = decide (qnum a ≤ qnum x ∧ qnum x ≤ qnum b)) ∨ (k ≠ 0 ∧ ¬ (GoodI a b ∧ GoodQ x) ∧ t = false)
theorem IHas.yes {a b x : ByteArray} {t : Bool} {k : Int} (h : IHas a b x t k) (hk : k = 0) (ht : t = true) : GoodI a b ∧ GoodQ x ∧ qnum a ≤ qnum x ∧ qnum x ≤ qnum b := by
  rcases h with ⟨_, h1, h2, h3⟩ | ⟨h, _⟩
  · rw [ht] at h3
    exact ⟨h1, h2, (of_decide_eq_true h3.symm).1, (of_decide_eq_true h3.symm).2⟩
  · exact absurd hk h
theorem IHas.zero {a b x : ByteArray} {t : Bool} {k : Int} (h : IHas a b x t k) (h1 : GoodI a b) (h2 : GoodQ x) : k = 0 := by
  rcases h with ⟨h, _⟩ | ⟨_, h, _⟩
  · exact h
  · exact absurd ⟨h1, h2⟩ h
theorem IHas.inside {a b x : ByteArray} {t : Bool} {k : Int} (h : IHas a b x t k) (h1 : qnum a ≤ qnum x) (h2 : qnum x ≤ qnum b) : (k = 0 ∧ t = true) ∨ ((k != 0) = true) := by
  rcases h with ⟨hk, _, _, h3⟩ | ⟨h, _⟩
  · exact .inl ⟨hk, by rw [h3]; exact decide_eq_true ⟨h1, h2⟩⟩
  · exact .inr (by simpa using h)
theorem size_or {p a b c d : Rat} (h : p = a ∨ p = b ∨ p = c ∨ p = d) {m : Nat} (ha : (qtxt a).size ≤ m) (hb : (qtxt b).size ≤ m) (hc : (qtxt c).size ≤ m) (hd : (qtxt d).size ≤ m) : (qtxt p).size ≤ m := by
  rcases h with e | e | e | e <;> rw [e] <;> assumption
theorem size_qn {a : ByteArray} (h : GoodQ a) : (qtxt (qnum a)).size ≤ maxLen := by
  rw [qtxt_good h]
  have := h.1
  unfold maxLen
  omega

theorem iadd_any (a b c d : ByteArray) (ha : a.size ≤ maxLen) (hb0 : b.size ≤ maxLen) (hc0 : c.size ≤ maxLen) (hd0 : d.size ≤ maxLen) (w : World) :
    Calls Tryz.prog 18 #[.agg #[.string a, .string b], .agg #[.string c, .string d]] w fun e w' => ∃ x y k, e = .returned (.tuple #[.agg #[.string x, .string y], errv k]) ∧ ITells addF a b c d x y k ∧ x.size ≤ maxLen ∧ y.size ≤ maxLen ∧ Below w.heap.size w w' := by
  rcases rightI_or_wrong a b c d with ⟨h1, h2⟩ | ⟨k, h⟩
  · refine (iadd_good h1 h2 w).mono ?_
    rintro e w' ⟨rfl, hb⟩
    exact ⟨_, _, 0, rfl, .inl ⟨rfl, h1, h2, rfl, rfl⟩, by rcases mn_or (qnum a + qnum c) (qnum b + qnum d) with e | e <;> (rw [e]; first | exact size_add h1.1 h2.1 | exact size_add h1.2.1 h2.2.1), by rcases mx_or (qnum a + qnum c) (qnum b + qnum d) with e | e <;> (rw [e]; first | exact size_add h1.1 h2.1 | exact size_add h1.2.1 h2.2.1), hb⟩
  · refine (iadd_bad h ha hb0 hc0 hd0 w).mono ?_
    rintro e w' ⟨rfl, hb⟩
    exact ⟨_, _, k, by rw [errv_some h.ne], .inr ⟨h.ne, h, rfl, rfl⟩, Nat.zero_le _, Nat.zero_le _, hb⟩

theorem imul_any (a b c d : ByteArray) (ha : a.size ≤ maxLen) (hb0 : b.size ≤ maxLen) (hc0 : c.size ≤ maxLen) (hd0 : d.size ≤ maxLen) (w : World) :
    Calls Tryz.prog 19 #[.agg #[.string a, .string b], .agg #[.string c, .string d]] w fun e w' => ∃ x y k, e = .returned (.tuple #[.agg #[.string x, .string y], errv k]) ∧ ITells mulF a b c d x y k ∧ x.size ≤ maxLen ∧ y.size ≤ maxLen ∧ Below w.heap.size w w' := by
  rcases rightI_or_wrong a b c d with ⟨h1, h2⟩ | ⟨k, h⟩
  · refine (imul_good h1 h2 w).mono ?_
    rintro e w' ⟨rfl, hb⟩
    exact ⟨_, _, 0, rfl, .inl ⟨rfl, h1, h2, rfl, rfl⟩, size_or (lo4_or _ _ _ _) (size_mul h1.1 h2.1) (size_mul h1.1 h2.2.1) (size_mul h1.2.1 h2.1) (size_mul h1.2.1 h2.2.1), size_or (hi4_or _ _ _ _) (size_mul h1.1 h2.1) (size_mul h1.1 h2.2.1) (size_mul h1.2.1 h2.1) (size_mul h1.2.1 h2.2.1), hb⟩
  · refine (imul_bad h ha hb0 hc0 hd0 w).mono ?_
    rintro e w' ⟨rfl, hb⟩
    exact ⟨_, _, k, by rw [errv_some h.ne], .inr ⟨h.ne, h, rfl, rfl⟩, Nat.zero_le _, Nat.zero_le _, hb⟩

theorem ihull_any (a b c d : ByteArray) (ha : a.size ≤ maxLen) (hb0 : b.size ≤ maxLen) (hc0 : c.size ≤ maxLen) (hd0 : d.size ≤ maxLen) (w : World) :
    Calls Tryz.prog 20 #[.agg #[.string a, .string b], .agg #[.string c, .string d]] w fun e w' => ∃ x y k, e = .returned (.tuple #[.agg #[.string x, .string y], errv k]) ∧ ITells hullF a b c d x y k ∧ x.size ≤ maxLen ∧ y.size ≤ maxLen ∧ Below w.heap.size w w' := by
  rcases rightI_or_wrong a b c d with ⟨h1, h2⟩ | ⟨k, h⟩
  · refine (ihull_good h1 h2 w).mono ?_
    rintro e w' ⟨rfl, hb⟩
    exact ⟨_, _, 0, rfl, .inl ⟨rfl, h1, h2, rfl, rfl⟩, size_or (lo4_or _ _ _ _) (size_qn h1.1) (size_qn h1.2.1) (size_qn h2.1) (size_qn h2.2.1), size_or (hi4_or _ _ _ _) (size_qn h1.1) (size_qn h1.2.1) (size_qn h2.1) (size_qn h2.2.1), hb⟩
  · refine (ihull_bad h ha hb0 hc0 hd0 w).mono ?_
    rintro e w' ⟨rfl, hb⟩
    exact ⟨_, _, k, by rw [errv_some h.ne], .inr ⟨h.ne, h, rfl, rfl⟩, Nat.zero_le _, Nat.zero_le _, hb⟩

theorem ihas_any (a b x : ByteArray) (ha : a.size ≤ maxLen) (hb0 : b.size ≤ maxLen) (hx0 : x.size ≤ maxLen) (w : World) :
    Calls Tryz.prog 10 #[.agg #[.string a, .string b], .string x] w fun e w' => ∃ t k, e = .returned (.tuple #[.bool t, errv k]) ∧ IHas a b x t k ∧ Below w.heap.size w w' := by
  rcases goodI_or_bad a b with h1 | ⟨k, h⟩
  · rcases goodQ_or_bad x with h2 | ⟨k, h2⟩
    · refine (ihas_c h1 h2 w).mono ?_
      rintro e w' ⟨rfl, hb⟩
      exact ⟨_, 0, rfl, .inl ⟨rfl, h1, h2, rfl⟩, hb⟩
    · refine (ihas_b h1 h2 hx0 w).mono ?_
      rintro e w' ⟨rfl, hb⟩
      exact ⟨_, k, by rw [errv_some h2.ne], .inr ⟨h2.ne, fun h => h2.not h.2, rfl⟩, hb⟩
  · refine (ihas_a h ha hb0 w).mono ?_
    rintro e w' ⟨rfl, hb⟩
    exact ⟨_, k, by rw [errv_some h.ne], .inr ⟨h.ne, fun h3 => h.not h3.1, rfl⟩, hb⟩

end Go.Proofs.YtkdeopikojgboaaGreatDoor

/-
  PACKAGE ival: Div at whatever texts.
-/
namespace Go.Proofs.YtkdeopikojgboaaGreatDoor
open Go.RowKit
open Num
set_option linter.unusedVariables false
set_option maxRecDepth 100000
set_option linter.unusedSimpArgs false

-- @needs{abacist/ival.Div}@
theorem idiv_any (a b c d : ByteArray) (ha : a.size ≤ maxLen) (hb0 : b.size ≤ maxLen) (hc0 : c.size ≤ maxLen) (hd0 : d.size ≤ maxLen) (w : World) :
    Calls Tryz.prog 21 #[.agg #[.string a, .string b], .agg #[.string c, .string d]] w fun e w' => ∃ x y k, e = .returned (.tuple #[.agg #[.string x, .string y], errv k]) ∧ IDivs a b c d x y k ∧ x.size ≤ maxLen ∧ y.size ≤ maxLen ∧ Below w.heap.size w w' := by
  rcases rightI_or_wrong a b c d with ⟨h1, h2⟩ | ⟨k, h⟩
  · by_cases h0 : qnum c ≤ 0 ∧ 0 ≤ qnum d
    · refine (idiv_zero h1 h2 h0 w).mono ?_
      rintro e w' ⟨rfl, hb⟩
      exact ⟨_, _, 5, by rw [errv_some (by decide)], .inr (by decide), Nat.zero_le _, Nat.zero_le _, hb⟩
    · refine (idiv_good h1 h2 h0 w).mono ?_
      rintro e w' ⟨rfl, hb⟩
      exact ⟨_, _, 0, rfl, .inl ⟨rfl, h1, h2, h0, qnum_qtxt _, qnum_qtxt _⟩, size_or (lo4_or _ _ _ _) (size_div h1.1 h2.1) (size_div h1.1 h2.2.1) (size_div h1.2.1 h2.1) (size_div h1.2.1 h2.2.1), size_or (hi4_or _ _ _ _) (size_div h1.1 h2.1) (size_div h1.1 h2.2.1) (size_div h1.2.1 h2.1) (size_div h1.2.1 h2.2.1), hb⟩
  · refine (idiv_bad h ha hb0 hc0 hd0 w).mono ?_
    rintro e w' ⟨rfl, hb⟩
    exact ⟨_, _, k, by rw [errv_some h.ne], .inr h.ne, Nat.zero_le _, Nat.zero_le _, hb⟩

end Go.Proofs.YtkdeopikojgboaaGreatDoor

/-
  THE LAWS OF INTERVALS: what they stand on.
-/
namespace Go.Proofs.YtkdeopikojgboaaGreatDoor
open Go.RowKit
open Num
set_option linter.unusedVariables false
set_option maxRecDepth 100000
set_option linter.unusedSimpArgs false

theorem lo_le_hi (a b c d : Rat) : lo4 a b c d ≤ hi4 a b c d := by
  have := lo4_le a b c d
  have := le_hi4 a b c d
  grind
theorem mn_first {a b : Rat} (h : a ≤ b) : mn a b = a := by unfold mn; rw [if_neg (by grind)]
theorem mx_second {a b : Rat} (h : a ≤ b) : mx a b = b := by
  unfold mx
  by_cases h2 : a < b
  · rw [if_pos h2]
  · rw [if_neg h2]; grind

/-- IvalLess: both ends are in. -/
theorem less_in {al ah bl bh cl ch hl hh xl xh yl yh : ByteArray} (t1 : ITells hullF al ah bl bh hl hh 0) (t2 : ITells mulF al ah cl ch xl xh 0) (t3 : ITells mulF hl hh cl ch yl yh 0) : (qnum yl ≤ qnum xl ∧ qnum xl ≤ qnum yh) ∧ (qnum yl ≤ qnum xh ∧ qnum xh ≤ qnum yh) := by
  obtain ⟨g1, g2, e1, e2⟩ := t1.yes rfl
  obtain ⟨_, g3, e3, e4⟩ := t2.yes rfl
  obtain ⟨_, _, e5, e6⟩ := t3.yes rfl
  simp only [hullF, mulF] at e1 e2 e3 e4 e5 e6
  have hL := lo4_le (qnum al) (qnum ah) (qnum bl) (qnum bh)
  have hH := le_hi4 (qnum al) (qnum ah) (qnum bl) (qnum bh)
  have hw := mul_wider (p := qnum al) (q := qnum ah) (p' := qnum hl) (q' := qnum hh) g1.2.2 g3.2.2 (by rw [e1]; exact hL.1) (by rw [e2]; exact hH.2.1)
  rw [← e3, ← e4, ← e5, ← e6] at hw
  have ho := lo_le_hi (qnum al * qnum cl) (qnum al * qnum ch) (qnum ah * qnum cl) (qnum ah * qnum ch)
  rw [← e3, ← e4] at ho
  grind

/-- IvalSpreads: both ends are in. -/
theorem spreads_in {al ah bl bh cl ch sl sh xl xh yl yh zl zh tl th : ByteArray} (t1 : ITells addF bl bh cl ch sl sh 0) (t2 : ITells mulF al ah sl sh xl xh 0) (t3 : ITells mulF al ah bl bh yl yh 0) (t4 : ITells mulF al ah cl ch zl zh 0) (t5 : ITells addF yl yh zl zh tl th 0) : (qnum tl ≤ qnum xl ∧ qnum xl ≤ qnum th) ∧ (qnum tl ≤ qnum xh ∧ qnum xh ≤ qnum th) := by
  obtain ⟨g2, g3, e1, e2⟩ := t1.yes rfl
  obtain ⟨g1, _, e3, e4⟩ := t2.yes rfl
  obtain ⟨_, _, e5, e6⟩ := t3.yes rfl
  obtain ⟨_, _, e7, e8⟩ := t4.yes rfl
  obtain ⟨g4, g5, e9, e10⟩ := t5.yes rfl
  simp only [addF, mulF] at e1 e2 e3 e4 e5 e6 e7 e8 e9 e10
  have b1 := g2.2.2
  have b2 := g3.2.2
  have b3 := g4.2.2
  have b4 := g5.2.2
  rw [mn_first (by grind)] at e1 e9
  rw [mx_second (by grind)] at e2 e10
  have hw := mul_spreads (p := qnum al) (q := qnum ah) g1.2.2 b1 b2
  rw [← e1, ← e2, ← e3, ← e4, ← e5, ← e6, ← e7, ← e8, ← e9, ← e10] at hw
  have ho := lo_le_hi (qnum al * qnum sl) (qnum al * qnum sh) (qnum ah * qnum sl) (qnum ah * qnum sh)
  rw [← e3, ← e4] at ho
  grind

end Go.Proofs.YtkdeopikojgboaaGreatDoor

/-
  THE GOLDEN INTERVAL.
-/
namespace Go.Proofs.YtkdeopikojgboaaGreatDoor
open Go.RowKit
open Num
set_option linter.unusedVariables false
set_option maxRecDepth 100000
set_option linter.unusedSimpArgs false

theorem spanned_good : GoodI ⟨#[45, 49]⟩ ⟨#[50]⟩ ∧ GoodI ⟨#[45, 51]⟩ ⟨#[49]⟩ := ⟨⟨⟨by decide, by decide +kernel⟩, ⟨by decide, by decide +kernel⟩, by decide +kernel⟩, ⟨⟨by decide, by decide +kernel⟩, ⟨by decide, by decide +kernel⟩, by decide +kernel⟩⟩
theorem spanned_gold : qtxt (lo4 (qnum ⟨#[45, 49]⟩ * qnum ⟨#[45, 51]⟩) (qnum ⟨#[45, 49]⟩ * qnum ⟨#[49]⟩) (qnum ⟨#[50]⟩ * qnum ⟨#[45, 51]⟩) (qnum ⟨#[50]⟩ * qnum ⟨#[49]⟩)) = ⟨#[45, 54]⟩ ∧ qtxt (hi4 (qnum ⟨#[45, 49]⟩ * qnum ⟨#[45, 51]⟩) (qnum ⟨#[45, 49]⟩ * qnum ⟨#[49]⟩) (qnum ⟨#[50]⟩ * qnum ⟨#[45, 51]⟩) (qnum ⟨#[50]⟩ * qnum ⟨#[49]⟩)) = ⟨#[51]⟩ := by
  have e1 := qtxt_qnum (s := ⟨#[45, 54]⟩) (by decide +kernel)
  have e2 := qtxt_qnum (s := ⟨#[51]⟩) (by decide +kernel)
  have e3 : lo4 (qnum ⟨#[45, 49]⟩ * qnum ⟨#[45, 51]⟩) (qnum ⟨#[45, 49]⟩ * qnum ⟨#[49]⟩) (qnum ⟨#[50]⟩ * qnum ⟨#[45, 51]⟩) (qnum ⟨#[50]⟩ * qnum ⟨#[49]⟩) = qnum ⟨#[45, 54]⟩ := by decide +kernel
  have e4 : hi4 (qnum ⟨#[45, 49]⟩ * qnum ⟨#[45, 51]⟩) (qnum ⟨#[45, 49]⟩ * qnum ⟨#[49]⟩) (qnum ⟨#[50]⟩ * qnum ⟨#[45, 51]⟩) (qnum ⟨#[50]⟩ * qnum ⟨#[49]⟩) = qnum ⟨#[51]⟩ := by decide +kernel
  rw [e3, e4]
  exact ⟨e1, e2⟩
-- @needs{abacist/abacistlaw1.spanned}@
set_option maxHeartbeats 400000 in
theorem spanned_true (w : World) :
    Calls Tryz.prog 4 #[] w fun e w' => e = .returned (.bool true) ∧ Below w.heap.size w w' := by
  have h := imul_good spanned_good.1 spanned_good.2 w
  rw [spanned_gold.1, spanned_gold.2] at h
  have H := hid h
  clear h
  go_enter Tryz.func4, Tryz.ntmps4
  go_wp2_with fail
  refine H.out.mono ?_
  rintro e w1 ⟨rfl, hb⟩
  have B := hid hb
  clear hb
  have hb1 := (Below.refl _ _).alloc (Nat.le_refl w1.heap.size) (.cells #[.string ⟨#[45, 54]⟩, .string ⟨#[51]⟩] 23)
  have hx := Vbx.new w1 ⟨#[45, 54]⟩ ⟨#[51]⟩
  replace B := bb B hb1
  obtain ⟨c0, c1⟩ := hx.both
  clear hb1
  go_wp2_with fail
  go_ret
  exact ⟨rfl, B.out⟩

end Go.Proofs.YtkdeopikojgboaaGreatDoor
