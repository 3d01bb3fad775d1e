import Derived.Test.YtkdeopikojgboaaBunProofIvalHas13
import Derived.Test.YtkdeopikojgboaaBunProofIvalHas11
import Derived.Test.YtkdeopikojgboaaBunProofIvalHas12
import Derived.Test.YtkdeopikojgboaaBunProofIvalHas9
/-
  PACKAGE ival: add, mul.
-/
namespace Go.Proofs.Ytkdeopikojgboaa
open Go.RowKit
open Num
set_option linter.unusedVariables false
set_option maxRecDepth 100000
set_option linter.unusedSimpArgs false

set_option maxHeartbeats 8000000 in
theorem add_ivl {w : World} {v u : Value} {p q r s : Rat} {k : Nat} (h : Ivl w v p q k) (h' : Ivl w u r s k) (hk1 : 1 ≤ k) (hk : k ≤ 1073741824) :
    Calls Try.prog 24 #[v, u] w fun e w' => ∃ v, e = .returned v ∧ Ivl w' v (mn (p + r) (q + s)) (mx (p + r) (q + s)) (k + k + 1) ∧ Below w.heap.size w w' := by
  have HK := hid hk
  have HK1 := hid hk1
  obtain ⟨s1a, p1a, n1a, c1a, s1b, p1b, n1b, c1b, s1c, p1c, n1c, c1c, s1d, p1d, n1d, c1d, rfl⟩ := h.opened
  obtain ⟨hl1, hh1⟩ := h.two
  obtain ⟨ht1l, d1l, hu1l, hd1l⟩ := hl1.two
  have HD1l := hid hd1l
  obtain ⟨ht1h, d1h, hu1h, hd1h⟩ := hh1.two
  have HD1h := hid hd1h
  obtain ⟨s2a, p2a, n2a, c2a, s2b, p2b, n2b, c2b, s2c, p2c, n2c, c2c, s2d, p2d, n2d, c2d, rfl⟩ := h'.opened
  obtain ⟨hl2, hh2⟩ := h'.two
  obtain ⟨ht2l, d2l, hu2l, hd2l⟩ := hl2.two
  have HD2l := hid hd2l
  obtain ⟨ht2h, d2h, hu2h, hd2h⟩ := hh2.two
  have HD2h := hid hd2h
  have B := hid (Below.refl w.heap.size w)
  have HT1l := hid ht1l
  have HU1l := hid hu1l
  have HT1h := hid ht1h
  have HU1h := hid hu1h
  have HT2l := hid ht2l
  have HU2l := hid hu2l
  have HT2h := hid ht2h
  have HU2h := hid hu2h
  have hb1 := (Below.refl _ _).alloc (Nat.le_refl w.heap.size) (.cells #[.bool s1a, .slice p1a n1a c1a, .bool s1b, .slice p1b n1b c1b, .bool s1c, .slice p1c n1c c1c, .bool s1d, .slice p1d n1d c1d] 42)
  have hx2 := Ibx.new w s1a p1a n1a c1a s1b p1b n1b c1b s1c p1c n1c c1c s1d p1d n1d c1d
  replace HT1l := wl HT1l hb1
  replace HU1l := wl HU1l hb1
  replace HT1h := wl HT1h hb1
  replace HU1h := wl HU1h hb1
  replace HT2l := wl HT2l hb1
  replace HU2l := wl HU2l hb1
  replace HT2h := wl HT2h hb1
  replace HU2h := wl HU2h hb1
  replace B := bb B hb1
  have X1 := hid hx2
  have hs3 : (w.alloc (.cells #[.bool s1a, .slice p1a n1a c1a, .bool s1b, .slice p1b n1b c1b, .bool s1c, .slice p1c n1c c1c, .bool s1d, .slice p1d n1d c1d] 42)).heap.size = w.heap.size + 1 := by simp
  clear hb1 hx2
  have hb4 := (Below.refl _ _).alloc (Nat.le_refl (w.alloc (.cells #[.bool s1a, .slice p1a n1a c1a, .bool s1b, .slice p1b n1b c1b, .bool s1c, .slice p1c n1c c1c, .bool s1d, .slice p1d n1d c1d] 42)).heap.size) (.cells #[.bool s2a, .slice p2a n2a c2a, .bool s2b, .slice p2b n2b c2b, .bool s2c, .slice p2c n2c c2c, .bool s2d, .slice p2d n2d c2d] 42)
  have hx5 := Ibx.new (w.alloc (.cells #[.bool s1a, .slice p1a n1a c1a, .bool s1b, .slice p1b n1b c1b, .bool s1c, .slice p1c n1c c1c, .bool s1d, .slice p1d n1d c1d] 42)) s2a p2a n2a c2a s2b p2b n2b c2b s2c p2c n2c c2c s2d p2d n2d c2d
  rw [hs3] at hx5
  replace X1 := ix X1 hb4
  replace HT1l := wl HT1l hb4
  replace HU1l := wl HU1l hb4
  replace HT1h := wl HT1h hb4
  replace HU1h := wl HU1h hb4
  replace HT2l := wl HT2l hb4
  replace HU2l := wl HU2l hb4
  replace HT2h := wl HT2h hb4
  replace HU2h := wl HU2h hb4
  replace B := bb B hb4
  have X2 := hid hx5
  have hs6 : ((w.alloc (.cells #[.bool s1a, .slice p1a n1a c1a, .bool s1b, .slice p1b n1b c1b, .bool s1c, .slice p1c n1c c1c, .bool s1d, .slice p1d n1d c1d] 42)).alloc (.cells #[.bool s2a, .slice p2a n2a c2a, .bool s2b, .slice p2b n2b c2b, .bool s2c, .slice p2c n2c c2c, .bool s2d, .slice p2d n2d c2d] 42)).heap.size = w.heap.size + 1 + 1 := by simp [hs3]
  clear hb4 hx5
  have hb7 := (Below.refl _ _).alloc (Nat.le_refl ((w.alloc (.cells #[.bool s1a, .slice p1a n1a c1a, .bool s1b, .slice p1b n1b c1b, .bool s1c, .slice p1c n1c c1c, .bool s1d, .slice p1d n1d c1d] 42)).alloc (.cells #[.bool s2a, .slice p2a n2a c2a, .bool s2b, .slice p2b n2b c2b, .bool s2c, .slice p2c n2c c2c, .bool s2d, .slice p2d n2d c2d] 42)).heap.size) (.cells #[.bool false, .slice none 0 0, .bool false, .slice none 0 0, .bool false, .slice none 0 0, .bool false, .slice none 0 0] 42)
  have hx8 := Ibx.new ((w.alloc (.cells #[.bool s1a, .slice p1a n1a c1a, .bool s1b, .slice p1b n1b c1b, .bool s1c, .slice p1c n1c c1c, .bool s1d, .slice p1d n1d c1d] 42)).alloc (.cells #[.bool s2a, .slice p2a n2a c2a, .bool s2b, .slice p2b n2b c2b, .bool s2c, .slice p2c n2c c2c, .bool s2d, .slice p2d n2d c2d] 42)) false none 0 0 false none 0 0 false none 0 0 false none 0 0
  rw [hs6] at hx8
  replace X1 := ix X1 hb7
  replace X2 := ix X2 hb7
  replace HT1l := wl HT1l hb7
  replace HU1l := wl HU1l hb7
  replace HT1h := wl HT1h hb7
  replace HU1h := wl HU1h hb7
  replace HT2l := wl HT2l hb7
  replace HU2l := wl HU2l hb7
  replace HT2h := wl HT2h hb7
  replace HU2h := wl HU2h hb7
  replace B := bb B hb7
  have XV := hid hx8
  have hs9 : (((w.alloc (.cells #[.bool s1a, .slice p1a n1a c1a, .bool s1b, .slice p1b n1b c1b, .bool s1c, .slice p1c n1c c1c, .bool s1d, .slice p1d n1d c1d] 42)).alloc (.cells #[.bool s2a, .slice p2a n2a c2a, .bool s2b, .slice p2b n2b c2b, .bool s2c, .slice p2c n2c c2c, .bool s2d, .slice p2d n2d c2d] 42)).alloc (.cells #[.bool false, .slice none 0 0, .bool false, .slice none 0 0, .bool false, .slice none 0 0, .bool false, .slice none 0 0] 42)).heap.size = w.heap.size + 1 + 1 + 1 := by simp [hs6]
  clear hb7 hx8
  clear hs9 hk hk1 h hl1 hh1 ht1l hu1l hd1l ht1h hu1h hd1h h' hl2 hh2 ht2l hu2l hd2l ht2h hu2h hd2h
  go_enter Try.func24, Try.ntmps24
  obtain ⟨cc10a, cc10b, cc10c, cc10d, cc10e, cc10f, cc10g, cc10h⟩ := X1.out.cells
  obtain ⟨cc11a, cc11b, cc11c, cc11d, cc11e, cc11f, cc11g, cc11h⟩ := X2.out.cells
  obtain ⟨cc12a, cc12b, cc12c, cc12d, cc12e, cc12f, cc12g, cc12h⟩ := XV.out.cells
  go_wp2_with fail
  generalize hW : ((w.alloc (.cells #[.bool s1a, .slice p1a n1a c1a, .bool s1b, .slice p1b n1b c1b, .bool s1c, .slice p1c n1c c1c, .bool s1d, .slice p1d n1d c1d] 42)).alloc (.cells #[.bool s2a, .slice p2a n2a c2a, .bool s2b, .slice p2b n2b c2b, .bool s2c, .slice p2c n2c c2c, .bool s2d, .slice p2d n2d c2d] 42)).alloc (.cells #[.bool false, .slice none 0 0, .bool false, .slice none 0 0, .bool false, .slice none 0 0, .bool false, .slice none 0 0] 42) = W13 at *
  clear hW
  obtain ⟨cc14a, cc14b, cc14c, cc14d, cc14e, cc14f, cc14g, cc14h⟩ := X1.out.cells
  obtain ⟨cc15a, cc15b, cc15c, cc15d, cc15e, cc15f, cc15g, cc15h⟩ := X2.out.cells
  replace X1 := hid X1.out.dr
  replace X2 := hid X2.out.dr
  replace XV := hid XV.out.dr
  replace HT1l := hid HT1l.out.drew
  replace HU1l := hid HU1l.out.drew
  replace HT1h := hid HT1h.out.drew
  replace HU1h := hid HU1h.out.drew
  replace HT2l := hid HT2l.out.drew
  replace HU2l := hid HU2l.out.drew
  replace HT2h := hid HT2h.out.drew
  replace HU2h := hid HU2h.out.drew
  replace B := hid (Below.drew B.out)
  obtain ⟨cc16a, cc16b, cc16c, cc16d, cc16e, cc16f, cc16g, cc16h⟩ := X1.out.cells
  obtain ⟨cc17a, cc17b, cc17c, cc17d, cc17e, cc17f, cc17g, cc17h⟩ := X2.out.cells
  go_region_held3 (fun w' => w'.cell? ⟨w.heap.size, 0, none⟩ = some (.bool s1a) ∧ w'.cell? ⟨w.heap.size, 1, none⟩ = some (.slice p1a n1a c1a) ∧ w'.cell? ⟨w.heap.size, 2, none⟩ = some (.bool s1b) ∧ w'.cell? ⟨w.heap.size, 3, none⟩ = some (.slice p1b n1b c1b) ∧ w'.cell? ⟨w.heap.size, 4, none⟩ = some (.bool s1c) ∧ w'.cell? ⟨w.heap.size, 5, none⟩ = some (.slice p1c n1c c1c) ∧ w'.cell? ⟨w.heap.size, 6, none⟩ = some (.bool s1d) ∧ w'.cell? ⟨w.heap.size, 7, none⟩ = some (.slice p1d n1d c1d) ∧ w'.cell? ⟨w.heap.size + 1, 0, none⟩ = some (.bool s2a) ∧ w'.cell? ⟨w.heap.size + 1, 1, none⟩ = some (.slice p2a n2a c2a) ∧ w'.cell? ⟨w.heap.size + 1, 2, none⟩ = some (.bool s2b) ∧ w'.cell? ⟨w.heap.size + 1, 3, none⟩ = some (.slice p2b n2b c2b) ∧ w'.cell? ⟨w.heap.size + 1, 4, none⟩ = some (.bool s2c) ∧ w'.cell? ⟨w.heap.size + 1, 5, none⟩ = some (.slice p2c n2c c2c) ∧ w'.cell? ⟨w.heap.size + 1, 6, none⟩ = some (.bool s2d) ∧ w'.cell? ⟨w.heap.size + 1, 7, none⟩ = some (.slice p2d n2d c2d)) (go_keep) (first
    | (have hm := mk18_1; clear hm; have hb25 := (Below.refl _ _).alloc (Nat.le_refl w22.heap.size) (.cells #[.bool s4a, .slice p4a n4a c4a, .bool s4b, .slice p4b n4b c4b, .bool s5a, .slice p5a n5a c5a, .bool s5b, .slice p5b n5b c5b] 40); have hx26 := row_new2 (w := w22) (Rtl.mk2 HT4.out HU4.out HD4.out) (Rtl.mk2 HT5.out HU5.out HD5.out); replace X1 := ix X1 hb25; replace X2 := ix X2 hb25; replace XV := ix XV hb25; replace HT1l := wl HT1l hb25; replace HU1l := wl HU1l hb25; replace HT1h := wl HT1h hb25; replace HU1h := wl HU1h hb25; replace HT2l := wl HT2l hb25; replace HU2l := wl HU2l hb25; replace HT2h := wl HT2h hb25; replace HU2h := wl HU2h hb25; replace HT4 := wl HT4 hb25; replace HU4 := wl HU4 hb25; replace HT5 := wl HT5 hb25; replace HU5 := wl HU5 hb25; replace B := bb B hb25; have HR := hid hx26; clear hb25 hx26; go_at_call 39; refine (span_ivl HR.out (by decide) (by decide) (show 1 ≤ k + k + 1 by omega) (by have := HK.out; omega)).mono ?_; rintro e w27 ⟨v, rfl, hv, hb⟩; replace hv : Ivl _ _ (mn (p + r) (q + s)) (mx (p + r) (q + s)) _ := hv; obtain ⟨s3a, p3a, n3a, c3a, s3b, p3b, n3b, c3b, s3c, p3c, n3c, c3c, s3d, p3d, n3d, c3d, rfl⟩ := hv.opened; obtain ⟨hl3, hh3⟩ := hv.two; obtain ⟨ht3l, d3l, hu3l, hd3l⟩ := hl3.two; have HD3l := hid hd3l; obtain ⟨ht3h, d3h, hu3h, hd3h⟩ := hh3.two; have HD3h := hid hd3h; replace X1 := ix X1 hb; replace X2 := ix X2 hb; replace XV := ix XV hb; replace HT1l := wl HT1l hb; replace HU1l := wl HU1l hb; replace HT1h := wl HT1h hb; replace HU1h := wl HU1h hb; replace HT2l := wl HT2l hb; replace HU2l := wl HU2l hb; replace HT2h := wl HT2h hb; replace HU2h := wl HU2h hb; replace HT4 := wl HT4 hb; replace HU4 := wl HU4 hb; replace HT5 := wl HT5 hb; replace HU5 := wl HU5 hb; replace B := bb B hb; clear cc23a cc23b cc23c cc23d cc23e cc23f cc23g cc23h cc24a cc24b cc24c cc24d cc24e cc24f cc24g cc24h; have HT3l := hid ht3l; have HU3l := hid hu3l; have HT3h := hid ht3h; have HU3h := hid hu3h; clear hb hv hl3 hh3 ht3l hu3l hd3l ht3h hu3h hd3h HR; obtain ⟨cc28a, cc28b, cc28c, cc28d, cc28e, cc28f, cc28g, cc28h⟩ := X1.out.cells; obtain ⟨cc29a, cc29b, cc29c, cc29d, cc29e, cc29f, cc29g, cc29h⟩ := X2.out.cells; obtain ⟨⟨cc30a, cc30b⟩, ⟨cc30c, cc30d⟩, ⟨cc30e, cc30f⟩, ⟨cc30g, cc30h⟩, ⟨cc30i, cc30j⟩, ⟨cc30k, cc30l⟩, ⟨cc30m, cc30n⟩, cc30o, cc30p⟩ := XV.out.stores; obtain ⟨r31a, r31b, r31c⟩ := XV.out.last B.out (by omega) s3a p3a n3a c3a s3b p3b n3b c3b s3c p3c n3c c3c s3d p3d n3d c3d; replace X1 := hid ((((((((X1.out.other (g2 := w.heap.size + 1 + 1) (by omega) 0 (.bool s3a)).other (g2 := w.heap.size + 1 + 1) (by omega) 1 (.slice p3a n3a c3a)).other (g2 := w.heap.size + 1 + 1) (by omega) 2 (.bool s3b)).other (g2 := w.heap.size + 1 + 1) (by omega) 3 (.slice p3b n3b c3b)).other (g2 := w.heap.size + 1 + 1) (by omega) 4 (.bool s3c)).other (g2 := w.heap.size + 1 + 1) (by omega) 5 (.slice p3c n3c c3c)).other (g2 := w.heap.size + 1 + 1) (by omega) 6 (.bool s3d)).other (g2 := w.heap.size + 1 + 1) (by omega) 7 (.slice p3d n3d c3d)); replace X2 := hid ((((((((X2.out.other (g2 := w.heap.size + 1 + 1) (by omega) 0 (.bool s3a)).other (g2 := w.heap.size + 1 + 1) (by omega) 1 (.slice p3a n3a c3a)).other (g2 := w.heap.size + 1 + 1) (by omega) 2 (.bool s3b)).other (g2 := w.heap.size + 1 + 1) (by omega) 3 (.slice p3b n3b c3b)).other (g2 := w.heap.size + 1 + 1) (by omega) 4 (.bool s3c)).other (g2 := w.heap.size + 1 + 1) (by omega) 5 (.slice p3c n3c c3c)).other (g2 := w.heap.size + 1 + 1) (by omega) 6 (.bool s3d)).other (g2 := w.heap.size + 1 + 1) (by omega) 7 (.slice p3d n3d c3d)); replace HT1l := hid (r31c HT1l.out); replace HU1l := hid (r31c HU1l.out); replace HT1h := hid (r31c HT1h.out); replace HU1h := hid (r31c HU1h.out); replace HT2l := hid (r31c HT2l.out); replace HU2l := hid (r31c HU2l.out); replace HT2h := hid (r31c HT2h.out); replace HU2h := hid (r31c HU2h.out); replace HT4 := hid (r31c HT4.out); replace HU4 := hid (r31c HU4.out); replace HT5 := hid (r31c HT5.out); replace HU5 := hid (r31c HU5.out); replace HT3l := hid (r31c HT3l.out); replace HU3l := hid (r31c HU3l.out); replace HT3h := hid (r31c HT3h.out); replace HU3h := hid (r31c HU3h.out); replace XV := hid r31a; replace B := hid r31b; clear r31a r31b r31c; obtain ⟨cc32a, cc32b, cc32c, cc32d, cc32e, cc32f, cc32g, cc32h⟩ := X1.out.cells; obtain ⟨cc33a, cc33b, cc33c, cc33d, cc33e, cc33f, cc33g, cc33h⟩ := X2.out.cells; have mk18_2 := hid True.intro)
    | (have hm := mk18_0; clear hm; go_at_call 20; refine (addq_rtl (Rtl.mk2 HT1h.out HU1h.out HD1h.out) (Rtl.mk2 HT2h.out HU2h.out HD2h.out) HK1.out (by have := HK.out; omega)).mono ?_; rintro e w22 ⟨v, rfl, hv, hb⟩; obtain ⟨s5a, p5a, n5a, c5a, s5b, p5b, n5b, c5b, rfl⟩ := hv.opened; obtain ⟨ht5, d5, hu5, hd5⟩ := hv.two; have HD5 := hid hd5; replace X1 := ix X1 hb; replace X2 := ix X2 hb; replace XV := ix XV hb; replace HT1l := wl HT1l hb; replace HU1l := wl HU1l hb; replace HT1h := wl HT1h hb; replace HU1h := wl HU1h hb; replace HT2l := wl HT2l hb; replace HU2l := wl HU2l hb; replace HT2h := wl HT2h hb; replace HU2h := wl HU2h hb; replace HT4 := wl HT4 hb; replace HU4 := wl HU4 hb; replace B := bb B hb; clear cc20a cc20b cc20c cc20d cc20e cc20f cc20g cc20h cc21a cc21b cc21c cc21d cc21e cc21f cc21g cc21h; have HT5 := hid ht5; have HU5 := hid hu5; clear hb hv ht5 hu5 hd5; obtain ⟨cc23a, cc23b, cc23c, cc23d, cc23e, cc23f, cc23g, cc23h⟩ := X1.out.cells; obtain ⟨cc24a, cc24b, cc24c, cc24d, cc24e, cc24f, cc24g, cc24h⟩ := X2.out.cells; have mk18_1 := hid True.intro)
    | (go_at_call 20; refine (addq_rtl (Rtl.mk2 HT1l.out HU1l.out HD1l.out) (Rtl.mk2 HT2l.out HU2l.out HD2l.out) HK1.out (by have := HK.out; omega)).mono ?_; rintro e w19 ⟨v, rfl, hv, hb⟩; obtain ⟨s4a, p4a, n4a, c4a, s4b, p4b, n4b, c4b, rfl⟩ := hv.opened; obtain ⟨ht4, d4, hu4, hd4⟩ := hv.two; have HD4 := hid hd4; replace X1 := ix X1 hb; replace X2 := ix X2 hb; replace XV := ix XV hb; replace HT1l := wl HT1l hb; replace HU1l := wl HU1l hb; replace HT1h := wl HT1h hb; replace HU1h := wl HU1h hb; replace HT2l := wl HT2l hb; replace HU2l := wl HU2l hb; replace HT2h := wl HT2h hb; replace HU2h := wl HU2h hb; replace B := bb B hb; clear cc10a cc10b cc10c cc10d cc10e cc10f cc10g cc10h cc11a cc11b cc11c cc11d cc11e cc11f cc11g cc11h cc12a cc12b cc12c cc12d cc12e cc12f cc12g cc12h cc14a cc14b cc14c cc14d cc14e cc14f cc14g cc14h cc15a cc15b cc15c cc15d cc15e cc15f cc15g cc15h cc16a cc16b cc16c cc16d cc16e cc16f cc16g cc16h cc17a cc17b cc17c cc17d cc17e cc17f cc17g cc17h; have HT4 := hid ht4; have HU4 := hid hu4; clear hb hv ht4 hu4 hd4; obtain ⟨cc20a, cc20b, cc20c, cc20d, cc20e, cc20f, cc20g, cc20h⟩ := X1.out.cells; obtain ⟨cc21a, cc21b, cc21c, cc21d, cc21e, cc21f, cc21g, cc21h⟩ := X2.out.cells; have mk18_0 := hid True.intro))
  go_wp2_with fail
  refine bodyPost_ret (res_ivl rfl rfl XV.out) rfl ?_
  exact ⟨_, rfl, (Ivl.mk2 (Rtl.mk2 HT3l.out HU3l.out HD3l.out) (Rtl.mk2 HT3h.out HU3h.out HD3h.out)), B.out⟩

set_option maxHeartbeats 8000000 in
theorem mul_ivl {w : World} {v u : Value} {p q r s : Rat} {k : Nat} (h : Ivl w v p q k) (h' : Ivl w u r s k) (hk1 : 1 ≤ k) (hk : k ≤ 1073741824) :
    Calls Try.prog 25 #[v, u] w fun e w' => ∃ v, e = .returned v ∧ Ivl w' v (lo4 (p * r) (p * s) (q * r) (q * s)) (hi4 (p * r) (p * s) (q * r) (q * s)) (k + k + 1) ∧ Below w.heap.size w w' := by
  have HK := hid hk
  have HK1 := hid hk1
  obtain ⟨s1a, p1a, n1a, c1a, s1b, p1b, n1b, c1b, s1c, p1c, n1c, c1c, s1d, p1d, n1d, c1d, rfl⟩ := h.opened
  obtain ⟨hl1, hh1⟩ := h.two
  obtain ⟨ht1l, d1l, hu1l, hd1l⟩ := hl1.two
  have HD1l := hid hd1l
  obtain ⟨ht1h, d1h, hu1h, hd1h⟩ := hh1.two
  have HD1h := hid hd1h
  obtain ⟨s2a, p2a, n2a, c2a, s2b, p2b, n2b, c2b, s2c, p2c, n2c, c2c, s2d, p2d, n2d, c2d, rfl⟩ := h'.opened
  obtain ⟨hl2, hh2⟩ := h'.two
  obtain ⟨ht2l, d2l, hu2l, hd2l⟩ := hl2.two
  have HD2l := hid hd2l
  obtain ⟨ht2h, d2h, hu2h, hd2h⟩ := hh2.two
  have HD2h := hid hd2h
  have B := hid (Below.refl w.heap.size w)
  have HT1l := hid ht1l
  have HU1l := hid hu1l
  have HT1h := hid ht1h
  have HU1h := hid hu1h
  have HT2l := hid ht2l
  have HU2l := hid hu2l
  have HT2h := hid ht2h
  have HU2h := hid hu2h
  have hb1 := (Below.refl _ _).alloc (Nat.le_refl w.heap.size) (.cells #[.bool s1a, .slice p1a n1a c1a, .bool s1b, .slice p1b n1b c1b, .bool s1c, .slice p1c n1c c1c, .bool s1d, .slice p1d n1d c1d] 42)
  have hx2 := Ibx.new w s1a p1a n1a c1a s1b p1b n1b c1b s1c p1c n1c c1c s1d p1d n1d c1d
  replace HT1l := wl HT1l hb1
  replace HU1l := wl HU1l hb1
  replace HT1h := wl HT1h hb1
  replace HU1h := wl HU1h hb1
  replace HT2l := wl HT2l hb1
  replace HU2l := wl HU2l hb1
  replace HT2h := wl HT2h hb1
  replace HU2h := wl HU2h hb1
  replace B := bb B hb1
  have X1 := hid hx2
  have hs3 : (w.alloc (.cells #[.bool s1a, .slice p1a n1a c1a, .bool s1b, .slice p1b n1b c1b, .bool s1c, .slice p1c n1c c1c, .bool s1d, .slice p1d n1d c1d] 42)).heap.size = w.heap.size + 1 := by simp
  clear hb1 hx2
  have hb4 := (Below.refl _ _).alloc (Nat.le_refl (w.alloc (.cells #[.bool s1a, .slice p1a n1a c1a, .bool s1b, .slice p1b n1b c1b, .bool s1c, .slice p1c n1c c1c, .bool s1d, .slice p1d n1d c1d] 42)).heap.size) (.cells #[.bool s2a, .slice p2a n2a c2a, .bool s2b, .slice p2b n2b c2b, .bool s2c, .slice p2c n2c c2c, .bool s2d, .slice p2d n2d c2d] 42)
  have hx5 := Ibx.new (w.alloc (.cells #[.bool s1a, .slice p1a n1a c1a, .bool s1b, .slice p1b n1b c1b, .bool s1c, .slice p1c n1c c1c, .bool s1d, .slice p1d n1d c1d] 42)) s2a p2a n2a c2a s2b p2b n2b c2b s2c p2c n2c c2c s2d p2d n2d c2d
  rw [hs3] at hx5
  replace X1 := ix X1 hb4
  replace HT1l := wl HT1l hb4
  replace HU1l := wl HU1l hb4
  replace HT1h := wl HT1h hb4
  replace HU1h := wl HU1h hb4
  replace HT2l := wl HT2l hb4
  replace HU2l := wl HU2l hb4
  replace HT2h := wl HT2h hb4
  replace HU2h := wl HU2h hb4
  replace B := bb B hb4
  have X2 := hid hx5
  have hs6 : ((w.alloc (.cells #[.bool s1a, .slice p1a n1a c1a, .bool s1b, .slice p1b n1b c1b, .bool s1c, .slice p1c n1c c1c, .bool s1d, .slice p1d n1d c1d] 42)).alloc (.cells #[.bool s2a, .slice p2a n2a c2a, .bool s2b, .slice p2b n2b c2b, .bool s2c, .slice p2c n2c c2c, .bool s2d, .slice p2d n2d c2d] 42)).heap.size = w.heap.size + 1 + 1 := by simp [hs3]
  clear hb4 hx5
  have hb7 := (Below.refl _ _).alloc (Nat.le_refl ((w.alloc (.cells #[.bool s1a, .slice p1a n1a c1a, .bool s1b, .slice p1b n1b c1b, .bool s1c, .slice p1c n1c c1c, .bool s1d, .slice p1d n1d c1d] 42)).alloc (.cells #[.bool s2a, .slice p2a n2a c2a, .bool s2b, .slice p2b n2b c2b, .bool s2c, .slice p2c n2c c2c, .bool s2d, .slice p2d n2d c2d] 42)).heap.size) (.cells #[.bool false, .slice none 0 0, .bool false, .slice none 0 0, .bool false, .slice none 0 0, .bool false, .slice none 0 0] 42)
  have hx8 := Ibx.new ((w.alloc (.cells #[.bool s1a, .slice p1a n1a c1a, .bool s1b, .slice p1b n1b c1b, .bool s1c, .slice p1c n1c c1c, .bool s1d, .slice p1d n1d c1d] 42)).alloc (.cells #[.bool s2a, .slice p2a n2a c2a, .bool s2b, .slice p2b n2b c2b, .bool s2c, .slice p2c n2c c2c, .bool s2d, .slice p2d n2d c2d] 42)) false none 0 0 false none 0 0 false none 0 0 false none 0 0
  rw [hs6] at hx8
  replace X1 := ix X1 hb7
  replace X2 := ix X2 hb7
  replace HT1l := wl HT1l hb7
  replace HU1l := wl HU1l hb7
  replace HT1h := wl HT1h hb7
  replace HU1h := wl HU1h hb7
  replace HT2l := wl HT2l hb7
  replace HU2l := wl HU2l hb7
  replace HT2h := wl HT2h hb7
  replace HU2h := wl HU2h hb7
  replace B := bb B hb7
  have XV := hid hx8
  have hs9 : (((w.alloc (.cells #[.bool s1a, .slice p1a n1a c1a, .bool s1b, .slice p1b n1b c1b, .bool s1c, .slice p1c n1c c1c, .bool s1d, .slice p1d n1d c1d] 42)).alloc (.cells #[.bool s2a, .slice p2a n2a c2a, .bool s2b, .slice p2b n2b c2b, .bool s2c, .slice p2c n2c c2c, .bool s2d, .slice p2d n2d c2d] 42)).alloc (.cells #[.bool false, .slice none 0 0, .bool false, .slice none 0 0, .bool false, .slice none 0 0, .bool false, .slice none 0 0] 42)).heap.size = w.heap.size + 1 + 1 + 1 := by simp [hs6]
  clear hb7 hx8
  clear hs9 hk hk1 h hl1 hh1 ht1l hu1l hd1l ht1h hu1h hd1h h' hl2 hh2 ht2l hu2l hd2l ht2h hu2h hd2h
  go_enter Try.func25, Try.ntmps25
  obtain ⟨cc10a, cc10b, cc10c, cc10d, cc10e, cc10f, cc10g, cc10h⟩ := X1.out.cells
  obtain ⟨cc11a, cc11b, cc11c, cc11d, cc11e, cc11f, cc11g, cc11h⟩ := X2.out.cells
  obtain ⟨cc12a, cc12b, cc12c, cc12d, cc12e, cc12f, cc12g, cc12h⟩ := XV.out.cells
  go_wp2_with fail
  generalize hW : ((w.alloc (.cells #[.bool s1a, .slice p1a n1a c1a, .bool s1b, .slice p1b n1b c1b, .bool s1c, .slice p1c n1c c1c, .bool s1d, .slice p1d n1d c1d] 42)).alloc (.cells #[.bool s2a, .slice p2a n2a c2a, .bool s2b, .slice p2b n2b c2b, .bool s2c, .slice p2c n2c c2c, .bool s2d, .slice p2d n2d c2d] 42)).alloc (.cells #[.bool false, .slice none 0 0, .bool false, .slice none 0 0, .bool false, .slice none 0 0, .bool false, .slice none 0 0] 42) = W13 at *
  clear hW
  obtain ⟨cc14a, cc14b, cc14c, cc14d, cc14e, cc14f, cc14g, cc14h⟩ := X1.out.cells
  obtain ⟨cc15a, cc15b, cc15c, cc15d, cc15e, cc15f, cc15g, cc15h⟩ := X2.out.cells
  replace X1 := hid X1.out.dr
  replace X2 := hid X2.out.dr
  replace XV := hid XV.out.dr
  replace HT1l := hid HT1l.out.drew
  replace HU1l := hid HU1l.out.drew
  replace HT1h := hid HT1h.out.drew
  replace HU1h := hid HU1h.out.drew
  replace HT2l := hid HT2l.out.drew
  replace HU2l := hid HU2l.out.drew
  replace HT2h := hid HT2h.out.drew
  replace HU2h := hid HU2h.out.drew
  replace B := hid (Below.drew B.out)
  obtain ⟨cc16a, cc16b, cc16c, cc16d, cc16e, cc16f, cc16g, cc16h⟩ := X1.out.cells
  obtain ⟨cc17a, cc17b, cc17c, cc17d, cc17e, cc17f, cc17g, cc17h⟩ := X2.out.cells
  go_region_held3 (fun w' => w'.cell? ⟨w.heap.size, 0, none⟩ = some (.bool s1a) ∧ w'.cell? ⟨w.heap.size, 1, none⟩ = some (.slice p1a n1a c1a) ∧ w'.cell? ⟨w.heap.size, 2, none⟩ = some (.bool s1b) ∧ w'.cell? ⟨w.heap.size, 3, none⟩ = some (.slice p1b n1b c1b) ∧ w'.cell? ⟨w.heap.size, 4, none⟩ = some (.bool s1c) ∧ w'.cell? ⟨w.heap.size, 5, none⟩ = some (.slice p1c n1c c1c) ∧ w'.cell? ⟨w.heap.size, 6, none⟩ = some (.bool s1d) ∧ w'.cell? ⟨w.heap.size, 7, none⟩ = some (.slice p1d n1d c1d) ∧ w'.cell? ⟨w.heap.size + 1, 0, none⟩ = some (.bool s2a) ∧ w'.cell? ⟨w.heap.size + 1, 1, none⟩ = some (.slice p2a n2a c2a) ∧ w'.cell? ⟨w.heap.size + 1, 2, none⟩ = some (.bool s2b) ∧ w'.cell? ⟨w.heap.size + 1, 3, none⟩ = some (.slice p2b n2b c2b) ∧ w'.cell? ⟨w.heap.size + 1, 4, none⟩ = some (.bool s2c) ∧ w'.cell? ⟨w.heap.size + 1, 5, none⟩ = some (.slice p2c n2c c2c) ∧ w'.cell? ⟨w.heap.size + 1, 6, none⟩ = some (.bool s2d) ∧ w'.cell? ⟨w.heap.size + 1, 7, none⟩ = some (.slice p2d n2d c2d)) (go_keep) (first
    | (have hm := mk18_3; clear hm; have hb31 := (Below.refl _ _).alloc (Nat.le_refl w28.heap.size) (.cells #[.bool s4a, .slice p4a n4a c4a, .bool s4b, .slice p4b n4b c4b, .bool s5a, .slice p5a n5a c5a, .bool s5b, .slice p5b n5b c5b, .bool s6a, .slice p6a n6a c6a, .bool s6b, .slice p6b n6b c6b, .bool s7a, .slice p7a n7a c7a, .bool s7b, .slice p7b n7b c7b] 40); have hx32 := row_new4 (w := w28) (Rtl.mk2 HT4.out HU4.out HD4.out) (Rtl.mk2 HT5.out HU5.out HD5.out) (Rtl.mk2 HT6.out HU6.out HD6.out) (Rtl.mk2 HT7.out HU7.out HD7.out); replace X1 := ix X1 hb31; replace X2 := ix X2 hb31; replace XV := ix XV hb31; replace HT1l := wl HT1l hb31; replace HU1l := wl HU1l hb31; replace HT1h := wl HT1h hb31; replace HU1h := wl HU1h hb31; replace HT2l := wl HT2l hb31; replace HU2l := wl HU2l hb31; replace HT2h := wl HT2h hb31; replace HU2h := wl HU2h hb31; replace HT4 := wl HT4 hb31; replace HU4 := wl HU4 hb31; replace HT5 := wl HT5 hb31; replace HU5 := wl HU5 hb31; replace HT6 := wl HT6 hb31; replace HU6 := wl HU6 hb31; replace HT7 := wl HT7 hb31; replace HU7 := wl HU7 hb31; replace B := bb B hb31; have HR := hid hx32; clear hb31 hx32; go_at_call 39; refine (span_ivl HR.out (by decide) (by decide) (show 1 ≤ k + k + 1 by omega) (by have := HK.out; omega)).mono ?_; rintro e w33 ⟨v, rfl, hv, hb⟩; replace hv : Ivl _ _ (lo4 (p * r) (p * s) (q * r) (q * s)) (hi4 (p * r) (p * s) (q * r) (q * s)) _ := hv; obtain ⟨s3a, p3a, n3a, c3a, s3b, p3b, n3b, c3b, s3c, p3c, n3c, c3c, s3d, p3d, n3d, c3d, rfl⟩ := hv.opened; obtain ⟨hl3, hh3⟩ := hv.two; obtain ⟨ht3l, d3l, hu3l, hd3l⟩ := hl3.two; have HD3l := hid hd3l; obtain ⟨ht3h, d3h, hu3h, hd3h⟩ := hh3.two; have HD3h := hid hd3h; replace X1 := ix X1 hb; replace X2 := ix X2 hb; replace XV := ix XV hb; replace HT1l := wl HT1l hb; replace HU1l := wl HU1l hb; replace HT1h := wl HT1h hb; replace HU1h := wl HU1h hb; replace HT2l := wl HT2l hb; replace HU2l := wl HU2l hb; replace HT2h := wl HT2h hb; replace HU2h := wl HU2h hb; replace HT4 := wl HT4 hb; replace HU4 := wl HU4 hb; replace HT5 := wl HT5 hb; replace HU5 := wl HU5 hb; replace HT6 := wl HT6 hb; replace HU6 := wl HU6 hb; replace HT7 := wl HT7 hb; replace HU7 := wl HU7 hb; replace B := bb B hb; clear cc29a cc29b cc29c cc29d cc29e cc29f cc29g cc29h cc30a cc30b cc30c cc30d cc30e cc30f cc30g cc30h; have HT3l := hid ht3l; have HU3l := hid hu3l; have HT3h := hid ht3h; have HU3h := hid hu3h; clear hb hv hl3 hh3 ht3l hu3l hd3l ht3h hu3h hd3h HR; obtain ⟨cc34a, cc34b, cc34c, cc34d, cc34e, cc34f, cc34g, cc34h⟩ := X1.out.cells; obtain ⟨cc35a, cc35b, cc35c, cc35d, cc35e, cc35f, cc35g, cc35h⟩ := X2.out.cells; obtain ⟨⟨cc36a, cc36b⟩, ⟨cc36c, cc36d⟩, ⟨cc36e, cc36f⟩, ⟨cc36g, cc36h⟩, ⟨cc36i, cc36j⟩, ⟨cc36k, cc36l⟩, ⟨cc36m, cc36n⟩, cc36o, cc36p⟩ := XV.out.stores; obtain ⟨r37a, r37b, r37c⟩ := XV.out.last B.out (by omega) s3a p3a n3a c3a s3b p3b n3b c3b s3c p3c n3c c3c s3d p3d n3d c3d; replace X1 := hid ((((((((X1.out.other (g2 := w.heap.size + 1 + 1) (by omega) 0 (.bool s3a)).other (g2 := w.heap.size + 1 + 1) (by omega) 1 (.slice p3a n3a c3a)).other (g2 := w.heap.size + 1 + 1) (by omega) 2 (.bool s3b)).other (g2 := w.heap.size + 1 + 1) (by omega) 3 (.slice p3b n3b c3b)).other (g2 := w.heap.size + 1 + 1) (by omega) 4 (.bool s3c)).other (g2 := w.heap.size + 1 + 1) (by omega) 5 (.slice p3c n3c c3c)).other (g2 := w.heap.size + 1 + 1) (by omega) 6 (.bool s3d)).other (g2 := w.heap.size + 1 + 1) (by omega) 7 (.slice p3d n3d c3d)); replace X2 := hid ((((((((X2.out.other (g2 := w.heap.size + 1 + 1) (by omega) 0 (.bool s3a)).other (g2 := w.heap.size + 1 + 1) (by omega) 1 (.slice p3a n3a c3a)).other (g2 := w.heap.size + 1 + 1) (by omega) 2 (.bool s3b)).other (g2 := w.heap.size + 1 + 1) (by omega) 3 (.slice p3b n3b c3b)).other (g2 := w.heap.size + 1 + 1) (by omega) 4 (.bool s3c)).other (g2 := w.heap.size + 1 + 1) (by omega) 5 (.slice p3c n3c c3c)).other (g2 := w.heap.size + 1 + 1) (by omega) 6 (.bool s3d)).other (g2 := w.heap.size + 1 + 1) (by omega) 7 (.slice p3d n3d c3d)); replace HT1l := hid (r37c HT1l.out); replace HU1l := hid (r37c HU1l.out); replace HT1h := hid (r37c HT1h.out); replace HU1h := hid (r37c HU1h.out); replace HT2l := hid (r37c HT2l.out); replace HU2l := hid (r37c HU2l.out); replace HT2h := hid (r37c HT2h.out); replace HU2h := hid (r37c HU2h.out); replace HT4 := hid (r37c HT4.out); replace HU4 := hid (r37c HU4.out); replace HT5 := hid (r37c HT5.out); replace HU5 := hid (r37c HU5.out); replace HT6 := hid (r37c HT6.out); replace HU6 := hid (r37c HU6.out); replace HT7 := hid (r37c HT7.out); replace HU7 := hid (r37c HU7.out); replace HT3l := hid (r37c HT3l.out); replace HU3l := hid (r37c HU3l.out); replace HT3h := hid (r37c HT3h.out); replace HU3h := hid (r37c HU3h.out); replace XV := hid r37a; replace B := hid r37b; clear r37a r37b r37c; obtain ⟨cc38a, cc38b, cc38c, cc38d, cc38e, cc38f, cc38g, cc38h⟩ := X1.out.cells; obtain ⟨cc39a, cc39b, cc39c, cc39d, cc39e, cc39f, cc39g, cc39h⟩ := X2.out.cells; have mk18_4 := hid True.intro)
    | (have hm := mk18_2; clear hm; go_at_call 22; refine (mulq_rtl (Rtl.mk2 HT1h.out HU1h.out HD1h.out) (Rtl.mk2 HT2h.out HU2h.out HD2h.out) HK1.out (by have := HK.out; omega)).mono ?_; rintro e w28 ⟨v, rfl, hv, hb⟩; obtain ⟨s7a, p7a, n7a, c7a, s7b, p7b, n7b, c7b, rfl⟩ := hv.opened; obtain ⟨ht7, d7, hu7, hd7⟩ := hv.two; have HD7 := hid hd7; replace X1 := ix X1 hb; replace X2 := ix X2 hb; replace XV := ix XV hb; replace HT1l := wl HT1l hb; replace HU1l := wl HU1l hb; replace HT1h := wl HT1h hb; replace HU1h := wl HU1h hb; replace HT2l := wl HT2l hb; replace HU2l := wl HU2l hb; replace HT2h := wl HT2h hb; replace HU2h := wl HU2h hb; replace HT4 := wl HT4 hb; replace HU4 := wl HU4 hb; replace HT5 := wl HT5 hb; replace HU5 := wl HU5 hb; replace HT6 := wl HT6 hb; replace HU6 := wl HU6 hb; replace B := bb B hb; clear cc26a cc26b cc26c cc26d cc26e cc26f cc26g cc26h cc27a cc27b cc27c cc27d cc27e cc27f cc27g cc27h; have HT7 := hid ht7; have HU7 := hid hu7; clear hb hv ht7 hu7 hd7; obtain ⟨cc29a, cc29b, cc29c, cc29d, cc29e, cc29f, cc29g, cc29h⟩ := X1.out.cells; obtain ⟨cc30a, cc30b, cc30c, cc30d, cc30e, cc30f, cc30g, cc30h⟩ := X2.out.cells; have mk18_3 := hid True.intro)
    | (have hm := mk18_1; clear hm; go_at_call 22; refine (mulq_rtl (Rtl.mk2 HT1h.out HU1h.out HD1h.out) (Rtl.mk2 HT2l.out HU2l.out HD2l.out) HK1.out (by have := HK.out; omega)).mono ?_; rintro e w25 ⟨v, rfl, hv, hb⟩; obtain ⟨s6a, p6a, n6a, c6a, s6b, p6b, n6b, c6b, rfl⟩ := hv.opened; obtain ⟨ht6, d6, hu6, hd6⟩ := hv.two; have HD6 := hid hd6; replace X1 := ix X1 hb; replace X2 := ix X2 hb; replace XV := ix XV hb; replace HT1l := wl HT1l hb; replace HU1l := wl HU1l hb; replace HT1h := wl HT1h hb; replace HU1h := wl HU1h hb; replace HT2l := wl HT2l hb; replace HU2l := wl HU2l hb; replace HT2h := wl HT2h hb; replace HU2h := wl HU2h hb; replace HT4 := wl HT4 hb; replace HU4 := wl HU4 hb; replace HT5 := wl HT5 hb; replace HU5 := wl HU5 hb; replace B := bb B hb; clear cc23a cc23b cc23c cc23d cc23e cc23f cc23g cc23h cc24a cc24b cc24c cc24d cc24e cc24f cc24g cc24h; have HT6 := hid ht6; have HU6 := hid hu6; clear hb hv ht6 hu6 hd6; obtain ⟨cc26a, cc26b, cc26c, cc26d, cc26e, cc26f, cc26g, cc26h⟩ := X1.out.cells; obtain ⟨cc27a, cc27b, cc27c, cc27d, cc27e, cc27f, cc27g, cc27h⟩ := X2.out.cells; have mk18_2 := hid True.intro)
    | (have hm := mk18_0; clear hm; go_at_call 22; refine (mulq_rtl (Rtl.mk2 HT1l.out HU1l.out HD1l.out) (Rtl.mk2 HT2h.out HU2h.out HD2h.out) HK1.out (by have := HK.out; omega)).mono ?_; rintro e w22 ⟨v, rfl, hv, hb⟩; obtain ⟨s5a, p5a, n5a, c5a, s5b, p5b, n5b, c5b, rfl⟩ := hv.opened; obtain ⟨ht5, d5, hu5, hd5⟩ := hv.two; have HD5 := hid hd5; replace X1 := ix X1 hb; replace X2 := ix X2 hb; replace XV := ix XV hb; replace HT1l := wl HT1l hb; replace HU1l := wl HU1l hb; replace HT1h := wl HT1h hb; replace HU1h := wl HU1h hb; replace HT2l := wl HT2l hb; replace HU2l := wl HU2l hb; replace HT2h := wl HT2h hb; replace HU2h := wl HU2h hb; replace HT4 := wl HT4 hb; replace HU4 := wl HU4 hb; replace B := bb B hb; clear cc20a cc20b cc20c cc20d cc20e cc20f cc20g cc20h cc21a cc21b cc21c cc21d cc21e cc21f cc21g cc21h; have HT5 := hid ht5; have HU5 := hid hu5; clear hb hv ht5 hu5 hd5; obtain ⟨cc23a, cc23b, cc23c, cc23d, cc23e, cc23f, cc23g, cc23h⟩ := X1.out.cells; obtain ⟨cc24a, cc24b, cc24c, cc24d, cc24e, cc24f, cc24g, cc24h⟩ := X2.out.cells; have mk18_1 := hid True.intro)
    | (go_at_call 22; refine (mulq_rtl (Rtl.mk2 HT1l.out HU1l.out HD1l.out) (Rtl.mk2 HT2l.out HU2l.out HD2l.out) HK1.out (by have := HK.out; omega)).mono ?_; rintro e w19 ⟨v, rfl, hv, hb⟩; obtain ⟨s4a, p4a, n4a, c4a, s4b, p4b, n4b, c4b, rfl⟩ := hv.opened; obtain ⟨ht4, d4, hu4, hd4⟩ := hv.two; have HD4 := hid hd4; replace X1 := ix X1 hb; replace X2 := ix X2 hb; replace XV := ix XV hb; replace HT1l := wl HT1l hb; replace HU1l := wl HU1l hb; replace HT1h := wl HT1h hb; replace HU1h := wl HU1h hb; replace HT2l := wl HT2l hb; replace HU2l := wl HU2l hb; replace HT2h := wl HT2h hb; replace HU2h := wl HU2h hb; replace B := bb B hb; clear cc10a cc10b cc10c cc10d cc10e cc10f cc10g cc10h cc11a cc11b cc11c cc11d cc11e cc11f cc11g cc11h cc12a cc12b cc12c cc12d cc12e cc12f cc12g cc12h cc14a cc14b cc14c cc14d cc14e cc14f cc14g cc14h cc15a cc15b cc15c cc15d cc15e cc15f cc15g cc15h cc16a cc16b cc16c cc16d cc16e cc16f cc16g cc16h cc17a cc17b cc17c cc17d cc17e cc17f cc17g cc17h; have HT4 := hid ht4; have HU4 := hid hu4; clear hb hv ht4 hu4 hd4; obtain ⟨cc20a, cc20b, cc20c, cc20d, cc20e, cc20f, cc20g, cc20h⟩ := X1.out.cells; obtain ⟨cc21a, cc21b, cc21c, cc21d, cc21e, cc21f, cc21g, cc21h⟩ := X2.out.cells; have mk18_0 := hid True.intro))
  go_wp2_with fail
  refine bodyPost_ret (res_ivl rfl rfl XV.out) rfl ?_
  exact ⟨_, rfl, (Ivl.mk2 (Rtl.mk2 HT3l.out HU3l.out HD3l.out) (Rtl.mk2 HT3h.out HU3h.out HD3h.out)), B.out⟩

end Go.Proofs.Ytkdeopikojgboaa

/-
  PACKAGE ival: combine, Add, Mul, Hull.
-/
namespace Go.Proofs.Ytkdeopikojgboaa
open Go.RowKit
open Num
set_option linter.unusedVariables false
set_option maxRecDepth 100000
set_option linter.unusedSimpArgs false

set_option maxHeartbeats 4000000 in
theorem combine_bad {a b c d : ByteArray} {k : Int} {f : Value} (h : WrongI a b c d k) (ha : a.size ≤ maxLen) (hb0 : b.size ≤ maxLen) (hc0 : c.size ≤ maxLen) (hd0 : d.size ≤ maxLen) (w : World) :
    Calls Try.prog 23 #[.agg #[.string a, .string b], .agg #[.string c, .string d], f] w fun e w' => e = .returned (.tuple #[.agg #[.string ⟨#[]⟩, .string ⟨#[]⟩], errno k]) ∧ Below w.heap.size w w' := by
  have hne := errv_neq
  have hgd := errv_guard
  have hkk := errv_some h.ne
  have H1 := hid (fun w => iboth_bad h ha hb0 hc0 hd0 w)
  have B := hid (Below.refl w.heap.size w)
  have hb1 := (Below.refl _ _).alloc (Nat.le_refl w.heap.size) (.cells #[.string a, .string b] 23)
  have hx2 := Vbx.new w a b
  replace B := bb B hb1
  have X1 := hid hx2
  have hs3 : (w.alloc (.cells #[.string a, .string b] 23)).heap.size = w.heap.size + 1 := by simp
  clear hb1 hx2
  have hb4 := (Below.refl _ _).alloc (Nat.le_refl (w.alloc (.cells #[.string a, .string b] 23)).heap.size) (.cells #[.string c, .string d] 23)
  have hx5 := Vbx.new (w.alloc (.cells #[.string a, .string b] 23)) c d
  rw [hs3] at hx5
  replace X1 := vx X1 hb4
  replace B := bb B hb4
  have X2 := hid hx5
  have hs6 : ((w.alloc (.cells #[.string a, .string b] 23)).alloc (.cells #[.string c, .string d] 23)).heap.size = w.heap.size + 1 + 1 := by simp [hs3]
  clear hb4 hx5
  have hb7 := (Below.refl _ _).alloc (Nat.le_refl ((w.alloc (.cells #[.string a, .string b] 23)).alloc (.cells #[.string c, .string d] 23)).heap.size) (.cells #[.string ⟨#[]⟩, .string ⟨#[]⟩] 23)
  have hx8 := Vbx.new ((w.alloc (.cells #[.string a, .string b] 23)).alloc (.cells #[.string c, .string d] 23)) ⟨#[]⟩ ⟨#[]⟩
  rw [hs6] at hx8
  replace X1 := vx X1 hb7
  replace X2 := vx X2 hb7
  replace B := bb B hb7
  have XV := hid hx8
  have hs9 : (((w.alloc (.cells #[.string a, .string b] 23)).alloc (.cells #[.string c, .string d] 23)).alloc (.cells #[.string ⟨#[]⟩, .string ⟨#[]⟩] 23)).heap.size = w.heap.size + 1 + 1 + 1 := by simp [hs6]
  clear hb7 hx8
  clear hs9 h
  go_enter Try.func23, Try.ntmps23
  obtain ⟨cc10a, cc10b⟩ := X1.out.both
  obtain ⟨cc11a, cc11b⟩ := X2.out.both
  obtain ⟨cc12a, cc12b⟩ := XV.out.both
  go_wp2_with fail
  generalize hW : ((w.alloc (.cells #[.string a, .string b] 23)).alloc (.cells #[.string c, .string d] 23)).alloc (.cells #[.string ⟨#[]⟩, .string ⟨#[]⟩] 23) = W13 at *
  clear hW
  refine (H1.out _).mono ?_
  rintro e w14 ⟨rfl, hb⟩
  replace XV := vx XV hb
  replace B := bb B hb
  clear cc10a cc10b cc11a cc11b cc12a cc12b
  clear hb H1
  have hb15 := (Below.refl _ _).alloc (Nat.le_refl w14.heap.size) (.cells #[.bool false, .slice none 0 0, .bool false, .slice none 0 0, .bool false, .slice none 0 0, .bool false, .slice none 0 0] 42)
  have hx16 := Ibx.new w14 false none 0 0 false none 0 0 false none 0 0 false none 0 0
  have L0 := hid XV.out.lt
  replace XV := vx XV hb15
  replace B := bb B hb15
  have X5 := hid hx16
  have hs17 : (w14.alloc (.cells #[.bool false, .slice none 0 0, .bool false, .slice none 0 0, .bool false, .slice none 0 0, .bool false, .slice none 0 0] 42)).heap.size = w14.heap.size + 1 := by simp
  clear hb15 hx16
  have hb18 := (Below.refl _ _).alloc (Nat.le_refl (w14.alloc (.cells #[.bool false, .slice none 0 0, .bool false, .slice none 0 0, .bool false, .slice none 0 0, .bool false, .slice none 0 0] 42)).heap.size) (.cells #[.bool false, .slice none 0 0, .bool false, .slice none 0 0, .bool false, .slice none 0 0, .bool false, .slice none 0 0] 42)
  have hx19 := Ibx.new (w14.alloc (.cells #[.bool false, .slice none 0 0, .bool false, .slice none 0 0, .bool false, .slice none 0 0, .bool false, .slice none 0 0] 42)) false none 0 0 false none 0 0 false none 0 0 false none 0 0
  rw [hs17] at hx19
  replace XV := vx XV hb18
  replace X5 := ix X5 hb18
  replace B := bb B hb18
  have X6 := hid hx19
  have hs20 : ((w14.alloc (.cells #[.bool false, .slice none 0 0, .bool false, .slice none 0 0, .bool false, .slice none 0 0, .bool false, .slice none 0 0] 42)).alloc (.cells #[.bool false, .slice none 0 0, .bool false, .slice none 0 0, .bool false, .slice none 0 0, .bool false, .slice none 0 0] 42)).heap.size = w14.heap.size + 1 + 1 := by simp [hs17]
  clear hb18 hx19
  obtain ⟨cc21a, cc21b⟩ := XV.out.both
  obtain ⟨cc22a, cc22b, cc22c, cc22d, cc22e, cc22f, cc22g, cc22h⟩ := X5.out.cells
  obtain ⟨cc23a, cc23b, cc23c, cc23d, cc23e, cc23f, cc23g, cc23h⟩ := X6.out.cells
  obtain ⟨cc24a, cc24b, cc24c, cc24d⟩ := XV.out.stores
  obtain ⟨r25a, r25b, r25c⟩ := XV.out.last B.out (by have := L0.out; omega) ⟨#[]⟩ ⟨#[]⟩
  replace X5 := hid ((X5.out.other (g2 := w.heap.size + 1 + 1) (by have := L0.out; omega) 0 (.string ⟨#[]⟩)).other (g2 := w.heap.size + 1 + 1) (by have := L0.out; omega) 1 (.string ⟨#[]⟩))
  replace X6 := hid ((X6.out.other (g2 := w.heap.size + 1 + 1) (by have := L0.out; omega) 0 (.string ⟨#[]⟩)).other (g2 := w.heap.size + 1 + 1) (by have := L0.out; omega) 1 (.string ⟨#[]⟩))
  replace XV := hid r25a
  replace B := hid r25b
  clear r25a r25b r25c
  obtain ⟨cc26a, cc26b⟩ := XV.out.both
  obtain ⟨cc27a, cc27b, cc27c, cc27d, cc27e, cc27f, cc27g, cc27h⟩ := X5.out.cells
  obtain ⟨cc28a, cc28b, cc28c, cc28d, cc28e, cc28f, cc28g, cc28h⟩ := X6.out.cells
  go_wp2_with fail
  refine bodyPost_ret (res_ival_tmp rfl rfl rfl XV.out) rfl ?_
  exact ⟨rfl, B.out⟩

set_option maxHeartbeats 4000000 in
theorem combine_add {a b c d : ByteArray} (h1 : GoodI a b) (h2 : GoodI c d) (w : World) :
    Calls Try.prog 23 #[.agg #[.string a, .string b], .agg #[.string c, .string d], .func (.func 24) #[] #[]] w fun e w' => e = .returned (.tuple #[.agg #[.string (qtxt (mn ((qnum a) + (qnum c)) ((qnum b) + (qnum d)))), .string (qtxt (mx ((qnum a) + (qnum c)) ((qnum b) + (qnum d))))], .nilIface]) ∧ Below w.heap.size w w' := by
  have hne := errv_neq
  have hgd := errv_guard
  have H1 := hid (fun w => iboth_3 h1 h2 w)
  have B := hid (Below.refl w.heap.size w)
  have hb1 := (Below.refl _ _).alloc (Nat.le_refl w.heap.size) (.cells #[.string a, .string b] 23)
  have hx2 := Vbx.new w a b
  replace B := bb B hb1
  have X1 := hid hx2
  have hs3 : (w.alloc (.cells #[.string a, .string b] 23)).heap.size = w.heap.size + 1 := by simp
  clear hb1 hx2
  have hb4 := (Below.refl _ _).alloc (Nat.le_refl (w.alloc (.cells #[.string a, .string b] 23)).heap.size) (.cells #[.string c, .string d] 23)
  have hx5 := Vbx.new (w.alloc (.cells #[.string a, .string b] 23)) c d
  rw [hs3] at hx5
  replace X1 := vx X1 hb4
  replace B := bb B hb4
  have X2 := hid hx5
  have hs6 : ((w.alloc (.cells #[.string a, .string b] 23)).alloc (.cells #[.string c, .string d] 23)).heap.size = w.heap.size + 1 + 1 := by simp [hs3]
  clear hb4 hx5
  have hb7 := (Below.refl _ _).alloc (Nat.le_refl ((w.alloc (.cells #[.string a, .string b] 23)).alloc (.cells #[.string c, .string d] 23)).heap.size) (.cells #[.string ⟨#[]⟩, .string ⟨#[]⟩] 23)
  have hx8 := Vbx.new ((w.alloc (.cells #[.string a, .string b] 23)).alloc (.cells #[.string c, .string d] 23)) ⟨#[]⟩ ⟨#[]⟩
  rw [hs6] at hx8
  replace X1 := vx X1 hb7
  replace X2 := vx X2 hb7
  replace B := bb B hb7
  have XV := hid hx8
  have hs9 : (((w.alloc (.cells #[.string a, .string b] 23)).alloc (.cells #[.string c, .string d] 23)).alloc (.cells #[.string ⟨#[]⟩, .string ⟨#[]⟩] 23)).heap.size = w.heap.size + 1 + 1 + 1 := by simp [hs6]
  clear hb7 hx8
  clear hs9 h1 h2
  go_enter Try.func23, Try.ntmps23
  obtain ⟨cc10a, cc10b⟩ := X1.out.both
  obtain ⟨cc11a, cc11b⟩ := X2.out.both
  obtain ⟨cc12a, cc12b⟩ := XV.out.both
  go_wp2_with fail
  generalize hW : ((w.alloc (.cells #[.string a, .string b] 23)).alloc (.cells #[.string c, .string d] 23)).alloc (.cells #[.string ⟨#[]⟩, .string ⟨#[]⟩] 23) = W13 at *
  clear hW
  refine (H1.out _).mono ?_
  rintro e w14 ⟨v, u, rfl, hv, hu, hb⟩
  obtain ⟨s5a, p5a, n5a, c5a, s5b, p5b, n5b, c5b, s5c, p5c, n5c, c5c, s5d, p5d, n5d, c5d, rfl⟩ := hv.opened
  obtain ⟨hl5, hh5⟩ := hv.two
  obtain ⟨ht5l, d5l, hu5l, hd5l⟩ := hl5.two
  have HD5l := hid hd5l
  obtain ⟨ht5h, d5h, hu5h, hd5h⟩ := hh5.two
  have HD5h := hid hd5h
  obtain ⟨s6a, p6a, n6a, c6a, s6b, p6b, n6b, c6b, s6c, p6c, n6c, c6c, s6d, p6d, n6d, c6d, rfl⟩ := hu.opened
  obtain ⟨hl6, hh6⟩ := hu.two
  obtain ⟨ht6l, d6l, hu6l, hd6l⟩ := hl6.two
  have HD6l := hid hd6l
  obtain ⟨ht6h, d6h, hu6h, hd6h⟩ := hh6.two
  have HD6h := hid hd6h
  replace XV := vx XV hb
  replace B := bb B hb
  clear cc10a cc10b cc11a cc11b cc12a cc12b
  have HT5l := hid ht5l
  have HU5l := hid hu5l
  have HT5h := hid ht5h
  have HU5h := hid hu5h
  have HT6l := hid ht6l
  have HU6l := hid hu6l
  have HT6h := hid ht6h
  have HU6h := hid hu6h
  clear hb hv hl5 hh5 ht5l hu5l hd5l ht5h hu5h hd5h hu hl6 hh6 ht6l hu6l hd6l ht6h hu6h hd6h H1
  have hb15 := (Below.refl _ _).alloc (Nat.le_refl w14.heap.size) (.cells #[.bool s5a, .slice p5a n5a c5a, .bool s5b, .slice p5b n5b c5b, .bool s5c, .slice p5c n5c c5c, .bool s5d, .slice p5d n5d c5d] 42)
  have hx16 := Ibx.new w14 s5a p5a n5a c5a s5b p5b n5b c5b s5c p5c n5c c5c s5d p5d n5d c5d
  have L0 := hid XV.out.lt
  replace XV := vx XV hb15
  replace HT5l := wl HT5l hb15
  replace HU5l := wl HU5l hb15
  replace HT5h := wl HT5h hb15
  replace HU5h := wl HU5h hb15
  replace HT6l := wl HT6l hb15
  replace HU6l := wl HU6l hb15
  replace HT6h := wl HT6h hb15
  replace HU6h := wl HU6h hb15
  replace B := bb B hb15
  have X5 := hid hx16
  have hs17 : (w14.alloc (.cells #[.bool s5a, .slice p5a n5a c5a, .bool s5b, .slice p5b n5b c5b, .bool s5c, .slice p5c n5c c5c, .bool s5d, .slice p5d n5d c5d] 42)).heap.size = w14.heap.size + 1 := by simp
  clear hb15 hx16
  have hb18 := (Below.refl _ _).alloc (Nat.le_refl (w14.alloc (.cells #[.bool s5a, .slice p5a n5a c5a, .bool s5b, .slice p5b n5b c5b, .bool s5c, .slice p5c n5c c5c, .bool s5d, .slice p5d n5d c5d] 42)).heap.size) (.cells #[.bool s6a, .slice p6a n6a c6a, .bool s6b, .slice p6b n6b c6b, .bool s6c, .slice p6c n6c c6c, .bool s6d, .slice p6d n6d c6d] 42)
  have hx19 := Ibx.new (w14.alloc (.cells #[.bool s5a, .slice p5a n5a c5a, .bool s5b, .slice p5b n5b c5b, .bool s5c, .slice p5c n5c c5c, .bool s5d, .slice p5d n5d c5d] 42)) s6a p6a n6a c6a s6b p6b n6b c6b s6c p6c n6c c6c s6d p6d n6d c6d
  rw [hs17] at hx19
  replace XV := vx XV hb18
  replace X5 := ix X5 hb18
  replace HT5l := wl HT5l hb18
  replace HU5l := wl HU5l hb18
  replace HT5h := wl HT5h hb18
  replace HU5h := wl HU5h hb18
  replace HT6l := wl HT6l hb18
  replace HU6l := wl HU6l hb18
  replace HT6h := wl HT6h hb18
  replace HU6h := wl HU6h hb18
  replace B := bb B hb18
  have X6 := hid hx19
  have hs20 : ((w14.alloc (.cells #[.bool s5a, .slice p5a n5a c5a, .bool s5b, .slice p5b n5b c5b, .bool s5c, .slice p5c n5c c5c, .bool s5d, .slice p5d n5d c5d] 42)).alloc (.cells #[.bool s6a, .slice p6a n6a c6a, .bool s6b, .slice p6b n6b c6b, .bool s6c, .slice p6c n6c c6c, .bool s6d, .slice p6d n6d c6d] 42)).heap.size = w14.heap.size + 1 + 1 := by simp [hs17]
  clear hb18 hx19
  obtain ⟨cc21a, cc21b⟩ := XV.out.both
  obtain ⟨cc22a, cc22b, cc22c, cc22d, cc22e, cc22f, cc22g, cc22h⟩ := X5.out.cells
  obtain ⟨cc23a, cc23b, cc23c, cc23d, cc23e, cc23f, cc23g, cc23h⟩ := X6.out.cells
  go_wp2_with fail
  generalize hW : (w14.alloc (.cells #[.bool s5a, .slice p5a n5a c5a, .bool s5b, .slice p5b n5b c5b, .bool s5c, .slice p5c n5c c5c, .bool s5d, .slice p5d n5d c5d] 42)).alloc (.cells #[.bool s6a, .slice p6a n6a c6a, .bool s6b, .slice p6b n6b c6b, .bool s6c, .slice p6c n6c c6c, .bool s6d, .slice p6d n6d c6d] 42) = W24 at *
  clear hW
  refine (add_ivl (Ivl.mk2 (Rtl.mk2 HT5l.out HU5l.out HD5l.out) (Rtl.mk2 HT5h.out HU5h.out HD5h.out)) (Ivl.mk2 (Rtl.mk2 HT6l.out HU6l.out HD6l.out) (Rtl.mk2 HT6h.out HU6h.out HD6h.out)) (by decide) (by decide)).mono ?_
  rintro e w25 ⟨v, rfl, hv, hb⟩
  obtain ⟨s7a, p7a, n7a, c7a, s7b, p7b, n7b, c7b, s7c, p7c, n7c, c7c, s7d, p7d, n7d, c7d, rfl⟩ := hv.opened
  obtain ⟨hl7, hh7⟩ := hv.two
  obtain ⟨ht7l, d7l, hu7l, hd7l⟩ := hl7.two
  have HD7l := hid hd7l
  obtain ⟨ht7h, d7h, hu7h, hd7h⟩ := hh7.two
  have HD7h := hid hd7h
  replace XV := vx XV hb
  replace X5 := ix X5 hb
  replace X6 := ix X6 hb
  replace HT5l := wl HT5l hb
  replace HU5l := wl HU5l hb
  replace HT5h := wl HT5h hb
  replace HU5h := wl HU5h hb
  replace HT6l := wl HT6l hb
  replace HU6l := wl HU6l hb
  replace HT6h := wl HT6h hb
  replace HU6h := wl HU6h hb
  replace B := bb B hb
  clear cc21a cc21b cc22a cc22b cc22c cc22d cc22e cc22f cc22g cc22h cc23a cc23b cc23c cc23d cc23e cc23f cc23g cc23h
  have HT7l := hid ht7l
  have HU7l := hid hu7l
  have HT7h := hid ht7h
  have HU7h := hid hu7h
  clear hb hv hl7 hh7 ht7l hu7l hd7l ht7h hu7h hd7h
  obtain ⟨cc26a, cc26b⟩ := XV.out.both
  go_wp2_with fail
  refine (texts_ivl (Ivl.mk2 (Rtl.mk2 HT7l.out HU7l.out HD7l.out) (Rtl.mk2 HT7h.out HU7h.out HD7h.out)) (by decide)).mono ?_
  rintro e w27 ⟨rfl, hb⟩
  replace XV := vx XV hb
  replace HT5l := wl HT5l hb
  replace HU5l := wl HU5l hb
  replace HT5h := wl HT5h hb
  replace HU5h := wl HU5h hb
  replace HT6l := wl HT6l hb
  replace HU6l := wl HU6l hb
  replace HT6h := wl HT6h hb
  replace HU6h := wl HU6h hb
  replace HT7l := wl HT7l hb
  replace HU7l := wl HU7l hb
  replace HT7h := wl HT7h hb
  replace HU7h := wl HU7h hb
  replace B := bb B hb
  clear cc26a cc26b
  clear hb 
  obtain ⟨cc28a, cc28b⟩ := XV.out.both
  obtain ⟨cc29a, cc29b, cc29c, cc29d⟩ := XV.out.stores
  obtain ⟨r30a, r30b, r30c⟩ := XV.out.last B.out (by have := L0.out; omega) (qtxt (mn ((qnum a) + (qnum c)) ((qnum b) + (qnum d)))) (qtxt (mx ((qnum a) + (qnum c)) ((qnum b) + (qnum d))))
  replace HT5l := hid (r30c HT5l.out)
  replace HU5l := hid (r30c HU5l.out)
  replace HT5h := hid (r30c HT5h.out)
  replace HU5h := hid (r30c HU5h.out)
  replace HT6l := hid (r30c HT6l.out)
  replace HU6l := hid (r30c HU6l.out)
  replace HT6h := hid (r30c HT6h.out)
  replace HU6h := hid (r30c HU6h.out)
  replace HT7l := hid (r30c HT7l.out)
  replace HU7l := hid (r30c HU7l.out)
  replace HT7h := hid (r30c HT7h.out)
  replace HU7h := hid (r30c HU7h.out)
  replace XV := hid r30a
  replace B := hid r30b
  clear r30a r30b r30c
  obtain ⟨cc31a, cc31b⟩ := XV.out.both
  go_wp2_with fail
  refine bodyPost_ret (res_ival_tmp rfl rfl rfl XV.out) rfl ?_
  exact ⟨rfl, B.out⟩

set_option maxHeartbeats 4000000 in
theorem combine_mul {a b c d : ByteArray} (h1 : GoodI a b) (h2 : GoodI c d) (w : World) :
    Calls Try.prog 23 #[.agg #[.string a, .string b], .agg #[.string c, .string d], .func (.func 25) #[] #[]] w fun e w' => e = .returned (.tuple #[.agg #[.string (qtxt (lo4 ((qnum a) * (qnum c)) ((qnum a) * (qnum d)) ((qnum b) * (qnum c)) ((qnum b) * (qnum d)))), .string (qtxt (hi4 ((qnum a) * (qnum c)) ((qnum a) * (qnum d)) ((qnum b) * (qnum c)) ((qnum b) * (qnum d))))], .nilIface]) ∧ Below w.heap.size w w' := by
  have hne := errv_neq
  have hgd := errv_guard
  have H1 := hid (fun w => iboth_3 h1 h2 w)
  have B := hid (Below.refl w.heap.size w)
  have hb1 := (Below.refl _ _).alloc (Nat.le_refl w.heap.size) (.cells #[.string a, .string b] 23)
  have hx2 := Vbx.new w a b
  replace B := bb B hb1
  have X1 := hid hx2
  have hs3 : (w.alloc (.cells #[.string a, .string b] 23)).heap.size = w.heap.size + 1 := by simp
  clear hb1 hx2
  have hb4 := (Below.refl _ _).alloc (Nat.le_refl (w.alloc (.cells #[.string a, .string b] 23)).heap.size) (.cells #[.string c, .string d] 23)
  have hx5 := Vbx.new (w.alloc (.cells #[.string a, .string b] 23)) c d
  rw [hs3] at hx5
  replace X1 := vx X1 hb4
  replace B := bb B hb4
  have X2 := hid hx5
  have hs6 : ((w.alloc (.cells #[.string a, .string b] 23)).alloc (.cells #[.string c, .string d] 23)).heap.size = w.heap.size + 1 + 1 := by simp [hs3]
  clear hb4 hx5
  have hb7 := (Below.refl _ _).alloc (Nat.le_refl ((w.alloc (.cells #[.string a, .string b] 23)).alloc (.cells #[.string c, .string d] 23)).heap.size) (.cells #[.string ⟨#[]⟩, .string ⟨#[]⟩] 23)
  have hx8 := Vbx.new ((w.alloc (.cells #[.string a, .string b] 23)).alloc (.cells #[.string c, .string d] 23)) ⟨#[]⟩ ⟨#[]⟩
  rw [hs6] at hx8
  replace X1 := vx X1 hb7
  replace X2 := vx X2 hb7
  replace B := bb B hb7
  have XV := hid hx8
  have hs9 : (((w.alloc (.cells #[.string a, .string b] 23)).alloc (.cells #[.string c, .string d] 23)).alloc (.cells #[.string ⟨#[]⟩, .string ⟨#[]⟩] 23)).heap.size = w.heap.size + 1 + 1 + 1 := by simp [hs6]
  clear hb7 hx8
  clear hs9 h1 h2
  go_enter Try.func23, Try.ntmps23
  obtain ⟨cc10a, cc10b⟩ := X1.out.both
  obtain ⟨cc11a, cc11b⟩ := X2.out.both
  obtain ⟨cc12a, cc12b⟩ := XV.out.both
  go_wp2_with fail
  generalize hW : ((w.alloc (.cells #[.string a, .string b] 23)).alloc (.cells #[.string c, .string d] 23)).alloc (.cells #[.string ⟨#[]⟩, .string ⟨#[]⟩] 23) = W13 at *
  clear hW
  refine (H1.out _).mono ?_
  rintro e w14 ⟨v, u, rfl, hv, hu, hb⟩
  obtain ⟨s5a, p5a, n5a, c5a, s5b, p5b, n5b, c5b, s5c, p5c, n5c, c5c, s5d, p5d, n5d, c5d, rfl⟩ := hv.opened
  obtain ⟨hl5, hh5⟩ := hv.two
  obtain ⟨ht5l, d5l, hu5l, hd5l⟩ := hl5.two
  have HD5l := hid hd5l
  obtain ⟨ht5h, d5h, hu5h, hd5h⟩ := hh5.two
  have HD5h := hid hd5h
  obtain ⟨s6a, p6a, n6a, c6a, s6b, p6b, n6b, c6b, s6c, p6c, n6c, c6c, s6d, p6d, n6d, c6d, rfl⟩ := hu.opened
  obtain ⟨hl6, hh6⟩ := hu.two
  obtain ⟨ht6l, d6l, hu6l, hd6l⟩ := hl6.two
  have HD6l := hid hd6l
  obtain ⟨ht6h, d6h, hu6h, hd6h⟩ := hh6.two
  have HD6h := hid hd6h
  replace XV := vx XV hb
  replace B := bb B hb
  clear cc10a cc10b cc11a cc11b cc12a cc12b
  have HT5l := hid ht5l
  have HU5l := hid hu5l
  have HT5h := hid ht5h
  have HU5h := hid hu5h
  have HT6l := hid ht6l
  have HU6l := hid hu6l
  have HT6h := hid ht6h
  have HU6h := hid hu6h
  clear hb hv hl5 hh5 ht5l hu5l hd5l ht5h hu5h hd5h hu hl6 hh6 ht6l hu6l hd6l ht6h hu6h hd6h H1
  have hb15 := (Below.refl _ _).alloc (Nat.le_refl w14.heap.size) (.cells #[.bool s5a, .slice p5a n5a c5a, .bool s5b, .slice p5b n5b c5b, .bool s5c, .slice p5c n5c c5c, .bool s5d, .slice p5d n5d c5d] 42)
  have hx16 := Ibx.new w14 s5a p5a n5a c5a s5b p5b n5b c5b s5c p5c n5c c5c s5d p5d n5d c5d
  have L0 := hid XV.out.lt
  replace XV := vx XV hb15
  replace HT5l := wl HT5l hb15
  replace HU5l := wl HU5l hb15
  replace HT5h := wl HT5h hb15
  replace HU5h := wl HU5h hb15
  replace HT6l := wl HT6l hb15
  replace HU6l := wl HU6l hb15
  replace HT6h := wl HT6h hb15
  replace HU6h := wl HU6h hb15
  replace B := bb B hb15
  have X5 := hid hx16
  have hs17 : (w14.alloc (.cells #[.bool s5a, .slice p5a n5a c5a, .bool s5b, .slice p5b n5b c5b, .bool s5c, .slice p5c n5c c5c, .bool s5d, .slice p5d n5d c5d] 42)).heap.size = w14.heap.size + 1 := by simp
  clear hb15 hx16
  have hb18 := (Below.refl _ _).alloc (Nat.le_refl (w14.alloc (.cells #[.bool s5a, .slice p5a n5a c5a, .bool s5b, .slice p5b n5b c5b, .bool s5c, .slice p5c n5c c5c, .bool s5d, .slice p5d n5d c5d] 42)).heap.size) (.cells #[.bool s6a, .slice p6a n6a c6a, .bool s6b, .slice p6b n6b c6b, .bool s6c, .slice p6c n6c c6c, .bool s6d, .slice p6d n6d c6d] 42)
  have hx19 := Ibx.new (w14.alloc (.cells #[.bool s5a, .slice p5a n5a c5a, .bool s5b, .slice p5b n5b c5b, .bool s5c, .slice p5c n5c c5c, .bool s5d, .slice p5d n5d c5d] 42)) s6a p6a n6a c6a s6b p6b n6b c6b s6c p6c n6c c6c s6d p6d n6d c6d
  rw [hs17] at hx19
  replace XV := vx XV hb18
  replace X5 := ix X5 hb18
  replace HT5l := wl HT5l hb18
  replace HU5l := wl HU5l hb18
  replace HT5h := wl HT5h hb18
  replace HU5h := wl HU5h hb18
  replace HT6l := wl HT6l hb18
  replace HU6l := wl HU6l hb18
  replace HT6h := wl HT6h hb18
  replace HU6h := wl HU6h hb18
  replace B := bb B hb18
  have X6 := hid hx19
  have hs20 : ((w14.alloc (.cells #[.bool s5a, .slice p5a n5a c5a, .bool s5b, .slice p5b n5b c5b, .bool s5c, .slice p5c n5c c5c, .bool s5d, .slice p5d n5d c5d] 42)).alloc (.cells #[.bool s6a, .slice p6a n6a c6a, .bool s6b, .slice p6b n6b c6b, .bool s6c, .slice p6c n6c c6c, .bool s6d, .slice p6d n6d c6d] 42)).heap.size = w14.heap.size + 1 + 1 := by simp [hs17]
  clear hb18 hx19
  obtain ⟨cc21a, cc21b⟩ := XV.out.both
  obtain ⟨cc22a, cc22b, cc22c, cc22d, cc22e, cc22f, cc22g, cc22h⟩ := X5.out.cells
  obtain ⟨cc23a, cc23b, cc23c, cc23d, cc23e, cc23f, cc23g, cc23h⟩ := X6.out.cells
  go_wp2_with fail
  generalize hW : (w14.alloc (.cells #[.bool s5a, .slice p5a n5a c5a, .bool s5b, .slice p5b n5b c5b, .bool s5c, .slice p5c n5c c5c, .bool s5d, .slice p5d n5d c5d] 42)).alloc (.cells #[.bool s6a, .slice p6a n6a c6a, .bool s6b, .slice p6b n6b c6b, .bool s6c, .slice p6c n6c c6c, .bool s6d, .slice p6d n6d c6d] 42) = W24 at *
  clear hW
  refine (mul_ivl (Ivl.mk2 (Rtl.mk2 HT5l.out HU5l.out HD5l.out) (Rtl.mk2 HT5h.out HU5h.out HD5h.out)) (Ivl.mk2 (Rtl.mk2 HT6l.out HU6l.out HD6l.out) (Rtl.mk2 HT6h.out HU6h.out HD6h.out)) (by decide) (by decide)).mono ?_
  rintro e w25 ⟨v, rfl, hv, hb⟩
  obtain ⟨s7a, p7a, n7a, c7a, s7b, p7b, n7b, c7b, s7c, p7c, n7c, c7c, s7d, p7d, n7d, c7d, rfl⟩ := hv.opened
  obtain ⟨hl7, hh7⟩ := hv.two
  obtain ⟨ht7l, d7l, hu7l, hd7l⟩ := hl7.two
  have HD7l := hid hd7l
  obtain ⟨ht7h, d7h, hu7h, hd7h⟩ := hh7.two
  have HD7h := hid hd7h
  replace XV := vx XV hb
  replace X5 := ix X5 hb
  replace X6 := ix X6 hb
  replace HT5l := wl HT5l hb
  replace HU5l := wl HU5l hb
  replace HT5h := wl HT5h hb
  replace HU5h := wl HU5h hb
  replace HT6l := wl HT6l hb
  replace HU6l := wl HU6l hb
  replace HT6h := wl HT6h hb
  replace HU6h := wl HU6h hb
  replace B := bb B hb
  clear cc21a cc21b cc22a cc22b cc22c cc22d cc22e cc22f cc22g cc22h cc23a cc23b cc23c cc23d cc23e cc23f cc23g cc23h
  have HT7l := hid ht7l
  have HU7l := hid hu7l
  have HT7h := hid ht7h
  have HU7h := hid hu7h
  clear hb hv hl7 hh7 ht7l hu7l hd7l ht7h hu7h hd7h
  obtain ⟨cc26a, cc26b⟩ := XV.out.both
  go_wp2_with fail
  refine (texts_ivl (Ivl.mk2 (Rtl.mk2 HT7l.out HU7l.out HD7l.out) (Rtl.mk2 HT7h.out HU7h.out HD7h.out)) (by decide)).mono ?_
  rintro e w27 ⟨rfl, hb⟩
  replace XV := vx XV hb
  replace HT5l := wl HT5l hb
  replace HU5l := wl HU5l hb
  replace HT5h := wl HT5h hb
  replace HU5h := wl HU5h hb
  replace HT6l := wl HT6l hb
  replace HU6l := wl HU6l hb
  replace HT6h := wl HT6h hb
  replace HU6h := wl HU6h hb
  replace HT7l := wl HT7l hb
  replace HU7l := wl HU7l hb
  replace HT7h := wl HT7h hb
  replace HU7h := wl HU7h hb
  replace B := bb B hb
  clear cc26a cc26b
  clear hb 
  obtain ⟨cc28a, cc28b⟩ := XV.out.both
  obtain ⟨cc29a, cc29b, cc29c, cc29d⟩ := XV.out.stores
  obtain ⟨r30a, r30b, r30c⟩ := XV.out.last B.out (by have := L0.out; omega) (qtxt (lo4 ((qnum a) * (qnum c)) ((qnum a) * (qnum d)) ((qnum b) * (qnum c)) ((qnum b) * (qnum d)))) (qtxt (hi4 ((qnum a) * (qnum c)) ((qnum a) * (qnum d)) ((qnum b) * (qnum c)) ((qnum b) * (qnum d))))
  replace HT5l := hid (r30c HT5l.out)
  replace HU5l := hid (r30c HU5l.out)
  replace HT5h := hid (r30c HT5h.out)
  replace HU5h := hid (r30c HU5h.out)
  replace HT6l := hid (r30c HT6l.out)
  replace HU6l := hid (r30c HU6l.out)
  replace HT6h := hid (r30c HT6h.out)
  replace HU6h := hid (r30c HU6h.out)
  replace HT7l := hid (r30c HT7l.out)
  replace HU7l := hid (r30c HU7l.out)
  replace HT7h := hid (r30c HT7h.out)
  replace HU7h := hid (r30c HU7h.out)
  replace XV := hid r30a
  replace B := hid r30b
  clear r30a r30b r30c
  obtain ⟨cc31a, cc31b⟩ := XV.out.both
  go_wp2_with fail
  refine bodyPost_ret (res_ival_tmp rfl rfl rfl XV.out) rfl ?_
  exact ⟨rfl, B.out⟩

set_option maxHeartbeats 4000000 in
theorem combine_hull {a b c d : ByteArray} (h1 : GoodI a b) (h2 : GoodI c d) (w : World) :
    Calls Try.prog 23 #[.agg #[.string a, .string b], .agg #[.string c, .string d], .func (.func 26) #[] #[]] w fun e w' => e = .returned (.tuple #[.agg #[.string (qtxt (lo4 (qnum a) (qnum b) (qnum c) (qnum d))), .string (qtxt (hi4 (qnum a) (qnum b) (qnum c) (qnum d)))], .nilIface]) ∧ Below w.heap.size w w' := by
  have hne := errv_neq
  have hgd := errv_guard
  have H1 := hid (fun w => iboth_3 h1 h2 w)
  have B := hid (Below.refl w.heap.size w)
  have hb1 := (Below.refl _ _).alloc (Nat.le_refl w.heap.size) (.cells #[.string a, .string b] 23)
  have hx2 := Vbx.new w a b
  replace B := bb B hb1
  have X1 := hid hx2
  have hs3 : (w.alloc (.cells #[.string a, .string b] 23)).heap.size = w.heap.size + 1 := by simp
  clear hb1 hx2
  have hb4 := (Below.refl _ _).alloc (Nat.le_refl (w.alloc (.cells #[.string a, .string b] 23)).heap.size) (.cells #[.string c, .string d] 23)
  have hx5 := Vbx.new (w.alloc (.cells #[.string a, .string b] 23)) c d
  rw [hs3] at hx5
  replace X1 := vx X1 hb4
  replace B := bb B hb4
  have X2 := hid hx5
  have hs6 : ((w.alloc (.cells #[.string a, .string b] 23)).alloc (.cells #[.string c, .string d] 23)).heap.size = w.heap.size + 1 + 1 := by simp [hs3]
  clear hb4 hx5
  have hb7 := (Below.refl _ _).alloc (Nat.le_refl ((w.alloc (.cells #[.string a, .string b] 23)).alloc (.cells #[.string c, .string d] 23)).heap.size) (.cells #[.string ⟨#[]⟩, .string ⟨#[]⟩] 23)
  have hx8 := Vbx.new ((w.alloc (.cells #[.string a, .string b] 23)).alloc (.cells #[.string c, .string d] 23)) ⟨#[]⟩ ⟨#[]⟩
  rw [hs6] at hx8
  replace X1 := vx X1 hb7
  replace X2 := vx X2 hb7
  replace B := bb B hb7
  have XV := hid hx8
  have hs9 : (((w.alloc (.cells #[.string a, .string b] 23)).alloc (.cells #[.string c, .string d] 23)).alloc (.cells #[.string ⟨#[]⟩, .string ⟨#[]⟩] 23)).heap.size = w.heap.size + 1 + 1 + 1 := by simp [hs6]
  clear hb7 hx8
  clear hs9 h1 h2
  go_enter Try.func23, Try.ntmps23
  obtain ⟨cc10a, cc10b⟩ := X1.out.both
  obtain ⟨cc11a, cc11b⟩ := X2.out.both
  obtain ⟨cc12a, cc12b⟩ := XV.out.both
  go_wp2_with fail
  generalize hW : ((w.alloc (.cells #[.string a, .string b] 23)).alloc (.cells #[.string c, .string d] 23)).alloc (.cells #[.string ⟨#[]⟩, .string ⟨#[]⟩] 23) = W13 at *
  clear hW
  refine (H1.out _).mono ?_
  rintro e w14 ⟨v, u, rfl, hv, hu, hb⟩
  obtain ⟨s5a, p5a, n5a, c5a, s5b, p5b, n5b, c5b, s5c, p5c, n5c, c5c, s5d, p5d, n5d, c5d, rfl⟩ := hv.opened
  obtain ⟨hl5, hh5⟩ := hv.two
  obtain ⟨ht5l, d5l, hu5l, hd5l⟩ := hl5.two
  have HD5l := hid hd5l
  obtain ⟨ht5h, d5h, hu5h, hd5h⟩ := hh5.two
  have HD5h := hid hd5h
  obtain ⟨s6a, p6a, n6a, c6a, s6b, p6b, n6b, c6b, s6c, p6c, n6c, c6c, s6d, p6d, n6d, c6d, rfl⟩ := hu.opened
  obtain ⟨hl6, hh6⟩ := hu.two
  obtain ⟨ht6l, d6l, hu6l, hd6l⟩ := hl6.two
  have HD6l := hid hd6l
  obtain ⟨ht6h, d6h, hu6h, hd6h⟩ := hh6.two
  have HD6h := hid hd6h
  replace XV := vx XV hb
  replace B := bb B hb
  clear cc10a cc10b cc11a cc11b cc12a cc12b
  have HT5l := hid ht5l
  have HU5l := hid hu5l
  have HT5h := hid ht5h
  have HU5h := hid hu5h
  have HT6l := hid ht6l
  have HU6l := hid hu6l
  have HT6h := hid ht6h
  have HU6h := hid hu6h
  clear hb hv hl5 hh5 ht5l hu5l hd5l ht5h hu5h hd5h hu hl6 hh6 ht6l hu6l hd6l ht6h hu6h hd6h H1
  have hb15 := (Below.refl _ _).alloc (Nat.le_refl w14.heap.size) (.cells #[.bool s5a, .slice p5a n5a c5a, .bool s5b, .slice p5b n5b c5b, .bool s5c, .slice p5c n5c c5c, .bool s5d, .slice p5d n5d c5d] 42)
  have hx16 := Ibx.new w14 s5a p5a n5a c5a s5b p5b n5b c5b s5c p5c n5c c5c s5d p5d n5d c5d
  have L0 := hid XV.out.lt
  replace XV := vx XV hb15
  replace HT5l := wl HT5l hb15
  replace HU5l := wl HU5l hb15
  replace HT5h := wl HT5h hb15
  replace HU5h := wl HU5h hb15
  replace HT6l := wl HT6l hb15
  replace HU6l := wl HU6l hb15
  replace HT6h := wl HT6h hb15
  replace HU6h := wl HU6h hb15
  replace B := bb B hb15
  have X5 := hid hx16
  have hs17 : (w14.alloc (.cells #[.bool s5a, .slice p5a n5a c5a, .bool s5b, .slice p5b n5b c5b, .bool s5c, .slice p5c n5c c5c, .bool s5d, .slice p5d n5d c5d] 42)).heap.size = w14.heap.size + 1 := by simp
  clear hb15 hx16
  have hb18 := (Below.refl _ _).alloc (Nat.le_refl (w14.alloc (.cells #[.bool s5a, .slice p5a n5a c5a, .bool s5b, .slice p5b n5b c5b, .bool s5c, .slice p5c n5c c5c, .bool s5d, .slice p5d n5d c5d] 42)).heap.size) (.cells #[.bool s6a, .slice p6a n6a c6a, .bool s6b, .slice p6b n6b c6b, .bool s6c, .slice p6c n6c c6c, .bool s6d, .slice p6d n6d c6d] 42)
  have hx19 := Ibx.new (w14.alloc (.cells #[.bool s5a, .slice p5a n5a c5a, .bool s5b, .slice p5b n5b c5b, .bool s5c, .slice p5c n5c c5c, .bool s5d, .slice p5d n5d c5d] 42)) s6a p6a n6a c6a s6b p6b n6b c6b s6c p6c n6c c6c s6d p6d n6d c6d
  rw [hs17] at hx19
  replace XV := vx XV hb18
  replace X5 := ix X5 hb18
  replace HT5l := wl HT5l hb18
  replace HU5l := wl HU5l hb18
  replace HT5h := wl HT5h hb18
  replace HU5h := wl HU5h hb18
  replace HT6l := wl HT6l hb18
  replace HU6l := wl HU6l hb18
  replace HT6h := wl HT6h hb18
  replace HU6h := wl HU6h hb18
  replace B := bb B hb18
  have X6 := hid hx19
  have hs20 : ((w14.alloc (.cells #[.bool s5a, .slice p5a n5a c5a, .bool s5b, .slice p5b n5b c5b, .bool s5c, .slice p5c n5c c5c, .bool s5d, .slice p5d n5d c5d] 42)).alloc (.cells #[.bool s6a, .slice p6a n6a c6a, .bool s6b, .slice p6b n6b c6b, .bool s6c, .slice p6c n6c c6c, .bool s6d, .slice p6d n6d c6d] 42)).heap.size = w14.heap.size + 1 + 1 := by simp [hs17]
  clear hb18 hx19
  obtain ⟨cc21a, cc21b⟩ := XV.out.both
  obtain ⟨cc22a, cc22b, cc22c, cc22d, cc22e, cc22f, cc22g, cc22h⟩ := X5.out.cells
  obtain ⟨cc23a, cc23b, cc23c, cc23d, cc23e, cc23f, cc23g, cc23h⟩ := X6.out.cells
  go_wp2_with fail
  generalize hW : (w14.alloc (.cells #[.bool s5a, .slice p5a n5a c5a, .bool s5b, .slice p5b n5b c5b, .bool s5c, .slice p5c n5c c5c, .bool s5d, .slice p5d n5d c5d] 42)).alloc (.cells #[.bool s6a, .slice p6a n6a c6a, .bool s6b, .slice p6b n6b c6b, .bool s6c, .slice p6c n6c c6c, .bool s6d, .slice p6d n6d c6d] 42) = W24 at *
  clear hW
  refine (hull_ivl (Ivl.mk2 (Rtl.mk2 HT5l.out HU5l.out HD5l.out) (Rtl.mk2 HT5h.out HU5h.out HD5h.out)) (Ivl.mk2 (Rtl.mk2 HT6l.out HU6l.out HD6l.out) (Rtl.mk2 HT6h.out HU6h.out HD6h.out)) (by decide) (by decide)).mono ?_
  rintro e w25 ⟨v, rfl, hv, hb⟩
  obtain ⟨s7a, p7a, n7a, c7a, s7b, p7b, n7b, c7b, s7c, p7c, n7c, c7c, s7d, p7d, n7d, c7d, rfl⟩ := hv.opened
  obtain ⟨hl7, hh7⟩ := hv.two
  obtain ⟨ht7l, d7l, hu7l, hd7l⟩ := hl7.two
  have HD7l := hid hd7l
  obtain ⟨ht7h, d7h, hu7h, hd7h⟩ := hh7.two
  have HD7h := hid hd7h
  replace XV := vx XV hb
  replace X5 := ix X5 hb
  replace X6 := ix X6 hb
  replace HT5l := wl HT5l hb
  replace HU5l := wl HU5l hb
  replace HT5h := wl HT5h hb
  replace HU5h := wl HU5h hb
  replace HT6l := wl HT6l hb
  replace HU6l := wl HU6l hb
  replace HT6h := wl HT6h hb
  replace HU6h := wl HU6h hb
  replace B := bb B hb
  clear cc21a cc21b cc22a cc22b cc22c cc22d cc22e cc22f cc22g cc22h cc23a cc23b cc23c cc23d cc23e cc23f cc23g cc23h
  have HT7l := hid ht7l
  have HU7l := hid hu7l
  have HT7h := hid ht7h
  have HU7h := hid hu7h
  clear hb hv hl7 hh7 ht7l hu7l hd7l ht7h hu7h hd7h
  obtain ⟨cc26a, cc26b⟩ := XV.out.both
  go_wp2_with fail
  refine (texts_ivl (Ivl.mk2 (Rtl.mk2 HT7l.out HU7l.out HD7l.out) (Rtl.mk2 HT7h.out HU7h.out HD7h.out)) (by decide)).mono ?_
  rintro e w27 ⟨rfl, hb⟩
  replace XV := vx XV hb
  replace HT5l := wl HT5l hb
  replace HU5l := wl HU5l hb
  replace HT5h := wl HT5h hb
  replace HU5h := wl HU5h hb
  replace HT6l := wl HT6l hb
  replace HU6l := wl HU6l hb
  replace HT6h := wl HT6h hb
  replace HU6h := wl HU6h hb
  replace HT7l := wl HT7l hb
  replace HU7l := wl HU7l hb
  replace HT7h := wl HT7h hb
  replace HU7h := wl HU7h hb
  replace B := bb B hb
  clear cc26a cc26b
  clear hb 
  obtain ⟨cc28a, cc28b⟩ := XV.out.both
  obtain ⟨cc29a, cc29b, cc29c, cc29d⟩ := XV.out.stores
  obtain ⟨r30a, r30b, r30c⟩ := XV.out.last B.out (by have := L0.out; omega) (qtxt (lo4 (qnum a) (qnum b) (qnum c) (qnum d))) (qtxt (hi4 (qnum a) (qnum b) (qnum c) (qnum d)))
  replace HT5l := hid (r30c HT5l.out)
  replace HU5l := hid (r30c HU5l.out)
  replace HT5h := hid (r30c HT5h.out)
  replace HU5h := hid (r30c HU5h.out)
  replace HT6l := hid (r30c HT6l.out)
  replace HU6l := hid (r30c HU6l.out)
  replace HT6h := hid (r30c HT6h.out)
  replace HU6h := hid (r30c HU6h.out)
  replace HT7l := hid (r30c HT7l.out)
  replace HU7l := hid (r30c HU7l.out)
  replace HT7h := hid (r30c HT7h.out)
  replace HU7h := hid (r30c HU7h.out)
  replace XV := hid r30a
  replace B := hid r30b
  clear r30a r30b r30c
  obtain ⟨cc31a, cc31b⟩ := XV.out.both
  go_wp2_with fail
  refine bodyPost_ret (res_ival_tmp rfl rfl rfl XV.out) rfl ?_
  exact ⟨rfl, B.out⟩

set_option maxHeartbeats 4000000 in
theorem iadd_bad {a b c d : ByteArray} {k : Int} (h : WrongI a b c d k) (ha : a.size ≤ maxLen) (hb0 : b.size ≤ maxLen) (hc0 : c.size ≤ maxLen) (hd0 : d.size ≤ maxLen) (w : World) :
    Calls Try.prog 10 #[.agg #[.string a, .string b], .agg #[.string c, .string d]] w fun e w' => e = .returned (.tuple #[.agg #[.string ⟨#[]⟩, .string ⟨#[]⟩], errno k]) ∧ Below w.heap.size w w' := by
  have hne := errv_neq
  have hgd := errv_guard
  have hkk := errv_some h.ne
  have H1 := hid (fun w f => combine_bad (f := f) h ha hb0 hc0 hd0 w)
  have B := hid (Below.refl w.heap.size w)
  have hb1 := (Below.refl _ _).alloc (Nat.le_refl w.heap.size) (.cells #[.string a, .string b] 23)
  have hx2 := Vbx.new w a b
  replace B := bb B hb1
  have X1 := hid hx2
  have hs3 : (w.alloc (.cells #[.string a, .string b] 23)).heap.size = w.heap.size + 1 := by simp
  clear hb1 hx2
  have hb4 := (Below.refl _ _).alloc (Nat.le_refl (w.alloc (.cells #[.string a, .string b] 23)).heap.size) (.cells #[.string c, .string d] 23)
  have hx5 := Vbx.new (w.alloc (.cells #[.string a, .string b] 23)) c d
  rw [hs3] at hx5
  replace X1 := vx X1 hb4
  replace B := bb B hb4
  have X2 := hid hx5
  have hs6 : ((w.alloc (.cells #[.string a, .string b] 23)).alloc (.cells #[.string c, .string d] 23)).heap.size = w.heap.size + 1 + 1 := by simp [hs3]
  clear hb4 hx5
  have hb7 := (Below.refl _ _).alloc (Nat.le_refl ((w.alloc (.cells #[.string a, .string b] 23)).alloc (.cells #[.string c, .string d] 23)).heap.size) (.cells #[.string ⟨#[]⟩, .string ⟨#[]⟩] 23)
  have hx8 := Vbx.new ((w.alloc (.cells #[.string a, .string b] 23)).alloc (.cells #[.string c, .string d] 23)) ⟨#[]⟩ ⟨#[]⟩
  rw [hs6] at hx8
  replace X1 := vx X1 hb7
  replace X2 := vx X2 hb7
  replace B := bb B hb7
  have XV := hid hx8
  have hs9 : (((w.alloc (.cells #[.string a, .string b] 23)).alloc (.cells #[.string c, .string d] 23)).alloc (.cells #[.string ⟨#[]⟩, .string ⟨#[]⟩] 23)).heap.size = w.heap.size + 1 + 1 + 1 := by simp [hs6]
  clear hb7 hx8
  clear hs9 h
  go_enter Try.func10, Try.ntmps10
  obtain ⟨cc10a, cc10b⟩ := X1.out.both
  obtain ⟨cc11a, cc11b⟩ := X2.out.both
  obtain ⟨cc12a, cc12b⟩ := XV.out.both
  go_wp2_with fail
  generalize hW : ((w.alloc (.cells #[.string a, .string b] 23)).alloc (.cells #[.string c, .string d] 23)).alloc (.cells #[.string ⟨#[]⟩, .string ⟨#[]⟩] 23) = W13 at *
  clear hW
  refine (H1.out _ _).mono ?_
  rintro e w14 ⟨rfl, hb⟩
  replace XV := vx XV hb
  replace B := bb B hb
  clear cc10a cc10b cc11a cc11b cc12a cc12b
  clear hb H1
  obtain ⟨cc15a, cc15b⟩ := XV.out.both
  obtain ⟨cc16a, cc16b, cc16c, cc16d⟩ := XV.out.stores
  obtain ⟨r17a, r17b, r17c⟩ := XV.out.last B.out (by omega) ⟨#[]⟩ ⟨#[]⟩
  replace XV := hid r17a
  replace B := hid r17b
  clear r17a r17b r17c
  obtain ⟨cc18a, cc18b⟩ := XV.out.both
  go_wp2_with fail
  refine bodyPost_ret (res_ival_tmp rfl rfl rfl XV.out) rfl ?_
  exact ⟨rfl, B.out⟩

set_option maxHeartbeats 4000000 in
theorem iadd_good {a b c d : ByteArray} (h1 : GoodI a b) (h2 : GoodI c d) (w : World) :
    Calls Try.prog 10 #[.agg #[.string a, .string b], .agg #[.string c, .string d]] w fun e w' => e = .returned (.tuple #[.agg #[.string (qtxt (mn ((qnum a) + (qnum c)) ((qnum b) + (qnum d)))), .string (qtxt (mx ((qnum a) + (qnum c)) ((qnum b) + (qnum d))))], .nilIface]) ∧ Below w.heap.size w w' := by
  have hne := errv_neq
  have hgd := errv_guard
  have H1 := hid (fun w => combine_add h1 h2 w)
  have B := hid (Below.refl w.heap.size w)
  have hb1 := (Below.refl _ _).alloc (Nat.le_refl w.heap.size) (.cells #[.string a, .string b] 23)
  have hx2 := Vbx.new w a b
  replace B := bb B hb1
  have X1 := hid hx2
  have hs3 : (w.alloc (.cells #[.string a, .string b] 23)).heap.size = w.heap.size + 1 := by simp
  clear hb1 hx2
  have hb4 := (Below.refl _ _).alloc (Nat.le_refl (w.alloc (.cells #[.string a, .string b] 23)).heap.size) (.cells #[.string c, .string d] 23)
  have hx5 := Vbx.new (w.alloc (.cells #[.string a, .string b] 23)) c d
  rw [hs3] at hx5
  replace X1 := vx X1 hb4
  replace B := bb B hb4
  have X2 := hid hx5
  have hs6 : ((w.alloc (.cells #[.string a, .string b] 23)).alloc (.cells #[.string c, .string d] 23)).heap.size = w.heap.size + 1 + 1 := by simp [hs3]
  clear hb4 hx5
  have hb7 := (Below.refl _ _).alloc (Nat.le_refl ((w.alloc (.cells #[.string a, .string b] 23)).alloc (.cells #[.string c, .string d] 23)).heap.size) (.cells #[.string ⟨#[]⟩, .string ⟨#[]⟩] 23)
  have hx8 := Vbx.new ((w.alloc (.cells #[.string a, .string b] 23)).alloc (.cells #[.string c, .string d] 23)) ⟨#[]⟩ ⟨#[]⟩
  rw [hs6] at hx8
  replace X1 := vx X1 hb7
  replace X2 := vx X2 hb7
  replace B := bb B hb7
  have XV := hid hx8
  have hs9 : (((w.alloc (.cells #[.string a, .string b] 23)).alloc (.cells #[.string c, .string d] 23)).alloc (.cells #[.string ⟨#[]⟩, .string ⟨#[]⟩] 23)).heap.size = w.heap.size + 1 + 1 + 1 := by simp [hs6]
  clear hb7 hx8
  clear hs9 h1 h2
  go_enter Try.func10, Try.ntmps10
  obtain ⟨cc10a, cc10b⟩ := X1.out.both
  obtain ⟨cc11a, cc11b⟩ := X2.out.both
  obtain ⟨cc12a, cc12b⟩ := XV.out.both
  go_wp2_with fail
  generalize hW : ((w.alloc (.cells #[.string a, .string b] 23)).alloc (.cells #[.string c, .string d] 23)).alloc (.cells #[.string ⟨#[]⟩, .string ⟨#[]⟩] 23) = W13 at *
  clear hW
  refine (H1.out _).mono ?_
  rintro e w14 ⟨rfl, hb⟩
  replace XV := vx XV hb
  replace B := bb B hb
  clear cc10a cc10b cc11a cc11b cc12a cc12b
  clear hb H1
  obtain ⟨cc15a, cc15b⟩ := XV.out.both
  obtain ⟨cc16a, cc16b, cc16c, cc16d⟩ := XV.out.stores
  obtain ⟨r17a, r17b, r17c⟩ := XV.out.last B.out (by omega) (qtxt (mn ((qnum a) + (qnum c)) ((qnum b) + (qnum d)))) (qtxt (mx ((qnum a) + (qnum c)) ((qnum b) + (qnum d))))
  replace XV := hid r17a
  replace B := hid r17b
  clear r17a r17b r17c
  obtain ⟨cc18a, cc18b⟩ := XV.out.both
  go_wp2_with fail
  refine bodyPost_ret (res_ival_tmp rfl rfl rfl XV.out) rfl ?_
  exact ⟨rfl, B.out⟩

set_option maxHeartbeats 4000000 in
theorem imul_bad {a b c d : ByteArray} {k : Int} (h : WrongI a b c d k) (ha : a.size ≤ maxLen) (hb0 : b.size ≤ maxLen) (hc0 : c.size ≤ maxLen) (hd0 : d.size ≤ maxLen) (w : World) :
    Calls Try.prog 11 #[.agg #[.string a, .string b], .agg #[.string c, .string d]] w fun e w' => e = .returned (.tuple #[.agg #[.string ⟨#[]⟩, .string ⟨#[]⟩], errno k]) ∧ Below w.heap.size w w' := by
  have hne := errv_neq
  have hgd := errv_guard
  have hkk := errv_some h.ne
  have H1 := hid (fun w f => combine_bad (f := f) h ha hb0 hc0 hd0 w)
  have B := hid (Below.refl w.heap.size w)
  have hb1 := (Below.refl _ _).alloc (Nat.le_refl w.heap.size) (.cells #[.string a, .string b] 23)
  have hx2 := Vbx.new w a b
  replace B := bb B hb1
  have X1 := hid hx2
  have hs3 : (w.alloc (.cells #[.string a, .string b] 23)).heap.size = w.heap.size + 1 := by simp
  clear hb1 hx2
  have hb4 := (Below.refl _ _).alloc (Nat.le_refl (w.alloc (.cells #[.string a, .string b] 23)).heap.size) (.cells #[.string c, .string d] 23)
  have hx5 := Vbx.new (w.alloc (.cells #[.string a, .string b] 23)) c d
  rw [hs3] at hx5
  replace X1 := vx X1 hb4
  replace B := bb B hb4
  have X2 := hid hx5
  have hs6 : ((w.alloc (.cells #[.string a, .string b] 23)).alloc (.cells #[.string c, .string d] 23)).heap.size = w.heap.size + 1 + 1 := by simp [hs3]
  clear hb4 hx5
  have hb7 := (Below.refl _ _).alloc (Nat.le_refl ((w.alloc (.cells #[.string a, .string b] 23)).alloc (.cells #[.string c, .string d] 23)).heap.size) (.cells #[.string ⟨#[]⟩, .string ⟨#[]⟩] 23)
  have hx8 := Vbx.new ((w.alloc (.cells #[.string a, .string b] 23)).alloc (.cells #[.string c, .string d] 23)) ⟨#[]⟩ ⟨#[]⟩
  rw [hs6] at hx8
  replace X1 := vx X1 hb7
  replace X2 := vx X2 hb7
  replace B := bb B hb7
  have XV := hid hx8
  have hs9 : (((w.alloc (.cells #[.string a, .string b] 23)).alloc (.cells #[.string c, .string d] 23)).alloc (.cells #[.string ⟨#[]⟩, .string ⟨#[]⟩] 23)).heap.size = w.heap.size + 1 + 1 + 1 := by simp [hs6]
  clear hb7 hx8
  clear hs9 h
  go_enter Try.func11, Try.ntmps11
  obtain ⟨cc10a, cc10b⟩ := X1.out.both
  obtain ⟨cc11a, cc11b⟩ := X2.out.both
  obtain ⟨cc12a, cc12b⟩ := XV.out.both
  go_wp2_with fail
  generalize hW : ((w.alloc (.cells #[.string a, .string b] 23)).alloc (.cells #[.string c, .string d] 23)).alloc (.cells #[.string ⟨#[]⟩, .string ⟨#[]⟩] 23) = W13 at *
  clear hW
  refine (H1.out _ _).mono ?_
  rintro e w14 ⟨rfl, hb⟩
  replace XV := vx XV hb
  replace B := bb B hb
  clear cc10a cc10b cc11a cc11b cc12a cc12b
  clear hb H1
  obtain ⟨cc15a, cc15b⟩ := XV.out.both
  obtain ⟨cc16a, cc16b, cc16c, cc16d⟩ := XV.out.stores
  obtain ⟨r17a, r17b, r17c⟩ := XV.out.last B.out (by omega) ⟨#[]⟩ ⟨#[]⟩
  replace XV := hid r17a
  replace B := hid r17b
  clear r17a r17b r17c
  obtain ⟨cc18a, cc18b⟩ := XV.out.both
  go_wp2_with fail
  refine bodyPost_ret (res_ival_tmp rfl rfl rfl XV.out) rfl ?_
  exact ⟨rfl, B.out⟩

set_option maxHeartbeats 4000000 in
theorem imul_good {a b c d : ByteArray} (h1 : GoodI a b) (h2 : GoodI c d) (w : World) :
    Calls Try.prog 11 #[.agg #[.string a, .string b], .agg #[.string c, .string d]] w fun e w' => e = .returned (.tuple #[.agg #[.string (qtxt (lo4 ((qnum a) * (qnum c)) ((qnum a) * (qnum d)) ((qnum b) * (qnum c)) ((qnum b) * (qnum d)))), .string (qtxt (hi4 ((qnum a) * (qnum c)) ((qnum a) * (qnum d)) ((qnum b) * (qnum c)) ((qnum b) * (qnum d))))], .nilIface]) ∧ Below w.heap.size w w' := by
  have hne := errv_neq
  have hgd := errv_guard
  have H1 := hid (fun w => combine_mul h1 h2 w)
  have B := hid (Below.refl w.heap.size w)
  have hb1 := (Below.refl _ _).alloc (Nat.le_refl w.heap.size) (.cells #[.string a, .string b] 23)
  have hx2 := Vbx.new w a b
  replace B := bb B hb1
  have X1 := hid hx2
  have hs3 : (w.alloc (.cells #[.string a, .string b] 23)).heap.size = w.heap.size + 1 := by simp
  clear hb1 hx2
  have hb4 := (Below.refl _ _).alloc (Nat.le_refl (w.alloc (.cells #[.string a, .string b] 23)).heap.size) (.cells #[.string c, .string d] 23)
  have hx5 := Vbx.new (w.alloc (.cells #[.string a, .string b] 23)) c d
  rw [hs3] at hx5
  replace X1 := vx X1 hb4
  replace B := bb B hb4
  have X2 := hid hx5
  have hs6 : ((w.alloc (.cells #[.string a, .string b] 23)).alloc (.cells #[.string c, .string d] 23)).heap.size = w.heap.size + 1 + 1 := by simp [hs3]
  clear hb4 hx5
  have hb7 := (Below.refl _ _).alloc (Nat.le_refl ((w.alloc (.cells #[.string a, .string b] 23)).alloc (.cells #[.string c, .string d] 23)).heap.size) (.cells #[.string ⟨#[]⟩, .string ⟨#[]⟩] 23)
  have hx8 := Vbx.new ((w.alloc (.cells #[.string a, .string b] 23)).alloc (.cells #[.string c, .string d] 23)) ⟨#[]⟩ ⟨#[]⟩
  rw [hs6] at hx8
  replace X1 := vx X1 hb7
  replace X2 := vx X2 hb7
  replace B := bb B hb7
  have XV := hid hx8
  have hs9 : (((w.alloc (.cells #[.string a, .string b] 23)).alloc (.cells #[.string c, .string d] 23)).alloc (.cells #[.string ⟨#[]⟩, .string ⟨#[]⟩] 23)).heap.size = w.heap.size + 1 + 1 + 1 := by simp [hs6]
  clear hb7 hx8
  clear hs9 h1 h2
  go_enter Try.func11, Try.ntmps11
  obtain ⟨cc10a, cc10b⟩ := X1.out.both
  obtain ⟨cc11a, cc11b⟩ := X2.out.both
  obtain ⟨cc12a, cc12b⟩ := XV.out.both
  go_wp2_with fail
  generalize hW : ((w.alloc (.cells #[.string a, .string b] 23)).alloc (.cells #[.string c, .string d] 23)).alloc (.cells #[.string ⟨#[]⟩, .string ⟨#[]⟩] 23) = W13 at *
  clear hW
  refine (H1.out _).mono ?_
  rintro e w14 ⟨rfl, hb⟩
  replace XV := vx XV hb
  replace B := bb B hb
  clear cc10a cc10b cc11a cc11b cc12a cc12b
  clear hb H1
  obtain ⟨cc15a, cc15b⟩ := XV.out.both
  obtain ⟨cc16a, cc16b, cc16c, cc16d⟩ := XV.out.stores
  obtain ⟨r17a, r17b, r17c⟩ := XV.out.last B.out (by omega) (qtxt (lo4 ((qnum a) * (qnum c)) ((qnum a) * (qnum d)) ((qnum b) * (qnum c)) ((qnum b) * (qnum d)))) (qtxt (hi4 ((qnum a) * (qnum c)) ((qnum a) * (qnum d)) ((qnum b) * (qnum c)) ((qnum b) * (qnum d))))
  replace XV := hid r17a
  replace B := hid r17b
  clear r17a r17b r17c
  obtain ⟨cc18a, cc18b⟩ := XV.out.both
  go_wp2_with fail
  refine bodyPost_ret (res_ival_tmp rfl rfl rfl XV.out) rfl ?_
  exact ⟨rfl, B.out⟩

set_option maxHeartbeats 4000000 in
theorem ihull_bad {a b c d : ByteArray} {k : Int} (h : WrongI a b c d k) (ha : a.size ≤ maxLen) (hb0 : b.size ≤ maxLen) (hc0 : c.size ≤ maxLen) (hd0 : d.size ≤ maxLen) (w : World) :
    Calls Try.prog 12 #[.agg #[.string a, .string b], .agg #[.string c, .string d]] w fun e w' => e = .returned (.tuple #[.agg #[.string ⟨#[]⟩, .string ⟨#[]⟩], errno k]) ∧ Below w.heap.size w w' := by
  have hne := errv_neq
  have hgd := errv_guard
  have hkk := errv_some h.ne
  have H1 := hid (fun w f => combine_bad (f := f) h ha hb0 hc0 hd0 w)
  have B := hid (Below.refl w.heap.size w)
  have hb1 := (Below.refl _ _).alloc (Nat.le_refl w.heap.size) (.cells #[.string a, .string b] 23)
  have hx2 := Vbx.new w a b
  replace B := bb B hb1
  have X1 := hid hx2
  have hs3 : (w.alloc (.cells #[.string a, .string b] 23)).heap.size = w.heap.size + 1 := by simp
  clear hb1 hx2
  have hb4 := (Below.refl _ _).alloc (Nat.le_refl (w.alloc (.cells #[.string a, .string b] 23)).heap.size) (.cells #[.string c, .string d] 23)
  have hx5 := Vbx.new (w.alloc (.cells #[.string a, .string b] 23)) c d
  rw [hs3] at hx5
  replace X1 := vx X1 hb4
  replace B := bb B hb4
  have X2 := hid hx5
  have hs6 : ((w.alloc (.cells #[.string a, .string b] 23)).alloc (.cells #[.string c, .string d] 23)).heap.size = w.heap.size + 1 + 1 := by simp [hs3]
  clear hb4 hx5
  have hb7 := (Below.refl _ _).alloc (Nat.le_refl ((w.alloc (.cells #[.string a, .string b] 23)).alloc (.cells #[.string c, .string d] 23)).heap.size) (.cells #[.string ⟨#[]⟩, .string ⟨#[]⟩] 23)
  have hx8 := Vbx.new ((w.alloc (.cells #[.string a, .string b] 23)).alloc (.cells #[.string c, .string d] 23)) ⟨#[]⟩ ⟨#[]⟩
  rw [hs6] at hx8
  replace X1 := vx X1 hb7
  replace X2 := vx X2 hb7
  replace B := bb B hb7
  have XV := hid hx8
  have hs9 : (((w.alloc (.cells #[.string a, .string b] 23)).alloc (.cells #[.string c, .string d] 23)).alloc (.cells #[.string ⟨#[]⟩, .string ⟨#[]⟩] 23)).heap.size = w.heap.size + 1 + 1 + 1 := by simp [hs6]
  clear hb7 hx8
  clear hs9 h
  go_enter Try.func12, Try.ntmps12
  obtain ⟨cc10a, cc10b⟩ := X1.out.both
  obtain ⟨cc11a, cc11b⟩ := X2.out.both
  obtain ⟨cc12a, cc12b⟩ := XV.out.both
  go_wp2_with fail
  generalize hW : ((w.alloc (.cells #[.string a, .string b] 23)).alloc (.cells #[.string c, .string d] 23)).alloc (.cells #[.string ⟨#[]⟩, .string ⟨#[]⟩] 23) = W13 at *
  clear hW
  refine (H1.out _ _).mono ?_
  rintro e w14 ⟨rfl, hb⟩
  replace XV := vx XV hb
  replace B := bb B hb
  clear cc10a cc10b cc11a cc11b cc12a cc12b
  clear hb H1
  obtain ⟨cc15a, cc15b⟩ := XV.out.both
  obtain ⟨cc16a, cc16b, cc16c, cc16d⟩ := XV.out.stores
  obtain ⟨r17a, r17b, r17c⟩ := XV.out.last B.out (by omega) ⟨#[]⟩ ⟨#[]⟩
  replace XV := hid r17a
  replace B := hid r17b
  clear r17a r17b r17c
  obtain ⟨cc18a, cc18b⟩ := XV.out.both
  go_wp2_with fail
  refine bodyPost_ret (res_ival_tmp rfl rfl rfl XV.out) rfl ?_
  exact ⟨rfl, B.out⟩

set_option maxHeartbeats 4000000 in
theorem ihull_good {a b c d : ByteArray} (h1 : GoodI a b) (h2 : GoodI c d) (w : World) :
    Calls Try.prog 12 #[.agg #[.string a, .string b], .agg #[.string c, .string d]] w fun e w' => e = .returned (.tuple #[.agg #[.string (qtxt (lo4 (qnum a) (qnum b) (qnum c) (qnum d))), .string (qtxt (hi4 (qnum a) (qnum b) (qnum c) (qnum d)))], .nilIface]) ∧ Below w.heap.size w w' := by
  have hne := errv_neq
  have hgd := errv_guard
  have H1 := hid (fun w => combine_hull h1 h2 w)
  have B := hid (Below.refl w.heap.size w)
  have hb1 := (Below.refl _ _).alloc (Nat.le_refl w.heap.size) (.cells #[.string a, .string b] 23)
  have hx2 := Vbx.new w a b
  replace B := bb B hb1
  have X1 := hid hx2
  have hs3 : (w.alloc (.cells #[.string a, .string b] 23)).heap.size = w.heap.size + 1 := by simp
  clear hb1 hx2
  have hb4 := (Below.refl _ _).alloc (Nat.le_refl (w.alloc (.cells #[.string a, .string b] 23)).heap.size) (.cells #[.string c, .string d] 23)
  have hx5 := Vbx.new (w.alloc (.cells #[.string a, .string b] 23)) c d
  rw [hs3] at hx5
  replace X1 := vx X1 hb4
  replace B := bb B hb4
  have X2 := hid hx5
  have hs6 : ((w.alloc (.cells #[.string a, .string b] 23)).alloc (.cells #[.string c, .string d] 23)).heap.size = w.heap.size + 1 + 1 := by simp [hs3]
  clear hb4 hx5
  have hb7 := (Below.refl _ _).alloc (Nat.le_refl ((w.alloc (.cells #[.string a, .string b] 23)).alloc (.cells #[.string c, .string d] 23)).heap.size) (.cells #[.string ⟨#[]⟩, .string ⟨#[]⟩] 23)
  have hx8 := Vbx.new ((w.alloc (.cells #[.string a, .string b] 23)).alloc (.cells #[.string c, .string d] 23)) ⟨#[]⟩ ⟨#[]⟩
  rw [hs6] at hx8
  replace X1 := vx X1 hb7
  replace X2 := vx X2 hb7
  replace B := bb B hb7
  have XV := hid hx8
  have hs9 : (((w.alloc (.cells #[.string a, .string b] 23)).alloc (.cells #[.string c, .string d] 23)).alloc (.cells #[.string ⟨#[]⟩, .string ⟨#[]⟩] 23)).heap.size = w.heap.size + 1 + 1 + 1 := by simp [hs6]
  clear hb7 hx8
  clear hs9 h1 h2
  go_enter Try.func12, Try.ntmps12
  obtain ⟨cc10a, cc10b⟩ := X1.out.both
  obtain ⟨cc11a, cc11b⟩ := X2.out.both
  obtain ⟨cc12a, cc12b⟩ := XV.out.both
  go_wp2_with fail
  generalize hW : ((w.alloc (.cells #[.string a, .string b] 23)).alloc (.cells #[.string c, .string d] 23)).alloc (.cells #[.string ⟨#[]⟩, .string ⟨#[]⟩] 23) = W13 at *
  clear hW
  refine (H1.out _).mono ?_
  rintro e w14 ⟨rfl, hb⟩
  replace XV := vx XV hb
  replace B := bb B hb
  clear cc10a cc10b cc11a cc11b cc12a cc12b
  clear hb H1
  obtain ⟨cc15a, cc15b⟩ := XV.out.both
  obtain ⟨cc16a, cc16b, cc16c, cc16d⟩ := XV.out.stores
  obtain ⟨r17a, r17b, r17c⟩ := XV.out.last B.out (by omega) (qtxt (lo4 (qnum a) (qnum b) (qnum c) (qnum d))) (qtxt (hi4 (qnum a) (qnum b) (qnum c) (qnum d)))
  replace XV := hid r17a
  replace B := hid r17b
  clear r17a r17b r17c
  obtain ⟨cc18a, cc18b⟩ := XV.out.both
  go_wp2_with fail
  refine bodyPost_ret (res_ival_tmp rfl rfl rfl XV.out) rfl ?_
  exact ⟨rfl, B.out⟩

end Go.Proofs.Ytkdeopikojgboaa

/-
  PACKAGE ival AT WHATEVER TEXTS.
-/
namespace Go.Proofs.Ytkdeopikojgboaa
open Go.RowKit
open Num
set_option linter.unusedVariables false
set_option maxRecDepth 100000
set_option linter.unusedSimpArgs false

/-- What the functions make of four ends. -/
def addF (p q r s : Rat) : Rat × Rat := (mn (p + r) (q + s), mx (p + r) (q + s))
def mulF (p q r s : Rat) : Rat × Rat := (lo4 (p * r) (p * s) (q * r) (q * s), hi4 (p * r) (p * s) (q * r) (q * s))
def hullF (p q r s : Rat) : Rat × Rat := (lo4 p q r s, hi4 p q r s)
def divF (p q r s : Rat) : Rat × Rat := (lo4 (p / r) (p / s) (q / r) (q / s), hi4 (p / r) (p / s) (q / r) (q / s))
/-- What is told of two intervals. -/
def ITells (F : Rat → Rat → Rat → Rat → Rat × Rat) (a b c d x y : ByteArray) (k : Int) : Prop :=
  (k = 0 ∧ GoodI a b ∧ GoodI c d ∧ x = qtxt (F (qnum a) (qnum b) (qnum c) (qnum d)).1 ∧ y = qtxt (F (qnum a) (qnum b) (qnum c) (qnum d)).2) ∨ (k ≠ 0 ∧ WrongI a b c d k ∧ x = ⟨#[]⟩ ∧ y = ⟨#[]⟩)
theorem ITells.yes {F : Rat → Rat → Rat → Rat → Rat × Rat} {a b c d x y : ByteArray} {k : Int} (h : ITells F a b c d x y k) (hk : k = 0) : GoodI a b ∧ GoodI c d ∧ qnum x = (F (qnum a) (qnum b) (qnum c) (qnum d)).1 ∧ qnum y = (F (qnum a) (qnum b) (qnum c) (qnum d)).2 := by
  rcases h with ⟨_, h1, h2, h3, h4⟩ | ⟨h, _⟩
  · exact ⟨h1, h2, by rw [h3, qnum_qtxt], by rw [h4, qnum_qtxt]⟩
  · exact absurd hk h
theorem ITells.zero {F : Rat → Rat → Rat → Rat → Rat × Rat} {a b c d x y : ByteArray} {k : Int} (h : ITells F a b c d x y k) (h1 : GoodI a b) (h2 : GoodI c d) : k = 0 := by
  rcases h with ⟨h, _⟩ | ⟨_, h, _⟩
  · exact h
  · exact absurd ⟨h1, h2⟩ h.not
def IDivs (a b c d x y : ByteArray) (k : Int) : Prop :=
  (k = 0 ∧ GoodI a b ∧ GoodI c d ∧ ¬ (qnum c ≤ 0 ∧ 0 ≤ qnum d) ∧ qnum x = (divF (qnum a) (qnum b) (qnum c) (qnum d)).1 ∧ qnum y = (divF (qnum a) (qnum b) (qnum c) (qnum d)).2) ∨ k ≠ 0
def IHas (a b x : ByteArray) (t : Bool) (k : Int) : Prop :=
  (k = 0 ∧ GoodI a b ∧ GoodQ x ∧ t = decide (qnum a ≤ qnum x ∧ qnum x ≤ qnum b)) ∨ (k ≠ 0 ∧ ¬ (GoodI a b ∧ GoodQ x) ∧ t = false)
theorem IHas.yes {a b x : ByteArray} {t : Bool} {k : Int} (h : IHas a b x t k) (hk : k = 0) (ht : t = true) : GoodI a b ∧ GoodQ x ∧ qnum a ≤ qnum x ∧ qnum x ≤ qnum b := by
  rcases h with ⟨_, h1, h2, h3⟩ | ⟨h, _⟩
  · rw [ht] at h3
    exact ⟨h1, h2, (of_decide_eq_true h3.symm).1, (of_decide_eq_true h3.symm).2⟩
  · exact absurd hk h
theorem IHas.zero {a b x : ByteArray} {t : Bool} {k : Int} (h : IHas a b x t k) (h1 : GoodI a b) (h2 : GoodQ x) : k = 0 := by
  rcases h with ⟨h, _⟩ | ⟨_, h, _⟩
  · exact h
  · exact absurd ⟨h1, h2⟩ h
theorem IHas.inside {a b x : ByteArray} {t : Bool} {k : Int} (h : IHas a b x t k) (h1 : qnum a ≤ qnum x) (h2 : qnum x ≤ qnum b) : (k = 0 ∧ t = true) ∨ ((k != 0) = true) := by
  rcases h with ⟨hk, _, _, h3⟩ | ⟨h, _⟩
  · exact .inl ⟨hk, by rw [h3]; exact decide_eq_true ⟨h1, h2⟩⟩
  · exact .inr (by simpa using h)
theorem size_or {p a b c d : Rat} (h : p = a ∨ p = b ∨ p = c ∨ p = d) {m : Nat} (ha : (qtxt a).size ≤ m) (hb : (qtxt b).size ≤ m) (hc : (qtxt c).size ≤ m) (hd : (qtxt d).size ≤ m) : (qtxt p).size ≤ m := by
  rcases h with e | e | e | e <;> rw [e] <;> assumption
theorem size_qn {a : ByteArray} (h : GoodQ a) : (qtxt (qnum a)).size ≤ maxLen := by
  rw [qtxt_good h]
  have := h.1
  unfold maxLen
  omega

theorem iadd_any (a b c d : ByteArray) (ha : a.size ≤ maxLen) (hb0 : b.size ≤ maxLen) (hc0 : c.size ≤ maxLen) (hd0 : d.size ≤ maxLen) (w : World) :
    Calls Try.prog 10 #[.agg #[.string a, .string b], .agg #[.string c, .string d]] w fun e w' => ∃ x y k, e = .returned (.tuple #[.agg #[.string x, .string y], errv k]) ∧ ITells addF a b c d x y k ∧ x.size ≤ maxLen ∧ y.size ≤ maxLen ∧ Below w.heap.size w w' := by
  rcases rightI_or_wrong a b c d with ⟨h1, h2⟩ | ⟨k, h⟩
  · refine (iadd_good h1 h2 w).mono ?_
    rintro e w' ⟨rfl, hb⟩
    exact ⟨_, _, 0, rfl, .inl ⟨rfl, h1, h2, rfl, rfl⟩, by rcases mn_or (qnum a + qnum c) (qnum b + qnum d) with e | e <;> (rw [e]; first | exact size_add h1.1 h2.1 | exact size_add h1.2.1 h2.2.1), by rcases mx_or (qnum a + qnum c) (qnum b + qnum d) with e | e <;> (rw [e]; first | exact size_add h1.1 h2.1 | exact size_add h1.2.1 h2.2.1), hb⟩
  · refine (iadd_bad h ha hb0 hc0 hd0 w).mono ?_
    rintro e w' ⟨rfl, hb⟩
    exact ⟨_, _, k, by rw [errv_some h.ne], .inr ⟨h.ne, h, rfl, rfl⟩, Nat.zero_le _, Nat.zero_le _, hb⟩

theorem imul_any (a b c d : ByteArray) (ha : a.size ≤ maxLen) (hb0 : b.size ≤ maxLen) (hc0 : c.size ≤ maxLen) (hd0 : d.size ≤ maxLen) (w : World) :
    Calls Try.prog 11 #[.agg #[.string a, .string b], .agg #[.string c, .string d]] w fun e w' => ∃ x y k, e = .returned (.tuple #[.agg #[.string x, .string y], errv k]) ∧ ITells mulF a b c d x y k ∧ x.size ≤ maxLen ∧ y.size ≤ maxLen ∧ Below w.heap.size w w' := by
  rcases rightI_or_wrong a b c d with ⟨h1, h2⟩ | ⟨k, h⟩
  · refine (imul_good h1 h2 w).mono ?_
    rintro e w' ⟨rfl, hb⟩
    exact ⟨_, _, 0, rfl, .inl ⟨rfl, h1, h2, rfl, rfl⟩, size_or (lo4_or _ _ _ _) (size_mul h1.1 h2.1) (size_mul h1.1 h2.2.1) (size_mul h1.2.1 h2.1) (size_mul h1.2.1 h2.2.1), size_or (hi4_or _ _ _ _) (size_mul h1.1 h2.1) (size_mul h1.1 h2.2.1) (size_mul h1.2.1 h2.1) (size_mul h1.2.1 h2.2.1), hb⟩
  · refine (imul_bad h ha hb0 hc0 hd0 w).mono ?_
    rintro e w' ⟨rfl, hb⟩
    exact ⟨_, _, k, by rw [errv_some h.ne], .inr ⟨h.ne, h, rfl, rfl⟩, Nat.zero_le _, Nat.zero_le _, hb⟩

theorem ihull_any (a b c d : ByteArray) (ha : a.size ≤ maxLen) (hb0 : b.size ≤ maxLen) (hc0 : c.size ≤ maxLen) (hd0 : d.size ≤ maxLen) (w : World) :
    Calls Try.prog 12 #[.agg #[.string a, .string b], .agg #[.string c, .string d]] w fun e w' => ∃ x y k, e = .returned (.tuple #[.agg #[.string x, .string y], errv k]) ∧ ITells hullF a b c d x y k ∧ x.size ≤ maxLen ∧ y.size ≤ maxLen ∧ Below w.heap.size w w' := by
  rcases rightI_or_wrong a b c d with ⟨h1, h2⟩ | ⟨k, h⟩
  · refine (ihull_good h1 h2 w).mono ?_
    rintro e w' ⟨rfl, hb⟩
    exact ⟨_, _, 0, rfl, .inl ⟨rfl, h1, h2, rfl, rfl⟩, size_or (lo4_or _ _ _ _) (size_qn h1.1) (size_qn h1.2.1) (size_qn h2.1) (size_qn h2.2.1), size_or (hi4_or _ _ _ _) (size_qn h1.1) (size_qn h1.2.1) (size_qn h2.1) (size_qn h2.2.1), hb⟩
  · refine (ihull_bad h ha hb0 hc0 hd0 w).mono ?_
    rintro e w' ⟨rfl, hb⟩
    exact ⟨_, _, k, by rw [errv_some h.ne], .inr ⟨h.ne, h, rfl, rfl⟩, Nat.zero_le _, Nat.zero_le _, hb⟩

theorem ihas_any (a b x : ByteArray) (ha : a.size ≤ maxLen) (hb0 : b.size ≤ maxLen) (hx0 : x.size ≤ maxLen) (w : World) :
    Calls Try.prog 7 #[.agg #[.string a, .string b], .string x] w fun e w' => ∃ t k, e = .returned (.tuple #[.bool t, errv k]) ∧ IHas a b x t k ∧ Below w.heap.size w w' := by
  rcases goodI_or_bad a b with h1 | ⟨k, h⟩
  · rcases goodQ_or_bad x with h2 | ⟨k, h2⟩
    · refine (ihas_c h1 h2 w).mono ?_
      rintro e w' ⟨rfl, hb⟩
      exact ⟨_, 0, rfl, .inl ⟨rfl, h1, h2, rfl⟩, hb⟩
    · refine (ihas_b h1 h2 hx0 w).mono ?_
      rintro e w' ⟨rfl, hb⟩
      exact ⟨_, k, by rw [errv_some h2.ne], .inr ⟨h2.ne, fun h => h2.not h.2, rfl⟩, hb⟩
  · refine (ihas_a h ha hb0 w).mono ?_
    rintro e w' ⟨rfl, hb⟩
    exact ⟨_, k, by rw [errv_some h.ne], .inr ⟨h.ne, fun h3 => h.not h3.1, rfl⟩, hb⟩

end Go.Proofs.Ytkdeopikojgboaa

/-
  THE LAWS OF INTERVALS: what they stand on.
-/
namespace Go.Proofs.Ytkdeopikojgboaa
open Go.RowKit
open Num
set_option linter.unusedVariables false
set_option maxRecDepth 100000
set_option linter.unusedSimpArgs false

theorem lo_le_hi (a b c d : Rat) : lo4 a b c d ≤ hi4 a b c d := by
  have := lo4_le a b c d
  have := le_hi4 a b c d
  grind
theorem mn_first {a b : Rat} (h : a ≤ b) : mn a b = a := by unfold mn; rw [if_neg (by grind)]
theorem mx_second {a b : Rat} (h : a ≤ b) : mx a b = b := by
  unfold mx
  by_cases h2 : a < b
  · rw [if_pos h2]
  · rw [if_neg h2]; grind

/-- IvalLess: both ends are in. -/
theorem less_in {al ah bl bh cl ch hl hh xl xh yl yh : ByteArray} (t1 : ITells hullF al ah bl bh hl hh 0) (t2 : ITells mulF al ah cl ch xl xh 0) (t3 : ITells mulF hl hh cl ch yl yh 0) : (qnum yl ≤ qnum xl ∧ qnum xl ≤ qnum yh) ∧ (qnum yl ≤ qnum xh ∧ qnum xh ≤ qnum yh) := by
  obtain ⟨g1, g2, e1, e2⟩ := t1.yes rfl
  obtain ⟨_, g3, e3, e4⟩ := t2.yes rfl
  obtain ⟨_, _, e5, e6⟩ := t3.yes rfl
  simp only [hullF, mulF] at e1 e2 e3 e4 e5 e6
  have hL := lo4_le (qnum al) (qnum ah) (qnum bl) (qnum bh)
  have hH := le_hi4 (qnum al) (qnum ah) (qnum bl) (qnum bh)
  have hw := mul_wider (p := qnum al) (q := qnum ah) (p' := qnum hl) (q' := qnum hh) g1.2.2 g3.2.2 (by rw [e1]; exact hL.1) (by rw [e2]; exact hH.2.1)
  rw [← e3, ← e4, ← e5, ← e6] at hw
  have ho := lo_le_hi (qnum al * qnum cl) (qnum al * qnum ch) (qnum ah * qnum cl) (qnum ah * qnum ch)
  rw [← e3, ← e4] at ho
  grind

/-- IvalSpreads: both ends are in. -/
theorem spreads_in {al ah bl bh cl ch sl sh xl xh yl yh zl zh tl th : ByteArray} (t1 : ITells addF bl bh cl ch sl sh 0) (t2 : ITells mulF al ah sl sh xl xh 0) (t3 : ITells mulF al ah bl bh yl yh 0) (t4 : ITells mulF al ah cl ch zl zh 0) (t5 : ITells addF yl yh zl zh tl th 0) : (qnum tl ≤ qnum xl ∧ qnum xl ≤ qnum th) ∧ (qnum tl ≤ qnum xh ∧ qnum xh ≤ qnum th) := by
  obtain ⟨g2, g3, e1, e2⟩ := t1.yes rfl
  obtain ⟨g1, _, e3, e4⟩ := t2.yes rfl
  obtain ⟨_, _, e5, e6⟩ := t3.yes rfl
  obtain ⟨_, _, e7, e8⟩ := t4.yes rfl
  obtain ⟨g4, g5, e9, e10⟩ := t5.yes rfl
  simp only [addF, mulF] at e1 e2 e3 e4 e5 e6 e7 e8 e9 e10
  have b1 := g2.2.2
  have b2 := g3.2.2
  have b3 := g4.2.2
  have b4 := g5.2.2
  rw [mn_first (by grind)] at e1 e9
  rw [mx_second (by grind)] at e2 e10
  have hw := mul_spreads (p := qnum al) (q := qnum ah) g1.2.2 b1 b2
  rw [← e1, ← e2, ← e3, ← e4, ← e5, ← e6, ← e7, ← e8, ← e9, ← e10] at hw
  have ho := lo_le_hi (qnum al * qnum sl) (qnum al * qnum sh) (qnum ah * qnum sl) (qnum ah * qnum sh)
  rw [← e3, ← e4] at ho
  grind

end Go.Proofs.Ytkdeopikojgboaa

/-
  THE GOLDEN INTERVAL.
-/
namespace Go.Proofs.Ytkdeopikojgboaa
open Go.RowKit
open Num
set_option linter.unusedVariables false
set_option maxRecDepth 100000
set_option linter.unusedSimpArgs false

theorem spanned_good : GoodI ⟨#[45, 49]⟩ ⟨#[50]⟩ ∧ GoodI ⟨#[45, 51]⟩ ⟨#[49]⟩ := ⟨⟨⟨by decide, by decide +kernel⟩, ⟨by decide, by decide +kernel⟩, by decide +kernel⟩, ⟨⟨by decide, by decide +kernel⟩, ⟨by decide, by decide +kernel⟩, by decide +kernel⟩⟩
theorem spanned_gold : qtxt (lo4 (qnum ⟨#[45, 49]⟩ * qnum ⟨#[45, 51]⟩) (qnum ⟨#[45, 49]⟩ * qnum ⟨#[49]⟩) (qnum ⟨#[50]⟩ * qnum ⟨#[45, 51]⟩) (qnum ⟨#[50]⟩ * qnum ⟨#[49]⟩)) = ⟨#[45, 54]⟩ ∧ qtxt (hi4 (qnum ⟨#[45, 49]⟩ * qnum ⟨#[45, 51]⟩) (qnum ⟨#[45, 49]⟩ * qnum ⟨#[49]⟩) (qnum ⟨#[50]⟩ * qnum ⟨#[45, 51]⟩) (qnum ⟨#[50]⟩ * qnum ⟨#[49]⟩)) = ⟨#[51]⟩ := by
  have e1 := qtxt_qnum (s := ⟨#[45, 54]⟩) (by decide +kernel)
  have e2 := qtxt_qnum (s := ⟨#[51]⟩) (by decide +kernel)
  have e3 : lo4 (qnum ⟨#[45, 49]⟩ * qnum ⟨#[45, 51]⟩) (qnum ⟨#[45, 49]⟩ * qnum ⟨#[49]⟩) (qnum ⟨#[50]⟩ * qnum ⟨#[45, 51]⟩) (qnum ⟨#[50]⟩ * qnum ⟨#[49]⟩) = qnum ⟨#[45, 54]⟩ := by decide +kernel
  have e4 : hi4 (qnum ⟨#[45, 49]⟩ * qnum ⟨#[45, 51]⟩) (qnum ⟨#[45, 49]⟩ * qnum ⟨#[49]⟩) (qnum ⟨#[50]⟩ * qnum ⟨#[45, 51]⟩) (qnum ⟨#[50]⟩ * qnum ⟨#[49]⟩) = qnum ⟨#[51]⟩ := by decide +kernel
  rw [e3, e4]
  exact ⟨e1, e2⟩
-- @needs{abacist/abacistlaw1.spanned}@
set_option maxHeartbeats 400000 in
theorem spanned_true (w : World) :
    Calls Try.prog 6 #[] w fun e w' => e = .returned (.bool true) ∧ Below w.heap.size w w' := by
  have h := imul_good spanned_good.1 spanned_good.2 w
  rw [spanned_gold.1, spanned_gold.2] at h
  have H := hid h
  clear h
  go_enter Try.func6, Try.ntmps6
  go_wp2_with fail
  refine H.out.mono ?_
  rintro e w1 ⟨rfl, hb⟩
  have B := hid hb
  clear hb
  have hb1 := (Below.refl _ _).alloc (Nat.le_refl w1.heap.size) (.cells #[.string ⟨#[45, 54]⟩, .string ⟨#[51]⟩] 23)
  have hx := Vbx.new w1 ⟨#[45, 54]⟩ ⟨#[51]⟩
  replace B := bb B hb1
  obtain ⟨c0, c1⟩ := hx.both
  clear hb1
  go_wp2_with fail
  go_ret
  exact ⟨rfl, B.out⟩

end Go.Proofs.Ytkdeopikojgboaa
