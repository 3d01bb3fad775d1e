import Derived.Test.YtjeeepcnaaadmaaGreatDoorBunProofDecTells19
import Derived.Test.YtjeeepcnaaadmaaGreatDoorBunProofDecTells14
/-
  PACKAGE dec: nearest.
-/
namespace Go.Proofs.YtjeeepcnaaadmaaGreatDoor
open Go.RowKit
open Num
set_option linter.unusedVariables false
set_option maxRecDepth 100000
set_option linter.unusedSimpArgs false

set_option maxHeartbeats 8000000 in
theorem nearest_dec {w : World} {v : Value} {q : Rat} {n : Nat} (h : Rtl w v q 100) (hn : n ≤ 30) :
    Calls Tryz.prog 81 #[v, .int .i64 (n : Int)] w fun e w' => ∃ v, e = .returned v ∧ Dcl w' v (nearu q n) n 106 ∧ Below w.heap.size w w' := by
  obtain ⟨s1a, p1a, n1a, c1a, s1b, p1b, n1b, c1b, rfl⟩ := h.opened
  obtain ⟨ht1, d1, hu1, hd1⟩ := h.two
  have HD1 := hid hd1
  have HN := hid hn
  have B := hid (Below.refl w.heap.size w)
  have HT1 := hid ht1
  have HU1 := hid hu1
  have hb1 := (Below.refl _ _).alloc (Nat.le_refl w.heap.size) (.cells #[.bool s1a, .slice p1a n1a c1a, .bool s1b, .slice p1b n1b c1b] 83)
  have hx2 := Nbx.new w s1a s1b (.slice p1a n1a c1a) (.slice p1b n1b c1b)
  replace HT1 := wl HT1 hb1
  replace HU1 := wl HU1 hb1
  replace B := bb B hb1
  have X1 := hid hx2
  have hs3 : (w.alloc (.cells #[.bool s1a, .slice p1a n1a c1a, .bool s1b, .slice p1b n1b c1b] 83)).heap.size = w.heap.size + 1 := by simp
  clear hb1 hx2
  have hb4 := (Below.refl _ _).alloc (Nat.le_refl (w.alloc (.cells #[.bool s1a, .slice p1a n1a c1a, .bool s1b, .slice p1b n1b c1b] 83)).heap.size) (.cells #[.bool false, .slice none 0 0, .int .i64 0] 119)
  have hx5 := Dbx.new (w.alloc (.cells #[.bool s1a, .slice p1a n1a c1a, .bool s1b, .slice p1b n1b c1b] 83)) false none 0 0 0
  rw [hs3] at hx5
  replace X1 := nx X1 hb4
  replace HT1 := wl HT1 hb4
  replace HU1 := wl HU1 hb4
  replace B := bb B hb4
  have R4 := hid hx5
  have hs6 : ((w.alloc (.cells #[.bool s1a, .slice p1a n1a c1a, .bool s1b, .slice p1b n1b c1b] 83)).alloc (.cells #[.bool false, .slice none 0 0, .int .i64 0] 119)).heap.size = w.heap.size + 1 + 1 := by simp [hs3]
  clear hb4 hx5
  clear hs6 h ht1 hu1 hd1 hn
  go_enter Tryz.func81, Tryz.ntmps81
  obtain ⟨cc7a, cc7b, cc7c, cc7d⟩ := X1.out.cells
  obtain ⟨cc8a, cc8b, cc8c⟩ := R4.out.cells
  go_wp2_with fail
  generalize hW : (w.alloc (.cells #[.bool s1a, .slice p1a n1a c1a, .bool s1b, .slice p1b n1b c1b] 83)).alloc (.cells #[.bool false, .slice none 0 0, .int .i64 0] 119) = W9 at *
  clear hW
  refine (around_dec (Rtl.mk2 HT1.out HU1.out HD1.out) HN.out).mono ?_
  rintro e w10 ⟨v, u, rfl, hv, hu, hb⟩
  obtain ⟨s2, p2, n2, c2, rfl⟩ := hv.opened
  obtain ⟨s3, p3, n3, c3, rfl⟩ := hu.opened
  replace hv := hv.one
  replace hu := hu.one
  replace X1 := nx X1 hb
  replace R4 := dx R4 hb
  replace HT1 := wl HT1 hb
  replace HU1 := wl HU1 hb
  replace B := bb B hb
  clear cc7a cc7b cc7c cc7d cc8a cc8b cc8c
  have HL := hid hv
  have HH := hid hu
  clear hb hv hu
  have hb11 := (Below.refl _ _).alloc (Nat.le_refl w10.heap.size) (.cells #[.bool s2, .slice p2 n2 c2, .int .i64 (n : Int)] 119)
  have hx12 := Dbx.new w10 s2 p2 n2 c2 (n : Int)
  have L0 := hid R4.out.lt
  replace X1 := nx X1 hb11
  replace R4 := dx R4 hb11
  replace HT1 := wl HT1 hb11
  replace HU1 := wl HU1 hb11
  replace HL := wl HL hb11
  replace HH := wl HH hb11
  replace B := bb B hb11
  have XL := hid hx12
  have hs13 : (w10.alloc (.cells #[.bool s2, .slice p2 n2 c2, .int .i64 (n : Int)] 119)).heap.size = w10.heap.size + 1 := by simp
  clear hb11 hx12
  have hb14 := (Below.refl _ _).alloc (Nat.le_refl (w10.alloc (.cells #[.bool s2, .slice p2 n2 c2, .int .i64 (n : Int)] 119)).heap.size) (.cells #[.bool s3, .slice p3 n3 c3, .int .i64 (n : Int)] 119)
  have hx15 := Dbx.new (w10.alloc (.cells #[.bool s2, .slice p2 n2 c2, .int .i64 (n : Int)] 119)) s3 p3 n3 c3 (n : Int)
  rw [hs13] at hx15
  replace X1 := nx X1 hb14
  replace R4 := dx R4 hb14
  replace XL := dx XL hb14
  replace HT1 := wl HT1 hb14
  replace HU1 := wl HU1 hb14
  replace HL := wl HL hb14
  replace HH := wl HH hb14
  replace B := bb B hb14
  have XH := hid hx15
  have hs16 : ((w10.alloc (.cells #[.bool s2, .slice p2 n2 c2, .int .i64 (n : Int)] 119)).alloc (.cells #[.bool s3, .slice p3 n3 c3, .int .i64 (n : Int)] 119)).heap.size = w10.heap.size + 1 + 1 := by simp [hs13]
  clear hb14 hx15
  obtain ⟨cc17a, cc17b, cc17c, cc17d⟩ := X1.out.cells
  obtain ⟨cc18a, cc18b, cc18c⟩ := R4.out.cells
  obtain ⟨cc19a, cc19b, cc19c⟩ := XL.out.cells
  obtain ⟨cc20a, cc20b, cc20c⟩ := XH.out.cells
  go_wp2_with fail
  generalize hW : (w10.alloc (.cells #[.bool s2, .slice p2 n2 c2, .int .i64 (n : Int)] 119)).alloc (.cells #[.bool s3, .slice p3 n3 c3, .int .i64 (n : Int)] 119) = W21 at *
  clear hW
  clear cc17a cc17b cc17c cc17d cc18a cc18b cc18c cc19a cc19b cc19c cc20a cc20b cc20c
  have LQ := hid R4.out.lt
  have LX := hid (show w.heap.size + 1 < w10.heap.size ∧ w.heap.size + 1 < w10.heap.size + 1 by have := L0.out; omega)
  refine region_ops (by kernel_rfl) (by kernel_rfl) (fun a f a' w' => ∃ u7 u8 u15 u16 u17 u18 u19 u20 u21 u22 : Value, a' = { tmps := ((((((((((a.tmps.setIfInBounds 7 u7).setIfInBounds 8 u8).setIfInBounds 15 u15).setIfInBounds 16 u16).setIfInBounds 17 u17).setIfInBounds 18 u18).setIfInBounds 19 u19).setIfInBounds 20 u20).setIfInBounds 21 u21).setIfInBounds 22 u22), defers := a.defers } ∧ Hid (Below W21.heap.size W21 w') ∧ Hid (f 0 = true → u15 = (.agg #[.bool s1a, .slice p1a n1a c1a, .bool s1b, .slice p1b n1b c1b])) ∧ Hid (f 1 = true → u16 = (.agg #[.bool s1a, .slice p1a n1a c1a, .bool s1b, .slice p1b n1b c1b])) ∧ Hid (f 2 = true → Rtl w' u17 (q + q) 201) ∧ Hid (f 3 = true → u18 = (.agg #[.bool s2, .slice p2 n2 c2, .int .i64 (n : Int)])) ∧ Hid (f 4 = true → Rtl w' u19 (unq (lowu q n) n) 106) ∧ Hid (f 5 = true → u20 = (.agg #[.bool s3, .slice p3 n3 c3, .int .i64 (n : Int)])) ∧ Hid (f 6 = true → Rtl w' u21 (unq (highu q n) n) 106) ∧ Hid (f 7 = true → Rtl w' u22 (unq (lowu q n) n + unq (highu q n) n) 213) ∧ Hid (f 8 = true → NewN W21 w' u7 (f 10) u17) ∧ Hid (f 9 = true → NewN W21 w' u8 (f 11) u22) ∧ (f 10 = true → f 8 = true) ∧ (f 10 = true → f 2 = true) ∧ (f 11 = true → f 9 = true) ∧ (f 11 = true → f 7 = true) ∧ (f 8 = true → f 9 = true → u7 ≠ u8)) ?h0 ⟨?s0, ?s1, ?s2, ?s3, ?s4, ?s5, ?s6, ?s7, ?s8, ?s9, ?s10, ?s11, trivial⟩ ?hend
  case h0 =>
    simp only [List.setIfInBounds_toArray, List.set_cons_zero, List.set_cons_succ]
    exact ⟨_, _, _, _, _, _, _, _, _, _, rfl, hid (Below.drew (Below.refl _ _)), hid (fun h => by cases h), hid (fun h => by cases h), hid (fun h => by cases h), hid (fun h => by cases h), hid (fun h => by cases h), hid (fun h => by cases h), hid (fun h => by cases h), hid (fun h => by cases h), hid (fun h => by cases h), hid (fun h => by cases h), fun h => h, fun h => h, fun h => h, fun h => h, fun h => by cases h⟩
  case s0 =>
    rintro f a1 w1 ⟨u7, u8, u15, u16, u17, u18, u19, u20, u21, u22, rfl, HBW, h0, h1, h2, h3, h4, h5, h6, h7, h8, h9, o10_8, o10_2, o11_9, o11_7, hne⟩ hf hd K hK
    simp only [List.setIfInBounds_toArray, List.set_cons_zero, List.set_cons_succ] at hK ⊢
    replace hK := hid hK
    obtain ⟨y1, y2, y3, y4⟩ := (X1.out.below HBW.out X1.out.lt).cells
    go_simp
    exact hK.out _ _ ⟨_, _, _, _, _, _, _, _, _, _, rfl, HBW, hid (fun h => rfl), hid (fun h => h1.out h), hid (fun h => h2.out h), hid (fun h => h3.out h), hid (fun h => h4.out h), hid (fun h => h5.out h), hid (fun h => h6.out h), hid (fun h => h7.out h), hid (fun h => h8.out h), hid (fun h => h9.out h), fun h => o10_8 h, fun h => o10_2 h, fun h => o11_9 h, fun h => o11_7 h, fun h => hne h⟩
  case s1 =>
    rintro f a1 w1 ⟨u7, u8, u15, u16, u17, u18, u19, u20, u21, u22, rfl, HBW, h0, h1, h2, h3, h4, h5, h6, h7, h8, h9, o10_8, o10_2, o11_9, o11_7, hne⟩ hf hd K hK
    simp only [List.setIfInBounds_toArray, List.set_cons_zero, List.set_cons_succ] at hK ⊢
    replace hK := hid hK
    obtain ⟨y1, y2, y3, y4⟩ := (X1.out.below HBW.out X1.out.lt).cells
    go_simp
    exact hK.out _ _ ⟨_, _, _, _, _, _, _, _, _, _, rfl, HBW, hid (fun h => h0.out h), hid (fun h => rfl), hid (fun h => h2.out h), hid (fun h => h3.out h), hid (fun h => h4.out h), hid (fun h => h5.out h), hid (fun h => h6.out h), hid (fun h => h7.out h), hid (fun h => h8.out h), hid (fun h => h9.out h), fun h => o10_8 h, fun h => o10_2 h, fun h => o11_9 h, fun h => o11_7 h, fun h => hne h⟩
  case s2 =>
    rintro f a1 w1 ⟨u7, u8, u15, u16, u17, u18, u19, u20, u21, u22, rfl, HBW, h0, h1, h2, h3, h4, h5, h6, h7, h8, h9, o10_8, o10_2, o11_9, o11_7, hne⟩ hf hd K hK
    simp only [List.setIfInBounds_toArray, List.set_cons_zero, List.set_cons_succ] at hK ⊢
    replace hK := hid hK
    simp [Region.binds] at hd
    obtain rfl := h0.out (by simp only [hd])
    obtain rfl := h1.out (by simp only [hd])
    go_simp
    refine (addq_rtl (Rtl.mk2 (HT1.out.below HBW.out (Nat.le_refl _)) (HU1.out.below HBW.out (Nat.le_refl _)) HD1.out) (Rtl.mk2 (HT1.out.below HBW.out (Nat.le_refl _)) (HU1.out.below HBW.out (Nat.le_refl _)) HD1.out) (by decide) (by decide)).mono ?_
    rintro e w2 ⟨v, rfl, hv, hb⟩
    go_wp2_with fail
    exact hK.out _ _ ⟨_, _, _, _, _, _, _, _, _, _, rfl, hid (below_next HBW.out hb), hid (fun h => rfl), hid (fun h => rfl), hid (fun h => hv), hid (fun h => h3.out h), hid (fun h => (h4.out h).on hb), hid (fun h => h5.out h), hid (fun h => (h6.out h).on hb), hid (fun h => (h7.out h).on hb), hid (fun h => ((h8.out h).on hb).free (by cases e : f 10 with | false => rfl | true => exact absurd (o10_2 e) (by rw [hf]; decide))), hid (fun h => (h9.out h).on hb), fun h => o10_8 h, fun _ => rfl, fun h => o11_9 h, fun h => o11_7 h, fun h => hne h⟩
  case s3 =>
    rintro f a1 w1 ⟨u7, u8, u15, u16, u17, u18, u19, u20, u21, u22, rfl, HBW, h0, h1, h2, h3, h4, h5, h6, h7, h8, h9, o10_8, o10_2, o11_9, o11_7, hne⟩ hf hd K hK
    simp only [List.setIfInBounds_toArray, List.set_cons_zero, List.set_cons_succ] at hK ⊢
    replace hK := hid hK
    obtain ⟨y1, y2, y3⟩ := (XL.out.below HBW.out XL.out.lt).cells
    go_simp
    exact hK.out _ _ ⟨_, _, _, _, _, _, _, _, _, _, rfl, HBW, hid (fun h => h0.out h), hid (fun h => h1.out h), hid (fun h => h2.out h), hid (fun h => rfl), hid (fun h => h4.out h), hid (fun h => h5.out h), hid (fun h => h6.out h), hid (fun h => h7.out h), hid (fun h => h8.out h), hid (fun h => h9.out h), fun h => o10_8 h, fun h => o10_2 h, fun h => o11_9 h, fun h => o11_7 h, fun h => hne h⟩
  case s4 =>
    rintro f a1 w1 ⟨u7, u8, u15, u16, u17, u18, u19, u20, u21, u22, rfl, HBW, h0, h1, h2, h3, h4, h5, h6, h7, h8, h9, o10_8, o10_2, o11_9, o11_7, hne⟩ hf hd K hK
    simp only [List.setIfInBounds_toArray, List.set_cons_zero, List.set_cons_succ] at hK ⊢
    replace hK := hid hK
    simp [Region.binds] at hd
    obtain rfl := h3.out (by simp only [hd])
    go_simp
    refine (number_dec (Dcl.mk1 (HL.out.below HBW.out (Nat.le_refl _))) HN.out).mono ?_
    rintro e w2 ⟨v, rfl, hv, hb⟩
    go_wp2_with fail
    exact hK.out _ _ ⟨_, _, _, _, _, _, _, _, _, _, rfl, hid (below_next HBW.out hb), hid (fun h => h0.out h), hid (fun h => h1.out h), hid (fun h => (h2.out h).on hb), hid (fun h => rfl), hid (fun h => hv), hid (fun h => h5.out h), hid (fun h => (h6.out h).on hb), hid (fun h => (h7.out h).on hb), hid (fun h => (h8.out h).on hb), hid (fun h => (h9.out h).on hb), fun h => o10_8 h, fun h => o10_2 h, fun h => o11_9 h, fun h => o11_7 h, fun h => hne h⟩
  case s5 =>
    rintro f a1 w1 ⟨u7, u8, u15, u16, u17, u18, u19, u20, u21, u22, rfl, HBW, h0, h1, h2, h3, h4, h5, h6, h7, h8, h9, o10_8, o10_2, o11_9, o11_7, hne⟩ hf hd K hK
    simp only [List.setIfInBounds_toArray, List.set_cons_zero, List.set_cons_succ] at hK ⊢
    replace hK := hid hK
    obtain ⟨y1, y2, y3⟩ := (XH.out.below HBW.out XH.out.lt).cells
    go_simp
    exact hK.out _ _ ⟨_, _, _, _, _, _, _, _, _, _, rfl, HBW, hid (fun h => h0.out h), hid (fun h => h1.out h), hid (fun h => h2.out h), hid (fun h => h3.out h), hid (fun h => h4.out h), hid (fun h => rfl), hid (fun h => h6.out h), hid (fun h => h7.out h), hid (fun h => h8.out h), hid (fun h => h9.out h), fun h => o10_8 h, fun h => o10_2 h, fun h => o11_9 h, fun h => o11_7 h, fun h => hne h⟩
  case s6 =>
    rintro f a1 w1 ⟨u7, u8, u15, u16, u17, u18, u19, u20, u21, u22, rfl, HBW, h0, h1, h2, h3, h4, h5, h6, h7, h8, h9, o10_8, o10_2, o11_9, o11_7, hne⟩ hf hd K hK
    simp only [List.setIfInBounds_toArray, List.set_cons_zero, List.set_cons_succ] at hK ⊢
    replace hK := hid hK
    simp [Region.binds] at hd
    obtain rfl := h5.out (by simp only [hd])
    go_simp
    refine (number_dec (Dcl.mk1 (HH.out.below HBW.out (Nat.le_refl _))) HN.out).mono ?_
    rintro e w2 ⟨v, rfl, hv, hb⟩
    go_wp2_with fail
    exact hK.out _ _ ⟨_, _, _, _, _, _, _, _, _, _, rfl, hid (below_next HBW.out hb), hid (fun h => h0.out h), hid (fun h => h1.out h), hid (fun h => (h2.out h).on hb), hid (fun h => h3.out h), hid (fun h => (h4.out h).on hb), hid (fun h => rfl), hid (fun h => hv), hid (fun h => (h7.out h).on hb), hid (fun h => (h8.out h).on hb), hid (fun h => (h9.out h).on hb), fun h => o10_8 h, fun h => o10_2 h, fun h => o11_9 h, fun h => o11_7 h, fun h => hne h⟩
  case s7 =>
    rintro f a1 w1 ⟨u7, u8, u15, u16, u17, u18, u19, u20, u21, u22, rfl, HBW, h0, h1, h2, h3, h4, h5, h6, h7, h8, h9, o10_8, o10_2, o11_9, o11_7, hne⟩ hf hd K hK
    simp only [List.setIfInBounds_toArray, List.set_cons_zero, List.set_cons_succ] at hK ⊢
    replace hK := hid hK
    simp [Region.binds] at hd
    go_simp
    refine (addq_rtl (h4.out (by simp only [hd])) (h6.out (by simp only [hd])) (by decide) (by decide)).mono ?_
    rintro e w2 ⟨v, rfl, hv, hb⟩
    go_wp2_with fail
    exact hK.out _ _ ⟨_, _, _, _, _, _, _, _, _, _, rfl, hid (below_next HBW.out hb), hid (fun h => h0.out h), hid (fun h => h1.out h), hid (fun h => (h2.out h).on hb), hid (fun h => h3.out h), hid (fun h => (h4.out h).on hb), hid (fun h => h5.out h), hid (fun h => (h6.out h).on hb), hid (fun h => hv), hid (fun h => (h8.out h).on hb), hid (fun h => ((h9.out h).on hb).free (by cases e : f 11 with | false => rfl | true => exact absurd (o11_7 e) (by rw [hf]; decide))), fun h => o10_8 h, fun h => o10_2 h, fun h => o11_9 h, fun _ => rfl, fun h => hne h⟩
  case s8 =>
    rintro f a1 w1 ⟨u7, u8, u15, u16, u17, u18, u19, u20, u21, u22, rfl, HBW, h0, h1, h2, h3, h4, h5, h6, h7, h8, h9, o10_8, o10_2, o11_9, o11_7, hne⟩ hf hd K hK
    simp only [List.setIfInBounds_toArray, List.set_cons_zero, List.set_cons_succ] at hK ⊢
    replace hK := hid hK
    go_simp
    exact hK.out _ _ ⟨_, _, _, _, _, _, _, _, _, _, rfl, hid (below_next HBW.out ((Below.refl _ _).alloc (Nat.le_refl _) _)), hid (fun h => h0.out h), hid (fun h => h1.out h), hid (fun h => (h2.out h).on ((Below.refl _ _).alloc (Nat.le_refl _) _)), hid (fun h => h3.out h), hid (fun h => (h4.out h).on ((Below.refl _ _).alloc (Nat.le_refl _) _)), hid (fun h => h5.out h), hid (fun h => (h6.out h).on ((Below.refl _ _).alloc (Nat.le_refl _) _)), hid (fun h => (h7.out h).on ((Below.refl _ _).alloc (Nat.le_refl _) _)), hid (fun h => ⟨w1.heap.size, rfl, HBW.out.size, fun _ => Nbx.new w1 false false _ _, fun e => absurd (o10_8 e) (by rw [hf]; decide)⟩), hid (fun h => (h9.out h).on ((Below.refl _ _).alloc (Nat.le_refl _) _)), fun _ => rfl, fun h => o10_2 h, fun h => o11_9 h, fun h => o11_7 h, fun _ a e => by obtain ⟨g, e2, hlt⟩ := (h9.out a).lt; rw [e2] at e; cases e; exact absurd hlt (Nat.lt_irrefl _)⟩
  case s9 =>
    rintro f a1 w1 ⟨u7, u8, u15, u16, u17, u18, u19, u20, u21, u22, rfl, HBW, h0, h1, h2, h3, h4, h5, h6, h7, h8, h9, o10_8, o10_2, o11_9, o11_7, hne⟩ hf hd K hK
    simp only [List.setIfInBounds_toArray, List.set_cons_zero, List.set_cons_succ] at hK ⊢
    replace hK := hid hK
    go_simp
    exact hK.out _ _ ⟨_, _, _, _, _, _, _, _, _, _, rfl, hid (below_next HBW.out ((Below.refl _ _).alloc (Nat.le_refl _) _)), hid (fun h => h0.out h), hid (fun h => h1.out h), hid (fun h => (h2.out h).on ((Below.refl _ _).alloc (Nat.le_refl _) _)), hid (fun h => h3.out h), hid (fun h => (h4.out h).on ((Below.refl _ _).alloc (Nat.le_refl _) _)), hid (fun h => h5.out h), hid (fun h => (h6.out h).on ((Below.refl _ _).alloc (Nat.le_refl _) _)), hid (fun h => (h7.out h).on ((Below.refl _ _).alloc (Nat.le_refl _) _)), hid (fun h => (h8.out h).on ((Below.refl _ _).alloc (Nat.le_refl _) _)), hid (fun h => ⟨w1.heap.size, rfl, HBW.out.size, fun _ => Nbx.new w1 false false _ _, fun e => absurd (o11_9 e) (by rw [hf]; decide)⟩), fun h => o10_8 h, fun h => o10_2 h, fun _ => rfl, fun h => o11_7 h, fun a _ e => by obtain ⟨g, e2, hlt⟩ := (h8.out a).lt; rw [e2] at e; cases e; exact absurd hlt (Nat.lt_irrefl _)⟩
  case s10 =>
    rintro f a1 w1 ⟨u7, u8, u15, u16, u17, u18, u19, u20, u21, u22, rfl, HBW, h0, h1, h2, h3, h4, h5, h6, h7, h8, h9, o10_8, o10_2, o11_9, o11_7, hne⟩ hf hd K hK
    simp only [List.setIfInBounds_toArray, List.set_cons_zero, List.set_cons_succ] at hK ⊢
    replace hK := hid hK
    simp [Region.binds] at hd
    have ga : f 8 = true := by simp only [hd]
    have gv : f 2 = true := by simp only [hd]
    have gb : f 9 = true := by simp only [hd]
    have hne := hne (by simp only [hd]) (by simp only [hd])
    obtain ⟨g, rfl, hg, hn, _⟩ := h8.out ga
    replace hn := hn hf
    have hv9 := h2.out gv
    obtain ⟨s9a, p9a, n9a, c9a, s9b, p9b, n9b, c9b, rfl⟩ := hv9.opened
    obtain ⟨t1, d9, t2, hd9⟩ := hv9.two
    obtain ⟨⟨c1, c2⟩, ⟨c3, c4⟩, ⟨c5, c6⟩, c7, c8⟩ := hn.stores
    obtain ⟨n1, n2, n3⟩ := hn.last HBW.out hg s9a s9b p9a p9b n9a n9b c9a c9b
    have HN2 := hid (And.intro n1 n2)
    have HV := hid (fun v z k h => @n3 v z k h)
    have HO := hid ((h9.out gb).set (Ne.symm hne) (.bool s9a) (.slice p9a n9a c9a) (.bool s9b) (.slice p9b n9b c9b))
    clear n1 n2 n3
    go_simp
    exact hK.out _ _ ⟨_, _, _, _, _, _, _, _, _, _, rfl, hid HN2.out.2, hid (fun h => h0.out h), hid (fun h => h1.out h), hid (fun h => (h2.out h).moved HV.out), hid (fun h => h3.out h), hid (fun h => (h4.out h).moved HV.out), hid (fun h => h5.out h), hid (fun h => (h6.out h).moved HV.out), hid (fun h => (h7.out h).moved HV.out), hid (fun h => ⟨g, rfl, hg, fun e => by simp [more] at e, fun _ => ⟨_, _, _, _, _, _, _, _, rfl, HN2.out.1⟩⟩), hid (fun h => HO.out), fun _ => ga, fun _ => gv, fun h => o11_9 h, fun h => o11_7 h, fun _ _ => hne⟩
  case s11 =>
    rintro f a1 w1 ⟨u7, u8, u15, u16, u17, u18, u19, u20, u21, u22, rfl, HBW, h0, h1, h2, h3, h4, h5, h6, h7, h8, h9, o10_8, o10_2, o11_9, o11_7, hne⟩ hf hd K hK
    simp only [List.setIfInBounds_toArray, List.set_cons_zero, List.set_cons_succ] at hK ⊢
    replace hK := hid hK
    simp [Region.binds] at hd
    have ga : f 9 = true := by simp only [hd]
    have gv : f 7 = true := by simp only [hd]
    have gb : f 8 = true := by simp only [hd]
    have hne := hne (by simp only [hd]) (by simp only [hd])
    obtain ⟨g, rfl, hg, hn, _⟩ := h9.out ga
    replace hn := hn hf
    have hv9 := h7.out gv
    obtain ⟨s9a, p9a, n9a, c9a, s9b, p9b, n9b, c9b, rfl⟩ := hv9.opened
    obtain ⟨t1, d9, t2, hd9⟩ := hv9.two
    obtain ⟨⟨c1, c2⟩, ⟨c3, c4⟩, ⟨c5, c6⟩, c7, c8⟩ := hn.stores
    obtain ⟨n1, n2, n3⟩ := hn.last HBW.out hg s9a s9b p9a p9b n9a n9b c9a c9b
    have HN2 := hid (And.intro n1 n2)
    have HV := hid (fun v z k h => @n3 v z k h)
    have HO := hid ((h8.out gb).set hne (.bool s9a) (.slice p9a n9a c9a) (.bool s9b) (.slice p9b n9b c9b))
    clear n1 n2 n3
    go_simp
    exact hK.out _ _ ⟨_, _, _, _, _, _, _, _, _, _, rfl, hid HN2.out.2, hid (fun h => h0.out h), hid (fun h => h1.out h), hid (fun h => (h2.out h).moved HV.out), hid (fun h => h3.out h), hid (fun h => (h4.out h).moved HV.out), hid (fun h => h5.out h), hid (fun h => (h6.out h).moved HV.out), hid (fun h => (h7.out h).moved HV.out), hid (fun h => HO.out), hid (fun h => ⟨g, rfl, hg, fun e => by simp [more] at e, fun _ => ⟨_, _, _, _, _, _, _, _, rfl, HN2.out.1⟩⟩), fun h => o10_8 h, fun h => o10_2 h, fun _ => ga, fun _ => gv, fun _ _ => hne⟩
  case hend =>
    rintro f a1 w1 ⟨u7, u8, u15, u16, u17, u18, u19, u20, u21, u22, rfl, HBW, h0, h1, h2, h3, h4, h5, h6, h7, h8, h9, o10_8, o10_2, o11_9, o11_7, hne⟩ hall
    simp only [List.setIfInBounds_toArray, List.set_cons_zero, List.set_cons_succ]
    have hne := hne (hall 8 (by decide)) (hall 9 (by decide))
    have hv8 := h2.out (hall 2 (by decide))
    have hv9 := h7.out (hall 7 (by decide))
    obtain ⟨g8, rfl, hg8, _, hn8⟩ := h8.out (hall 8 (by decide))
    obtain ⟨g9, rfl, hg9, _, hn9⟩ := h9.out (hall 9 (by decide))
    obtain ⟨s8a, p8a, n8a, c8a, s8b, p8b, n8b, c8b, rfl, hm8⟩ := hn8 (hall 10 (by decide))
    obtain ⟨s9a, p9a, n9a, c9a, s9b, p9b, n9b, c9b, rfl, hm9⟩ := hn9 (hall 11 (by decide))
    have XT := hid hm8
    have XS := hid hm9
    have HV8 := hid hv8
    have HV9 := hid hv9
    replace R4 := dx R4 HBW.out
    replace XL := dx XL HBW.out
    replace XH := dx XH HBW.out
    replace HL := wl HL HBW.out
    replace HH := wl HH HBW.out
    replace B := bb B HBW.out
    have LT := hid hg8
    have LS := hid hg9
    have LR := hid (show w.heap.size + 1 < W21.heap.size ∧ w.heap.size + 1 < w10.heap.size ∧ w.heap.size + 1 < w10.heap.size + 1 from ⟨LQ.out, LX.out⟩)
    clear h0 h1 h2 h3 h4 h5 h6 h7 h8 h9 o10_8 o10_2 o11_9 o11_7 hall hg8 hg9 hm8 hm9 hn8 hn9 hv8 hv9 HBW hne
    obtain ⟨cc901a, cc901b, cc901c, cc901d⟩ := XT.out.cells
    obtain ⟨cc902a, cc902b, cc902c, cc902d⟩ := XS.out.cells
    obtain ⟨cc903a, cc903b, cc903c⟩ := R4.out.cells
    obtain ⟨cc904a, cc904b, cc904c⟩ := XL.out.cells
    obtain ⟨cc905a, cc905b, cc905c⟩ := XH.out.cells
    go_wp2_with fail
    have HS := lessq_rtl (HV8.out.mono (show 201 ≤ 213 by decide)) HV9.out (by decide) (by decide)
    by_cases hA : q + q < unq (lowu q n) n + unq (highu q n) n
    · rw [decide_eq_true hA] at HS
      replace HS := hid HS
      refine (HS.out).mono ?_
      rintro e w911 ⟨rfl, hb⟩
      replace R4 := dx R4 hb
      replace XL := dx XL hb
      replace XH := dx XH hb
      replace HL := wl HL hb
      replace HH := wl HH hb
      replace B := bb B hb
      clear hb 
      clear HS
      clear cc901a cc901b cc901c cc901d cc902a cc902b cc902c cc902d cc903a cc903b cc903c cc904a cc904b cc904c cc905a cc905b cc905c
      obtain ⟨cc921a, cc921b, cc921c⟩ := R4.out.cells
      obtain ⟨cc922a, cc922b, cc922c⟩ := XL.out.cells
      obtain ⟨cc923a, cc923b, cc923c⟩ := XH.out.cells
      obtain ⟨⟨cc924a, cc924b⟩, ⟨cc924c, cc924d⟩, cc924e, cc924f⟩ := R4.out.stores
      obtain ⟨r925a, r925b, r925c⟩ := R4.out.last B.out (by have := LR.out; have := LT.out; have := LS.out; omega) s2 p2 n2 c2 (n : Int)
      replace XL := hid (((XL.out.other (g2 := w.heap.size + 1) (by have := LR.out; have := LT.out; have := LS.out; omega) 0 (.bool s2)).other (g2 := w.heap.size + 1) (by have := LR.out; have := LT.out; have := LS.out; omega) 1 (.slice p2 n2 c2)).other (g2 := w.heap.size + 1) (by have := LR.out; have := LT.out; have := LS.out; omega) 2 (.int .i64 (n : Int)))
      replace XH := hid (((XH.out.other (g2 := w.heap.size + 1) (by have := LR.out; have := LT.out; have := LS.out; omega) 0 (.bool s2)).other (g2 := w.heap.size + 1) (by have := LR.out; have := LT.out; have := LS.out; omega) 1 (.slice p2 n2 c2)).other (g2 := w.heap.size + 1) (by have := LR.out; have := LT.out; have := LS.out; omega) 2 (.int .i64 (n : Int)))
      replace HL := hid (r925c HL.out)
      replace HH := hid (r925c HH.out)
      replace R4 := hid r925a
      replace B := hid r925b
      clear r925a r925b r925c
      go_wp2_with fail
      refine bodyPost_ret (res_dec rfl rfl R4.out) rfl ?_
      rw [near_low hA]
      exact ⟨_, rfl, Dcl.mk1 HL.out, B.out⟩
    · rw [decide_eq_false hA] at HS
      replace HS := hid HS
      refine (HS.out).mono ?_
      rintro e w931 ⟨rfl, hb⟩
      replace HV8 := hid (HV8.out.on hb)
      replace HV9 := hid (HV9.out.on hb)
      replace XT := nx XT hb
      replace XS := nx XS hb
      replace R4 := dx R4 hb
      replace XL := dx XL hb
      replace XH := dx XH hb
      replace HL := wl HL hb
      replace HH := wl HH hb
      replace B := bb B hb
      clear hb 
      clear HS
      clear cc901a cc901b cc901c cc901d cc902a cc902b cc902c cc902d cc903a cc903b cc903c cc904a cc904b cc904c cc905a cc905b cc905c
      obtain ⟨cc932a, cc932b, cc932c, cc932d⟩ := XT.out.cells
      obtain ⟨cc933a, cc933b, cc933c, cc933d⟩ := XS.out.cells
      obtain ⟨cc934a, cc934b, cc934c⟩ := R4.out.cells
      obtain ⟨cc935a, cc935b, cc935c⟩ := XL.out.cells
      obtain ⟨cc936a, cc936b, cc936c⟩ := XH.out.cells
      go_wp2_with fail
      have HS := lessq_rtl HV9.out (HV8.out.mono (show 201 ≤ 213 by decide)) (by decide) (by decide)
      by_cases hB : unq (lowu q n) n + unq (highu q n) n < q + q
      · rw [decide_eq_true hB] at HS
        replace HS := hid HS
        refine (HS.out).mono ?_
        rintro e w941 ⟨rfl, hb⟩
        replace R4 := dx R4 hb
        replace XL := dx XL hb
        replace XH := dx XH hb
        replace HL := wl HL hb
        replace HH := wl HH hb
        replace B := bb B hb
        clear hb 
        clear HS
        clear cc932a cc932b cc932c cc932d cc933a cc933b cc933c cc933d cc934a cc934b cc934c cc935a cc935b cc935c cc936a cc936b cc936c
        obtain ⟨cc951a, cc951b, cc951c⟩ := R4.out.cells
        obtain ⟨cc952a, cc952b, cc952c⟩ := XL.out.cells
        obtain ⟨cc953a, cc953b, cc953c⟩ := XH.out.cells
        obtain ⟨⟨cc954a, cc954b⟩, ⟨cc954c, cc954d⟩, cc954e, cc954f⟩ := R4.out.stores
        obtain ⟨r955a, r955b, r955c⟩ := R4.out.last B.out (by have := LR.out; have := LT.out; have := LS.out; omega) s3 p3 n3 c3 (n : Int)
        replace XL := hid (((XL.out.other (g2 := w.heap.size + 1) (by have := LR.out; have := LT.out; have := LS.out; omega) 0 (.bool s3)).other (g2 := w.heap.size + 1) (by have := LR.out; have := LT.out; have := LS.out; omega) 1 (.slice p3 n3 c3)).other (g2 := w.heap.size + 1) (by have := LR.out; have := LT.out; have := LS.out; omega) 2 (.int .i64 (n : Int)))
        replace XH := hid (((XH.out.other (g2 := w.heap.size + 1) (by have := LR.out; have := LT.out; have := LS.out; omega) 0 (.bool s3)).other (g2 := w.heap.size + 1) (by have := LR.out; have := LT.out; have := LS.out; omega) 1 (.slice p3 n3 c3)).other (g2 := w.heap.size + 1) (by have := LR.out; have := LT.out; have := LS.out; omega) 2 (.int .i64 (n : Int)))
        replace HL := hid (r955c HL.out)
        replace HH := hid (r955c HH.out)
        replace R4 := hid r955a
        replace B := hid r955b
        clear r955a r955b r955c
        go_wp2_with fail
        refine bodyPost_ret (res_dec rfl rfl R4.out) rfl ?_
        rw [near_high hB]
        exact ⟨_, rfl, Dcl.mk1 HH.out, B.out⟩
      · rw [decide_eq_false hB] at HS
        replace HS := hid HS
        refine (HS.out).mono ?_
        rintro e w961 ⟨rfl, hb⟩
        replace HV8 := hid (HV8.out.on hb)
        replace HV9 := hid (HV9.out.on hb)
        replace XT := nx XT hb
        replace XS := nx XS hb
        replace R4 := dx R4 hb
        replace XL := dx XL hb
        replace XH := dx XH hb
        replace HL := wl HL hb
        replace HH := wl HH hb
        replace B := bb B hb
        clear hb 
        clear HS
        clear cc932a cc932b cc932c cc932d cc933a cc933b cc933c cc933d cc934a cc934b cc934c cc935a cc935b cc935c cc936a cc936b cc936c
        obtain ⟨cc962a, cc962b, cc962c, cc962d⟩ := XT.out.cells
        obtain ⟨cc963a, cc963b, cc963c, cc963d⟩ := XS.out.cells
        obtain ⟨cc964a, cc964b, cc964c⟩ := R4.out.cells
        obtain ⟨cc965a, cc965b, cc965c⟩ := XL.out.cells
        obtain ⟨cc966a, cc966b, cc966c⟩ := XH.out.cells
        go_wp2_with fail
        have hT := near_tie hA hB
        rcases Int.emod_two_eq (lowu q n) with hC | hC
        · rw [if_pos hC] at hT
          have HS := iseven_yes (Dcl.mk1 (n := n) HL.out) hC
          replace HS := hid HS
          refine (HS.out).mono ?_
          rintro e w971 ⟨rfl, hb⟩
          replace R4 := dx R4 hb
          replace XL := dx XL hb
          replace XH := dx XH hb
          replace HL := wl HL hb
          replace HH := wl HH hb
          replace B := bb B hb
          clear hb 
          clear HS
          clear cc962a cc962b cc962c cc962d cc963a cc963b cc963c cc963d cc964a cc964b cc964c cc965a cc965b cc965c cc966a cc966b cc966c
          obtain ⟨cc981a, cc981b, cc981c⟩ := R4.out.cells
          obtain ⟨cc982a, cc982b, cc982c⟩ := XL.out.cells
          obtain ⟨cc983a, cc983b, cc983c⟩ := XH.out.cells
          obtain ⟨⟨cc984a, cc984b⟩, ⟨cc984c, cc984d⟩, cc984e, cc984f⟩ := R4.out.stores
          obtain ⟨r985a, r985b, r985c⟩ := R4.out.last B.out (by have := LR.out; have := LT.out; have := LS.out; omega) s2 p2 n2 c2 (n : Int)
          replace XL := hid (((XL.out.other (g2 := w.heap.size + 1) (by have := LR.out; have := LT.out; have := LS.out; omega) 0 (.bool s2)).other (g2 := w.heap.size + 1) (by have := LR.out; have := LT.out; have := LS.out; omega) 1 (.slice p2 n2 c2)).other (g2 := w.heap.size + 1) (by have := LR.out; have := LT.out; have := LS.out; omega) 2 (.int .i64 (n : Int)))
          replace XH := hid (((XH.out.other (g2 := w.heap.size + 1) (by have := LR.out; have := LT.out; have := LS.out; omega) 0 (.bool s2)).other (g2 := w.heap.size + 1) (by have := LR.out; have := LT.out; have := LS.out; omega) 1 (.slice p2 n2 c2)).other (g2 := w.heap.size + 1) (by have := LR.out; have := LT.out; have := LS.out; omega) 2 (.int .i64 (n : Int)))
          replace HL := hid (r985c HL.out)
          replace HH := hid (r985c HH.out)
          replace R4 := hid r985a
          replace B := hid r985b
          clear r985a r985b r985c
          go_wp2_with fail
          refine bodyPost_ret (res_dec rfl rfl R4.out) rfl ?_
          rw [hT]
          exact ⟨_, rfl, Dcl.mk1 HL.out, B.out⟩
        · rw [if_neg (by omega)] at hT
          have HS := iseven_no (Dcl.mk1 (n := n) HL.out) hC
          replace HS := hid HS
          refine (HS.out).mono ?_
          rintro e w1001 ⟨rfl, hb⟩
          replace R4 := dx R4 hb
          replace XL := dx XL hb
          replace XH := dx XH hb
          replace HL := wl HL hb
          replace HH := wl HH hb
          replace B := bb B hb
          clear hb 
          clear HS
          clear cc962a cc962b cc962c cc962d cc963a cc963b cc963c cc963d cc964a cc964b cc964c cc965a cc965b cc965c cc966a cc966b cc966c
          obtain ⟨cc1011a, cc1011b, cc1011c⟩ := R4.out.cells
          obtain ⟨cc1012a, cc1012b, cc1012c⟩ := XL.out.cells
          obtain ⟨cc1013a, cc1013b, cc1013c⟩ := XH.out.cells
          obtain ⟨⟨cc1014a, cc1014b⟩, ⟨cc1014c, cc1014d⟩, cc1014e, cc1014f⟩ := R4.out.stores
          obtain ⟨r1015a, r1015b, r1015c⟩ := R4.out.last B.out (by have := LR.out; have := LT.out; have := LS.out; omega) s3 p3 n3 c3 (n : Int)
          replace XL := hid (((XL.out.other (g2 := w.heap.size + 1) (by have := LR.out; have := LT.out; have := LS.out; omega) 0 (.bool s3)).other (g2 := w.heap.size + 1) (by have := LR.out; have := LT.out; have := LS.out; omega) 1 (.slice p3 n3 c3)).other (g2 := w.heap.size + 1) (by have := LR.out; have := LT.out; have := LS.out; omega) 2 (.int .i64 (n : Int)))
          replace XH := hid (((XH.out.other (g2 := w.heap.size + 1) (by have := LR.out; have := LT.out; have := LS.out; omega) 0 (.bool s3)).other (g2 := w.heap.size + 1) (by have := LR.out; have := LT.out; have := LS.out; omega) 1 (.slice p3 n3 c3)).other (g2 := w.heap.size + 1) (by have := LR.out; have := LT.out; have := LS.out; omega) 2 (.int .i64 (n : Int)))
          replace HL := hid (r1015c HL.out)
          replace HH := hid (r1015c HH.out)
          replace R4 := hid r1015a
          replace B := hid r1015b
          clear r1015a r1015b r1015c
          go_wp2_with fail
          refine bodyPost_ret (res_dec rfl rfl R4.out) rfl ?_
          rw [hT]
          exact ⟨_, rfl, Dcl.mk1 HH.out, B.out⟩

end Go.Proofs.YtjeeepcnaaadmaaGreatDoor

/-
  PACKAGE dec: Around.
-/
namespace Go.Proofs.YtjeeepcnaaadmaaGreatDoor
open Go.RowKit
open Num
set_option linter.unusedVariables false
set_option maxRecDepth 100000
set_option linter.unusedSimpArgs false

set_option maxHeartbeats 2000000 in
theorem darnd_ok {a : ByteArray} {n : Nat} (h : GoodQ a) (hn : n ≤ 30) (w : World) :
    Calls Tryz.prog 44 #[.string a, .int .i64 (n : Int)] w fun e w' => e = .returned (.tuple #[.agg #[.string (qtxt (unq (lowu (qnum a) n) n)), .string (qtxt (unq (highu (qnum a) n) n))], .nilIface]) ∧ Below w.heap.size w w' := by
  have hne := errv_neq
  have hgd := errv_guard
  have H1 := hid (fun w => dread_ok h hn w)
  have HN := hid hn
  have B := hid (Below.refl w.heap.size w)
  have hb1 := (Below.refl _ _).alloc (Nat.le_refl w.heap.size) (.cells #[.string ⟨#[]⟩, .string ⟨#[]⟩] 69)
  have hx2 := Vbx.new w ⟨#[]⟩ ⟨#[]⟩
  replace B := bb B hb1
  have XV := hid hx2
  have hs3 : (w.alloc (.cells #[.string ⟨#[]⟩, .string ⟨#[]⟩] 69)).heap.size = w.heap.size + 1 := by simp
  clear hb1 hx2
  clear hs3 h hn
  go_enter Tryz.func44, Tryz.ntmps44
  obtain ⟨cc4a, cc4b⟩ := XV.out.both
  go_wp2_with fail
  generalize hW : w.alloc (.cells #[.string ⟨#[]⟩, .string ⟨#[]⟩] 69) = W5 at *
  clear hW
  refine (H1.out _).mono ?_
  rintro e w6 ⟨v, rfl, hv, hb⟩
  obtain ⟨s1a, p1a, n1a, c1a, s1b, p1b, n1b, c1b, rfl⟩ := hv.opened
  obtain ⟨ht1, d1, hu1, hd1⟩ := hv.two
  have HD1 := hid hd1
  replace XV := vx XV hb
  replace B := bb B hb
  clear cc4a cc4b
  have HT1 := hid ht1
  have HU1 := hid hu1
  clear hb hv ht1 hu1 hd1 H1
  have hb7 := (Below.refl _ _).alloc (Nat.le_refl w6.heap.size) (.cells #[.bool s1a, .slice p1a n1a c1a, .bool s1b, .slice p1b n1b c1b] 83)
  have hx8 := Nbx.new w6 s1a s1b (.slice p1a n1a c1a) (.slice p1b n1b c1b)
  have L0 := hid XV.out.lt
  replace XV := vx XV hb7
  replace HT1 := wl HT1 hb7
  replace HU1 := wl HU1 hb7
  replace B := bb B hb7
  have XA := hid hx8
  have hs9 : (w6.alloc (.cells #[.bool s1a, .slice p1a n1a c1a, .bool s1b, .slice p1b n1b c1b] 83)).heap.size = w6.heap.size + 1 := by simp
  clear hb7 hx8
  obtain ⟨cc10a, cc10b⟩ := XV.out.both
  obtain ⟨cc11a, cc11b, cc11c, cc11d⟩ := XA.out.cells
  go_wp2_with fail
  generalize hW : w6.alloc (.cells #[.bool s1a, .slice p1a n1a c1a, .bool s1b, .slice p1b n1b c1b] 83) = W12 at *
  clear hW
  refine (around_dec (Rtl.mk2 HT1.out HU1.out HD1.out) HN.out).mono ?_
  rintro e w13 ⟨v, u, rfl, hv, hu, hb⟩
  obtain ⟨s2, p2, n2, c2, rfl⟩ := hv.opened
  obtain ⟨s3, p3, n3, c3, rfl⟩ := hu.opened
  replace hv := hv.one
  replace hu := hu.one
  replace XV := vx XV hb
  replace B := bb B hb
  clear cc10a cc10b cc11a cc11b cc11c cc11d
  have HL := hid hv
  have HH := hid hu
  clear hb hv hu
  have hb14 := (Below.refl _ _).alloc (Nat.le_refl w13.heap.size) (.cells #[.bool s2, .slice p2 n2 c2, .int .i64 (n : Int)] 119)
  have hx15 := Dbx.new w13 s2 p2 n2 c2 (n : Int)
  have L1 := hid XV.out.lt
  replace XV := vx XV hb14
  replace HL := wl HL hb14
  replace HH := wl HH hb14
  replace B := bb B hb14
  have XL := hid hx15
  have hs16 : (w13.alloc (.cells #[.bool s2, .slice p2 n2 c2, .int .i64 (n : Int)] 119)).heap.size = w13.heap.size + 1 := by simp
  clear hb14 hx15
  have hb17 := (Below.refl _ _).alloc (Nat.le_refl (w13.alloc (.cells #[.bool s2, .slice p2 n2 c2, .int .i64 (n : Int)] 119)).heap.size) (.cells #[.bool s3, .slice p3 n3 c3, .int .i64 (n : Int)] 119)
  have hx18 := Dbx.new (w13.alloc (.cells #[.bool s2, .slice p2 n2 c2, .int .i64 (n : Int)] 119)) s3 p3 n3 c3 (n : Int)
  rw [hs16] at hx18
  replace XV := vx XV hb17
  replace XL := dx XL hb17
  replace HL := wl HL hb17
  replace HH := wl HH hb17
  replace B := bb B hb17
  have XH := hid hx18
  have hs19 : ((w13.alloc (.cells #[.bool s2, .slice p2 n2 c2, .int .i64 (n : Int)] 119)).alloc (.cells #[.bool s3, .slice p3 n3 c3, .int .i64 (n : Int)] 119)).heap.size = w13.heap.size + 1 + 1 := by simp [hs16]
  clear hb17 hx18
  obtain ⟨cc20a, cc20b⟩ := XV.out.both
  obtain ⟨cc21a, cc21b, cc21c⟩ := XL.out.cells
  obtain ⟨cc22a, cc22b, cc22c⟩ := XH.out.cells
  go_wp2_with fail
  generalize hW : (w13.alloc (.cells #[.bool s2, .slice p2 n2 c2, .int .i64 (n : Int)] 119)).alloc (.cells #[.bool s3, .slice p3 n3 c3, .int .i64 (n : Int)] 119) = W23 at *
  clear hW
  obtain ⟨cc24a, cc24b, cc24c⟩ := XL.out.cells
  obtain ⟨cc25a, cc25b, cc25c⟩ := XH.out.cells
  replace XV := hid XV.out.dr
  replace XL := hid XL.out.dr
  replace XH := hid XH.out.dr
  replace HL := hid HL.out.drew
  replace HH := hid HH.out.drew
  replace B := hid (Below.drew B.out)
  obtain ⟨cc26a, cc26b, cc26c⟩ := XL.out.cells
  obtain ⟨cc27a, cc27b, cc27c⟩ := XH.out.cells
  go_region_held3 (fun w' => w'.cell? ⟨w13.heap.size, 0, none⟩ = some (.bool s2) ∧ w'.cell? ⟨w13.heap.size, 1, none⟩ = some (.slice p2 n2 c2) ∧ w'.cell? ⟨w13.heap.size, 2, none⟩ = some (.int .i64 (n : Int)) ∧ w'.cell? ⟨w13.heap.size + 1, 0, none⟩ = some (.bool s3) ∧ w'.cell? ⟨w13.heap.size + 1, 1, none⟩ = some (.slice p3 n3 c3) ∧ w'.cell? ⟨w13.heap.size + 1, 2, none⟩ = some (.int .i64 (n : Int))) (go_keep) (first
    | (have hm := mk28_2; clear hm; go_at_call 59; refine (qstring (Rtl.mk2 HT5.out HU5.out HD5.out) (by decide)).mono ?_; rintro e w38 ⟨rfl, hb⟩; replace XV := vx XV hb; replace XL := dx XL hb; replace XH := dx XH hb; replace HL := wl HL hb; replace HH := wl HH hb; replace HT4 := wl HT4 hb; replace HU4 := wl HU4 hb; replace HT5 := wl HT5 hb; replace HU5 := wl HU5 hb; replace B := bb B hb; clear cc36a cc36b cc36c cc37a cc37b cc37c; clear hb ; obtain ⟨cc39a, cc39b, cc39c⟩ := XL.out.cells; obtain ⟨cc40a, cc40b, cc40c⟩ := XH.out.cells; obtain ⟨cc41a, cc41b, cc41c, cc41d⟩ := XV.out.stores; obtain ⟨r42a, r42b, r42c⟩ := XV.out.last B.out (by have := L0.out; have := L1.out; omega) (qtxt (unq (lowu (qnum a) n) n)) (qtxt (unq (highu (qnum a) n) n)); replace XL := hid ((XL.out.other (g2 := w.heap.size) (by have := L0.out; have := L1.out; omega) 0 (.string (qtxt (unq (lowu (qnum a) n) n)))).other (g2 := w.heap.size) (by have := L0.out; have := L1.out; omega) 1 (.string (qtxt (unq (highu (qnum a) n) n)))); replace XH := hid ((XH.out.other (g2 := w.heap.size) (by have := L0.out; have := L1.out; omega) 0 (.string (qtxt (unq (lowu (qnum a) n) n)))).other (g2 := w.heap.size) (by have := L0.out; have := L1.out; omega) 1 (.string (qtxt (unq (highu (qnum a) n) n)))); replace HL := hid (r42c HL.out); replace HH := hid (r42c HH.out); replace HT4 := hid (r42c HT4.out); replace HU4 := hid (r42c HU4.out); replace HT5 := hid (r42c HT5.out); replace HU5 := hid (r42c HU5.out); replace XV := hid r42a; replace B := hid r42b; clear r42a r42b r42c; obtain ⟨cc43a, cc43b, cc43c⟩ := XL.out.cells; obtain ⟨cc44a, cc44b, cc44c⟩ := XH.out.cells; have mk28_3 := hid True.intro)
    | (have hm := mk28_1; clear hm; go_at_call 84; refine (number_dec (Dcl.mk1 (n := n) HH.out) HN.out).mono ?_; rintro e w35 ⟨v, rfl, hv, hb⟩; obtain ⟨s5a, p5a, n5a, c5a, s5b, p5b, n5b, c5b, rfl⟩ := hv.opened; obtain ⟨ht5, d5, hu5, hd5⟩ := hv.two; have HD5 := hid hd5; replace XV := vx XV hb; replace XL := dx XL hb; replace XH := dx XH hb; replace HL := wl HL hb; replace HH := wl HH hb; replace HT4 := wl HT4 hb; replace HU4 := wl HU4 hb; replace B := bb B hb; clear cc33a cc33b cc33c cc34a cc34b cc34c; have HT5 := hid ht5; have HU5 := hid hu5; clear hb hv ht5 hu5 hd5; obtain ⟨cc36a, cc36b, cc36c⟩ := XL.out.cells; obtain ⟨cc37a, cc37b, cc37c⟩ := XH.out.cells; have mk28_2 := hid True.intro)
    | (have hm := mk28_0; clear hm; go_at_call 59; refine (qstring (Rtl.mk2 HT4.out HU4.out HD4.out) (by decide)).mono ?_; rintro e w32 ⟨rfl, hb⟩; replace XV := vx XV hb; replace XL := dx XL hb; replace XH := dx XH hb; replace HL := wl HL hb; replace HH := wl HH hb; replace HT4 := wl HT4 hb; replace HU4 := wl HU4 hb; replace B := bb B hb; clear cc30a cc30b cc30c cc31a cc31b cc31c; clear hb ; obtain ⟨cc33a, cc33b, cc33c⟩ := XL.out.cells; obtain ⟨cc34a, cc34b, cc34c⟩ := XH.out.cells; have mk28_1 := hid True.intro)
    | (go_at_call 84; refine (number_dec (Dcl.mk1 (n := n) HL.out) HN.out).mono ?_; rintro e w29 ⟨v, rfl, hv, hb⟩; obtain ⟨s4a, p4a, n4a, c4a, s4b, p4b, n4b, c4b, rfl⟩ := hv.opened; obtain ⟨ht4, d4, hu4, hd4⟩ := hv.two; have HD4 := hid hd4; replace XV := vx XV hb; replace XL := dx XL hb; replace XH := dx XH hb; replace HL := wl HL hb; replace HH := wl HH hb; replace B := bb B hb; clear cc20a cc20b cc21a cc21b cc21c cc22a cc22b cc22c cc24a cc24b cc24c cc25a cc25b cc25c cc26a cc26b cc26c cc27a cc27b cc27c; have HT4 := hid ht4; have HU4 := hid hu4; clear hb hv ht4 hu4 hd4; obtain ⟨cc30a, cc30b, cc30c⟩ := XL.out.cells; obtain ⟨cc31a, cc31b, cc31c⟩ := XH.out.cells; have mk28_0 := hid True.intro))
  go_wp2_with fail
  refine bodyPost_ret (res_ival_tmp rfl rfl rfl XV.out) rfl ?_
  exact ⟨rfl, B.out⟩

set_option maxHeartbeats 2000000 in
theorem darnd_bad {a : ByteArray} {d k : Int} (h : BadD a d k) (ha : a.size ≤ maxLen) (w : World) :
    Calls Tryz.prog 44 #[.string a, .int .i64 d] w fun e w' => e = .returned (.tuple #[.agg #[.string ⟨#[]⟩, .string ⟨#[]⟩], errno k]) ∧ Below w.heap.size w w' := by
  have hne := errv_neq
  have hgd := errv_guard
  have hkk := errv_some h.ne
  have H1 := hid (fun w => dread_bad h ha w)
  have B := hid (Below.refl w.heap.size w)
  have hb1 := (Below.refl _ _).alloc (Nat.le_refl w.heap.size) (.cells #[.string ⟨#[]⟩, .string ⟨#[]⟩] 69)
  have hx2 := Vbx.new w ⟨#[]⟩ ⟨#[]⟩
  replace B := bb B hb1
  have XV := hid hx2
  have hs3 : (w.alloc (.cells #[.string ⟨#[]⟩, .string ⟨#[]⟩] 69)).heap.size = w.heap.size + 1 := by simp
  clear hb1 hx2
  clear hs3 h
  go_enter Tryz.func44, Tryz.ntmps44
  obtain ⟨cc4a, cc4b⟩ := XV.out.both
  go_wp2_with fail
  generalize hW : w.alloc (.cells #[.string ⟨#[]⟩, .string ⟨#[]⟩] 69) = W5 at *
  clear hW
  refine (H1.out _).mono ?_
  rintro e w6 ⟨rfl, hb⟩
  replace XV := vx XV hb
  replace B := bb B hb
  clear cc4a cc4b
  clear hb H1
  have hb7 := (Below.refl _ _).alloc (Nat.le_refl w6.heap.size) (.cells #[.bool false, .slice none 0 0, .bool false, .slice none 0 0] 83)
  have hx8 := Nbx.new w6 false false (.slice none 0 0) (.slice none 0 0)
  have L0 := hid XV.out.lt
  replace XV := vx XV hb7
  replace B := bb B hb7
  have XA := hid hx8
  have hs9 : (w6.alloc (.cells #[.bool false, .slice none 0 0, .bool false, .slice none 0 0] 83)).heap.size = w6.heap.size + 1 := by simp
  clear hb7 hx8
  obtain ⟨cc10a, cc10b⟩ := XV.out.both
  obtain ⟨cc11a, cc11b, cc11c, cc11d⟩ := XA.out.cells
  obtain ⟨cc12a, cc12b, cc12c, cc12d⟩ := XV.out.stores
  obtain ⟨r13a, r13b, r13c⟩ := XV.out.last B.out (by have := L0.out; omega) ⟨#[]⟩ ⟨#[]⟩
  replace XA := hid ((XA.out.other (g2 := w.heap.size) (by have := L0.out; omega) 0 (.string ⟨#[]⟩)).other (g2 := w.heap.size) (by have := L0.out; omega) 1 (.string ⟨#[]⟩))
  replace XV := hid r13a
  replace B := hid r13b
  clear r13a r13b r13c
  obtain ⟨cc14a, cc14b⟩ := XV.out.both
  obtain ⟨cc15a, cc15b, cc15c, cc15d⟩ := XA.out.cells
  go_wp2_with fail
  refine bodyPost_ret (res_ival_tmp rfl rfl rfl XV.out) rfl ?_
  exact ⟨rfl, B.out⟩

theorem units_lt {a : ByteArray} (h : GoodQ a) {n : Nat} (hn : n ≤ 30) : (lowu (qnum a) n).natAbs < 10 ^ 131 ∧ (highu (qnum a) n).natAbs < 10 ^ 131 := by
  have h1 := (qnum_lt h).1
  have h2 := pten_le hn
  have h3 : ((qnum a).num * (pten n : Int) / ((qnum a).den : Int)).natAbs ≤ ((qnum a).num * (pten n : Int)).natAbs := natAbs_ediv_le _ _
  rw [Int.natAbs_mul, Int.natAbs_natCast] at h3
  have h4 : (qnum a).num.natAbs * pten n ≤ 10 ^ 100 * 1000000000000000000000000000000 := Nat.mul_le_mul (Nat.le_of_lt h1) h2
  have h5 : (10 : Nat) ^ 100 * 1000000000000000000000000000000 + 1 < 10 ^ 131 := by decide +kernel
  have h6 : (lowu (qnum a) n).natAbs ≤ (qnum a).num.natAbs * pten n := h3
  have h7 : (highu (qnum a) n).natAbs ≤ (qnum a).num.natAbs * pten n + 1 := by
    unfold highu
    split <;> omega
  generalize (10 : Nat) ^ 100 * 1000000000000000000000000000000 = m at *
  generalize (10 : Nat) ^ 131 = l at *
  omega
theorem size_unq {z : Int} (hz : z.natAbs < 10 ^ 131) {n : Nat} (hn : n ≤ 30) : (qtxt (unq z n)).size ≤ 1000 := by
  obtain ⟨h1, h2⟩ := divInt_le z (pten n : Int)
  have h3 := pten_le hn
  have h4 := pten_pos n
  have h5 : (1000000000000000000000000000000 : Nat) < 10 ^ 131 := by decide +kernel
  have := size_qtxt (q := unq z n) 131 (by decide) (Nat.lt_of_le_of_lt h1 hz) (Nat.lt_of_le_of_lt h2 (by rw [Int.natAbs_natCast]; generalize (10 : Nat) ^ 131 = l at *; omega))
  omega
/-- What Around tells. -/
def RTells (a : ByteArray) (d : Int) (l h : ByteArray) (k : Int) : Prop :=
  (k = 0 ∧ GoodQ a ∧ ∃ n : Nat, n ≤ 30 ∧ d = (n : Int) ∧ l = qtxt (unq (lowu (qnum a) n) n) ∧ h = qtxt (unq (highu (qnum a) n) n)) ∨ (k ≠ 0 ∧ BadD a d k ∧ l = ⟨#[]⟩ ∧ h = ⟨#[]⟩)
theorem darnd_any (a : ByteArray) (d : Int) (ha : a.size ≤ maxLen) (w : World) :
    Calls Tryz.prog 44 #[.string a, .int .i64 d] w fun e w' => ∃ l h k, e = .returned (.tuple #[.agg #[.string l, .string h], errv k]) ∧ RTells a d l h k ∧ l.size ≤ 1000 ∧ h.size ≤ 1000 ∧ Below w.heap.size w w' := by
  rcases dec_cases a d with ⟨h, n, hn, rfl⟩ | ⟨k, h⟩
  · refine (darnd_ok h hn w).mono ?_
    rintro e w' ⟨rfl, hb⟩
    obtain ⟨u1, u2⟩ := units_lt h hn
    exact ⟨_, _, 0, rfl, .inl ⟨rfl, h, n, hn, rfl, rfl, rfl⟩, size_unq u1 hn, size_unq u2 hn, hb⟩
  · refine (darnd_bad h ha w).mono ?_
    rintro e w' ⟨rfl, hb⟩
    exact ⟨_, _, k, by rw [errv_some h.ne], .inr ⟨h.ne, h, rfl, rfl⟩, Nat.zero_le _, Nat.zero_le _, hb⟩

end Go.Proofs.YtjeeepcnaaadmaaGreatDoor
