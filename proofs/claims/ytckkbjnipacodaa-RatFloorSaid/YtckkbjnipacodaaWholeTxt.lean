/-
  PACKAGE whole: ITS FUNCTIONS OF TEXTS.
-/
import Derived.Test.YtckkbjnipacodaaWholeGcd2
namespace Go.Proofs.Ytckkbjnipacodaa
open Go.RowKit
open Num
set_option linter.unusedVariables false
set_option maxRecDepth 100000
set_option linter.unusedSimpArgs false

theorem results_tmp4 {fn : Func} {t u v x : Tmp} (h : fn.results = #[.tmp t, .tmp u, .tmp v, .tmp x]) (tmps : Array Value) (P : Program) (w : World) :
    (results fn tmps).run P w = .ok (.tuple #[tmps.getD t undef, tmps.getD u undef, tmps.getD v undef, tmps.getD x undef]) w := by
  simp [results, h]

set_option maxHeartbeats 400000 in
theorem zcheck_bad {a : ByteArray} {k : Int} (h : BadZ a k) (ha : a.size ≤ maxLen) (w : World) :
    Calls Try.prog 22 #[.string a] w fun e w' => e = .returned (errno k) ∧ Below w.heap.size w w' := by
  have HP := hid (zread_bad h w ha)
  clear h
  go_enter Try.func22, Try.ntmps22
  go_wp2_with fail
  refine HP.out.mono ?_
  rintro e w1 ⟨rfl, hb1⟩
  have HB1 := hid (hb1.trans (((Below.refl _ w1).alloc (Nat.le_refl _) (.cells #[.bool false, .slice none 0 0] 51)).mono hb1.size))
  clear hb1
  go_wp2_with fail
  go_ret
  exact ⟨rfl, HB1.out⟩

set_option maxHeartbeats 400000 in
theorem zcheck_good {a : ByteArray} (h : GoodZ a) (w : World) :
    Calls Try.prog 22 #[.string a] w fun e w' => e = .returned .nilIface ∧ Below w.heap.size w w' := by
  have HP := hid (zread_good h w)
  clear h
  go_enter Try.func22, Try.ntmps22
  go_wp2_with fail
  refine HP.out.mono ?_
  rintro e w1 ⟨v, rfl, hv, hb1⟩
  obtain ⟨s, p, n, c, rfl⟩ := hv.opened
  have HB1 := hid (hb1.trans (((Below.refl _ w1).alloc (Nat.le_refl _) (.cells #[.bool s, .slice p n c] 51)).mono hb1.size))
  clear hb1 hv
  go_wp2_with fail
  go_ret
  exact ⟨rfl, HB1.out⟩

set_option maxHeartbeats 400000 in
theorem zadd_bad {a b : ByteArray} {k : Int} (h : WrongZ a b k) (ha : a.size ≤ maxLen) (hb : b.size ≤ maxLen) (w : World) :
    Calls Try.prog 23 #[.string a, .string b] w fun e w' => e = .returned (.tuple #[.string ⟨#[]⟩, errno k]) ∧ Below w.heap.size w w' := by
  have HP := hid (zpair_bad h ha hb w)
  clear h
  go_enter Try.func23, Try.ntmps23
  go_wp2_with fail
  refine HP.out.mono ?_
  rintro e w1 ⟨rfl, hb1⟩
  have HB1 := hid (hb1.trans (((Below.refl _ w1).alloc (Nat.le_refl _) (.cells #[.bool false, .slice none 0 0, .bool false, .slice none 0 0] 53)).mono hb1.size))
  clear hb1
  go_wp2_with fail
  go_ret2
  exact ⟨rfl, HB1.out⟩

set_option maxHeartbeats 400000 in
theorem zmul_bad {a b : ByteArray} {k : Int} (h : WrongZ a b k) (ha : a.size ≤ maxLen) (hb : b.size ≤ maxLen) (w : World) :
    Calls Try.prog 21 #[.string a, .string b] w fun e w' => e = .returned (.tuple #[.string ⟨#[]⟩, errno k]) ∧ Below w.heap.size w w' := by
  have HP := hid (zpair_bad h ha hb w)
  clear h
  go_enter Try.func21, Try.ntmps21
  go_wp2_with fail
  refine HP.out.mono ?_
  rintro e w1 ⟨rfl, hb1⟩
  have HB1 := hid (hb1.trans (((Below.refl _ w1).alloc (Nat.le_refl _) (.cells #[.bool false, .slice none 0 0, .bool false, .slice none 0 0] 53)).mono hb1.size))
  clear hb1
  go_wp2_with fail
  go_ret2
  exact ⟨rfl, HB1.out⟩

set_option maxHeartbeats 400000 in
theorem zdiv_bad {a b : ByteArray} {k : Int} (h : WrongZ a b k) (ha : a.size ≤ maxLen) (hb : b.size ≤ maxLen) (w : World) :
    Calls Try.prog 24 #[.string a, .string b] w fun e w' => e = .returned (.tuple #[.string ⟨#[]⟩, .string ⟨#[]⟩, errno k]) ∧ Below w.heap.size w w' := by
  have HP := hid (zpair_bad h ha hb w)
  clear h
  go_enter Try.func24, Try.ntmps24
  go_wp2_with fail
  refine HP.out.mono ?_
  rintro e w1 ⟨rfl, hb1⟩
  have HB1 := hid (hb1.trans (((Below.refl _ w1).alloc (Nat.le_refl _) (.cells #[.bool false, .slice none 0 0, .bool false, .slice none 0 0] 53)).mono hb1.size))
  clear hb1
  go_wp2_with fail
  go_ret3
  exact ⟨rfl, HB1.out⟩

set_option maxHeartbeats 400000 in
theorem zgcd_bad {a b : ByteArray} {k : Int} (h : WrongZ a b k) (ha : a.size ≤ maxLen) (hb : b.size ≤ maxLen) (w : World) :
    Calls Try.prog 20 #[.string a, .string b] w fun e w' => e = .returned (.tuple #[.string ⟨#[]⟩, .string ⟨#[]⟩, .string ⟨#[]⟩, errno k]) ∧ Below w.heap.size w w' := by
  have HP := hid (zpair_bad h ha hb w)
  clear h
  go_enter Try.func20, Try.ntmps20
  go_wp2_with fail
  refine HP.out.mono ?_
  rintro e w1 ⟨rfl, hb1⟩
  have HB1 := hid (hb1.trans (((Below.refl _ w1).alloc (Nat.le_refl _) (.cells #[.bool false, .slice none 0 0, .bool false, .slice none 0 0] 53)).mono hb1.size))
  clear hb1
  go_wp2_with fail
  refine bodyPost_ret (results_tmp4 rfl _ _ _) rfl ?_
  exact ⟨rfl, HB1.out⟩

set_option maxHeartbeats 1000000 in
theorem zadd_good {a b : ByteArray} (ha : GoodZ a) (hb : GoodZ b) (w : World) :
    Calls Try.prog 23 #[.string a, .string b] w fun e w' => e = .returned (.tuple #[.string (ztxt (znum a + znum b)), .nilIface]) ∧ Below w.heap.size w w' := by
  have HP := hid (zpair_good ha hb w)
  clear ha hb
  go_enter Try.func23, Try.ntmps23
  go_wp2_with fail
  refine HP.out.mono ?_
  rintro e w1 ⟨v, rfl, ⟨s, p, n, c, s', p', n', c', rfl, h1, h2⟩, hb1⟩
  have hb2 := (Below.refl _ w1).alloc (Nat.le_refl _) (.cells #[.bool s, .slice p n c, .bool s', .slice p' n' c'] 53)
  have HO := hid (add_whl (h1.on hb2) (h2.on hb2) (by omega) (by omega))
  have HB1 := hid (hb1.trans (hb2.mono hb1.size))
  clear h1 h2 hb1 hb2
  go_wp2_with fail
  refine HO.out.mono ?_
  rintro e w2 ⟨v, rfl, hv, hb3⟩
  have HS := hid (string_whl hv (by omega))
  have HB3 := hid (HB1.out.trans (hb3.mono HB1.out.size))
  clear hv hb3
  go_wp2_with fail
  refine HS.out.mono ?_
  rintro e w3 ⟨rfl, hb4⟩
  have HB4 := hid (HB3.out.trans (hb4.mono HB3.out.size))
  clear hb4
  go_wp2_with fail
  go_ret2
  exact ⟨rfl, HB4.out⟩

set_option maxHeartbeats 1000000 in
theorem zmul_good {a b : ByteArray} (ha : GoodZ a) (hb : GoodZ b) (w : World) :
    Calls Try.prog 21 #[.string a, .string b] w fun e w' => e = .returned (.tuple #[.string (ztxt (znum a * znum b)), .nilIface]) ∧ Below w.heap.size w w' := by
  have HP := hid (zpair_good ha hb w)
  clear ha hb
  go_enter Try.func21, Try.ntmps21
  go_wp2_with fail
  refine HP.out.mono ?_
  rintro e w1 ⟨v, rfl, ⟨s, p, n, c, s', p', n', c', rfl, h1, h2⟩, hb1⟩
  have hb2 := (Below.refl _ w1).alloc (Nat.le_refl _) (.cells #[.bool s, .slice p n c, .bool s', .slice p' n' c'] 53)
  have HO := hid (mul_whl (h1.on hb2) (h2.on hb2) (by omega) (by omega))
  have HB1 := hid (hb1.trans (hb2.mono hb1.size))
  clear h1 h2 hb1 hb2
  go_wp2_with fail
  refine HO.out.mono ?_
  rintro e w2 ⟨v, rfl, hv, hb3⟩
  have HS := hid (string_whl hv (by omega))
  have HB3 := hid (HB1.out.trans (hb3.mono HB1.out.size))
  clear hv hb3
  go_wp2_with fail
  refine HS.out.mono ?_
  rintro e w3 ⟨rfl, hb4⟩
  have HB4 := hid (HB3.out.trans (hb4.mono HB3.out.size))
  clear hb4
  go_wp2_with fail
  go_ret2
  exact ⟨rfl, HB4.out⟩


set_option maxHeartbeats 1000000 in
theorem zdiv_zero {a b : ByteArray} (ha : GoodZ a) (hb : GoodZ b) (h0 : znum b = 0) (w : World) :
    Calls Try.prog 24 #[.string a, .string b] w fun e w' => e = .returned (.tuple #[.string ⟨#[]⟩, .string ⟨#[]⟩, errno 5]) ∧ Below w.heap.size w w' := by
  have HP := hid (zpair_good ha hb w)
  rw [h0] at HP
  clear ha hb h0
  go_enter Try.func24, Try.ntmps24
  go_wp2_with fail
  refine HP.out.mono ?_
  rintro e w1 ⟨v, rfl, ⟨s, p, n, c, s', p', n', c', rfl, h1, h2⟩, hb1⟩
  have hb2 := (Below.refl _ w1).alloc (Nat.le_refl _) (.cells #[.bool s, .slice p n c, .bool s', .slice p' n' c'] 53)
  have HO := hid (div_whl_zero (h1.on hb2) (h2.on hb2))
  have HB1 := hid (hb1.trans (hb2.mono hb1.size))
  clear h1 h2 hb1 hb2
  go_wp2_with fail
  refine HO.out.mono ?_
  rintro e w2 ⟨rfl, hb3⟩
  obtain ⟨_, _, by5, _⟩ := boxes2 w2 false false (.slice none 0 0) (.slice none 0 0) ⟨_, _, _, rfl⟩ ⟨_, _, _, rfl⟩
  have HB3 := hid (HB1.out.trans ((hb3.trans (by5.mono hb3.size)).mono HB1.out.size))
  clear hb3 by5
  go_wp2_with fail
  go_ret3
  exact ⟨rfl, HB3.out⟩

set_option maxHeartbeats 2000000 in
theorem zdiv_good {a b : ByteArray} (ha : GoodZ a) (hb : GoodZ b) (h0 : znum b ≠ 0) (w : World) :
    Calls Try.prog 24 #[.string a, .string b] w fun e w' => e = .returned (.tuple #[.string (ztxt (znum a / znum b)), .string (ztxt (znum a % znum b)), .nilIface]) ∧ Below w.heap.size w w' := by
  have HP := hid (zpair_good ha hb w)
  have H0 := hid h0
  clear ha hb h0
  go_enter Try.func24, Try.ntmps24
  go_wp2_with fail
  refine HP.out.mono ?_
  rintro e w1 ⟨v, rfl, ⟨s, p, n, c, s', p', n', c', rfl, h1, h2⟩, hb1⟩
  have hb2 := (Below.refl _ w1).alloc (Nat.le_refl _) (.cells #[.bool s, .slice p n c, .bool s', .slice p' n' c'] 53)
  have HO := hid (div_whl (h1.on hb2) (h2.on hb2) H0.out (by omega) (by omega))
  have HB1 := hid (hb1.trans (hb2.mono hb1.size))
  clear h1 h2 hb1 hb2
  go_wp2_with fail
  refine HO.out.mono ?_
  rintro e w2 ⟨vq, vr, rfl, hq, hr, hb3⟩
  obtain ⟨sq, pq, nq, cq, rfl⟩ := hq.opened
  obtain ⟨sr, pr, nr, cr, rfl⟩ := hr.opened
  obtain ⟨y0, y1, by5, ys⟩ := boxes2 w2 sq sr (.slice pq nq cq) (.slice pr nr cr) ⟨_, _, _, rfl⟩ ⟨_, _, _, rfl⟩
  have hs1 := fun w' hb => string_whl ((hq.on by5).on (w' := w') hb) (by omega)
  have hs2 := fun w' hb => string_whl ((hr.on by5).on (w' := w') hb) (by omega)
  have HS1 := hid hs1
  have HS2 := hid hs2
  have a0 := y0.drew.cell0
  have a1 := y0.drew.cell1
  have b0 := y1.drew.cell0
  have b1 := y1.drew.cell1
  have Y0 := hid y0
  have Y1 := hid y1
  have HB3 := hid (HB1.out.trans ((hb3.trans (by5.mono hb3.size)).mono HB1.out.size))
  clear hb3 by5 hq hr y0 y1 ys hs1 hs2
  go_wp2_with fail
  go_region_held3 (fun w' => w'.cell? ⟨w2.heap.size, 0, none⟩ = some (.bool sq) ∧ w'.cell? ⟨w2.heap.size, 1, none⟩ = some (.slice pq nq cq) ∧ w'.cell? ⟨w2.heap.size + 1, 0, none⟩ = some (.bool sr) ∧ w'.cell? ⟨w2.heap.size + 1, 1, none⟩ = some (.slice pr nr cr)) (go_keep) (first
    | (go_at_call 46; refine (HS2.out _ HB4.out).mono ?_; rintro e w4 ⟨rfl, hb5⟩; replace hb5 := HB4.out.trans (hb5.mono HB4.out.size); obtain ⟨d00, d01⟩ := Y0.out.keep hb5; obtain ⟨d10, d11⟩ := Y1.out.keep hb5; have HB5 := hid hb5; clear hb5)
    | (go_at_call 46; refine (HS1.out _ (Below.drew (Below.refl _ _))).mono ?_; rintro e w3 ⟨rfl, hb4⟩; replace hb4 := below_undrew' hb4; obtain ⟨c00, c01⟩ := Y0.out.keep hb4; obtain ⟨c10, c11⟩ := Y1.out.keep hb4; have HB4 := hid hb4; clear hb4))
  go_wp2_with fail
  go_ret3
  exact ⟨rfl, HB3.out.trans (HB5.out.mono HB3.out.size)⟩

set_option maxHeartbeats 2000000 in
theorem zgcd_good {a b : ByteArray} (ha : GoodZ a) (hb : GoodZ b) (w : World) :
    Calls Try.prog 20 #[.string a, .string b] w fun e w' => e = .returned (.tuple #[.string (ztxt (zg (znum a) (znum b)).1), .string (ztxt (zg (znum a) (znum b)).2.1), .string (ztxt (zg (znum a) (znum b)).2.2), .nilIface]) ∧ Below w.heap.size w w' := by
  have HP := hid (zpair_good ha hb w)
  clear ha hb
  go_enter Try.func20, Try.ntmps20
  go_wp2_with fail
  refine HP.out.mono ?_
  rintro e w1 ⟨v, rfl, ⟨s, p, n, c, s', p', n', c', rfl, h1, h2⟩, hb1⟩
  have hb2 := (Below.refl _ w1).alloc (Nat.le_refl _) (.cells #[.bool s, .slice p n c, .bool s', .slice p' n' c'] 53)
  have HO := hid (gcd_whl 100 (by omega) (by omega) _ _ _ _ (show Pair _ (.agg #[.bool s, .slice p n c, .bool s', .slice p' n' c']) (znum a) (znum b) 100 from ⟨_, _, _, _, _, _, _, _, rfl, h1.on hb2, h2.on hb2⟩))
  have HB1 := hid (hb1.trans (hb2.mono hb1.size))
  clear h1 h2 hb1 hb2
  go_wp2_with fail
  refine HO.out.mono ?_
  rintro e w2 ⟨v1, v2, v3, rfl, hq, hr, ht, hb3⟩
  obtain ⟨sq, pq, nq, cq, rfl⟩ := hq.opened
  obtain ⟨sr, pr, nr, cr, rfl⟩ := hr.opened
  obtain ⟨st, pt, nt, ct, rfl⟩ := ht.opened
  obtain ⟨y0, y1, y2, by5, ys⟩ := boxes3 w2 sq sr st (.slice pq nq cq) (.slice pr nr cr) (.slice pt nt ct) ⟨_, _, _, rfl⟩ ⟨_, _, _, rfl⟩ ⟨_, _, _, rfl⟩
  have hs1 := fun w' hb => string_whl ((hq.on by5).on (w' := w') hb) (by omega)
  have hs2 := fun w' hb => string_whl ((hr.on by5).on (w' := w') hb) (by omega)
  have hs3 := fun w' hb => string_whl ((ht.on by5).on (w' := w') hb) (by omega)
  have HS1 := hid hs1
  have HS2 := hid hs2
  have HS3 := hid hs3
  have a0 := y0.drew.cell0
  have a1 := y0.drew.cell1
  have b0 := y1.drew.cell0
  have b1 := y1.drew.cell1
  have g0 := y2.drew.cell0
  have g1 := y2.drew.cell1
  have Y0 := hid y0
  have Y1 := hid y1
  have Y2 := hid y2
  have HB3 := hid (HB1.out.trans ((hb3.trans (by5.mono hb3.size)).mono HB1.out.size))
  clear hb3 by5 hq hr ht y0 y1 y2 ys hs1 hs2 hs3
  go_wp2_with fail
  go_region_held3 (fun w' => w'.cell? ⟨w2.heap.size, 0, none⟩ = some (.bool sq) ∧ w'.cell? ⟨w2.heap.size, 1, none⟩ = some (.slice pq nq cq) ∧ w'.cell? ⟨w2.heap.size + 1, 0, none⟩ = some (.bool sr) ∧ w'.cell? ⟨w2.heap.size + 1, 1, none⟩ = some (.slice pr nr cr) ∧ w'.cell? ⟨w2.heap.size + 1 + 1, 0, none⟩ = some (.bool st) ∧ w'.cell? ⟨w2.heap.size + 1 + 1, 1, none⟩ = some (.slice pt nt ct)) (go_keep) (first
    | (go_at_call 46; refine (HS3.out _ HB5.out).mono ?_; rintro e w5 ⟨rfl, hb6⟩; replace hb6 := HB5.out.trans (hb6.mono HB5.out.size); obtain ⟨e00, e01⟩ := Y0.out.keep hb6; obtain ⟨e10, e11⟩ := Y1.out.keep hb6; obtain ⟨e20, e21⟩ := Y2.out.keep hb6; have HB6 := hid hb6; clear hb6)
    | (go_at_call 46; refine (HS2.out _ HB4.out).mono ?_; rintro e w4 ⟨rfl, hb5⟩; replace hb5 := HB4.out.trans (hb5.mono HB4.out.size); obtain ⟨d00, d01⟩ := Y0.out.keep hb5; obtain ⟨d10, d11⟩ := Y1.out.keep hb5; obtain ⟨d20, d21⟩ := Y2.out.keep hb5; have HB5 := hid hb5; clear hb5)
    | (go_at_call 46; refine (HS1.out _ (Below.drew (Below.refl _ _))).mono ?_; rintro e w3 ⟨rfl, hb4⟩; replace hb4 := below_undrew' hb4; obtain ⟨c00, c01⟩ := Y0.out.keep hb4; obtain ⟨c10, c11⟩ := Y1.out.keep hb4; obtain ⟨c20, c21⟩ := Y2.out.keep hb4; have HB4 := hid hb4; clear hb4))
  go_wp2_with fail
  refine bodyPost_ret (results_tmp4 rfl _ _ _) rfl ?_
  exact ⟨rfl, HB3.out.trans (HB6.out.mono HB3.out.size)⟩

end Go.Proofs.Ytckkbjnipacodaa

